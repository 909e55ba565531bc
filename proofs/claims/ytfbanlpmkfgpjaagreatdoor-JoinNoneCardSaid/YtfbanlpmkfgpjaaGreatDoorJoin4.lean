/-
  Package join, a nil thread: All of futures that are open, up to its closure.
-/
import Derived.Test.YtfbanlpmkfgpjaaGreatDoorJoin3
import Derived.Deep.CutBlock
import Derived.Deep.DeepCutAuto
import Derived.Test.YtfbanlpmkfgpjaaGreatDoorRegInv
namespace Go.Proofs.YtfbanlpmkfgpjaaGreatDoor
open Go.RowKit

theorem Tryz.info62 : (Tryz.prog.info? 62).map (fun i => (i.zero, i.size, i.bytes)) = some (some (.agg #[.int .i64 0]), 1, 8) := by kernel_rfl
theorem Tryz.info29 : (Tryz.prog.info? 29).map (fun i => (i.zero, i.size, i.bytes)) = some (some .nilIface, 1, 16) := by kernel_rfl

/-- n cells of one value. -/
def many (z : Value) (n : Nat) : Array Value := madeCells #[z] n

theorem many_get (z : Value) (n k : Nat) (h : k < n) : (many z n)[k]? = some z := by
  simp [many, madeCells, h, Nat.mod_one]

theorem run_mk64 (n : Nat) (h2 : n ≤ 4096) (W : World) : (Instr.makeSlice 39 (.int .i64 n) (.int .i64 n)).run Tryz.prog W = .ok (.slice (some ⟨W.heap.size, 0, none⟩) n n) (W.alloc (.cells (many (.int .i64 0) n) 62)) := by
  obtain ⟨i0, hi, hz0, hz1, hz2⟩ := info_parts Tryz.info62
  have h := run_make (P := Tryz.prog) W 39 62 i0 _ Tryz.underlying39 hi hz0 .i64 .i64 n n (by omega) (by omega) (by rw [hz2]; omega) (by omega)
  rw [h]
  simp only [Int.toNat_natCast, hz1]
  simp [many, Value.cells]

theorem run_mkErr (n : Nat) (h2 : n ≤ 4096) (W : World) : (Instr.makeSlice 56 (.int .i64 n) (.int .i64 n)).run Tryz.prog W = .ok (.slice (some ⟨W.heap.size, 0, none⟩) n n) (W.alloc (.cells (many .nilIface n) 29)) :=
  run_make_row' (P := Tryz.prog) 56 29 .nilIface 16 Tryz.underlying56 Tryz.info29 rfl .i64 .i64 n (by omega) (by omega) W

/-- What a new cell is. -/
def CMade (v : Int) (w : World) : Ending → World → Prop := fun e w' => e = .returned (.pointer (some ⟨w.heap.size, 0, none⟩)) ∧ w'.heap.size = w.heap.size + 1 ∧ Cel w' w.heap.size v ∧ Kept (fun _ => False) w w'

theorem cnew_made (v : Int) (w : World) : Calls Tryz.prog 14 #[.int .i64 v] w (CMade v w) := by
  refine (new_cell v w).mono ?_
  rintro e w' ⟨rfl, rfl⟩
  exact ⟨rfl, by simp, ⟨by go_simp, by go_simp, by go_simp, by go_simp, by simp⟩, (Kept.refl _ _).alloc _⟩

/-- What a joint stands on: its future G (its box bg), how many there are (box bn), its values V (its block jb, box bj). -/
structure Jn (w : World) (G bg bn V jb bj m : Nat) (vs : Nat → Int) : Prop where
  g : Slot w bg 0 (.pointer (some ⟨G + 5, 0, none⟩))
  n : Slot w bn 0 (.int .i64 m)
  j : Slot w bj 0 (.pointer (some ⟨jb, 0, none⟩))
  j0 : Slot w jb 0 (.pointer (some ⟨G + 5, 0, none⟩))
  j1 : Slot w jb 1 (.slice (some ⟨V, 0, none⟩) m m)
  v : ∀ i, i < m → Slot w V i (.int .i64 (vs i))
  ltV : V < w.heap.size
  ne : V ≠ bg ∧ V ≠ bn ∧ V ≠ bj ∧ V ≠ jb

theorem Jn.kept {S : Nat → Prop} {w w' : World} {G bg bn V jb bj m : Nat} {vs : Nat → Int} (J : Jn w G bg bn V jb bj m vs) (k : Kept S w w') (h1 : ¬ S bg) (h2 : ¬ S bn) (h3 : ¬ S V) (h4 : ¬ S jb) (h5 : ¬ S bj) : Jn w' G bg bn V jb bj m vs :=
  ⟨J.g.kept k h1, J.n.kept k h2, J.j.kept k h5, J.j0.kept k h4, J.j1.kept k h4, fun i hi => (J.v i hi).kept k h3, Nat.lt_of_lt_of_le J.ltV k.size, J.ne⟩

/-- Errors E (box be), a cell L (box bl). -/
structure El (w : World) (E be L bl m : Nat) (c : Int) : Prop where
  e : Slot w be 0 (.slice (some ⟨E, 0, none⟩) m m)
  l : Slot w bl 0 (.pointer (some ⟨L, 0, none⟩))
  c : Cel w L c
  er : ∀ i, i < m → Slot w E i .nilIface
  ltE : E < w.heap.size
  ne : E ≠ be ∧ E ≠ bl ∧ E ≠ L ∧ L ≠ be ∧ L ≠ bl

theorem El.kept {S : Nat → Prop} {w w' : World} {E be L bl m : Nat} {c : Int} (J : El w E be L bl m c) (k : Kept S w w') (h1 : ¬ S E) (h2 : ¬ S be) (h3 : ¬ S L) (h4 : ¬ S bl) : El w' E be L bl m c :=
  ⟨J.e.kept k h2, J.l.kept k h4, J.c.kept k h3, fun i hi => (J.er i hi).kept k h1, Nat.lt_of_lt_of_le J.ltE k.size, J.ne⟩

/-- Between two marks. -/
def Btw (a b c : Nat) : Prop := a ≤ b ∧ b < c

/-- A joint that is made: its future, its values. -/
structure AllA (w W : World) (m l h p V jb bj : Nat) : Prop where
  fut : Ftr W w.heap.size l h p 0 0 .nilIface 0 0 (fun _ => .pointer none)
  jn : Jn W w.heap.size (w.heap.size + 6) (w.heap.size + 7) V jb bj m (fun _ => 0)
  b1 : Btw (w.heap.size + 8) V (w.heap.size + 11) ∧ Btw (w.heap.size + 8) jb (w.heap.size + 11) ∧ Btw (w.heap.size + 8) bj (w.heap.size + 11)
  size : W.heap.size = w.heap.size + 11
  kept : Kept (fun _ => False) w W

theorem slot_of {w : World} {b s t : Nat} {cells : Array Value} {v : Value} (h : w.heap[b]? = some (.cells cells t)) (hv : cells[s]? = some v) : Slot w b s v :=
  ⟨by simp [World.cell?, h, hv], by simp [World.frozen?, h], (Array.getElem?_eq_some_iff.1 h).1⟩

theorem allA_of {w w1 W : World} {m l h p V jb bj : Nat} (F1 : Ftr w1 w.heap.size l h p 0 0 .nilIface 0 0 (fun _ => .pointer none)) (s1 : w1.heap.size = w.heap.size + 6) (K1 : Kept (fun _ => False) w w1)
    (k : Kept (fun _ => False) w1 W) (size : W.heap.size = w1.heap.size + 5)
    (b : Btw (w1.heap.size + 2) V (w1.heap.size + 5) ∧ Btw (w1.heap.size + 2) jb (w1.heap.size + 5) ∧ Btw (w1.heap.size + 2) bj (w1.heap.size + 5)) (ne : V ≠ bj ∧ V ≠ jb)
    (cg : W.heap[w1.heap.size]? = some (.cells #[.pointer (some ⟨w.heap.size + 5, 0, none⟩)] 24)) (cn : W.heap[w1.heap.size + 1]? = some (.cells #[.int .i64 m] 2))
    (cv : W.heap[V]? = some (.cells (many (.int .i64 0) m) 62)) (cj : W.heap[jb]? = some (.cells #[.pointer (some ⟨w.heap.size + 5, 0, none⟩), .slice (some ⟨V, 0, none⟩) m m] 41))
    (cb : W.heap[bj]? = some (.cells #[.pointer (some ⟨jb, 0, none⟩)] 32)) : AllA w W m l h p V jb bj := by
  obtain ⟨⟨b1, b2⟩, ⟨b3, b4⟩, b5, b6⟩ := b
  rw [s1] at cg cn b1 b2 b3 b4 b5 b6 size
  refine ⟨F1.far k, ⟨slot_of cg rfl, slot_of cn rfl, slot_of cb rfl, slot_of cj rfl, slot_of cj rfl, fun i hi => slot_of cv (many_get _ _ _ hi), (Array.getElem?_eq_some_iff.1 cv).1, by omega, by omega, ne.1, ne.2⟩, ⟨⟨by omega, by omega⟩, ⟨by omega, by omega⟩, by omega, by omega⟩, by omega, K1.trans k⟩

theorem el_of {W : World} {m E be L bl : Nat} {c : Int} (ne : E ≠ be ∧ E ≠ bl ∧ E ≠ L ∧ L ≠ be ∧ L ≠ bl)
    (ce : W.heap[E]? = some (.cells (many .nilIface m) 29)) (cb : W.heap[be]? = some (.cells #[.slice (some ⟨E, 0, none⟩) m m] 56)) (cl : W.heap[bl]? = some (.cells #[.pointer (some ⟨L, 0, none⟩)] 26))
    (cL : W.heap[L]? = some (.cells #[.int .i64 c, .bool true, .int .i64 0, .int .i32 0, .int .u32 0, .chan none] 87)) : El W E be L bl m c :=
  ⟨slot_of cb rfl, slot_of cl rfl, ⟨by simp [World.cell?, cL], by simp [World.cell?, cL], by simp [World.cell?, cL], by simp [World.frozen?, cL], (Array.getElem?_eq_some_iff.1 cL).1⟩, fun i hi => slot_of ce (many_get _ _ _ hi), (Array.getElem?_eq_some_iff.1 ce).1, ne⟩

def FCel (x : Value) (v : Int) (w : World) (lab : Nat → Nat) (c : Nat) : Prop := ∃ L : Nat, x = .pointer (some ⟨L, 0, none⟩) ∧ Cel w L v ∧ lab L = c
def FFut (x : Value) (w : World) (lab : Nat → Nat) (c : Nat) : Prop := ∃ G l h p : Nat, x = .pointer (some ⟨G + 5, 0, none⟩) ∧ Ftr w G l h p 0 0 .nilIface 0 0 (fun _ => .pointer none) ∧ ∀ b, FOwn G b → lab b = c

theorem FCel.fresh {x : Value} {v : Int} {w w' : World} {lab : Nat → Nat} {c d : Nat} (h : FCel x v w lab c) (k : Kept (fun _ => False) w w') : FCel x v w' (lup lab w w' d) c := by
  obtain ⟨b, e, s, l⟩ := h
  exact ⟨b, e, s.kept k id, by rw [lup_old s.lt]; exact l⟩

theorem FFut.fresh {x : Value} {w w' : World} {lab : Nat → Nat} {c d : Nat} (h : FFut x w lab c) (k : Kept (fun _ => False) w w') : FFut x w' (lup lab w w' d) c := by
  obtain ⟨G, l, h, p, e, F, ll⟩ := h
  have := F.size
  exact ⟨G, l, h, p, e, F.far k, fun b hb => by rw [lup_old (by have := hb.2; omega)]; exact ll b hb⟩

theorem FCel.store {x : Value} {v : Int} {w : World} {lab : Nat → Nat} {c : Nat} (h : FCel x v w lab c) (a : Nat) (hn : lab a ≠ c) (u : Value) : FCel x v (w.setCell ⟨a, 0, none⟩ u) lab c := by
  obtain ⟨b, e, s, l⟩ := h
  exact ⟨b, e, s.far _ _ (fun hb => hn (by rw [← l, hb])), l⟩

theorem FFut.store {x : Value} {w : World} {lab : Nat → Nat} {c : Nat} (h : FFut x w lab c) (a : Nat) (hn : lab a ≠ c) (u : Value) : FFut x (w.setCell ⟨a, 0, none⟩ u) lab c := by
  obtain ⟨G, l, h, p, e, F, ll⟩ := h
  exact ⟨G, l, h, p, e, F.kept (S := fun k => k = a) (Kept.one w ⟨a, 0, none⟩ u) (fun b hb e => hn (by rw [← e]; exact ll b hb)), ll⟩

/-- The region that makes the cell and the errors of an All, as far as it has come up. -/
def InvAll (w0 : World) (m bn : Nat) (fr : Value → Value → Value → Value → Value → Value → Act) (l : Array Bool) (a : Act) (w : World) : Prop :=
  ∃ (x9 x10 x28 x29 x30 x31 : Value) (lab : Nat → Nat), a = fr x9 x10 x28 x29 x30 x31 ∧ RB w0 w lab ∧ Slot w bn 0 (.int .i64 m) ∧ lab bn = 0 ∧
    (On l 0 → x28 = .int .i64 m) ∧ (On l 2 → x30 = .int .i64 m) ∧ (On l 1 → FCel x29 m w lab 1) ∧ (On l 3 → FRow x31 m .nilIface w lab 2) ∧
    (On l 4 → FBox x9 w lab 3) ∧ (On l 5 → FBox x10 w lab 4) ∧ (On l 6 → FSet x9 x29 w lab 3 ∧ On l 1 ∧ On l 4) ∧ (On l 7 → FSet x10 x31 w lab 4 ∧ On l 3 ∧ On l 5)

/-- What All leaves: a joint of m futures, its closure hung on each. -/
def AllPost (w : World) (m c : Nat) (fs L H P : Nat → Nat) (X : Nat → Nat → Value) : Ending → World → Prop := fun r w' =>
  ∃ (l h p V jb bj E be Lc bl s : Nat) (w1 : World), r = .returned (.tuple #[.pointer (some ⟨jb, 0, none⟩), .int .i64 0]) ∧
    Ftr w' w.heap.size l h p 0 0 .nilIface 0 0 (fun _ => .pointer none) ∧
    Jn w' w.heap.size (w.heap.size + 6) (w.heap.size + 7) V jb bj m (fun _ => 0) ∧ El w' E be Lc bl m m ∧
    (Btw (w.heap.size + 8) V (w.heap.size + 11) ∧ Btw (w.heap.size + 8) jb (w.heap.size + 11) ∧ Btw (w.heap.size + 8) bj (w.heap.size + 11)) ∧
    (Btw (w.heap.size + 11) E w1.heap.size ∧ Btw (w.heap.size + 11) be w1.heap.size ∧ Btw (w.heap.size + 11) Lc w1.heap.size ∧ Btw (w.heap.size + 11) bl w1.heap.size) ∧
    Kept (fun _ => False) w w1 ∧
    Hung w1 w' m c m fs L H P X w1.heap.size s (.func (.func 19) #[] #[.pointer (some ⟨bj, 0, none⟩), .pointer (some ⟨be, 0, none⟩), .pointer (some ⟨bl, 0, none⟩), .pointer (some ⟨w.heap.size + 6, 0, none⟩), .pointer (some ⟨w.heap.size + 7, 0, none⟩)])

set_option maxRecDepth 100000 in
set_option maxHeartbeats 1600000 in
theorem all_open (g cap m c : Nat) (hm : 0 < m) (hm2 : m ≤ 4096) (hc : c < 3) (fs L H P : Nat → Nat) (X : Nat → Nat → Value) (w : World) (A : Fts w m c fs L H P X)
    (hf : ∀ j, j < m → w.cell? ⟨g, j, none⟩ = some (.pointer (some ⟨fs j + 5, 0, none⟩))) (lg : g < w.heap.size)
    (hu : Calls Tryz.prog 16 #[.slice (some ⟨g, 0, none⟩) m cap] w fun e w' => e = .returned (.bool false) ∧ w = w') :
    Calls Tryz.prog 6 #[.pointer none, .slice (some ⟨g, 0, none⟩) m cap] w (AllPost w m c fs L H P X) := by
  have hmf : ∀ (fn : Fn) (first cap : Array Value) (w : World), (Instr.makeFunc fn first cap).run Tryz.prog w = .ok (.func fn first cap) w := fun _ _ _ _ => rfl
  have hmk := run_mk64 m hm2
  have hmk2 := run_mkErr m hm2
  have hm0 : ¬ (m : Int) = 0 := by omega
  have HA := Lib.hid A
  have HU := Lib.hid hu
  have HF := Lib.hid hf
  clear A hf hu
  go_enter Tryz.func6, Tryz.ntmps6
  go_wp2_with fail
  refine HU.out.mono ?_
  rintro e w' ⟨rfl, rfl⟩
  go_wp2_with fail
  refine (fnew_any _).mono ?_
  rintro e w1 ⟨l, h, p, rfl, s1, F1, K1⟩
  have HS1 := Lib.hid s1
  have HF1 := Lib.hid F1
  have HK1 := Lib.hid K1
  clear s1 F1 K1
  go_upto_region 4 with fail
  go_cut [6, 7, 8] (fun a b v wx => ∃ V jb bj : Nat, a = .pointer (some ⟨w.heap.size + 6, 0, none⟩) ∧ b = .pointer (some ⟨w.heap.size + 7, 0, none⟩) ∧ v = .pointer (some ⟨bj, 0, none⟩) ∧ AllA w wx m l h p V jb bj)
  case first =>
    go_region
    all_goals
      go_wp2_with fail
      go_meet
      case rel =>
        first
          | refine ⟨w1.heap.size + 1 + 1, w1.heap.size + 1 + 1 + 1, w1.heap.size + 1 + 1 + 1 + 1, by rw [HS1.out], by rw [HS1.out], rfl, allA_of (w1 := w1) HF1.out HS1.out HK1.out (((((Kept.refl _ _).alloc _).alloc _).alloc _).alloc _ |>.alloc _).drew (by simp) ⟨⟨by omega, by omega⟩, ⟨by omega, by omega⟩, by omega, by omega⟩ ⟨by omega, by omega⟩ ?_ ?_ ?_ ?_ ?_⟩
          | refine ⟨w1.heap.size + 1 + 1, w1.heap.size + 1 + 1 + 1 + 1, w1.heap.size + 1 + 1 + 1, by rw [HS1.out], by rw [HS1.out], rfl, allA_of (w1 := w1) HF1.out HS1.out HK1.out (((((Kept.refl _ _).alloc _).alloc _).alloc _).alloc _ |>.alloc _).drew (by simp) ⟨⟨by omega, by omega⟩, ⟨by omega, by omega⟩, by omega, by omega⟩ ⟨by omega, by omega⟩ ?_ ?_ ?_ ?_ ?_⟩
          | refine ⟨w1.heap.size + 1 + 1 + 1, w1.heap.size + 1 + 1 + 1 + 1, w1.heap.size + 1 + 1, by rw [HS1.out], by rw [HS1.out], rfl, allA_of (w1 := w1) HF1.out HS1.out HK1.out (((((Kept.refl _ _).alloc _).alloc _).alloc _).alloc _ |>.alloc _).drew (by simp) ⟨⟨by omega, by omega⟩, ⟨by omega, by omega⟩, by omega, by omega⟩ ⟨by omega, by omega⟩ ?_ ?_ ?_ ?_ ?_⟩
        all_goals (refine block_drew_of ?_; repeat (first | (refine block_last _ _ _ ?_; (try simp) <;> omega) | (refine block_old _ _ _ ?_ ?_; ((try simp) <;> omega))))
  case rest =>
    obtain ⟨V, jb, bj, rfl, rfl, rfl, Y⟩ := hcut
    have j1 := Y.jn.g.c
    have j2 := Y.jn.n.c
    have lt7 := Y.jn.n.lt
    have HY := Lib.hid Y
    clear Y
    go_upto_region 8 with fail
    have ebz : ((m : Int) == 0) = false := by simp; omega
    rw [ebz]
    refine region_inv (InvAll wc m (w.heap.size + 7) (fun x9 x10 x28 x29 x30 x31 => ⟨#[Value.pointer none, Value.slice (some { block := g, off := 0 }) m cap, undef, undef, Value.pointer none,
          Value.int IntKind.i64 0, Value.pointer (some { block := w.heap.size + 6, off := 0 }),
          Value.pointer (some { block := w.heap.size + 7, off := 0 }), Value.pointer (some { block := bj, off := 0 }),
          x9, x10, undef, u12, u13, u14, u15, u16, u17, u18, u19, u20, u21, Value.int IntKind.i64 ↑m,
          Value.bool false, u24, u25, u26, u27, x28, x29, x30, x31, u32, u33, u34, u35, u36, u37, u38, u39], []⟩)) (by kernel_rfl) (by kernel_rfl) ?_ ?_ ?_
    · exact ⟨undef, undef, u28, u29, u30, u31, fun _ => 0, rfl, ⟨(Kept.refl _ wc).drew, fun b hb => absurd rfl hb⟩, HY.out.jn.n.kept (Kept.refl (fun _ => False) wc).drew id, rfl, by simp [On], by simp [On], by simp [On], by simp [On], by simp [On], by simp [On], by simp [On], by simp [On]⟩
    · intro i o l a wx K hi hs hl hall ⟨x9, x10, x28, x29, x30, x31, lab, ha, R, N, N0, f0, f2, f1, f3, f4, f5, f6, f7⟩ hK
      subst ha
      have hlt : i < 8 := by simpa using (Array.getElem?_eq_some_iff.1 hi).1
      have nc := N.c
      match i, hi, hl, hlt with
      | 0, hi, hl, _ =>
        simp at hi
        subst hi
        go_simp
        exact hK _ _ ⟨x9, x10, _, x29, x30, x31, lab, rfl, R, N, N0, fun _ => rfl, fun h => f2 ((on_other (by decide)).1 h), fun h => f1 ((on_other (by decide)).1 h), fun h => f3 ((on_other (by decide)).1 h), fun h => f4 ((on_other (by decide)).1 h), fun h => f5 ((on_other (by decide)).1 h), fun h => ⟨(f6 ((on_other (by decide)).1 h)).1, ((on_other (by decide)).2 (f6 ((on_other (by decide)).1 h)).2.1), ((on_other (by decide)).2 (f6 ((on_other (by decide)).1 h)).2.2)⟩, fun h => ⟨(f7 ((on_other (by decide)).1 h)).1, ((on_other (by decide)).2 (f7 ((on_other (by decide)).1 h)).2.1), ((on_other (by decide)).2 (f7 ((on_other (by decide)).1 h)).2.2)⟩⟩
      | 1, hi, hl, _ =>
        simp at hi
        subst hi
        simp [Region.binds] at hall
        obtain rfl := f0 hall
        go_simp
        refine (cnew_made m _).mono ?_
        rintro e w' ⟨rfl, s1, C1, KK⟩
        exact hK _ _ ⟨x9, x10, _, _, x30, x31, lup lab wx w' 1, rfl, R.fresh KK 1, N.kept KK id, (lup_old N.lt).trans N0, fun h => f0 ((on_other (by decide)).1 h), fun h => f2 ((on_other (by decide)).1 h), fun _ => ⟨_, rfl, C1, lup_new (Nat.le_refl _) (by omega)⟩, fun h => (f3 ((on_other (by decide)).1 h)).fresh KK, fun h => (f4 ((on_other (by decide)).1 h)).fresh KK, fun h => (f5 ((on_other (by decide)).1 h)).fresh KK, fun h => absurd (f6 ((on_other (by decide)).1 h)).2.1 hl, fun h => ⟨(f7 ((on_other (by decide)).1 h)).1.fresh KK, ((on_other (by decide)).2 (f7 ((on_other (by decide)).1 h)).2.1), ((on_other (by decide)).2 (f7 ((on_other (by decide)).1 h)).2.2)⟩⟩
      | 2, hi, hl, _ =>
        simp at hi
        subst hi
        go_simp
        exact hK _ _ ⟨x9, x10, x28, x29, _, x31, lab, rfl, R, N, N0, fun h => f0 ((on_other (by decide)).1 h), fun _ => rfl, fun h => f1 ((on_other (by decide)).1 h), fun h => f3 ((on_other (by decide)).1 h), fun h => f4 ((on_other (by decide)).1 h), fun h => f5 ((on_other (by decide)).1 h), fun h => ⟨(f6 ((on_other (by decide)).1 h)).1, ((on_other (by decide)).2 (f6 ((on_other (by decide)).1 h)).2.1), ((on_other (by decide)).2 (f6 ((on_other (by decide)).1 h)).2.2)⟩, fun h => ⟨(f7 ((on_other (by decide)).1 h)).1, ((on_other (by decide)).2 (f7 ((on_other (by decide)).1 h)).2.1), ((on_other (by decide)).2 (f7 ((on_other (by decide)).1 h)).2.2)⟩⟩
      | 3, hi, hl, _ =>
        simp at hi
        subst hi
        simp [Region.binds] at hall
        obtain rfl := f2 hall
        have KK : Kept (fun _ => False) wx (wx.alloc (.cells (many .nilIface m) 29)) := (Kept.refl _ _).alloc _
        go_simp
        exact hK _ _ ⟨x9, x10, x28, x29, _, _, lup lab wx _ 2, rfl, R.fresh KK 2, N.kept KK id, (lup_old N.lt).trans N0, fun h => f0 ((on_other (by decide)).1 h), fun h => f2 ((on_other (by decide)).1 h), fun h => (f1 ((on_other (by decide)).1 h)).fresh KK, fun _ => ⟨_, rfl, fun q hq => slot_of (block_last _ _ _ rfl) (many_get _ _ _ hq), by simp, lup_new (Nat.le_refl _) (by simp)⟩, fun h => (f4 ((on_other (by decide)).1 h)).fresh KK, fun h => (f5 ((on_other (by decide)).1 h)).fresh KK, fun h => ⟨(f6 ((on_other (by decide)).1 h)).1.fresh KK, ((on_other (by decide)).2 (f6 ((on_other (by decide)).1 h)).2.1), ((on_other (by decide)).2 (f6 ((on_other (by decide)).1 h)).2.2)⟩, fun h => absurd (f7 ((on_other (by decide)).1 h)).2.1 hl⟩
      | 4, hi, hl, _ =>
        simp at hi
        subst hi
        have KK : Kept (fun _ => False) wx (wx.alloc (.cells #[.pointer none] 26)) := (Kept.refl _ _).alloc _
        go_simp
        exact hK _ _ ⟨_, x10, x28, x29, x30, x31, lup lab wx _ 3, rfl, R.fresh KK 3, N.kept KK id, (lup_old N.lt).trans N0, fun h => f0 ((on_other (by decide)).1 h), fun h => f2 ((on_other (by decide)).1 h), fun h => (f1 ((on_other (by decide)).1 h)).fresh KK, fun h => (f3 ((on_other (by decide)).1 h)).fresh KK, fun _ => ⟨_, _, rfl, slot_of (block_last _ _ _ rfl) rfl, lup_new (Nat.le_refl _) (by simp)⟩, fun h => (f5 ((on_other (by decide)).1 h)).fresh KK, fun h => absurd (f6 ((on_other (by decide)).1 h)).2.2 hl, fun h => ⟨(f7 ((on_other (by decide)).1 h)).1.fresh KK, ((on_other (by decide)).2 (f7 ((on_other (by decide)).1 h)).2.1), ((on_other (by decide)).2 (f7 ((on_other (by decide)).1 h)).2.2)⟩⟩
      | 5, hi, hl, _ =>
        simp at hi
        subst hi
        have KK : Kept (fun _ => False) wx (wx.alloc (.cells #[.slice none 0 0] 56)) := (Kept.refl _ _).alloc _
        go_simp
        exact hK _ _ ⟨x9, _, x28, x29, x30, x31, lup lab wx _ 4, rfl, R.fresh KK 4, N.kept KK id, (lup_old N.lt).trans N0, fun h => f0 ((on_other (by decide)).1 h), fun h => f2 ((on_other (by decide)).1 h), fun h => (f1 ((on_other (by decide)).1 h)).fresh KK, fun h => (f3 ((on_other (by decide)).1 h)).fresh KK, fun h => (f4 ((on_other (by decide)).1 h)).fresh KK, fun _ => ⟨_, _, rfl, slot_of (block_last _ _ _ rfl) rfl, lup_new (Nat.le_refl _) (by simp)⟩, fun h => ⟨(f6 ((on_other (by decide)).1 h)).1.fresh KK, ((on_other (by decide)).2 (f6 ((on_other (by decide)).1 h)).2.1), ((on_other (by decide)).2 (f6 ((on_other (by decide)).1 h)).2.2)⟩, fun h => absurd (f7 ((on_other (by decide)).1 h)).2.2 hl⟩
      | 6, hi, hl, _ =>
        simp at hi
        subst hi
        simp [Region.binds] at hall
        replace hall : On l 1 ∧ On l 4 := ⟨hall.2.1, hall.1⟩
        obtain ⟨bb, u, rfl, S, SL⟩ := f4 hall.2
        obtain ⟨Lc, rfl, C1, CL⟩ := f1 hall.1
        have sc := S.c
        have sf := S.fr
        go_simp
        exact hK _ _ ⟨_, x10, x28, _, x30, x31, lab, rfl, R.store ⟨bb, 0, none⟩ (by show lab bb ≠ 0; omega) _, N.far _ _ (fun e => by rw [e] at N0; simp only at N0; omega), N0, fun h => f0 ((on_other (by decide)).1 h), fun h => f2 ((on_other (by decide)).1 h), fun h => (f1 ((on_other (by decide)).1 h)).store _ (by omega) _, fun h => (f3 ((on_other (by decide)).1 h)).store _ (by omega) _, fun h => (f4 ((on_other (by decide)).1 h)).store _ _, fun h => (f5 ((on_other (by decide)).1 h)).store _ _, fun _ => ⟨⟨_, rfl, S.set _, SL⟩, (on_other (by decide)).2 hall.1, (on_other (by decide)).2 hall.2⟩, fun h => ⟨(f7 ((on_other (by decide)).1 h)).1.store _ (by omega) _, ((on_other (by decide)).2 (f7 ((on_other (by decide)).1 h)).2.1), ((on_other (by decide)).2 (f7 ((on_other (by decide)).1 h)).2.2)⟩⟩
      | 7, hi, hl, _ =>
        simp at hi
        subst hi
        simp [Region.binds] at hall
        replace hall : On l 3 ∧ On l 5 := ⟨hall.2.1, hall.1⟩
        obtain ⟨bb, u, rfl, S, SL⟩ := f5 hall.2
        obtain ⟨Er, rfl, ER, EL, EE⟩ := f3 hall.1
        have sc := S.c
        have sf := S.fr
        go_simp
        exact hK _ _ ⟨x9, _, x28, x29, x30, _, lab, rfl, R.store ⟨bb, 0, none⟩ (by show lab bb ≠ 0; omega) _, N.far _ _ (fun e => by rw [e] at N0; simp only at N0; omega), N0, fun h => f0 ((on_other (by decide)).1 h), fun h => f2 ((on_other (by decide)).1 h), fun h => (f1 ((on_other (by decide)).1 h)).store _ (by omega) _, fun h => (f3 ((on_other (by decide)).1 h)).store _ (by omega) _, fun h => (f4 ((on_other (by decide)).1 h)).store _ _, fun h => (f5 ((on_other (by decide)).1 h)).store _ _, fun h => ⟨(f6 ((on_other (by decide)).1 h)).1.store _ (by omega) _, ((on_other (by decide)).2 (f6 ((on_other (by decide)).1 h)).2.1), ((on_other (by decide)).2 (f6 ((on_other (by decide)).1 h)).2.2)⟩, fun _ => ⟨⟨_, rfl, S.set _, SL⟩, (on_other (by decide)).2 hall.1, (on_other (by decide)).2 hall.2⟩⟩
    · intro ls a wx hon ⟨x9, x10, x28, x29, x30, x31, lab, ha, R, N, N0, f0, f2, f1, f3, f4, f5, f6, f7⟩
      subst ha
      obtain ⟨⟨be1, rfl, B1, L1⟩, _, _⟩ := f6 (hon 6 (by decide))
      obtain ⟨⟨be2, rfl, B2, L2⟩, _, _⟩ := f7 (hon 7 (by decide))
      obtain ⟨Lc, rfl, C1, L3⟩ := f1 (hon 1 (by decide))
      obtain ⟨E, rfl, ER, lE, L4⟩ := f3 (hon 3 (by decide))
      have ne : ∀ a b : Nat, lab a ≠ lab b → a ≠ b := fun a b h e => h (by rw [e])
      have EL : El wx E be2 Lc be1 m m := ⟨B2, B1, C1, ER, lE, ne _ _ (by omega), ne _ _ (by omega), ne _ _ (by omega), ne _ _ (by omega), ne _ _ (by omega)⟩
      have bw : ∀ b, lab b ≠ 0 → Btw (w.heap.size + 11) b wx.heap.size := fun b hb => by
        have := R.lo b hb
        have := HY.out.size
        exact ⟨by omega, by omega⟩
      have KW : Kept (fun _ => False) w wx := HY.out.kept.trans R.k
      have hws : w.heap.size + 11 ≤ wx.heap.size := by have := R.k.size; have := HY.out.size; omega
      have HH := Lib.hid (hang_open g cap m c 19 #[.pointer (some ⟨bj, 0, none⟩), .pointer (some ⟨be2, 0, none⟩), .pointer (some ⟨be1, 0, none⟩), .pointer (some ⟨w.heap.size + 6, 0, none⟩), .pointer (some ⟨w.heap.size + 7, 0, none⟩)] hm hm2 hc fs L H P X wx (HA.out.kept KW fun _ _ _ _ h => h) (fun j hj => (KW.cell (p := ⟨g, j, none⟩) lg id).trans (HF.out j hj)) (Nat.lt_of_lt_of_le lg KW.size))
      have HE : Hid (El wx E be2 Lc be1 m m ∧ Btw (w.heap.size + 11) E wx.heap.size ∧ Btw (w.heap.size + 11) be2 wx.heap.size ∧ Btw (w.heap.size + 11) Lc wx.heap.size ∧ Btw (w.heap.size + 11) be1 wx.heap.size) := ⟨EL, bw _ (by omega), bw _ (by omega), bw _ (by omega), bw _ (by omega)⟩
      have HKW := Lib.hid KW
      have HJ := Lib.hid (HY.out.jn.kept R.k id id id id id)
      have HFu := Lib.hid (HY.out.fut.far R.k)
      have HHs := Lib.hid hws
      clear f0 f1 f2 f3 f4 f5 f6 f7 hon EL bw KW R N N0 B1 B2 C1 ER L1 L2 L3 L4 ne lE hws
      go_wp2_with fail
      refine HH.out.mono ?_
      rintro e w3 ⟨rfl, s, G⟩
      have ow : ∀ b, w.heap.size ≤ b → ¬ Own m fs b := by
        rintro b hb ⟨j, hj, h1, h2⟩
        have := (HA.out.fut j hj).size
        omega
      have b1 := HY.out.b1
      have bb := HE.out.2
      have hsz := HY.out.size
      have J3 := HJ.out.kept G.kept (ow _ (by omega)) (ow _ (by omega)) (ow _ (by have := b1.1.1; omega)) (ow _ (by have := b1.2.1.1; omega)) (ow _ (by have := b1.2.2.1; omega))
      have E3 := HE.out.1.kept G.kept (ow _ (by have := bb.1.1; omega)) (ow _ (by have := bb.2.1.1; omega)) (ow _ (by have := bb.2.2.1.1; omega)) (ow _ (by have := bb.2.2.2.1; omega))
      have F3 := HFu.out.kept G.kept (fun b hb => ow b hb.1)
      have j3 := J3.j.c
      have HP : Hid _ := Lib.hid (And.intro F3 (And.intro J3 (And.intro E3 (And.intro b1 (And.intro bb (And.intro HKW.out G))))))
      clear ow b1 bb hsz J3 E3 F3 G
      go_wp2_with fail
      go_ret2
      obtain ⟨p1, p2, p3, p4, p5, p6, p7⟩ := HP.out
      exact ⟨l, h, p, V, jb, bj, E, be2, Lc, be1, s, wx, rfl, p1, p2, p3, p4, p5, p6, p7⟩

end Go.Proofs.YtfbanlpmkfgpjaaGreatDoor

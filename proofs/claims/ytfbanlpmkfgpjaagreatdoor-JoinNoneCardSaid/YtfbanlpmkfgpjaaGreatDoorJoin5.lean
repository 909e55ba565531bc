/-
  Package join, a nil thread: Any of futures that are open.
-/
import Derived.Test.YtfbanlpmkfgpjaaGreatDoorJoin4
namespace Go.Proofs.YtfbanlpmkfgpjaaGreatDoor
open Go.RowKit

/-- A region as far as it has come up. -/
def InvAny (w0 : World) (m bn : Nat) (fr : Value → Value → Value → Value → Value → Value → Value → Act) (l : Array Bool) (a : Act) (w : World) : Prop :=
  ∃ (x17 x18 x19 x20 x7 x8 x9 : Value) (lab : Nat → Nat), a = fr x17 x18 x19 x20 x7 x8 x9 ∧ RB w0 w lab ∧ Slot w bn 0 (.int .i64 m) ∧ lab bn = 0 ∧ 
    (On l 0 → FFut x17 w lab 1) ∧ (On l 1 → FCel x18 0 w lab 2) ∧ (On l 2 → x19 = .int .i64 m) ∧ (On l 3 → FRow x20 m .nilIface w lab 3) ∧ (On l 4 → FBox x7 w lab 4) ∧ (On l 5 → FBox x8 w lab 5) ∧ (On l 6 → FBox x9 w lab 6) ∧ (On l 7 → FSet x7 x17 w lab 4 ∧ On l 0 ∧ On l 4) ∧ (On l 8 → FSet x8 x18 w lab 5 ∧ On l 1 ∧ On l 5) ∧ (On l 9 → FSet x9 x20 w lab 6 ∧ On l 3 ∧ On l 6)


/-- What Any leaves: a future, its closure hung on each. -/
def AnyPost (w : World) (m c : Nat) (fs L H P : Nat → Nat) (X : Nat → Nat → Value) : Ending → World → Prop := fun r w' =>
  ∃ (G l h p E be Lc bl bg s : Nat) (w1 : World), r = .returned (.tuple #[.pointer (some ⟨G + 5, 0, none⟩), .int .i64 0]) ∧
    Ftr w' G l h p 0 0 .nilIface 0 0 (fun _ => .pointer none) ∧ Slot w' bg 0 (.pointer (some ⟨G + 5, 0, none⟩)) ∧ Slot w' w.heap.size 0 (.int .i64 m) ∧ El w' E be Lc bl m 0 ∧
    (w.heap.size < G ∧ G + 6 ≤ w1.heap.size ∧ Btw (w.heap.size + 1) bg w1.heap.size ∧ Btw (w.heap.size + 1) E w1.heap.size ∧ Btw (w.heap.size + 1) be w1.heap.size ∧ Btw (w.heap.size + 1) Lc w1.heap.size ∧ Btw (w.heap.size + 1) bl w1.heap.size) ∧
    (∀ b, FOwn G b → b ≠ bg ∧ b ≠ E ∧ b ≠ be ∧ b ≠ Lc ∧ b ≠ bl) ∧ bg ≠ Lc ∧ bg ≠ E ∧
    Kept (fun _ => False) w w1 ∧
    Hung w1 w' m c m fs L H P X w1.heap.size s (.func (.func 24) #[] #[.pointer (some ⟨bg, 0, none⟩), .pointer (some ⟨be, 0, none⟩), .pointer (some ⟨bl, 0, none⟩), .pointer (some ⟨w.heap.size, 0, none⟩)])

set_option maxRecDepth 100000 in
set_option maxHeartbeats 1600000 in
theorem any_open (g cap m c : Nat) (hm : 0 < m) (hm2 : m ≤ 4096) (hc : c < 3) (fs L H P : Nat → Nat) (X : Nat → Nat → Value) (w : World) (A : Fts w m c fs L H P X)
    (hf : ∀ j, j < m → w.cell? ⟨g, j, none⟩ = some (.pointer (some ⟨fs j + 5, 0, none⟩))) (lg : g < w.heap.size)
    (hu : Calls Tryz.prog 16 #[.slice (some ⟨g, 0, none⟩) m cap] w fun e w' => e = .returned (.bool false) ∧ w = w') :
    Calls Tryz.prog 7 #[.pointer none, .slice (some ⟨g, 0, none⟩) m cap] w (AnyPost w m c fs L H P X) := by
  have hmf : ∀ (fn : Fn) (first cap : Array Value) (w : World), (Instr.makeFunc fn first cap).run Tryz.prog w = .ok (.func fn first cap) w := fun _ _ _ _ => rfl
  have hmk2 := run_mkErr m hm2
  have hm0 : ¬ (m : Int) = 0 := by omega
  have HA := Lib.hid A
  have HU := Lib.hid hu
  have HF := Lib.hid hf
  clear A hf hu
  go_enter Tryz.func7, Tryz.ntmps7
  go_wp2_with fail
  refine HU.out.mono ?_
  rintro e w' ⟨rfl, rfl⟩
  have KB : Kept (fun _ => False) w (w.alloc (.cells #[.int .i64 m] 3)) := (Kept.refl _ w).alloc _
  have NB : Slot (w.alloc (.cells #[.int .i64 m] 3)) w.heap.size 0 (.int .i64 m) := slot_of (block_last _ _ _ rfl) rfl
  have nb := NB.c
  have HKB := Lib.hid KB
  have HNB := Lib.hid NB
  clear KB NB
  go_upto_region 6 with fail
  have ebz : ((m : Int) == 0) = false := by simp; omega
  rw [ebz]
  have HSW : Hid ((w.alloc (.cells #[.int .i64 m] 3)).heap.size = w.heap.size + 1) := Lib.hid (by simp)
  generalize w.alloc (.cells #[.int .i64 m] 3) = W at nb HKB HNB HSW ⊢
  refine region_inv (InvAny W m w.heap.size (fun x17 x18 x19 x20 x7 x8 x9 => ⟨#[Value.pointer none, Value.slice (some { block := g, off := 0 }) m cap, undef, undef, Value.pointer none, Value.int IntKind.i64 0, Value.pointer (some { block := w.heap.size, off := 0 }), x7, x8, x9, undef, Value.slice (some { block := g, off := 0 }) m cap, Value.bool false, Value.slice (some { block := g, off := 0 }) m cap, Value.int IntKind.i64 ↑m, Value.int IntKind.i64 ↑m, Value.bool false, x17, x18, x19, x20, undef, undef, undef, undef, undef, undef, undef, undef, undef], []⟩)) (by kernel_rfl) (by kernel_rfl) ?_ ?_ ?_
  · exact ⟨undef, undef, undef, undef, undef, undef, undef, fun _ => 0, rfl, ⟨(Kept.refl _ W).drew, fun b hb => absurd rfl hb⟩, HNB.out.kept (Kept.refl (fun _ => False) W).drew id, rfl, by simp [On], by simp [On], by simp [On], by simp [On], by simp [On], by simp [On], by simp [On], by simp [On], by simp [On], by simp [On]⟩
  · intro i o l a wx K hi hs hl hall ⟨x17, x18, x19, x20, x7, x8, x9, lab, ha, R, N0, M0, f0, f1, f2, f3, f4, f5, f6, f7, f8, f9⟩ hK
    subst ha
    have hlt : i < 10 := by simpa using (Array.getElem?_eq_some_iff.1 hi).1
    have nc0 := N0.c
    match i, hi, hl, hlt with
    | 0, hi, hl, _ =>
      simp at hi
      subst hi
      go_simp
      refine (fnew_any _).mono ?_
      rintro e w' ⟨lq, hq, pq, rfl, s1, F1, KK⟩
      exact hK _ _ ⟨_, x18, x19, x20, x7, x8, x9, lup lab wx _ 1, rfl, R.fresh KK 1, N0.kept KK id, (lup_old N0.lt).trans M0, fun _ => ⟨_, _, _, _, rfl, F1, fun b hb => lup_new hb.1 (by have := hb.2; omega)⟩, fun h => (f1 ((on_other (by decide)).1 h)).fresh KK, fun h => f2 ((on_other (by decide)).1 h), fun h => (f3 ((on_other (by decide)).1 h)).fresh KK, fun h => (f4 ((on_other (by decide)).1 h)).fresh KK, fun h => (f5 ((on_other (by decide)).1 h)).fresh KK, fun h => (f6 ((on_other (by decide)).1 h)).fresh KK, fun h => absurd (f7 ((on_other (by decide)).1 h)).2.1 hl, fun h => ⟨(f8 ((on_other (by decide)).1 h)).1.fresh KK, ((on_other (by decide)).2 (f8 ((on_other (by decide)).1 h)).2.1), ((on_other (by decide)).2 (f8 ((on_other (by decide)).1 h)).2.2)⟩, fun h => ⟨(f9 ((on_other (by decide)).1 h)).1.fresh KK, ((on_other (by decide)).2 (f9 ((on_other (by decide)).1 h)).2.1), ((on_other (by decide)).2 (f9 ((on_other (by decide)).1 h)).2.2)⟩⟩
    | 1, hi, hl, _ =>
      simp at hi
      subst hi
      go_simp
      refine (cnew_made 0 _).mono ?_
      rintro e w' ⟨rfl, s1, C1, KK⟩
      exact hK _ _ ⟨x17, _, x19, x20, x7, x8, x9, lup lab wx _ 2, rfl, R.fresh KK 2, N0.kept KK id, (lup_old N0.lt).trans M0, fun h => (f0 ((on_other (by decide)).1 h)).fresh KK, fun _ => ⟨_, rfl, C1, lup_new (Nat.le_refl _) (by omega)⟩, fun h => f2 ((on_other (by decide)).1 h), fun h => (f3 ((on_other (by decide)).1 h)).fresh KK, fun h => (f4 ((on_other (by decide)).1 h)).fresh KK, fun h => (f5 ((on_other (by decide)).1 h)).fresh KK, fun h => (f6 ((on_other (by decide)).1 h)).fresh KK, fun h => ⟨(f7 ((on_other (by decide)).1 h)).1.fresh KK, ((on_other (by decide)).2 (f7 ((on_other (by decide)).1 h)).2.1), ((on_other (by decide)).2 (f7 ((on_other (by decide)).1 h)).2.2)⟩, fun h => absurd (f8 ((on_other (by decide)).1 h)).2.1 hl, fun h => ⟨(f9 ((on_other (by decide)).1 h)).1.fresh KK, ((on_other (by decide)).2 (f9 ((on_other (by decide)).1 h)).2.1), ((on_other (by decide)).2 (f9 ((on_other (by decide)).1 h)).2.2)⟩⟩
    | 2, hi, hl, _ =>
      simp at hi
      subst hi
      go_simp
      exact hK _ _ ⟨x17, x18, _, x20, x7, x8, x9, lab, rfl, R, N0, M0, fun h => f0 ((on_other (by decide)).1 h), fun h => f1 ((on_other (by decide)).1 h), fun _ => rfl, fun h => f3 ((on_other (by decide)).1 h), fun h => f4 ((on_other (by decide)).1 h), fun h => f5 ((on_other (by decide)).1 h), fun h => f6 ((on_other (by decide)).1 h), fun h => ⟨(f7 ((on_other (by decide)).1 h)).1, ((on_other (by decide)).2 (f7 ((on_other (by decide)).1 h)).2.1), ((on_other (by decide)).2 (f7 ((on_other (by decide)).1 h)).2.2)⟩, fun h => ⟨(f8 ((on_other (by decide)).1 h)).1, ((on_other (by decide)).2 (f8 ((on_other (by decide)).1 h)).2.1), ((on_other (by decide)).2 (f8 ((on_other (by decide)).1 h)).2.2)⟩, fun h => ⟨(f9 ((on_other (by decide)).1 h)).1, ((on_other (by decide)).2 (f9 ((on_other (by decide)).1 h)).2.1), ((on_other (by decide)).2 (f9 ((on_other (by decide)).1 h)).2.2)⟩⟩
    | 3, hi, hl, _ =>
      simp at hi
      subst hi
      have hn2 : On l 2 := hall { on := 2, ground := .data } (by simp) (by rfl)
      obtain rfl := f2 hn2
      have KK : Kept (fun _ => False) wx (wx.alloc (.cells (many .nilIface m) 29)) := (Kept.refl _ _).alloc _
      go_simp
      exact hK _ _ ⟨x17, x18, _, _, x7, x8, x9, lup lab wx _ 3, rfl, R.fresh KK 3, N0.kept KK id, (lup_old N0.lt).trans M0, fun h => (f0 ((on_other (by decide)).1 h)).fresh KK, fun h => (f1 ((on_other (by decide)).1 h)).fresh KK, fun h => f2 ((on_other (by decide)).1 h), fun _ => ⟨_, rfl, fun q hq => slot_of (block_last _ _ _ rfl) (many_get _ _ _ hq), by simp, lup_new (Nat.le_refl _) (by simp)⟩, fun h => (f4 ((on_other (by decide)).1 h)).fresh KK, fun h => (f5 ((on_other (by decide)).1 h)).fresh KK, fun h => (f6 ((on_other (by decide)).1 h)).fresh KK, fun h => ⟨(f7 ((on_other (by decide)).1 h)).1.fresh KK, ((on_other (by decide)).2 (f7 ((on_other (by decide)).1 h)).2.1), ((on_other (by decide)).2 (f7 ((on_other (by decide)).1 h)).2.2)⟩, fun h => ⟨(f8 ((on_other (by decide)).1 h)).1.fresh KK, ((on_other (by decide)).2 (f8 ((on_other (by decide)).1 h)).2.1), ((on_other (by decide)).2 (f8 ((on_other (by decide)).1 h)).2.2)⟩, fun h => absurd (f9 ((on_other (by decide)).1 h)).2.1 hl⟩
    | 4, hi, hl, _ =>
      simp at hi
      subst hi
      have KK : Kept (fun _ => False) wx (wx.alloc (.cells #[.pointer none] 24)) := (Kept.refl _ _).alloc _
      go_simp
      exact hK _ _ ⟨x17, x18, x19, x20, _, x8, x9, lup lab wx _ 4, rfl, R.fresh KK 4, N0.kept KK id, (lup_old N0.lt).trans M0, fun h => (f0 ((on_other (by decide)).1 h)).fresh KK, fun h => (f1 ((on_other (by decide)).1 h)).fresh KK, fun h => f2 ((on_other (by decide)).1 h), fun h => (f3 ((on_other (by decide)).1 h)).fresh KK, fun _ => ⟨_, _, rfl, slot_of (block_last _ _ _ rfl) rfl, lup_new (Nat.le_refl _) (by simp)⟩, fun h => (f5 ((on_other (by decide)).1 h)).fresh KK, fun h => (f6 ((on_other (by decide)).1 h)).fresh KK, fun h => absurd (f7 ((on_other (by decide)).1 h)).2.2 hl, fun h => ⟨(f8 ((on_other (by decide)).1 h)).1.fresh KK, ((on_other (by decide)).2 (f8 ((on_other (by decide)).1 h)).2.1), ((on_other (by decide)).2 (f8 ((on_other (by decide)).1 h)).2.2)⟩, fun h => ⟨(f9 ((on_other (by decide)).1 h)).1.fresh KK, ((on_other (by decide)).2 (f9 ((on_other (by decide)).1 h)).2.1), ((on_other (by decide)).2 (f9 ((on_other (by decide)).1 h)).2.2)⟩⟩
    | 5, hi, hl, _ =>
      simp at hi
      subst hi
      have KK : Kept (fun _ => False) wx (wx.alloc (.cells #[.pointer none] 26)) := (Kept.refl _ _).alloc _
      go_simp
      exact hK _ _ ⟨x17, x18, x19, x20, x7, _, x9, lup lab wx _ 5, rfl, R.fresh KK 5, N0.kept KK id, (lup_old N0.lt).trans M0, fun h => (f0 ((on_other (by decide)).1 h)).fresh KK, fun h => (f1 ((on_other (by decide)).1 h)).fresh KK, fun h => f2 ((on_other (by decide)).1 h), fun h => (f3 ((on_other (by decide)).1 h)).fresh KK, fun h => (f4 ((on_other (by decide)).1 h)).fresh KK, fun _ => ⟨_, _, rfl, slot_of (block_last _ _ _ rfl) rfl, lup_new (Nat.le_refl _) (by simp)⟩, fun h => (f6 ((on_other (by decide)).1 h)).fresh KK, fun h => ⟨(f7 ((on_other (by decide)).1 h)).1.fresh KK, ((on_other (by decide)).2 (f7 ((on_other (by decide)).1 h)).2.1), ((on_other (by decide)).2 (f7 ((on_other (by decide)).1 h)).2.2)⟩, fun h => absurd (f8 ((on_other (by decide)).1 h)).2.2 hl, fun h => ⟨(f9 ((on_other (by decide)).1 h)).1.fresh KK, ((on_other (by decide)).2 (f9 ((on_other (by decide)).1 h)).2.1), ((on_other (by decide)).2 (f9 ((on_other (by decide)).1 h)).2.2)⟩⟩
    | 6, hi, hl, _ =>
      simp at hi
      subst hi
      have KK : Kept (fun _ => False) wx (wx.alloc (.cells #[.slice none 0 0] 56)) := (Kept.refl _ _).alloc _
      go_simp
      exact hK _ _ ⟨x17, x18, x19, x20, x7, x8, _, lup lab wx _ 6, rfl, R.fresh KK 6, N0.kept KK id, (lup_old N0.lt).trans M0, fun h => (f0 ((on_other (by decide)).1 h)).fresh KK, fun h => (f1 ((on_other (by decide)).1 h)).fresh KK, fun h => f2 ((on_other (by decide)).1 h), fun h => (f3 ((on_other (by decide)).1 h)).fresh KK, fun h => (f4 ((on_other (by decide)).1 h)).fresh KK, fun h => (f5 ((on_other (by decide)).1 h)).fresh KK, fun _ => ⟨_, _, rfl, slot_of (block_last _ _ _ rfl) rfl, lup_new (Nat.le_refl _) (by simp)⟩, fun h => ⟨(f7 ((on_other (by decide)).1 h)).1.fresh KK, ((on_other (by decide)).2 (f7 ((on_other (by decide)).1 h)).2.1), ((on_other (by decide)).2 (f7 ((on_other (by decide)).1 h)).2.2)⟩, fun h => ⟨(f8 ((on_other (by decide)).1 h)).1.fresh KK, ((on_other (by decide)).2 (f8 ((on_other (by decide)).1 h)).2.1), ((on_other (by decide)).2 (f8 ((on_other (by decide)).1 h)).2.2)⟩, fun h => absurd (f9 ((on_other (by decide)).1 h)).2.2 hl⟩
    | 7, hi, hl, _ =>
      simp at hi
      subst hi
      have hsrc : On l 0 := hall { on := 0, ground := .data } (by simp) (by rfl)
      have hbox : On l 4 := hall { on := 4, ground := .data } (by simp) (by rfl)
      obtain ⟨bb, u, rfl, S, SL⟩ := f4 hbox
      obtain ⟨Gq, lq, hq, pq, rfl, FF, FL⟩ := f0 hsrc
      have sc := S.c
      have sf := S.fr
      go_simp
      exact hK _ _ ⟨_, x18, x19, x20, _, x8, x9, lab, rfl, R.store ⟨bb, 0, none⟩ (by show lab bb ≠ 0; omega) _, N0.far _ _ (fun e => by rw [e] at M0; simp only at M0; omega), M0, fun h => (f0 ((on_other (by decide)).1 h)).store _ (by omega) _, fun h => (f1 ((on_other (by decide)).1 h)).store _ (by omega) _, fun h => f2 ((on_other (by decide)).1 h), fun h => (f3 ((on_other (by decide)).1 h)).store _ (by omega) _, fun h => (f4 ((on_other (by decide)).1 h)).store _ _, fun h => (f5 ((on_other (by decide)).1 h)).store _ _, fun h => (f6 ((on_other (by decide)).1 h)).store _ _, fun _ => ⟨⟨_, rfl, S.set _, SL⟩, (on_other (by decide)).2 hsrc, (on_other (by decide)).2 hbox⟩, fun h => ⟨(f8 ((on_other (by decide)).1 h)).1.store _ (by omega) _, ((on_other (by decide)).2 (f8 ((on_other (by decide)).1 h)).2.1), ((on_other (by decide)).2 (f8 ((on_other (by decide)).1 h)).2.2)⟩, fun h => ⟨(f9 ((on_other (by decide)).1 h)).1.store _ (by omega) _, ((on_other (by decide)).2 (f9 ((on_other (by decide)).1 h)).2.1), ((on_other (by decide)).2 (f9 ((on_other (by decide)).1 h)).2.2)⟩⟩
    | 8, hi, hl, _ =>
      simp at hi
      subst hi
      have hsrc : On l 1 := hall { on := 1, ground := .data } (by simp) (by rfl)
      have hbox : On l 5 := hall { on := 5, ground := .data } (by simp) (by rfl)
      obtain ⟨bb, u, rfl, S, SL⟩ := f5 hbox
      obtain ⟨Lq, rfl, C1, CL⟩ := f1 hsrc
      have sc := S.c
      have sf := S.fr
      go_simp
      exact hK _ _ ⟨x17, _, x19, x20, x7, _, x9, lab, rfl, R.store ⟨bb, 0, none⟩ (by show lab bb ≠ 0; omega) _, N0.far _ _ (fun e => by rw [e] at M0; simp only at M0; omega), M0, fun h => (f0 ((on_other (by decide)).1 h)).store _ (by omega) _, fun h => (f1 ((on_other (by decide)).1 h)).store _ (by omega) _, fun h => f2 ((on_other (by decide)).1 h), fun h => (f3 ((on_other (by decide)).1 h)).store _ (by omega) _, fun h => (f4 ((on_other (by decide)).1 h)).store _ _, fun h => (f5 ((on_other (by decide)).1 h)).store _ _, fun h => (f6 ((on_other (by decide)).1 h)).store _ _, fun h => ⟨(f7 ((on_other (by decide)).1 h)).1.store _ (by omega) _, ((on_other (by decide)).2 (f7 ((on_other (by decide)).1 h)).2.1), ((on_other (by decide)).2 (f7 ((on_other (by decide)).1 h)).2.2)⟩, fun _ => ⟨⟨_, rfl, S.set _, SL⟩, (on_other (by decide)).2 hsrc, (on_other (by decide)).2 hbox⟩, fun h => ⟨(f9 ((on_other (by decide)).1 h)).1.store _ (by omega) _, ((on_other (by decide)).2 (f9 ((on_other (by decide)).1 h)).2.1), ((on_other (by decide)).2 (f9 ((on_other (by decide)).1 h)).2.2)⟩⟩
    | 9, hi, hl, _ =>
      simp at hi
      subst hi
      have hsrc : On l 3 := hall { on := 3, ground := .data } (by simp) (by rfl)
      have hbox : On l 6 := hall { on := 6, ground := .data } (by simp) (by rfl)
      obtain ⟨bb, u, rfl, S, SL⟩ := f6 hbox
      obtain ⟨Er, rfl, ER, EL, EE⟩ := f3 hsrc
      have sc := S.c
      have sf := S.fr
      go_simp
      exact hK _ _ ⟨x17, x18, x19, _, x7, x8, _, lab, rfl, R.store ⟨bb, 0, none⟩ (by show lab bb ≠ 0; omega) _, N0.far _ _ (fun e => by rw [e] at M0; simp only at M0; omega), M0, fun h => (f0 ((on_other (by decide)).1 h)).store _ (by omega) _, fun h => (f1 ((on_other (by decide)).1 h)).store _ (by omega) _, fun h => f2 ((on_other (by decide)).1 h), fun h => (f3 ((on_other (by decide)).1 h)).store _ (by omega) _, fun h => (f4 ((on_other (by decide)).1 h)).store _ _, fun h => (f5 ((on_other (by decide)).1 h)).store _ _, fun h => (f6 ((on_other (by decide)).1 h)).store _ _, fun h => ⟨(f7 ((on_other (by decide)).1 h)).1.store _ (by omega) _, ((on_other (by decide)).2 (f7 ((on_other (by decide)).1 h)).2.1), ((on_other (by decide)).2 (f7 ((on_other (by decide)).1 h)).2.2)⟩, fun h => ⟨(f8 ((on_other (by decide)).1 h)).1.store _ (by omega) _, ((on_other (by decide)).2 (f8 ((on_other (by decide)).1 h)).2.1), ((on_other (by decide)).2 (f8 ((on_other (by decide)).1 h)).2.2)⟩, fun _ => ⟨⟨_, rfl, S.set _, SL⟩, (on_other (by decide)).2 hsrc, (on_other (by decide)).2 hbox⟩⟩
  · intro ls a wx hon ⟨x17, x18, x19, x20, x7, x8, x9, lab, ha, R, N0, M0, f0, f1, f2, f3, f4, f5, f6, f7, f8, f9⟩
    subst ha
    obtain ⟨⟨bg, rfl, B1, L1⟩, _, _⟩ := f7 (hon 7 (by decide))
    obtain ⟨⟨bl, rfl, B2, L2⟩, _, _⟩ := f8 (hon 8 (by decide))
    obtain ⟨⟨be, rfl, B3, L3⟩, _, _⟩ := f9 (hon 9 (by decide))
    obtain ⟨G, l, h, p, rfl, FF, FL⟩ := f0 (hon 0 (by decide))
    obtain ⟨Lc, rfl, C1, L5⟩ := f1 (hon 1 (by decide))
    obtain ⟨E, rfl, ER, lE, L6⟩ := f3 (hon 3 (by decide))
    have ne : ∀ a b : Nat, lab a ≠ lab b → a ≠ b := fun a b h e => h (by rw [e])
    have EL : El wx E be Lc bl m 0 := ⟨B3, B2, C1, ER, lE, ne _ _ (by omega), ne _ _ (by omega), ne _ _ (by omega), ne _ _ (by omega), ne _ _ (by omega)⟩
    have hW : W.heap.size = w.heap.size + 1 := HSW.out
    have bw : ∀ b, lab b ≠ 0 → Btw (w.heap.size + 1) b wx.heap.size := fun b hb => by
      have := R.lo b hb
      exact ⟨by omega, by omega⟩
    have KW : Kept (fun _ => False) w wx := HKB.out.trans R.k
    have g0 := bw G (by rw [FL G ⟨Nat.le_refl _, by omega⟩]; decide)
    have nn : (w.heap.size < G ∧ G + 6 ≤ wx.heap.size ∧ Btw (w.heap.size + 1) bg wx.heap.size ∧ Btw (w.heap.size + 1) E wx.heap.size ∧ Btw (w.heap.size + 1) be wx.heap.size ∧ Btw (w.heap.size + 1) Lc wx.heap.size ∧ Btw (w.heap.size + 1) bl wx.heap.size) :=
      ⟨by have := g0.1; omega, FF.size, bw _ (by omega), bw _ (by omega), bw _ (by omega), bw _ (by omega), bw _ (by omega)⟩
    have na : (∀ b, FOwn G b → b ≠ bg ∧ b ≠ E ∧ b ≠ be ∧ b ≠ Lc ∧ b ≠ bl) ∧ bg ≠ Lc ∧ bg ≠ E :=
      ⟨fun b hb => by have := FL b hb; exact ⟨ne _ _ (by omega), ne _ _ (by omega), ne _ _ (by omega), ne _ _ (by omega), ne _ _ (by omega)⟩, ne _ _ (by omega), ne _ _ (by omega)⟩
    have ow : ∀ b, w.heap.size ≤ b → ¬ Own m fs b := by
      rintro b hb ⟨j, hj, h1, h2⟩
      have := (HA.out.fut j hj).size
      omega
    have b1 := B1.c
    have HH := Lib.hid (hang_open g cap m c 24 #[.pointer (some ⟨bg, 0, none⟩), .pointer (some ⟨be, 0, none⟩), .pointer (some ⟨bl, 0, none⟩), .pointer (some ⟨w.heap.size, 0, none⟩)] hm hm2 hc fs L H P X wx (HA.out.kept KW fun _ _ _ _ h => h) (fun j hj => (KW.cell (p := ⟨g, j, none⟩) lg id).trans (HF.out j hj)) (Nat.lt_of_lt_of_le lg KW.size))
    have HB1 := Lib.hid B1
    have HEL := Lib.hid EL
    have HN0 := Lib.hid N0
    have HFF := Lib.hid FF
    have Hnn := Lib.hid nn
    have Hna := Lib.hid na
    have How := Lib.hid ow
    have HKW := Lib.hid KW
    clear f0 f1 f2 f3 f4 f5 f6 f7 f8 f9 hon EL bw KW R N0 M0 B1 B2 B3 C1 ER FF FL L1 L2 L3 L5 L6 lE hW g0 nn na ow ne b1
    go_wp2_with fail
    refine HH.out.mono ?_
    rintro e w3 ⟨rfl, s, Gu⟩
    have n1 := Hnn.out
    have B3 := HB1.out.kept Gu.kept (How.out _ (by have := n1.2.2.1.1; omega))
    have N3 := HN0.out.kept Gu.kept (How.out _ (Nat.le_refl _))
    have E3 := HEL.out.kept Gu.kept (How.out _ (by have := n1.2.2.2.1.1; omega)) (How.out _ (by have := n1.2.2.2.2.1.1; omega)) (How.out _ (by have := n1.2.2.2.2.2.1.1; omega)) (How.out _ (by have := n1.2.2.2.2.2.2.1; omega))
    have F3 := HFF.out.kept Gu.kept (fun b hb => How.out b (by have := hb.1; have := n1.1; omega))
    have b3 := B3.c
    have HP : Hid _ := Lib.hid (And.intro F3 (And.intro B3 (And.intro N3 (And.intro E3 (And.intro n1 (And.intro Hna.out (And.intro HKW.out Gu)))))))
    clear n1 B3 N3 E3 F3 Gu
    go_wp2_with fail
    refine (unless_ok _ _).mono ?_
    rintro e w4 ⟨rfl, rfl⟩
    go_wp2_with fail
    go_ret2
    obtain ⟨p1, p2, p3, p4, p5, ⟨p6, p7, p8⟩, p9, p10⟩ := HP.out
    exact ⟨G, l, h, p, E, be, Lc, bl, bg, s, wx, rfl, p1, p2, p3, p4, p5, p6, p7, p8, p9, p10⟩

end Go.Proofs.YtfbanlpmkfgpjaaGreatDoor

/-
  ClockOrder: the function that tells what rings, and an Advance of timers that have it.
-/
import Derived.Test.YtmlemofnakfpgaaOrder1
import Derived.Deep.AppendLies
namespace Go.Proofs.Ytmlemofnakfpgaa
open Go.RowKit

theorem Try.info3 : (Try.prog.info? 3).map (fun i => (i.zero, i.size, i.bytes)) = some (some (.int .i64 0), 1, 8) := by kernel_rfl

theorem own_kept {S : Nat → Prop} {w w' : World} {base n : Nat} {e : TypeId} {size : Nat} {v : Value} {xs : List Value} (h : w.ownsRow base e size v n xs) (k : Kept S w w') (hs : ∀ g, v.ownBlock = some g → ¬ S g) : w'.ownsRow base e size v n xs := by
  refine ⟨h.1, ?_⟩
  rcases h.2 with hn | ⟨g, cap, cur, rfl, hb, hg, rest⟩
  · exact .inl hn
  · exact .inr ⟨g, cap, cur, rfl, hb, (k.block g (Array.getElem?_eq_some_iff.1 hg).1 (hs g rfl)).trans hg, rest⟩

theorem kept_grown {w w' : World} {row : Option Nat} (h : w.grownBy w' row) : Kept (fun b => row = some b) w w' :=
  ⟨h.os, h.tape, h.output, h.size, fun k hk hs => h.block k hk fun e => hs e.symm⟩

/-- The variable rB holds a row of its own, from block B on. -/
structure Holds (w : World) (B rB r : Nat) (v : Value) (xs : List Value) : Prop where
  c : w.cell? ⟨rB, 0, none⟩ = some v
  f : w.frozen? ⟨rB, 0, none⟩ = false
  lt : rB < w.heap.size
  own : w.ownsRow B 3 1 v r xs

theorem Holds.kept {S : Nat → Prop} {w w' : World} {B rB r : Nat} {v : Value} {xs : List Value} (H : Holds w B rB r v xs) (k : Kept S w w') (h1 : ¬ S rB) (h2 : ∀ g, B ≤ g → ¬ S g) : Holds w' B rB r v xs :=
  ⟨(k.cell (p := ⟨rB, 0, none⟩) H.lt h1).trans H.c, (k.frozen (p := ⟨rB, 0, none⟩) H.lt h1).trans H.f, Nat.lt_of_lt_of_le H.lt k.size, own_kept H.own k fun g hg => h2 g (H.own.lt g hg).1⟩

def NotePost (w : World) (B rB r i : Nat) (xs : List Value) : Ending → World → Prop := fun e w' =>
  e = .returned (.tuple #[]) ∧ ∃ v', Holds w' B rB (r + 1) v' (xs ++ [.int .i64 i]) ∧ Kept (fun b => b = rB ∨ B ≤ b) w w'

set_option maxRecDepth 100000 in
set_option maxHeartbeats 400000 in
theorem note_ring (B rB vb r i : Nat) (v : Value) (xs : List Value) (w : World) (H : Holds w B rB r v xs) (hrB : rB < B) (hB : B ≤ w.heap.size) (hr : r ≤ 100) (hv : w.cell? ⟨vb, 0, none⟩ = some (.int .i64 i)) :
    Calls Try.prog 6 #[.pointer none, .pointer (some ⟨rB, 0, none⟩), .pointer (some ⟨vb, 0, none⟩)] w (NotePost w B rB r i xs) := by
  obtain ⟨i0, hi, hz0, hz1, hz2⟩ := info_parts Try.info3
  have c := H.c
  have HH := Lib.hid H
  clear H
  go_enter Try.func6, Try.ntmps6
  go_wp2_with (at_builtin; go_loud (refine wpList_append_lies _ rfl _ _ 26 rfl B 3 i0 (.int .i64 0) 1 8 Try.underlying26 hi hz0 hz1 hz2 rfl (by decide) _ _ _ rfl (HH.out.own.alloc _) ⟨w.heap.size, 0, none⟩ 1 1 [.int .i64 i] rfl rfl ?c1 ?c2 ?c3 ?c4 ?c5 ?c6 _ rfl ?_))
  case c1 =>
    intro j u hj
    match j, hj with
    | 0, hj => simp at hj; subst hj; simp [Addr.add]
  case c2 => intro u hu; simp at hu; subst hu; rfl
  case c3 => decide
  case c4 => first | (simp only [maxLen]; omega) | (simp [maxLen]; omega)
  case c5 => first | omega | (simp; omega)
  case c6 => simp; omega
  intro g cap w2 own2 grown2 _ _
  have ka : Kept (fun _ => False) w (w.alloc (.cells #[.int .i64 i] 3)) := (Kept.refl _ _).alloc _
  have kg : Kept (fun b => B ≤ b) (w.alloc (.cells #[.int .i64 i] 3)) w2 := (kept_grown grown2).mono fun b _ e => (HH.out.own.lt b e).1
  have KK := Lib.hid ((ka.mono (T := fun b => B ≤ b) fun _ _ f => f.elim).trans kg)
  have d0 := (KK.out.cell (p := ⟨rB, 0, none⟩) HH.out.lt (by show ¬ B ≤ rB; omega)).trans c
  have d1 := (KK.out.frozen (p := ⟨rB, 0, none⟩) HH.out.lt (by show ¬ B ≤ rB; omega)).trans HH.out.f
  have hz := Nat.lt_of_lt_of_le HH.out.lt KK.out.size
  have OW := Lib.hid own2
  clear own2 grown2 ka kg
  go_wp2_with fail
  first | go_end0 | refine bodyPost_ret (results_none rfl _ _ _) rfl ?_
  refine ⟨rfl, _, ⟨?_, ?_, ?_, ownsRow_setCell_below OW.out (a := ⟨rB, 0, none⟩) hrB _⟩, (KK.out.mono fun _ _ h => .inr h).setCell _ (.inl (.inl rfl)) _⟩
  · go_simp
  · go_simp
  · simpa using hz

/-- The places that rang, as ints. -/
def rowR (R : Nat → Nat) (r : Nat) : List Value := (List.range r).map fun a => .int .i64 (R a)

theorem rowR_succ (R : Nat → Nat) (r j : Nat) : rowR (put R r j) (r + 1) = rowR R r ++ [.int .i64 j] := by
  unfold rowR
  rw [List.range_succ, List.map_append]
  congr 1
  · exact List.map_congr_left fun a ha => by rw [put_other _ _ _ _ (by have := List.mem_range.1 ha; omega)]
  · simp [put_same]

theorem rowR_at (R : Nat → Nat) (r a : Nat) (h : a < r) : (rowR R r)[a]? = some (.int .i64 (R a)) := by
  unfold rowR; simp [h]

/-- The function of the timer whose variable is block b. -/
def teller (rB b : Nat) : Value := .func (.func 6) #[] #[.pointer (some ⟨rB, 0, none⟩), .pointer (some ⟨b, 0, none⟩)]

/-- What is behind r rings of an Advance that began in W0. -/
def Ringing (W0 : World) (n m rB : Nat) (vb : Nat → Nat) (t : Int) (d : Nat → Int) (ov0 : Nat → Bool) (r : Nat) (w : World) : Prop :=
  ∃ ov R f v, Rang m d t ov0 ov r R ∧ Clk w n t 1 (sts m ov) d f ∧ (∀ i, i < m → ov i = false → f i = teller rB (vb i)) ∧ Holds w W0.heap.size rB r v (rowR R r) ∧ Kept (fun b => Own n b ∨ b = rB) W0 w

/-- What an Advance leaves. -/
def AdvOrder (W0 : World) (n m rB : Nat) (vb : Nat → Nat) (t : Int) (d : Nat → Int) (ov0 : Nat → Bool) : Ending → World → Prop := fun e w' =>
  ∃ N ov R f v, e = .returned (.tuple #[.int .i64 (N : Nat), .int .i64 0]) ∧ N ≤ m ∧ Rang m d t ov0 ov N R ∧ Clk w' n t 0 (sts m ov) d f ∧ (∀ i, i < m → ov i = false → f i = teller rB (vb i)) ∧ (∀ i, i < m → ov i = false → t < d i) ∧
    Holds w' W0.heap.size rB N v (rowR R N) ∧ Kept (fun b => Own n b ∨ b = rB) W0 w'

theorem ent6 : ∀ args w, (callFunc 6 args).run Try.prog w = .ok (.enter 6 args) w := enters_of Try.func6 (by kernel_rfl) rfl

set_option maxHeartbeats 800000 in
theorem ring_next (W0 : World) (n m rB : Nat) (vb : Nat → Nat) (t : Int) (d : Nat → Int) (ov0 : Nat → Bool) (r : Nat) (w : World) (hm : m ≤ 16) (hn : n + 35 ≤ W0.heap.size) (hrB : rB < W0.heap.size) (hro : ¬ Own n rB)
    (hvb : ∀ i, i < m → W0.cell? ⟨vb i, 0, none⟩ = some (.int .i64 i) ∧ vb i < W0.heap.size ∧ ¬ Own n (vb i) ∧ vb i ≠ rB) (hr : r < left ov0 d t m) (I : Ringing W0 n m rB vb t d ov0 r w) :
    ∃ s f j, Clk w n t 1 s d f ∧ j < 16 ∧ look s d t 16 = some j ∧ Calls Try.prog 29 #[.pointer (some ⟨n + 2, 2 + 3 * j, none⟩), .pointer none, .int .i64 (s j)] w (OnePost (Ringing W0 n m rB vb t d ov0) (r + 1)) := by
  obtain ⟨ov, R, f, v, X, C, hf, H, K⟩ := I
  obtain ⟨j, hj, hl⟩ := rang_more X hm hr
  refine ⟨sts m ov, f, j, C, by omega, hl, ?_⟩
  have hvj : ov j = false := ((sts_set m ov j).1 (look_some hl).2.1).2
  have hs := sts_two hj hvj
  have X' := rang_step X hm hl
  have hle := left_le ov0 d t m
  obtain ⟨v0, v1, v2, v3⟩ := hvb j hj
  have hcell := (K.cell (p := ⟨vb j, 0, none⟩) v1 (by show ¬ (Own n (vb j) ∨ vb j = rB); exact fun h => h.elim v2 v3)).trans v0
  have hlt := Nat.lt_of_lt_of_le v1 K.size
  refine (ring_hit (fun w2 => Clk w2 n t 1 (put (sts m ov) j (sts m ov j + 1)) d (put f j .nilFunc) ∧ (∃ v', Holds w2 W0.heap.size rB (r + 1) v' (rowR (put R r j) (r + 1))) ∧ Kept (fun b => Own n b ∨ b = rB) W0 w2) 6 #[.pointer (some ⟨rB, 0, none⟩), .pointer (some ⟨vb j, 0, none⟩)] n j t 1 (sts m ov) d f ent6 (by omega) (by rw [hs]; decide) (by rw [hs]; decide) (hf j hj hvj) w C ?_).mono ?_
  · intro w1 C1 K1
    have ho : ∀ g, W0.heap.size ≤ g → ¬ Own n g := fun g hg h => by have := h.2; omega
    refine (note_ring W0.heap.size rB (vb j) r j v (rowR R r) w1 (H.kept K1 hro ho) hrB (Nat.le_trans K.size K1.size) (by omega) ((K1.cell (p := ⟨vb j, 0, none⟩) hlt v2).trans hcell)).mono ?_
    rintro e w2 ⟨rfl, v', H2, K2⟩
    have C2 := C1.kept K2 fun b hb h => by
      rcases h with rfl | h
      · exact hro hb
      · exact ho b h hb
    refine C2.callPost (by omega) (by rw [put_same]) ⟨C2, ⟨v', by rw [rowR_succ]; exact H2⟩, ?_⟩
    exact (((K.mono (T := fun b => (Own n b ∨ b = rB) ∨ W0.heap.size ≤ b) fun _ _ h => .inl h).trans (K1.mono fun b _ h => .inl (.inl h))).trans (K2.mono fun b _ h => h.elim (fun h => .inl (.inr h)) .inr)).mono fun b hb h => h.elim id fun h => by omega
  · rintro e w' ⟨rfl, w2, ⟨C2, ⟨v', H2⟩, K2⟩, rfl⟩
    have C3 := C2.setState j (by omega) (sts m ov j + 2)
    rw [put_put, hs, show (2 : Int) + 2 = 4 from rfl, sts_put hj] at C3
    rw [hs]
    have k : Kept (fun b => b = n + 3 + 2 * j) w2 (w2.setCell ⟨n + 3 + 2 * j, 0, none⟩ (.int .i64 (2 + 2))) := Kept.one w2 ⟨n + 3 + 2 * j, 0, none⟩ _
    refine ⟨rfl, put ov j true, put R r j, put f j .nilFunc, v', X', C3, fun i hi hv => ?_, H2.kept k (fun e => hro (by rw [e]; exact ⟨by omega, by omega⟩)) (fun g hg e => by omega), K2.trans (k.mono fun b _ e => .inl (by rw [e]; exact ⟨by omega, by omega⟩))⟩
    have e : i ≠ j := fun e => by rw [e, put_same] at hv; cases hv
    rw [put_other _ _ _ _ e] at hv ⊢
    exact hf i hi hv

set_option maxHeartbeats 800000 in
theorem adv_order (W0 : World) (n m rB : Nat) (vb : Nat → Nat) (now dt t : Int) (d : Nat → Int) (f : Nat → Value) (ov0 : Nat → Bool) (hm : m ≤ 16) (hn : n + 35 ≤ W0.heap.size) (hro : ¬ Own n rB)
    (hvb : ∀ i, i < m → W0.cell? ⟨vb i, 0, none⟩ = some (.int .i64 i) ∧ vb i < W0.heap.size ∧ ¬ Own n (vb i) ∧ vb i ≠ rB) (h0 : 0 ≤ now) (h1 : now ≤ 4611686018427387904) (h2 : 0 ≤ dt) (ht : later now dt = t)
    (C : Clk W0 n now 0 (sts m ov0) d f) (hf : ∀ i, i < m → ov0 i = false → f i = teller rB (vb i)) (H : Holds W0 W0.heap.size rB 0 (.slice none 0 0) []) :
    Calls Try.prog 8 #[.pointer (some ⟨n + 2, 0, none⟩), .pointer none, .int .i64 dt] W0 (AdvOrder W0 n m rB vb t d ov0) := by
  have hle := left_le ov0 d t m
  refine (adv_made (Ringing W0 n m rB vb t d ov0) n (left ov0 d t m) now dt (sts m ov0) d f h0 h1 h2 (by omega) W0 C ?_ ?_ ?_).mono ?_
  · intro w1 C1 K1
    rw [ht] at C1
    refine ⟨ov0, fun _ => 0, f, .slice none 0 0, rang_start m d t ov0 _, C1, hf, ?_, K1.mono fun _ _ h => .inl h⟩
    exact H.kept K1 hro fun g hg h => by have := h.2; omega
  · intro r w hr I
    rw [ht]
    obtain ⟨s, f', j, a, b, c, e⟩ := ring_next W0 n m rB vb t d ov0 r w hm hn H.lt hro hvb hr I
    exact ⟨s, d, f', j, a, b, c, e⟩
  · intro w I
    obtain ⟨ov, R, f', v, X, C', _⟩ := I
    rw [ht]
    exact ⟨_, _, _, C', .inl (rang_end X rfl).1⟩
  · rintro e w' ⟨rfl, w1, ⟨ov, R, f', v, X, C', hf', H', K'⟩, rfl⟩
    have k : Kept (fun b => b = n + 1) w1 (w1.setCell ⟨n + 1, 0, none⟩ (.int .i64 0)) := Kept.one w1 ⟨n + 1, 0, none⟩ _
    exact ⟨left ov0 d t m, ov, R, f', v, rfl, hle, X, C'.setBusy 0, hf', (rang_end X rfl).2, H'.kept k (fun e => hro (by rw [e]; exact ⟨by omega, by omega⟩)) (fun g hg e => by omega), K'.trans (k.mono fun b _ e => .inl (by rw [e]; exact ⟨by omega, by omega⟩))⟩

end Go.Proofs.Ytmlemofnakfpgaa

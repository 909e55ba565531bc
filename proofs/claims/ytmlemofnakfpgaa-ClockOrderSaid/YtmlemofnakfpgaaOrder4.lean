/-
  ClockOrder: what stands in memory while the timers are set.
-/
import Derived.Test.YtmlemofnakfpgaaOrder3
namespace Go.Proofs.Ytmlemofnakfpgaa
open Go.RowKit

/-- Timers 0 to ic - 1 are set, it of them are in the row tv; the variable fb holds cv. -/
structure Lay (w0 w : World) (n rB oB m ic it : Nat) (vb : Nat → Nat) (At : Nat → Int) (fb cv : Nat) (tv : Value) : Prop where
  rn : n + 35 ≤ rB ∧ n + 35 ≤ oB ∧ rB ≠ oB
  rb : Slot w rB 0 (.slice none 0 0)
  over : ∀ k, k < m → Slot w oB k (.bool false)
  clk : ∃ d f, Clk w n 0 0 (sts ic fun _ => false) d f ∧ (∀ k, k < ic → d k = dueOf (At k)) ∧ ∀ k, k < ic → f k = teller rB (vb k)
  vars : ∀ k, k < ic → w.cell? ⟨vb k, 0, none⟩ = some (.int .i64 k) ∧ vb k < w.heap.size ∧ n + 35 ≤ vb k ∧ vb k ≠ rB ∧ vb k ≠ oB
  cur : Slot w fb 0 (.int .i64 cv)
  fn : n + 35 ≤ fb ∧ fb ≠ rB ∧ fb ≠ oB
  own : w.ownsRow n 32 2 tv it (rowT it)
  far : ∀ g, tv.ownBlock = some g → n + 35 ≤ g ∧ g ≠ rB ∧ g ≠ oB ∧ g ≠ fb ∧ ∀ k, k < ic → g ≠ vb k
  kept : Kept (fun _ => False) w0 w
  n0 : w0.heap.size = n
  ol : oB < w.heap.size

theorem made_slot {w : World} {b n : Nat} {t : TypeId} (h : w.heap[b]? = some (.cells (madeCells #[.bool false] n) t)) (j : Nat) (hj : j < n) : Slot w b j (.bool false) := by
  refine ⟨?_, ?_, (Array.getElem?_eq_some_iff.1 h).1⟩
  · simp [World.cell?, h, madeCells, hj, Nat.mod_one]
  · simp [World.frozen?, h]

theorem block_last (w : World) (o : Obj) (k : Nat) (h : k = w.heap.size) : (w.alloc o).heap[k]? = some o := by
  subst h; show (w.heap.push o)[_]? = _; simp

theorem block_old (w : World) (o : Obj) (k : Nat) (h : k < w.heap.size) {x : Option Obj} (hx : w.heap[k]? = x) : (w.alloc o).heap[k]? = x := by
  rw [← hx]; show (w.heap.push o)[k]? = _; rw [Array.getElem?_push, if_neg (by omega)]

theorem sts_zero (ov : Nat → Bool) : sts 0 ov = fun _ => 0 := by funext i; unfold sts; rw [if_neg (by omega)]

theorem sts_next (i : Nat) : put (sts i fun _ => false) i 2 = sts (i + 1) fun _ => false := by
  funext k
  by_cases e : k = i
  · subst e; rw [put_same]; unfold sts; rw [if_pos (by omega)]; rfl
  · rw [put_other _ _ _ _ e]; unfold sts
    by_cases h : k < i
    · simp [h, show k < i + 1 by omega]
    · simp [h, show ¬ k < i + 1 by omega]

theorem lay_start {w0 w : World} {n m : Nat} {vb : Nat → Nat} {At : Nat → Int} (hn : w0.heap.size = n) (C : Clk w n 0 0 (fun _ => 0) (fun _ => 0) (fun _ => .nilFunc)) (B : Below n w0 w) :
    Lay w0 (((w.alloc (.cells #[.slice none 0 0] 26)).alloc (.cells (madeCells #[.bool false] m) 4)).alloc (.cells #[.int .i64 0] 3)) n w.heap.size (w.heap.size + 1) m 0 0 vb At (w.heap.size + 1 + 1) 0 (.slice none 0 0) := by
  have sz := C.size
  have k1 : Kept (fun _ => False) w (w.alloc (.cells #[.slice none 0 0] 26)) := (Kept.refl _ _).alloc _
  have k3 := (k1.alloc (.cells (madeCells #[.bool false] m) 4)).alloc (.cells #[.int .i64 0] 3)
  refine ⟨⟨by omega, by omega, by omega⟩, ⟨?_, ?_, ?_⟩, fun k hk => made_slot (n := m) (t := 4) ?_ k hk, ⟨fun _ => 0, fun _ => .nilFunc, ?_, fun k h => by omega, fun k h => by omega⟩, fun k h => by omega, ⟨?_, ?_, ?_⟩, ⟨by omega, by omega, by omega⟩, World.ownsRow_nil _ _ _ _, fun g h => (by cases h), ?_, hn, ?_⟩
  · go_simp
  · go_simp
  · simp; omega
  · exact block_old _ _ _ (by simp) (block_last _ _ _ (by simp))
  · rw [sts_zero]; exact C.kept k3 fun _ _ => id
  · go_simp
  · go_simp
  · simp
  · exact (Kept.ofBelow B (by omega) _).trans k3
  · simp

theorem Lay.carry {S : Nat → Prop} {w0 w w' : World} {n rB oB m ic it fb cv : Nat} {vb : Nat → Nat} {At : Nat → Int} {tv : Value} (X : Lay w0 w n rB oB m ic it vb At fb cv tv) (k : Kept S w w') (hs : ∀ b, ¬ S b) : Lay w0 w' n rB oB m ic it vb At fb cv tv := by
  obtain ⟨d, f, C, h1, h2⟩ := X.clk
  refine ⟨X.rn, X.rb.kept k (hs _), fun j hj => (X.over j hj).kept k (hs _), ⟨d, f, C.kept k fun b _ => hs b, h1, h2⟩, fun j hj => ?_, X.cur.kept k (hs _), X.fn, own_kept X.own k fun g _ => hs g, X.far, X.kept.trans (k.mono fun b _ h => (hs b h).elim), X.n0, Nat.lt_of_lt_of_le X.ol k.size⟩
  obtain ⟨a, b, c⟩ := X.vars j hj
  exact ⟨(k.cell (p := ⟨vb j, 0, none⟩) b (hs _)).trans a, Nat.lt_of_lt_of_le b k.size, c⟩

theorem Lay.alloc {w0 w : World} {n rB oB m ic it fb cv : Nat} {vb : Nat → Nat} {At : Nat → Int} {tv : Value} (X : Lay w0 w n rB oB m ic it vb At fb cv tv) (o : Obj) : Lay w0 (w.alloc o) n rB oB m ic it vb At fb cv tv :=
  X.carry (S := fun _ => False) ((Kept.refl _ _).alloc _) fun _ => id

/-- Behind a Set. -/
theorem lay_set {w0 w w' : World} {n rB oB m i fb : Nat} {vb : Nat → Nat} {At : Nat → Int} {tv : Value} {d : Nat → Int} {f : Nat → Value} (X : Lay w0 w n rB oB m i i vb At fb i tv)
    (C : Clk w' n 0 0 (put (sts i fun _ => false) i 2) (put d i (dueOf (At i))) (put f i (teller rB fb))) (hd : ∀ k, k < i → d k = dueOf (At k)) (hf : ∀ k, k < i → f k = teller rB (vb k)) (k : Kept (Own n) w w') :
    Lay w0 w' n rB oB m (i + 1) i (put vb i fb) At fb i tv := by
  obtain ⟨r1, r2, r3⟩ := X.rn
  obtain ⟨f1, f2, f3⟩ := X.fn
  have h0 := X.n0
  have ho : ∀ b, n + 35 ≤ b → ¬ Own n b := fun b hb h => by have := h.2; omega
  rw [sts_next] at C
  refine ⟨X.rn, X.rb.kept k (ho _ r1), fun j hj => (X.over j hj).kept k (ho _ r2), ⟨_, _, C, fun j hj => ?_, fun j hj => ?_⟩, fun j hj => ?_, X.cur.kept k (ho _ f1), X.fn, own_kept X.own k fun g hg => ho _ (X.far g hg).1, fun g hg => ?_, ?_, h0, Nat.lt_of_lt_of_le X.ol k.size⟩
  · by_cases e : j = i
    · subst e; rw [put_same]
    · rw [put_other _ _ _ _ e]; exact hd j (by omega)
  · by_cases e : j = i
    · subst e; rw [put_same, put_same]
    · rw [put_other _ _ _ _ e, put_other _ _ _ _ e]; exact hf j (by omega)
  · by_cases e : j = i
    · subst e; rw [put_same]
      have := X.cur.kept k (ho _ f1)
      exact ⟨this.c, this.lt, X.fn⟩
    · rw [put_other _ _ _ _ e]
      obtain ⟨a, b, c, d⟩ := X.vars j (by omega)
      exact ⟨(k.cell (p := ⟨vb j, 0, none⟩) b (ho _ c)).trans a, Nat.lt_of_lt_of_le b k.size, c, d⟩
  · obtain ⟨a, b, c, d, e⟩ := X.far g hg
    refine ⟨a, b, c, d, fun j hj => ?_⟩
    by_cases ej : j = i
    · subst ej; rw [put_same]; exact d
    · rw [put_other _ _ _ _ ej]; exact e j (by omega)
  · exact Kept.ofBelow (Kept.below (B := w0.heap.size) (X.kept.mono (T := fun c => w0.heap.size ≤ c) (fun _ _ f => f.elim) |>.trans (k.mono fun c _ e => by have := e.1; omega)) (Nat.le_refl _) fun _ h => h) (Nat.le_refl _) _

/-- Behind the append. -/
theorem lay_app {w0 w w' : World} {n rB oB m i fb g cap : Nat} {vb : Nat → Nat} {At : Nat → Int} {tv : Value} {o : Obj} (X : Lay w0 w n rB oB m (i + 1) i vb At fb i tv) (hsz : n + 35 ≤ w.heap.size)
    (own' : w'.ownsRow n 32 2 (.slice (some ⟨g, 0, none⟩) (i + 1) cap) (i + 1) (rowT i ++ [.int .i64 i, .int .i64 2])) (grown' : (w.alloc o).grownBy w' tv.ownBlock) (lies' : tv.ownBlock = some g ∨ g = w.heap.size + 1) :
    Lay w0 w' n rB oB m (i + 1) (i + 1) vb At fb i (.slice (some ⟨g, 0, none⟩) (i + 1) cap) := by
  have h0 := X.n0
  have ka : Kept (fun _ => False) w (w.alloc o) := (Kept.refl _ _).alloc _
  have k : Kept (fun b => tv.ownBlock = some b) w w' := (ka.mono fun _ _ f => f.elim).trans (kept_grown grown')
  have Y := X.far
  obtain ⟨d, f, C, h1, h2⟩ := X.clk
  have nr : ∀ b, (∀ g, tv.ownBlock = some g → g ≠ b) → ¬ tv.ownBlock = some b := fun b h e => h b e rfl
  refine ⟨X.rn, X.rb.kept k (nr _ fun g hg => (Y g hg).2.1), fun j hj => (X.over j hj).kept k (nr _ fun g hg => (Y g hg).2.2.1), ⟨d, f, C.kept k fun b hb e => by have := (Y b e).1; have := hb.2; omega, h1, h2⟩, fun j hj => ?_, X.cur.kept k (nr _ fun g hg => (Y g hg).2.2.2.1), X.fn, own', fun g' hg' => ?_, ?_, h0, Nat.lt_of_lt_of_le X.ol k.size⟩
  · obtain ⟨a, b, c⟩ := X.vars j hj
    exact ⟨(k.cell (p := ⟨vb j, 0, none⟩) b (nr _ fun g hg => (Y g hg).2.2.2.2 j hj)).trans a, Nat.lt_of_lt_of_le b k.size, c⟩
  · obtain rfl : g' = g := by simpa [Value.ownBlock] using hg'.symm
    rcases lies' with e | e
    · exact Y _ e
    · have r1 := X.rb.lt
      have r3 := X.cur.lt
      have r2 := X.ol
      exact ⟨by omega, by omega, by omega, by omega, fun j hj => by have := (X.vars j hj).2.1; omega⟩
  · exact Kept.ofBelow (Kept.below (B := w0.heap.size) (X.kept.mono (T := fun c => w0.heap.size ≤ c) (fun _ _ f => f.elim) |>.trans (k.mono fun c _ e => by have := (Y c e).1; omega)) (Nat.le_refl _) fun _ h => h) (Nat.le_refl _) _

/-- The variable of the next round. -/
theorem lay_next {w0 w : World} {n rB oB m ic it fb cv : Nat} {vb : Nat → Nat} {At : Nat → Int} {tv : Value} (X : Lay w0 w n rB oB m ic it vb At fb cv tv) (c : Nat) (ci : Int) (hc : ci = c) : Lay w0 (w.alloc (.cells #[.int .i64 ci] 3)) n rB oB m ic it vb At w.heap.size c tv := by
  subst hc
  have Y := X.alloc (.cells #[.int .i64 c] 3)
  have r1 := X.rb.lt
  have r2 := X.ol
  have r3 := X.cur.lt
  have r4 := X.fn
  have r5 := X.rn
  refine ⟨Y.rn, Y.rb, Y.over, Y.clk, Y.vars, ⟨by go_simp, by go_simp, by simp⟩, ⟨by omega, by omega, by omega⟩, Y.own, fun g hg => ?_, Y.kept, Y.n0, Y.ol⟩
  obtain ⟨a, b, c, d, e⟩ := X.far g hg
  have := (X.own.lt g hg).2
  exact ⟨a, b, c, by omega, e⟩

/-- Behind loop 1. -/
theorem lay_end {w0 w : World} {n rB oB m fb cv : Nat} {vb : Nat → Nat} {At : Nat → Int} {tv : Value} (X : Lay w0 w n rB oB m m m vb At fb cv tv) :
    ∃ tB d, (0 < m → ∃ cap, tv = .slice (some ⟨tB, 0, none⟩) m cap) ∧ Rest w0 w n rB oB tB m vb (fun _ => false) ∧ Cl w n rB m vb 0 d (fun _ => false) ∧ ∀ k, k < m → d k = dueOf (At k) := by
  obtain ⟨d, f, C, h1, h2⟩ := X.clk
  obtain ⟨r1, r2, r3⟩ := X.rn
  have key : ∃ tB, (0 < m → ∃ cap, tv = .slice (some ⟨tB, 0, none⟩) m cap) ∧ n + 35 ≤ tB ∧ rB ≠ tB ∧ oB ≠ tB := by
    by_cases hm : 0 < m
    · rcases X.own.2 with ⟨_, h⟩ | ⟨g, cap, cur, hv, _⟩
      · omega
      · obtain ⟨a, b, c, _⟩ := X.far g (by rw [hv]; rfl)
        exact ⟨g, fun _ => ⟨cap, hv⟩, a, fun e => b e.symm, fun e => c e.symm⟩
    · exact ⟨n + 35 + rB + oB + 1, fun h => absurd h hm, by omega, by omega, by omega⟩
  obtain ⟨tB, ht, t1, t2, t3⟩ := key
  refine ⟨tB, d, ht, ⟨⟨r1, r2, t1, r3, t2, t3⟩, ⟨_, X.rb⟩, X.over, fun k hk => ?_, X.vars, X.kept, X.n0⟩, ⟨f, C, fun k hk _ => h2 k hk⟩, h1⟩
  obtain ⟨cap, hv⟩ := ht (by omega)
  have ho := X.own
  rw [hv] at ho
  have hz := (ho.lt tB rfl).2
  obtain ⟨a, b⟩ := rowT_at m k hk
  exact ⟨⟨(ho.cellAt (k * 2) (by omega)).trans a, ho.frozenAt _, hz⟩, ⟨(ho.cellAt (k * 2 + 1) (by omega)).trans b, ho.frozenAt _, hz⟩⟩

end Go.Proofs.Ytmlemofnakfpgaa

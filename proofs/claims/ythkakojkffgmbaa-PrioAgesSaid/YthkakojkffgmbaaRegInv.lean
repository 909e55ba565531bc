/-
  A region that draws its order, by an invariant over what has come up: one proof an operation, whatever the order.
-/
import Derived.Test.YthkakojkffgmbaaKept
import Derived.Orders
namespace Go.Proofs.Ythkakojkffgmbaa
open Go Go.RowKit

section
variable {P : Program} {ops : Array Oper} {Q : Exit → Act → World → Prop} {md : Region.Mode}

/-- Number i has come up. -/
def On (l : Array Bool) (i : Nat) : Prop := l.getD i true = true

theorem on_same (l : Array Bool) (i : Nat) : On (l.setIfInBounds i true) i := by
  unfold On
  by_cases h : i < l.size <;> simp [h]

theorem on_other {l : Array Bool} {i j : Nat} (h : i ≠ j) : On (l.setIfInBounds i true) j ↔ On l j := by
  unfold On
  rw [getD_set_ne true h]

theorem getD_false_of {l : Array Bool} {i : Nat} (h : l.getD i true = true) (hi : i < l.size) : l.getD i false = true := by
  simp [hi] at h ⊢
  exact h

theorem on_of {l : Array Bool} {i : Nat} (h : l.getD i false = true) : On l i := by
  unfold On
  by_cases hi : i < l.size
  · simp [hi] at h ⊢; exact h
  · simp [hi] at h

theorem all_listed (hedge : ∀ (i : Nat) (o : Oper), ops[i]? = some o → ∀ e ∈ o.after, Region.binds md e = true → e.on < i) (l : Array Bool) (hs : l.size = ops.size) (h : Region.ready md ops l = []) : ∀ n i, i < n → i < ops.size → l.getD i true = true := by
  intro n
  induction n with
  | zero => intro i hi; omega
  | succ n ih =>
    intro i hi hlt
    by_cases e : i < n
    · exact ih i e hlt
    · have hin : i = n := by omega
      subst hin
      cases hb : l.getD i true with
      | true => rfl
      | false =>
        have hm : i ∈ Region.ready md ops l := mem_ready.2 ⟨hb, ops[i], by simp [hlt], fun e he hbd => by
          have h1 := hedge i ops[i] (by simp [hlt]) e he hbd
          exact getD_false_of (ih e.on h1 (by omega)) (by omega)⟩
        rw [h] at hm
        cases hm

theorem count_less (l : Array Bool) (i : Nat) (h : l.getD i true = false) : (l.setIfInBounds i true).toList.count false + 1 = l.toList.count false := by
  have hi : i < l.size := by
    apply Classical.byContradiction
    intro hn
    simp [hn] at h
  have hb : l.toList[i]'(by simpa using hi) = false := by simpa [hi] using h
  simp only [Array.toList_setIfInBounds]
  have h2 : l.toList.count false = ((l.toList.take i ++ false :: l.toList.drop (i + 1)).count false) := by
    conv => lhs; rw [← List.take_append_drop i l.toList, List.drop_eq_getElem_cons (by simpa using hi), hb]
  rw [h2, List.set_eq_take_append_cons_drop, if_pos (by simpa using hi)]
  simp [List.count_append, List.count_cons]
  omega

theorem wpAny_inv (Inv : Array Bool → Act → World → Prop) (hedge : ∀ (i : Nat) (o : Oper), ops[i]? = some o → ∀ e ∈ o.after, Region.binds md e = true → e.on < i)
    (hstep : ∀ (i : Nat) (o : Oper) (l : Array Bool) (a : Act) (w : World) (K : Act → World → Prop), ops[i]? = some o → l.size = ops.size → ¬ On l i → (∀ e ∈ o.after, Region.binds md e = true → On l e.on) → Inv l a w →
      (∀ a' w', Inv (l.setIfInBounds i true) a' w' → K a' w') → if Region.wanted o (yielded ops a.tmps) = true then Oper.wp P o a w K Q else K (a.put o.dst undef) w)
    (hdone : ∀ (l : Array Bool) (a : Act) (w : World), (∀ i, i < ops.size → On l i) → Inv l a w → Q .normal a w) :
    ∀ (fuel : Nat) (l : Array Bool) (a : Act) (w : World), l.size = ops.size → l.toList.count false ≤ fuel → Inv l a w → wpAny P md ops Q fuel l a w := by
  intro fuel
  induction fuel with
  | zero =>
    intro l a w hs hf hI
    have hr : Region.ready md ops l = [] := by
      apply List.eq_nil_iff_forall_not_mem.2
      intro i hi
      have := count_less l i (mem_ready.1 hi).1
      omega
    exact ⟨hr, hdone l a w (fun i hi => all_listed hedge l hs hr (i + 1) i (by omega) hi) hI⟩
  | succ fuel ih =>
    intro l a w hs hf hI
    refine ⟨fun hr => hdone l a w (fun i hi => all_listed hedge l hs hr (i + 1) i (by omega) hi) hI, fun i hi => ?_⟩
    obtain ⟨h0, o, ho, hall⟩ := mem_ready.1 hi
    have hc := count_less l i h0
    have h := hstep i o l a w (wpAny P md ops Q fuel (l.setIfInBounds i true)) ho hs (by unfold On; rw [h0]; decide) (fun e he hb => on_of (hall e he hb)) hI (fun a' w' hI' => ih _ a' w' (by simpa using hs) (by omega) hI')
    unfold wpOp
    simp only [ho]
    split
    · rename_i hw; rw [if_pos hw] at h; exact .inl h
    · rename_i hw; rw [if_neg hw] at h; exact h

/-- Each operation waits for earlier ones alone, as far as an edge binds. -/
def edges (ops : Array Oper) : Bool := (List.range ops.size).all fun i => ((ops[i]?).map fun o => o.after.all fun e => !(Region.binds .any e) || decide (e.on < i)).getD true

theorem edges_of (h : edges ops = true) (i : Nat) (o : Oper) (ho : ops[i]? = some o) : ∀ e ∈ o.after, Region.binds .any e = true → e.on < i := by
  intro e he hb
  have hi : i < ops.size := (Array.getElem?_eq_some_iff.1 ho).1
  have h1 := List.all_eq_true.1 h i (List.mem_range.2 hi)
  simp only [ho, Option.map_some, Option.getD_some] at h1
  have h2 := (Array.all_eq_true_iff_forall_mem.1 h1) e he
  simp only [hb, Bool.not_true, Bool.false_or] at h2
  exact of_decide_eq_true h2

/-- THE REGION, BY AN INVARIANT. -/
theorem region_inv {id : Nat} {a : Act} {w : World} (Inv : Array Bool → Act → World → Prop) (hm : P.follows .mixedOrders = true) (hedge : edges ops = true)
    (h0 : Inv (Array.replicate ops.size false) a w.drew)
    (hstep : ∀ (i : Nat) (o : Oper) (l : Array Bool) (a : Act) (w : World) (K : Act → World → Prop), ops[i]? = some o → l.size = ops.size → ¬ On l i → (∀ e ∈ o.after, Region.binds .any e = true → On l e.on) → Inv l a w →
      (∀ a' w', Inv (l.setIfInBounds i true) a' w' → K a' w') → if Region.wanted o (yielded ops a.tmps) = true then Oper.wp P o a w K Q else K (a.put o.dst undef) w)
    (hdone : ∀ (l : Array Bool) (a : Act) (w : World), (∀ i, i < ops.size → On l i) → Inv l a w → Q .normal a w) : (Code.region id ops true).wp P Q a w :=
  wp_region_any hm (wpAny_inv Inv (edges_of hedge) hstep hdone ops.size _ a w.drew (by simp) (by simp) h0)

end

/-- The label c for all blocks that are new between two worlds. -/
def lup (lab : Nat → Nat) (w w' : World) (c : Nat) : Nat → Nat := fun b => if w.heap.size ≤ b ∧ b < w'.heap.size then c else lab b

theorem lup_old {lab : Nat → Nat} {w w' : World} {c b : Nat} (h : b < w.heap.size) : lup lab w w' c b = lab b := by unfold lup; rw [if_neg (by omega)]
theorem lup_new {lab : Nat → Nat} {w w' : World} {c b : Nat} (h1 : w.heap.size ≤ b) (h2 : b < w'.heap.size) : lup lab w w' c b = c := by unfold lup; rw [if_pos ⟨h1, h2⟩]

/-- What a region has made so far, by labels. -/
structure RB (w0 w : World) (lab : Nat → Nat) : Prop where
  k : Kept (fun _ => False) w0 w
  lo : ∀ b, lab b ≠ 0 → w0.heap.size ≤ b ∧ b < w.heap.size

theorem RB.fresh {w0 w w' : World} {lab : Nat → Nat} (h : RB w0 w lab) (k : Kept (fun _ => False) w w') (c : Nat) : RB w0 w' (lup lab w w' c) := by
  refine ⟨h.k.trans k, fun b hb => ?_⟩
  have h1 := h.k.size
  have h2 := k.size
  by_cases e : w.heap.size ≤ b ∧ b < w'.heap.size
  · omega
  · unfold lup at hb
    rw [if_neg e] at hb
    have := h.lo b hb
    omega

theorem RB.store {w0 w : World} {lab : Nat → Nat} (h : RB w0 w lab) (p : Addr) (hp : lab p.block ≠ 0) (u : Value) : RB w0 (w.setCell p u) lab :=
  ⟨h.k.setCell p (.inr (h.lo _ hp).1) u, fun b hb => by simpa using h.lo b hb⟩

def FBox (x : Value) (w : World) (lab : Nat → Nat) (c : Nat) : Prop := ∃ (b : Nat) (u : Value), x = .pointer (some ⟨b, 0, none⟩) ∧ Slot w b 0 u ∧ lab b = c
def FSet (x y : Value) (w : World) (lab : Nat → Nat) (c : Nat) : Prop := ∃ b : Nat, x = .pointer (some ⟨b, 0, none⟩) ∧ Slot w b 0 y ∧ lab b = c
def FRow (x : Value) (m : Nat) (z : Value) (w : World) (lab : Nat → Nat) (c : Nat) : Prop := ∃ E : Nat, x = .slice (some ⟨E, 0, none⟩) m m ∧ (∀ i, i < m → Slot w E i z) ∧ E < w.heap.size ∧ lab E = c

theorem FBox.fresh {x : Value} {w w' : World} {lab : Nat → Nat} {c d : Nat} (h : FBox x w lab c) (k : Kept (fun _ => False) w w') : FBox x w' (lup lab w w' d) c := by
  obtain ⟨b, u, e, s, l⟩ := h
  exact ⟨b, u, e, s.kept k id, by rw [lup_old s.lt]; exact l⟩

theorem FSet.fresh {x y : Value} {w w' : World} {lab : Nat → Nat} {c d : Nat} (h : FSet x y w lab c) (k : Kept (fun _ => False) w w') : FSet x y w' (lup lab w w' d) c := by
  obtain ⟨b, e, s, l⟩ := h
  exact ⟨b, e, s.kept k id, by rw [lup_old s.lt]; exact l⟩

theorem FRow.fresh {x z : Value} {m : Nat} {w w' : World} {lab : Nat → Nat} {c d : Nat} (h : FRow x m z w lab c) (k : Kept (fun _ => False) w w') : FRow x m z w' (lup lab w w' d) c := by
  obtain ⟨b, e, s, lt, l⟩ := h
  exact ⟨b, e, fun i hi => (s i hi).kept k id, Nat.lt_of_lt_of_le lt k.size, by rw [lup_old lt]; exact l⟩

theorem FBox.store {x : Value} {w : World} {lab : Nat → Nat} {c : Nat} (h : FBox x w lab c) (a : Nat) (v : Value) : FBox x (w.setCell ⟨a, 0, none⟩ v) lab c := by
  obtain ⟨b, u, e, s, l⟩ := h
  by_cases hb : b = a
  · subst hb; exact ⟨b, v, e, s.set v, l⟩
  · exact ⟨b, u, e, s.far _ _ hb, l⟩

theorem FSet.store {x y : Value} {w : World} {lab : Nat → Nat} {c : Nat} (h : FSet x y w lab c) (a : Nat) (hn : lab a ≠ c) (v : Value) : FSet x y (w.setCell ⟨a, 0, none⟩ v) lab c := by
  obtain ⟨b, e, s, l⟩ := h
  exact ⟨b, e, s.far _ _ (fun hb => hn (by rw [← l, hb])), l⟩

theorem FRow.store {x z : Value} {m : Nat} {w : World} {lab : Nat → Nat} {c : Nat} (h : FRow x m z w lab c) (a : Nat) (hn : lab a ≠ c) (v : Value) : FRow x m z (w.setCell ⟨a, 0, none⟩ v) lab c := by
  obtain ⟨b, e, s, lt, l⟩ := h
  exact ⟨b, e, fun i hi => (s i hi).far _ _ (fun hb => hn (by rw [← l, hb])), by simpa using lt, l⟩

end Go.Proofs.Ythkakojkffgmbaa

/-
  LimitOrder: looks and numbers, without worlds; rows.
-/
import Derived.Test.YtkbcpifhbpfhlaaGreatDoorLim8
import Derived.Deep.AppendLies
namespace Go.Proofs.YtkbcpifhbpfhlaaGreatDoor
open Go.RowKit

/-- The states of m timers: 4 of one that is over, 2 of one that is set. -/
def sts (m : Nat) (ov : Nat → Bool) : Nat → Int := fun i => if i < m then (if ov i then 4 else 2) else 0

theorem sts_set (m : Nat) (ov : Nat → Bool) (i : Nat) : (sts m ov i).tmod 4 = 2 ↔ i < m ∧ ov i = false := by
  unfold sts
  by_cases h : i < m
  · rw [if_pos h]
    cases hv : ov i
    · simp [h]
    · simp
  · rw [if_neg h]; simp [h]

theorem sts_two {m : Nat} {ov : Nat → Bool} {i : Nat} (h : i < m) (hv : ov i = false) : sts m ov i = 2 := by
  unfold sts; rw [if_pos h, hv]; rfl

theorem sts_four {m : Nat} {ov : Nat → Bool} {i : Nat} (h : i < m) (hv : ov i = true) : sts m ov i = 4 := by
  unfold sts; rw [if_pos h, hv]; rfl

theorem sts_put {m : Nat} {ov : Nat → Bool} {j : Nat} (h : j < m) : put (sts m ov) j 4 = sts m (put ov j true) := by
  funext i
  by_cases e : i = j
  · subst e; rw [put_same, sts_four h (put_same _ _ _)]
  · rw [put_other _ _ _ _ e]; unfold sts; rw [put_other _ _ _ _ e]

/-- a is ahead of b. -/
def before (d : Nat → Int) (a b : Nat) : Prop := d a < d b ∨ d a = d b ∧ a < b

theorem look_none {s d : Nat → Int} {t : Int} : ∀ {k : Nat}, look s d t k = none → ∀ i, i < k → (s i).tmod 4 = 2 → t < d i
  | 0, _, i, hi, _ => by omega
  | k + 1, h, i, hi, hs => by
    unfold look at h
    split at h
    · cases h
    · rename_i hc
      by_cases e : i = k
      · subst e
        rw [h] at hc
        have : ¬ d i < t + 1 := fun hh => hc ⟨hs, hh⟩
        omega
      · exact look_none h i (by omega) hs

theorem look_some {s d : Nat → Int} {t : Int} : ∀ {k j : Nat}, look s d t k = some j → j < k ∧ (s j).tmod 4 = 2 ∧ d j ≤ t ∧ ∀ i, i < k → (s i).tmod 4 = 2 → i ≠ j → before d j i
  | 0, j, h => by cases h
  | k + 1, j, h => by
    unfold look at h
    split at h
    · rename_i hc
      obtain rfl : k = j := by simpa using h
      have h2 := hc.2
      cases hl : look s d t k with
      | none =>
        rw [hl] at h2
        have h3 : d k < t + 1 := h2
        refine ⟨by omega, hc.1, by omega, fun i hi hs hne => .inl ?_⟩
        have := look_none hl i (by omega) hs
        omega
      | some j' =>
        rw [hl] at h2
        have h3 : d k < d j' := h2
        obtain ⟨a1, a2, a3, a4⟩ := look_some hl
        refine ⟨by omega, hc.1, by omega, fun i hi hs hne => .inl ?_⟩
        by_cases e : i = j'
        · subst e; exact h3
        · rcases a4 i (by omega) hs e with h | ⟨h, _⟩ <;> omega
    · rename_i hc
      obtain ⟨a1, a2, a3, a4⟩ := look_some h
      refine ⟨by omega, a2, a3, fun i hi hs hne => ?_⟩
      by_cases e : i = k
      · subst e
        rw [h] at hc
        have : ¬ d i < d j := fun hh => hc ⟨hs, hh⟩
        rcases Int.lt_or_le (d j) (d i) with g | g
        · exact .inl g
        · exact .inr ⟨by omega, by omega⟩
      · exact a4 i (by omega) hs hne

/-- How many of the first k are to ring. -/
def left (ov : Nat → Bool) (d : Nat → Int) (t : Int) : Nat → Nat
  | 0 => 0
  | k + 1 => left ov d t k + if ov k = false ∧ d k ≤ t then 1 else 0

theorem left_le (ov : Nat → Bool) (d : Nat → Int) (t : Int) : ∀ k, left ov d t k ≤ k
  | 0 => Nat.le_refl _
  | k + 1 => by have := left_le ov d t k; unfold left; split <;> omega

theorem left_congr {ov ov' : Nat → Bool} {d : Nat → Int} {t : Int} : ∀ {k : Nat}, (∀ i, i < k → ov i = ov' i) → left ov d t k = left ov' d t k
  | 0, _ => rfl
  | k + 1, h => by unfold left; rw [left_congr fun i hi => h i (by omega), h k (by omega)]

theorem left_put {ov : Nat → Bool} {d : Nat → Int} {t : Int} {j : Nat} (hj : ov j = false) (hd : d j ≤ t) : ∀ {k : Nat}, j < k → left (put ov j true) d t k + 1 = left ov d t k
  | 0, h => by omega
  | k + 1, h => by
    unfold left
    by_cases e : j = k
    · subst e
      rw [put_same, if_neg (by simp), if_pos ⟨hj, hd⟩, left_congr (ov' := ov) fun i hi => put_other _ _ _ _ (by omega)]
    · rw [put_other _ _ _ _ (fun h => e h.symm), ← left_put hj hd (show j < k by omega)]
      omega

theorem left_pos {ov : Nat → Bool} {d : Nat → Int} {t : Int} {i : Nat} (hv : ov i = false) (hd : d i ≤ t) : ∀ {k : Nat}, i < k → 0 < left ov d t k
  | 0, h => by omega
  | k + 1, h => by
    unfold left
    by_cases e : i = k
    · subst e; rw [if_pos ⟨hv, hd⟩]; omega
    · have := left_pos hv hd (show i < k by omega); omega

theorem left_zero {ov : Nat → Bool} {d : Nat → Int} {t : Int} : ∀ {k : Nat}, (∀ i, i < k → ov i = false → t < d i) → left ov d t k = 0
  | 0, _ => rfl
  | k + 1, h => by
    unfold left
    rw [left_zero fun i hi => h i (by omega), if_neg]
    rintro ⟨a, b⟩
    have := h k (by omega) a
    omega

/-- Who has come to an end. -/
def ovf (en : Nat → Nat) : Nat → Bool := fun i => en i != 0

theorem ovf_zero {en : Nat → Nat} {i : Nat} (h : en i = 0) : ovf en i = false := by simp [ovf, h]
theorem ovf_not {en : Nat → Nat} {i : Nat} (h : ¬ en i = 0) : ovf en i = true := by simp [ovf, h]
theorem ovf_false {en : Nat → Nat} {i : Nat} (h : ovf en i = false) : en i = 0 := by simpa [ovf] using h
theorem ovf_put (en : Nat → Nat) (j x : Nat) (hx : x ≠ 0) : ovf (put en j x) = put (ovf en) j true := by
  funext i
  by_cases e : i = j
  · subst e; rw [put_same]; exact ovf_not (by rw [put_same]; exact hx)
  · rw [put_other _ _ _ _ e]; unfold ovf; rw [put_other _ _ _ _ e]

theorem sts_next (i : Nat) (ov : Nat → Bool) (h : ov i = false) : put (sts i ov) i 2 = sts (i + 1) ov := by
  funext k
  by_cases e : k = i
  · subst e; rw [put_same, sts_two (by omega) h]
  · rw [put_other _ _ _ _ e]; unfold sts
    by_cases hk : k < i
    · simp [hk, show k < i + 1 by omega]
    · simp [hk, show ¬ k < i + 1 by omega]

theorem sts_zero (ov : Nat → Bool) : sts 0 ov = fun _ => 0 := by funext i; unfold sts; rw [if_neg (by omega)]

theorem sts_free (i : Nat) (ov : Nat → Bool) (h : ∀ k, k < i → ov k = false) : (∀ k, k < i → ¬ (sts i ov k).tmod 4 = 0) ∧ sts i ov i = 0 := by
  refine ⟨fun k hk => ?_, ?_⟩
  · rw [sts_two hk (h k hk)]; decide
  · unfold sts; rw [if_neg (by omega)]

theorem tmod_range (x : Int) (k : Int) (hk : 0 < k) : -k < x.tmod k ∧ x.tmod k < k := ⟨Int.lt_tmod_of_pos x hk, Int.tmod_lt_of_pos x hk⟩

/-- A number brought into 0 to n - 1. -/
def atOf (n x : Int) : Int := if x.tmod n < 0 then x.tmod n + n else x.tmod n

theorem at_range (n x : Int) (hn : 0 < n) : 0 ≤ atOf n x ∧ atOf n x < n := by
  have := tmod_range x n hn
  unfold atOf; split <;> omega

theorem at_neg {n x : Int} (h : x.tmod n < 0) : atOf n x = x.tmod n + n := by unfold atOf; rw [if_pos h]
theorem at_pos {n x : Int} (h : ¬ x.tmod n < 0) : atOf n x = x.tmod n := by unfold atOf; rw [if_neg h]

theorem own_kept {S : Nat → Prop} {w w' : World} {base n : Nat} {e : TypeId} {size : Nat} {v : Value} {xs : List Value} (h : w.ownsRow base e size v n xs) (k : Kept S w w') (hs : ∀ g, v.ownBlock = some g → ¬ S g) : w'.ownsRow base e size v n xs := by
  refine ⟨h.1, ?_⟩
  rcases h.2 with hn | ⟨g, cap, cur, rfl, hb, hg, rest⟩
  · exact .inl hn
  · exact .inr ⟨g, cap, cur, rfl, hb, (k.block g (Array.getElem?_eq_some_iff.1 hg).1 (hs g rfl)).trans hg, rest⟩

theorem kept_grown {w w' : World} {row : Option Nat} (h : w.grownBy w' row) : Kept (fun b => row = some b) w w' :=
  ⟨h.os, h.tape, h.output, h.size, fun k hk hs => h.block k hk fun e => hs e.symm⟩

theorem later_add {now dt : Int} (h0 : 0 ≤ now) (h1 : now ≤ 12000) (h2 : dt < 300) : later now dt = now + dt := by
  unfold later; omega

theorem at_walk (n x : Int) (hn : 0 < n) (hn2 : n ≤ 1000) (w : World) : Calls Tryz.prog 15 #[.int .i64 x, .int .i64 n] w fun e w' => e = .returned (.int .i64 (atOf n x)) ∧ w = w' := by
  have hr := tmod_range x n hn
  have hne : ¬ n = 0 := by omega
  by_cases h : x.tmod n < 0
  · have e0 := Lib.hid (at_neg h)
    have e1 : wrap64 (x.tmod n + n) = x.tmod n + n := by unfold wrap64; omega
    go_enter Tryz.func15, Tryz.ntmps15
    go_wp2_with fail
    go_ret
    rw [e0.out]
    exact ⟨rfl, rfl⟩
  · have e0 := Lib.hid (at_pos h)
    go_enter Tryz.func15, Tryz.ntmps15
    go_wp2_with fail
    go_ret
    rw [e0.out]
    exact ⟨rfl, rfl⟩

end Go.Proofs.YtkbcpifhbpfhlaaGreatDoor

/-
  ClockOrder: looks in a row, without worlds.
-/
import Derived.Test.YtmlemofnakfpgaaClock9
namespace Go.Proofs.Ytmlemofnakfpgaa
open Go.RowKit

/-- The states of m timers: 4 of one that is over, 2 of one that is set. -/
def sts (m : Nat) (ov : Nat → Bool) : Nat → Int := fun i => if i < m then (if ov i then 4 else 2) else 0

theorem sts_set (m : Nat) (ov : Nat → Bool) (i : Nat) : (sts m ov i).tmod 4 = 2 ↔ i < m ∧ ov i = false := by
  unfold sts
  by_cases h : i < m
  · rw [if_pos h]
    cases hv : ov i
    · simp [h]
    · simp
  · rw [if_neg h]; simp [h]

theorem sts_two {m : Nat} {ov : Nat → Bool} {i : Nat} (h : i < m) (hv : ov i = false) : sts m ov i = 2 := by
  unfold sts; rw [if_pos h, hv]; rfl

theorem sts_four {m : Nat} {ov : Nat → Bool} {i : Nat} (h : i < m) (hv : ov i = true) : sts m ov i = 4 := by
  unfold sts; rw [if_pos h, hv]; rfl

theorem sts_put {m : Nat} {ov : Nat → Bool} {j : Nat} (h : j < m) : put (sts m ov) j 4 = sts m (put ov j true) := by
  funext i
  by_cases e : i = j
  · subst e; rw [put_same, sts_four h (put_same _ _ _)]
  · rw [put_other _ _ _ _ e]; unfold sts; rw [put_other _ _ _ _ e]

/-- a is ahead of b. -/
def before (d : Nat → Int) (a b : Nat) : Prop := d a < d b ∨ d a = d b ∧ a < b

theorem look_none {s d : Nat → Int} {t : Int} : ∀ {k : Nat}, look s d t k = none → ∀ i, i < k → (s i).tmod 4 = 2 → t < d i
  | 0, _, i, hi, _ => by omega
  | k + 1, h, i, hi, hs => by
    unfold look at h
    split at h
    · cases h
    · rename_i hc
      by_cases e : i = k
      · subst e
        rw [h] at hc
        have : ¬ d i < t + 1 := fun hh => hc ⟨hs, hh⟩
        omega
      · exact look_none h i (by omega) hs

theorem look_some {s d : Nat → Int} {t : Int} : ∀ {k j : Nat}, look s d t k = some j → j < k ∧ (s j).tmod 4 = 2 ∧ d j ≤ t ∧ ∀ i, i < k → (s i).tmod 4 = 2 → i ≠ j → before d j i
  | 0, j, h => by cases h
  | k + 1, j, h => by
    unfold look at h
    split at h
    · rename_i hc
      obtain rfl : k = j := by simpa using h
      have h2 := hc.2
      cases hl : look s d t k with
      | none =>
        rw [hl] at h2
        have h3 : d k < t + 1 := h2
        refine ⟨by omega, hc.1, by omega, fun i hi hs hne => .inl ?_⟩
        have := look_none hl i (by omega) hs
        omega
      | some j' =>
        rw [hl] at h2
        have h3 : d k < d j' := h2
        obtain ⟨a1, a2, a3, a4⟩ := look_some hl
        refine ⟨by omega, hc.1, by omega, fun i hi hs hne => .inl ?_⟩
        by_cases e : i = j'
        · subst e; exact h3
        · rcases a4 i (by omega) hs e with h | ⟨h, _⟩ <;> omega
    · rename_i hc
      obtain ⟨a1, a2, a3, a4⟩ := look_some h
      refine ⟨by omega, a2, a3, fun i hi hs hne => ?_⟩
      by_cases e : i = k
      · subst e
        rw [h] at hc
        have : ¬ d i < d j := fun hh => hc ⟨hs, hh⟩
        rcases Int.lt_or_le (d j) (d i) with g | g
        · exact .inl g
        · exact .inr ⟨by omega, by omega⟩
      · exact a4 i (by omega) hs hne

/-- How many of the first k are to ring. -/
def left (ov : Nat → Bool) (d : Nat → Int) (t : Int) : Nat → Nat
  | 0 => 0
  | k + 1 => left ov d t k + if ov k = false ∧ d k ≤ t then 1 else 0

theorem left_le (ov : Nat → Bool) (d : Nat → Int) (t : Int) : ∀ k, left ov d t k ≤ k
  | 0 => Nat.le_refl _
  | k + 1 => by have := left_le ov d t k; unfold left; split <;> omega

theorem left_congr {ov ov' : Nat → Bool} {d : Nat → Int} {t : Int} : ∀ {k : Nat}, (∀ i, i < k → ov i = ov' i) → left ov d t k = left ov' d t k
  | 0, _ => rfl
  | k + 1, h => by unfold left; rw [left_congr fun i hi => h i (by omega), h k (by omega)]

theorem left_put {ov : Nat → Bool} {d : Nat → Int} {t : Int} {j : Nat} (hj : ov j = false) (hd : d j ≤ t) : ∀ {k : Nat}, j < k → left (put ov j true) d t k + 1 = left ov d t k
  | 0, h => by omega
  | k + 1, h => by
    unfold left
    by_cases e : j = k
    · subst e
      rw [put_same, if_neg (by simp), if_pos ⟨hj, hd⟩, left_congr (ov' := ov) fun i hi => put_other _ _ _ _ (by omega)]
    · rw [put_other _ _ _ _ (fun h => e h.symm), ← left_put hj hd (show j < k by omega)]
      omega

theorem left_pos {ov : Nat → Bool} {d : Nat → Int} {t : Int} {i : Nat} (hv : ov i = false) (hd : d i ≤ t) : ∀ {k : Nat}, i < k → 0 < left ov d t k
  | 0, h => by omega
  | k + 1, h => by
    unfold left
    by_cases e : i = k
    · subst e; rw [if_pos ⟨hv, hd⟩]; omega
    · have := left_pos hv hd (show i < k by omega); omega

theorem left_zero {ov : Nat → Bool} {d : Nat → Int} {t : Int} : ∀ {k : Nat}, (∀ i, i < k → ov i = false → t < d i) → left ov d t k = 0
  | 0, _ => rfl
  | k + 1, h => by
    unfold left
    rw [left_zero fun i hi => h i (by omega), if_neg]
    rintro ⟨a, b⟩
    have := h k (by omega) a
    omega

/-- What r rings have rung: R 0, R 1, .. -/
structure Rang (m : Nat) (d : Nat → Int) (t : Int) (ov0 ov : Nat → Bool) (r : Nat) (R : Nat → Nat) : Prop where
  inn : ∀ a, a < r → R a < m ∧ ov0 (R a) = false ∧ d (R a) ≤ t
  iff : ∀ i, ov i = true ↔ ov0 i = true ∨ ∃ a, a < r ∧ R a = i
  ord : ∀ a b, a < b → b < r → before d (R a) (R b)
  rest : ∀ a, a < r → ∀ i, i < m → ov i = false → d i ≤ t → before d (R a) i
  num : left ov d t m + r = left ov0 d t m

theorem rang_start (m : Nat) (d : Nat → Int) (t : Int) (ov : Nat → Bool) (R : Nat → Nat) : Rang m d t ov ov 0 R :=
  ⟨fun a h => by omega, fun i => ⟨.inl, fun h => by rcases h with h | ⟨a, h, _⟩; exact h; omega⟩, fun a b _ h => by omega, fun a h => by omega, rfl⟩

theorem rang_step {m : Nat} {d : Nat → Int} {t : Int} {ov0 ov : Nat → Bool} {r : Nat} {R : Nat → Nat} {j : Nat} (X : Rang m d t ov0 ov r R) (hm : m ≤ 16) (h : look (sts m ov) d t 16 = some j) : Rang m d t ov0 (put ov j true) (r + 1) (put R r j) := by
  obtain ⟨h1, h2, h3, h4⟩ := look_some h
  obtain ⟨hj, hv⟩ := (sts_set m ov j).1 h2
  have hv0 : ov0 j = false := by
    cases e : ov0 j
    · rfl
    · have := (X.iff j).2 (.inl e); rw [this] at hv; cases hv
  refine ⟨fun a ha => ?_, fun i => ?_, fun a b hab hb => ?_, fun a ha i hi hvi hdi => ?_, ?_⟩
  · by_cases e : a = r
    · subst e; rw [put_same]; exact ⟨hj, hv0, h3⟩
    · rw [put_other _ _ _ _ e]; exact X.inn a (by omega)
  · constructor
    · intro hi
      by_cases e : i = j
      · exact .inr ⟨r, by omega, by rw [put_same, e]⟩
      · rw [put_other _ _ _ _ e] at hi
        rcases (X.iff i).1 hi with h | ⟨a, ha, hR⟩
        · exact .inl h
        · exact .inr ⟨a, by omega, by rw [put_other _ _ _ _ (show a ≠ r by omega)]; exact hR⟩
    · intro hi
      by_cases e : i = j
      · rw [e, put_same]
      · rw [put_other _ _ _ _ e]
        rcases hi with h | ⟨a, ha, hR⟩
        · exact (X.iff i).2 (.inl h)
        · by_cases ea : a = r
          · subst ea; rw [put_same] at hR; exact absurd hR.symm e
          · rw [put_other _ _ _ _ ea] at hR; exact (X.iff i).2 (.inr ⟨a, by omega, hR⟩)
  · rw [put_other _ _ _ _ (show a ≠ r by omega)]
    by_cases e : b = r
    · subst e; rw [put_same]; exact X.rest a hab j hj hv h3
    · rw [put_other _ _ _ _ e]; exact X.ord a b hab (by omega)
  · have hij : i ≠ j := fun e => by rw [e, put_same] at hvi; cases hvi
    rw [put_other _ _ _ _ hij] at hvi
    by_cases e : a = r
    · subst e; rw [put_same]; exact h4 i (by omega) ((sts_set m ov i).2 ⟨hi, hvi⟩) hij
    · rw [put_other _ _ _ _ e]; exact X.rest a (by omega) i hi hvi hdi
  · have := left_put (t := t) hv h3 hj
    have := X.num
    omega

theorem rang_more {m : Nat} {d : Nat → Int} {t : Int} {ov0 ov : Nat → Bool} {r : Nat} {R : Nat → Nat} (X : Rang m d t ov0 ov r R) (hm : m ≤ 16) (h : r < left ov0 d t m) : ∃ j, j < m ∧ look (sts m ov) d t 16 = some j := by
  cases hl : look (sts m ov) d t 16 with
  | some j => exact ⟨j, ((sts_set m ov j).1 (look_some hl).2.1).1, rfl⟩
  | none =>
    have h0 := left_zero (ov := ov) (d := d) (t := t) (k := m) fun i hi hv => look_none hl i (by omega) ((sts_set m ov i).2 ⟨hi, hv⟩)
    have := X.num
    omega

theorem rang_end {m : Nat} {d : Nat → Int} {t : Int} {ov0 ov : Nat → Bool} {r : Nat} {R : Nat → Nat} (X : Rang m d t ov0 ov r R) (h : r = left ov0 d t m) : look (sts m ov) d t 16 = none ∧ ∀ i, i < m → ov i = false → t < d i := by
  have h0 : left ov d t m = 0 := by have := X.num; omega
  have h1 : ∀ i, i < m → ov i = false → t < d i := fun i hi hv => by
    rcases Int.lt_or_le t (d i) with g | g
    · exact g
    · have := left_pos (t := t) hv g hi; omega
  refine ⟨?_, h1⟩
  cases hl : look (sts m ov) d t 16 with
  | none => rfl
  | some j =>
    obtain ⟨_, h2, h3, _⟩ := look_some hl
    obtain ⟨hj, hv⟩ := (sts_set m ov j).1 h2
    have := h1 j hj hv
    omega

end Go.Proofs.Ytmlemofnakfpgaa

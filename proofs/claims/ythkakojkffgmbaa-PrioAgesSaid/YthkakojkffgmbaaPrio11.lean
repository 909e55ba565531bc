/-
  The law's rounds, as numbers.
-/
import Derived.Test.YthkakojkffgmbaaPrio10
namespace Go.Proofs.Ythkakojkffgmbaa
open Go.RowKit

/-- At the head of round i: the low one is there; the highest level has been gone round i - 1 times. -/
structure IA (L i : Nat) (S : Nat → LS) : Prop where
  i1 : 1 ≤ i
  z : (S 0).b = 0 ∧ (S 0).tu 0 = 1 ∧ (S 0).ti 0 = 1 ∧ (S 0).sl 0 = -1
  one : L = 1 → i = 1 ∧ (S 0).a = 1 ∧ (S 0).tu 1 = 1
  top : 2 ≤ L → i ≤ 64 * (L - 1) ∧ (S (L - 1)).a + 1 = i ∧ (S (L - 1)).b + 1 = i ∧ ∀ j, j < 4 → (S (L - 1)).tu j % 4 = j ∧ i ≤ (S (L - 1)).tu j + 1 ∧ (S (L - 1)).tu j < i + 3
  mid : ∀ n, 0 < n → n + 1 < L → (S n).b = 0 ∧ (S n).tu 0 = 0
  ti : ∀ n, n < L → ∀ j, 0 ≤ (S n).ti j ∧ (S n).ti j ≤ i
  bb : ∀ n, n < L → (S n).b ≤ i

/-- The state behind round i's Put. -/
def putS (L i : Nat) (S : Nat → LS) : Nat → LS :=
  put S (L - 1) ⟨(S (L - 1)).a + 1, (S (L - 1)).b, put (S (L - 1)).tu ((S (L - 1)).a % 4) ((S (L - 1)).a + 1), put (S (L - 1)).ti ((S (L - 1)).a % 4) ((i : Int) + 1), put (S (L - 1)).sl ((S (L - 1)).a % 4) (i : Int)⟩

/-- The state behind round i's Take of the highest level. -/
def takeS (L i : Nat) (S : Nat → LS) : Nat → LS :=
  put (putS L i S) (L - 1) ⟨(putS L i S (L - 1)).a, (putS L i S (L - 1)).b + 1, put (putS L i S (L - 1)).tu ((putS L i S (L - 1)).b % 4) ((putS L i S (L - 1)).b + 4), (putS L i S (L - 1)).ti, (putS L i S (L - 1)).sl⟩

theorem ia_a {L i : Nat} {S : Nat → LS} (H : IA L i S) (h1 : 1 ≤ L) (h8 : L ≤ 8) : (S (L - 1)).a < 4611686018427387904 := by
  by_cases e : L = 1
  · subst e; have := H.one rfl; show (S 0).a < _; omega
  · have := H.top (by omega); omega

theorem ia_i {L i : Nat} {S : Nat → LS} (H : IA L i S) (h1 : 1 ≤ L) (h8 : L ≤ 8) : i ≤ 448 := by
  by_cases e : L = 1
  · have := H.one e; omega
  · have := H.top (by omega); omega

theorem ia_put {L i : Nat} {S : Nat → LS} (H : IA L i S) (h1 : 1 ≤ L) : (S (L - 1)).tu ((S (L - 1)).a % 4) = (S (L - 1)).a := by
  by_cases e : L = 1
  · subst e
    obtain ⟨_, h2, h3⟩ := H.one rfl
    show (S 0).tu ((S 0).a % 4) = (S 0).a
    rw [h2, h3]
  · obtain ⟨_, h2, h3, h4⟩ := H.top (by omega)
    have := h4 ((S (L - 1)).a % 4) (by omega)
    omega

theorem put_zero {L i : Nat} {S : Nat → LS} (H : IA L i S) (h1 : 1 ≤ L) : (putS L i S 0).b = 0 ∧ (putS L i S 0).tu 0 = 1 ∧ (putS L i S 0).ti 0 = 1 ∧ (putS L i S 0).sl 0 = -1 := by
  by_cases e : L = 1
  · subst e
    obtain ⟨_, h2, _⟩ := H.one rfl
    have hz := H.z
    unfold putS
    simp only [Nat.sub_self, put_same]
    rw [h2]
    exact ⟨hz.1, by rw [put_other _ _ _ _ (by decide)]; exact hz.2.1, by rw [put_other _ _ _ _ (by decide)]; exact hz.2.2.1, by rw [put_other _ _ _ _ (by decide)]; exact hz.2.2.2⟩
  · unfold putS
    rw [put_other _ _ _ _ (by omega)]
    exact H.z

theorem put_top {L i : Nat} {S : Nat → LS} (H : IA L i S) (h2 : 2 ≤ L) : (putS L i S (L - 1)).b + 1 = i ∧ (putS L i S (L - 1)).a = i ∧ (putS L i S (L - 1)).tu ((i - 1) % 4) = i ∧ (putS L i S (L - 1)).ti ((i - 1) % 4) = (i : Int) + 1 ∧ (putS L i S (L - 1)).sl ((i - 1) % 4) = i ∧
    ∀ j, j < 4 → j ≠ (i - 1) % 4 → (putS L i S (L - 1)).tu j = (S (L - 1)).tu j := by
  obtain ⟨_, t1, t2, _⟩ := H.top h2
  have ea : (S (L - 1)).a = i - 1 := by omega
  unfold putS
  rw [put_same]
  simp only [ea, put_same]
  exact ⟨t2, by omega, by omega, trivial, trivial, fun j _ hj => put_other _ _ _ _ hj⟩

theorem put_mid {L i : Nat} {S : Nat → LS} (H : IA L i S) (n : Nat) (h0 : 0 < n) (h1 : n + 1 < L) : ¬ Full 4 (putS L i S n) := by
  obtain ⟨e1, e2⟩ := H.mid n h0 h1
  unfold putS
  rw [put_other _ _ _ _ (by omega)]
  unfold Full
  rw [e1]
  show ¬ (S n).tu 0 = 0 + 1
  omega

theorem put_ti {L i : Nat} {S : Nat → LS} (H : IA L i S) (n : Nat) (hn : n < L) (j : Nat) : 0 ≤ (putS L i S n).ti j ∧ (putS L i S n).ti j ≤ (i : Int) + 1 := by
  unfold putS
  by_cases e : n = L - 1
  · subst e
    rw [put_same]
    by_cases f : j = (S (L - 1)).a % 4
    · subst f; simp only [put_same]; omega
    · simp only [put_other _ _ _ _ f]; have := H.ti (L - 1) hn j; omega
  · rw [put_other _ _ _ _ e]; have := H.ti n hn j; omega

theorem put_bb {L i : Nat} {S : Nat → LS} (H : IA L i S) (n : Nat) (hn : n < L) : (putS L i S n).b ≤ i := by
  unfold putS
  by_cases e : n = L - 1
  · subst e; rw [put_same]; exact H.bb _ hn
  · rw [put_other _ _ _ _ e]; exact H.bb n hn

theorem wth_zero {L i : Nat} {S : Nat → LS} (H : IA L i S) (h1 : 1 ≤ L) : wth 4 0 (putS L i S 0) = -1 ∧ Full 4 (putS L i S 0) := by
  obtain ⟨e1, e2, e3, _⟩ := put_zero H h1
  unfold wth Full
  rw [e1]
  show 64 * ((0 : Nat) : Int) - (putS L i S 0).ti 0 = -1 ∧ (putS L i S 0).tu 0 = 0 + 1
  rw [e3, e2]
  exact ⟨rfl, rfl⟩

theorem wth_top {L i : Nat} {S : Nat → LS} (H : IA L i S) (h2 : 2 ≤ L) : wth 4 (L - 1) (putS L i S (L - 1)) = 64 * ((L - 1 : Nat) : Int) - i - 1 ∧ Full 4 (putS L i S (L - 1)) := by
  obtain ⟨e1, _, e2, e3, _⟩ := put_top H h2
  have eb : (putS L i S (L - 1)).b = i - 1 := by omega
  have := H.i1
  unfold wth Full
  rw [eb, e3, e2]
  exact ⟨by omega, by omega⟩

theorem ia_low {L i : Nat} {S : Nat → LS} (H : IA L i S) (h1 : 1 ≤ L) (hl : L = 1 ∨ i = 64 * (L - 1)) : Best L 4 (putS L i S) 0 := by
  obtain ⟨z1, z2⟩ := wth_zero H h1
  refine ⟨by omega, z2, fun n hn _ => by omega, fun n h0 hn hf => ?_⟩
  by_cases e : n = L - 1
  · subst e
    obtain ⟨t1, _⟩ := wth_top H (by omega)
    rw [z1, t1]
    omega
  · exact absurd hf (put_mid H n h0 (by omega))

theorem ia_top {L i : Nat} {S : Nat → LS} (H : IA L i S) (h2 : 2 ≤ L) (hl : i < 64 * (L - 1)) : Best L 4 (putS L i S) (L - 1) := by
  obtain ⟨t1, t2⟩ := wth_top H h2
  obtain ⟨z1, z2⟩ := wth_zero H (by omega)
  refine ⟨by omega, t2, fun n hn hf => ?_, fun n h0 hn _ => by omega⟩
  by_cases e : n = 0
  · subst e; rw [z1, t1]; omega
  · exact absurd hf (put_mid H n (by omega) (by omega))

theorem ia_next {L i : Nat} {S : Nat → LS} (H : IA L i S) (h2 : 2 ≤ L) (hl : i < 64 * (L - 1)) : IA L (i + 1) (takeS L i S) := by
  obtain ⟨e1, e2, e3, e4, e5, e6⟩ := put_top H h2
  obtain ⟨_, _, _, t4⟩ := H.top h2
  have hi := H.i1
  have eb : (putS L i S (L - 1)).b = i - 1 := by omega
  refine ⟨by omega, ?_, fun e => by omega, fun _ => ⟨by omega, ?_, ?_, ?_⟩, ?_, ?_, ?_⟩
  · unfold takeS
    rw [put_other _ _ _ _ (by omega)]
    exact put_zero H (by omega)
  · unfold takeS; rw [put_same]; show (putS L i S (L - 1)).a + 1 = i + 1; omega
  · unfold takeS; rw [put_same]; show (putS L i S (L - 1)).b + 1 + 1 = i + 1; omega
  · intro j hj
    unfold takeS
    rw [put_same]
    simp only [eb]
    by_cases f : j = (i - 1) % 4
    · subst f; rw [put_same]; omega
    · rw [put_other _ _ _ _ f, e6 j hj f]
      have := t4 j hj
      have : (S (L - 1)).tu j ≠ i - 1 := fun q => by omega
      omega
  · intro n h0 h1
    unfold takeS putS
    rw [put_other _ _ _ _ (by omega), put_other _ _ _ _ (by omega)]
    exact H.mid n h0 h1
  · intro n hn j
    unfold takeS
    by_cases e : n = L - 1
    · subst e; rw [put_same]; show 0 ≤ (putS L i S (L - 1)).ti j ∧ (putS L i S (L - 1)).ti j ≤ ((i + 1 : Nat) : Int); have := put_ti H (L - 1) hn j; omega
    · rw [put_other _ _ _ _ e]; have := put_ti H n hn j; omega
  · intro n hn
    unfold takeS
    by_cases e : n = L - 1
    · subst e; rw [put_same]; show (putS L i S (L - 1)).b + 1 ≤ i + 1; omega
    · rw [put_other _ _ _ _ e]; have := put_bb H n hn; omega

/-- The state behind the low one's Put. -/
def lowS : Nat → LS := put (fun _ => S0) 0 ⟨1, 0, put (fun i => i) 0 1, put (fun _ => 0) 0 1, put (fun _ => 0) 0 (-1)⟩

theorem ia_start {L : Nat} (h1 : 1 ≤ L) : IA L 1 lowS := by
  refine ⟨by omega, ⟨rfl, rfl, rfl, rfl⟩, fun _ => ⟨rfl, rfl, rfl⟩, fun h2 => ?_, fun n h0 _ => ?_, fun n _ j => ?_, fun n _ => ?_⟩
  · unfold lowS
    rw [put_other _ _ _ _ (by omega)]
    exact ⟨by omega, rfl, rfl, fun j hj => by show j % 4 = j ∧ 1 ≤ j + 1 ∧ j < 1 + 3; omega⟩
  · unfold lowS
    rw [put_other _ _ _ _ (by omega)]
    exact ⟨rfl, rfl⟩
  · unfold lowS
    by_cases e : n = 0
    · subst e
      rw [put_same]
      by_cases f : j = 0
      · subst f; simp only [put_same]; omega
      · simp only [put_other _ _ _ _ f]; omega
    · rw [put_other _ _ _ _ e]; show (0 : Int) ≤ 0 ∧ (0 : Int) ≤ _; omega
  · unfold lowS
    by_cases e : n = 0
    · subst e; rw [put_same]; show 0 ≤ 1; omega
    · rw [put_other _ _ _ _ e]; show 0 ≤ 1; omega

end Go.Proofs.Ythkakojkffgmbaa

/-
  The law.
-/
import Derived.Test.YthkakojkffgmbaaPrio11
import Derived.IntWalk
namespace Go.Proofs.Ythkakojkffgmbaa
open Go.RowKit

theorem at_any (p : Int) (w : World) : Calls Try.prog 5 #[.int .i64 p, .int .i64 8] w fun e w' => ∃ n : Nat, n < 8 ∧ e = .returned (.int .i64 n) ∧ w = w' := by
  have m1 : -8 < p.tmod 8 ∧ p.tmod 8 < 8 := ⟨Int.lt_tmod_of_pos p (by decide), Int.tmod_lt_of_pos p (by decide)⟩
  by_cases h : p.tmod 8 < 0
  · have z1 : wrap64 (p.tmod 8 + 8) = p.tmod 8 + 8 := by unfold wrap64; omega
    go_enter Try.func5, Try.ntmps5
    go_wp2
    go_ret
    have e : ((p.tmod 8 + 8).toNat : Int) = p.tmod 8 + 8 := Int.toNat_of_nonneg (by omega)
    exact ⟨(p.tmod 8 + 8).toNat, by omega, by rw [e]; rfl, rfl⟩
  · have h' : decide (p.tmod 8 < 0) = false := by simpa using h
    go_enter Try.func5, Try.ntmps5
    go_wp2
    go_ret
    have e : ((p.tmod 8).toNat : Int) = p.tmod 8 := Int.toNat_of_nonneg (by omega)
    exact ⟨(p.tmod 8).toNat, by omega, by rw [e]; rfl, rfl⟩

/-- At the head of a round of the law. -/
def LawRel (w : World) (L lo hi P bk B : Nat) (id : Nat → Ids) (c : Value) (wr : World) : Prop :=
  ∃ (i : Nat) (S : Nat → LS), c = .int .i64 i ∧ IA L i S ∧ Prs wr lo hi P bk B L 4 id i S ∧ hi ≤ wr.heap.size ∧ Kept (fun _ => False) w wr

set_option maxRecDepth 100000 in
set_option maxHeartbeats 1600000 in
theorem walk_prioAges (p : Int) (w : World) : Calls Try.prog 3 #[.int .i64 p] w fun e w' => e = .returned (.bool true) ∧ Below w.heap.size w w' := by
  have hR : Hid (Pw 4) := Lib.hid (.inr rfl)
  go_enter Try.func3, Try.ntmps3
  go_wp2_with fail
  refine (works_yes w).mono ?_
  rintro e w1 ⟨rfl, K1⟩
  have HK1 := Lib.hid K1
  clear K1
  go_wp2_with fail
  refine (at_any p w1).mono ?_
  rintro e w2 ⟨m, hm, rfl, rfl⟩
  obtain ⟨L, hL⟩ : ∃ L : Nat, L = m + 1 := ⟨_, rfl⟩
  have h1 : 1 ≤ L := by omega
  have h8 : L ≤ 8 := by omega
  have z1 : wrap64 ((m : Int) + 1) = (L : Int) := by unfold wrap64; omega
  clear hm hL
  go_wp2_with fail
  rw [z1]
  clear z1
  have C1 := new_any (L := L) (R := 4) hR.out h1 h8 w1
  refine C1.mono ?_
  clear C1
  rintro e w3 ⟨hi, P, bk, B, id, rfl, P0, hh, K0⟩
  have HP := Lib.hid P0
  have HK := Lib.hid (HK1.out.trans K0)
  have HH := Lib.hid hh
  have HLO : Hid (w.heap.size ≤ w1.heap.size) := Lib.hid HK1.out.size
  clear P0 K0 hh HK1
  go_wp2_with fail
  have C2 := put_ok HP.out hR.out 0 (by omega) (by simp [S0]) (by simp [S0]) (by decide) (by decide) (-1)
  refine C2.mono ?_
  clear C2
  rintro e w4 ⟨rfl, P1, K1⟩
  have HP1 : Hid (Prs w4 w1.heap.size hi P bk B L 4 id 1 lowS) := Lib.hid (P1.turn (T := lowS) (fun n _ => rfl))
  have HKX : Hid (Kept (fun _ => False) w w4) := Lib.hid (HK.out.far K1 (fun i h => Nat.le_trans HLO.out h.1))
  have HHX := Lib.hid (Nat.le_trans HH.out K1.size)
  clear P1 K1 HP HK HH
  go_wp2_with fail
  have y1 : wrap64 (64 * (L : Int)) = 64 * (L : Int) := by unfold wrap64; omega
  have y2 : wrap64 ((L : Int) - 1) = ((L - 1 : Nat) : Int) := by unfold wrap64; omega
  go_loopw [6] (fun c wr => LawRel w L w1.heap.size hi P bk B id c wr) (fun c _ => 64 * L + 1 - (intOf c).toNat)
  case atStart => exact ⟨1, lowS, rfl, ia_start h1, HP1.out, HHX.out, HKX.out⟩
  case round =>
    obtain ⟨i, S, rfl, HI, PI, hh, KI⟩ := hrel
    have ib := ia_i HI h1 h8
    have il : (i : Int) ≤ 64 * (L : Int) := by
      by_cases e : L = 1
      · have := HI.one e; omega
      · have := HI.top (by omega); omega
    have i1 := HI.i1
    have D1 := put_ok PI hR.out (L - 1) (by omega) (ia_a HI h1 h8) (ia_put HI h1) (by omega) (by omega) (i : Int)
    have C1 := Lib.hid D1
    have XI := Lib.hid HI
    have XK := Lib.hid KI
    have XH := Lib.hid hh
    have Hib := Lib.hid ib
    have Hil := Lib.hid il
    clear HI PI hh KI D1 ib
    have g1 : decide ((i : Int) ≤ 64 * (L : Int)) = true := by simpa using il
    have e0 : (L : Int) - 1 = ((L - 1 : Nat) : Int) := by omega
    go_wp2_with fail
    refine C1.out.mono ?_
    rintro e W1 ⟨rfl, P1, K1⟩
    have XP : Hid (Prs W1 w1.heap.size hi P bk B L 4 id ((i : Int) + 1) (putS L i S)) := Lib.hid P1
    have XK1 : Hid (Kept (fun _ => False) w W1) := Lib.hid (XK.out.far K1 (fun i h => Nat.le_trans HLO.out h.1))
    have XH1 := Lib.hid (Nat.le_trans XH.out K1.size)
    clear P1 K1 C1 XK XH
    have hb : Hid (∀ n, n < L → (putS L i S n).b < 4611686018427387904) := Lib.hid fun n hn => by have := put_bb XI.out n hn; have := Hib.out; omega
    have hk : Hid (∀ n, n < L → ∀ j, 0 ≤ (putS L i S n).ti j ∧ (putS L i S n).ti j < 1000000) := Lib.hid fun n hn j => by have := put_ti XI.out n hn j; have := Hib.out; omega
    by_cases low : L = 1 ∨ i = 64 * (L - 1)
    · have C2 := Lib.hid (take_some XP.out hR.out h8 XH1.out hb.out hk.out (ia_low XI.out h1 low))
      have ev : (putS L i S 0).sl ((putS L i S 0).b % 4) = -1 := by obtain ⟨e1, _, _, e4⟩ := put_zero XI.out h1; rw [e1]; exact e4
      have em : Hid ((L = 1 ∧ i = 1) ∨ (2 ≤ L ∧ i = 64 * (L - 1))) := Lib.hid (by rcases low with e | e; have := XI.out.one e; omega; omega)
      have Hl := Lib.hid low
      clear low
      go_wp2_with fail
      refine C2.out.mono ?_
      rintro e W2 ⟨rfl, P2, K2⟩
      rw [ev]
      have XK2 : Hid (Kept (fun _ => False) w W2) := Lib.hid (XK1.out.far K2 (fun i h => Nat.le_trans HLO.out h.1))
      clear P2 K2 C2 ev
      go_wp2_with fail
      all_goals
        go_ret
        refine ⟨?_, XK2.out.below (Nat.le_refl _) (fun _ e => False.elim e)⟩
        have em' := em.out
        simp
        omega
    · have h2 : 2 ≤ L := by omega
      have hi2 : i < 64 * (L - 1) := by have := XI.out.top h2; omega
      have C2 := Lib.hid (take_some XP.out hR.out h8 XH1.out hb.out hk.out (ia_top XI.out h2 hi2))
      have ev : (putS L i S (L - 1)).sl ((putS L i S (L - 1)).b % 4) = (i : Int) := by obtain ⟨e1, _, _, _, e5, _⟩ := put_top XI.out h2; rw [show (putS L i S (L - 1)).b = i - 1 by omega]; exact e5
      have Hl := Lib.hid low
      have Hn := Lib.hid hi2
      clear low hi2
      go_wp2_with fail
      refine C2.out.mono ?_
      rintro e W2 ⟨rfl, P2, K2⟩
      rw [ev]
      have XP2 : Hid (Prs W2 w1.heap.size hi P bk B L 4 id ((i : Int) + 1) (takeS L i S)) := Lib.hid P2
      have XK2 : Hid (Kept (fun _ => False) w W2) := Lib.hid (XK1.out.far K2 (fun i h => Nat.le_trans HLO.out h.1))
      have XH2 := Lib.hid (Nat.le_trans XH1.out K2.size)
      clear P2 K2 C2 ev
      have f0 : ¬ ((i : Int) = -1) := by omega
      have f1 : wrap64 ((i : Int) + 1) = (i : Int) + 1 := by have := Hib.out; unfold wrap64; omega
      go_wp2_with fail
      go_roundw
      case rel => exact ⟨i + 1, takeS L i S, by go_num, ia_next XI.out h2 Hn.out, XP2.out, XH2.out, XK2.out⟩
      case measure => have := Hn.out; simp [intOf]; omega

end Go.Proofs.Ythkakojkffgmbaa

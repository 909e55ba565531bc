/-
  treadlelaw17.LimitOrder, walked.
-/
import Derived.Test.YtkbcpifhbpfhlaaGreatDoorOrd4
import Derived.Deep.CutBlock
import Derived.Deep.DeepCutAuto
import Derived.Deep.LoopGhost
import Derived.Deep.OwnRows
import Derived.OwnWalk
namespace Go.Proofs.YtkbcpifhbpfhlaaGreatDoor
open Go.RowKit

theorem Tryz.infoInt : (Tryz.prog.info? 3).map (fun i => (i.zero, i.size, i.bytes)) = some (some (.int .i64 0), 1, 8) := by kernel_rfl
theorem Tryz.infoFut : (Tryz.prog.info? 26).map (fun i => (i.zero, i.size, i.bytes)) = some (some (.pointer none), 1, 8) := by kernel_rfl

/-- The waits as they are handed in. -/
structure Given (w : World) (ao : Option Addr) (sb so la : Nat) (At St : Nat → Int) : Prop where
  a : ∀ i, i < la → ao = some ⟨sb, so, none⟩
  at_ : ∀ i, i < la → w.cell? ⟨sb, so + i * 2, none⟩ = some (.int .i64 (At i))
  st : ∀ i, i < la → w.cell? ⟨sb, so + i * 2 + 1, none⟩ = some (.int .i64 (St i))

theorem Given.kept {w w' : World} {ao : Option Addr} {sb so la : Nat} {At St : Nat → Int} (G : Given w ao sb so la At St) (k : Kept (fun _ => False) w w') : Given w' ao sb so la At St :=
  ⟨G.a, fun i hi => (k.cell (p := ⟨sb, so + i * 2, none⟩) (World.block_lt_of_cell? w _ (G.at_ i hi)) id).trans (G.at_ i hi), fun i hi => (k.cell (p := ⟨sb, so + i * 2 + 1, none⟩) (World.block_lt_of_cell? w _ (G.st i hi)) id).trans (G.st i hi)⟩

/-- How long the one with the number i waits. -/
def waitOf (At : Nat → Int) (i : Nat) : Int := atOf 40 ((At i).tmod 1000)

theorem wait_range (At : Nat → Int) (i : Nat) : 0 ≤ waitOf At i ∧ waitOf At i < 40 := at_range 40 _ (by decide)

def goOf (x : Int) : Int := atOf 20 (x.tmod 1000)
theorem go_range (x : Int) : 0 ≤ goOf x ∧ goOf x < 20 := at_range 20 _ (by decide)

theorem later_zero {dt : Int} (h0 : 0 ≤ dt) (h2 : dt < 300) : later 0 dt = dt := by
  unfold later; omega

/-- Where the first loop stands. -/
def MakeRel (w0 wr : World) (n B m k : Nat) (d : Nat → Int) (fv gv iv : Value) : Prop :=
  ∃ i ids, i + k = m ∧ iv = .int .i64 (i : Nat) ∧ LayO w0 wr n B i i i ids d fv gv

/-- Where the loop over the steps stands, with k to come. -/
def StepRel (w0 wr : World) (n fB gB eB m p k : Nat) (ids : Nat → Ids) (d : Nat → Int) (a13 a15 : Value) : Prop :=
  ∃ s now en, s + k = p ∧ a15 = .int .i64 (s : Nat) ∧ a13 = .int .i64 now ∧ 0 ≤ now ∧ now ≤ 20 * (s : Int) ∧ Stand w0 wr n fB gB eB m ids d en en now

/-- Where the loop of those that are filled stands. -/
def FillRel (w0 wr : World) (n fB gB eB m k : Nat) (ids : Nat → Ids) (d : Nat → Int) (now : Int) (a16 : Value) : Prop :=
  ∃ i en, i + k = m ∧ a16 = .int .i64 (i : Nat) ∧ Stand w0 wr n fB gB eB m ids d en en now

/-- What is written of those that are late, behind i of them. -/
def upto (en fn : Nat → Nat) (i : Nat) : Nat → Nat := fun j => if j < i then fn j else en j

theorem upto_zero (en fn : Nat → Nat) : upto en fn 0 = en := by funext j; unfold upto; rw [if_neg (by omega)]

theorem upto_put (en fn : Nat → Nat) (i : Nat) : put (upto en fn i) i (fn i) = upto en fn (i + 1) := by
  funext j
  by_cases e : j = i
  · subst e; rw [put_same]; unfold upto; rw [if_pos (by omega)]
  · rw [put_other _ _ _ _ e]; unfold upto
    by_cases h : j < i
    · rw [if_pos h, if_pos (by omega)]
    · rw [if_neg h, if_neg (by omega)]

theorem upto_same (en fn : Nat → Nat) (i : Nat) (h : fn i = en i) : upto en fn i = upto en fn (i + 1) := by
  rw [← upto_put, h]
  have : upto en fn i i = en i := by unfold upto; rw [if_neg (by omega)]
  rw [← this, put_self]

/-- Where the loop that counts the late ones stands. -/
def LateRel (w0 wr : World) (n fB gB eB m k : Nat) (ids : Nat → Ids) (d : Nat → Int) (t : Int) (en : Nat → Nat) (a20 a21 : Value) : Prop :=
  ∃ i, i + k = m ∧ a21 = .int .i64 (i : Nat) ∧ a20 = .int .i64 (left (ovf en) d t i : Nat) ∧ Stand w0 wr n fB gB eB m ids d (upto en (fin en d t) i) (fin en d t) t

/-- Where the loop that looks at them stands. -/
def LookRel (w0 wr : World) (n fB gB eB m k : Nat) (ids : Nat → Ids) (d : Nat → Int) (t : Int) (en : Nat → Nat) (a22 : Value) : Prop :=
  ∃ i, i + k = m ∧ a22 = .int .i64 (i : Nat) ∧ Stand w0 wr n fB gB eB m ids d en en t

set_option maxRecDepth 100000 in
set_option maxHeartbeats 1600000 in
theorem order_walk (ao bo : Option Addr) (la lca lb lcb sb so tb tg : Nat) (At St Sp : Nat → Int) (w : World) (hg : ErrorType w)
    (hl : la ≤ lca) (hb : lb ≤ lcb) (ha : Given w ao sb so la At St)
    (hs : ∀ i, i < lb → bo = some ⟨tb, tg, none⟩ ∧ w.cell? ⟨tb, tg + i, none⟩ = some (.int .i64 (Sp i))) :
    Calls Tryz.prog 4 #[.slice ao la lca, .slice bo lb lcb] w (WorksPost w) := by
  obtain ⟨i0, hi, hz0, hz1, hz2⟩ := info_parts Tryz.infoFut
  have HA := Lib.hid ha
  have HS := Lib.hid hs
  have HG := Lib.hid hg
  clear ha hs hg
  go_enter Tryz.func4, Tryz.ntmps4
  go_upto_if 28 with fail
  go_cut [0] (fun v wx => wx = w ∧ ∃ m, v = .slice ao m lca ∧ m ≤ 16 ∧ m ≤ la)
  case first =>
    by_cases h : 16 < la
    · obtain rfl := HA.out.a 0 (by omega)
      have h16 : 16 ≤ lca := by omega
      go_wp2_with fail
      go_meet
      exact ⟨rfl, 16, rfl, Nat.le_refl _, by omega⟩
    · go_wp2_with fail
      go_meet
      exact ⟨rfl, la, rfl, by omega, Nat.le_refl _⟩
  case rest =>
    obtain ⟨rfl, m, rfl, hm16, hma⟩ := hcut
    go_upto_if 33 with fail
    go_cut [1] (fun v wx => wx = wc ∧ ∃ p, v = .slice bo p lcb ∧ p ≤ 30 ∧ p ≤ lb)
    case first =>
      by_cases h : 30 < lb
      · obtain ⟨rfl, _⟩ := HS.out 0 (by omega)
        have h30 : 30 ≤ lcb := by omega
        go_wp2_with fail
        go_meet
        exact ⟨rfl, 30, rfl, Nat.le_refl _, by omega⟩
      · go_wp2_with fail
        go_meet
        exact ⟨rfl, lb, rfl, by omega, Nat.le_refl _⟩
    case rest =>
      obtain ⟨rfl, p, rfl, hp30, hpb⟩ := hcut
      obtain ⟨w0, rfl⟩ : ∃ w0 : World, w0 = wc := ⟨_, rfl⟩
      obtain ⟨n, hn⟩ : ∃ n : Nat, Hid (w0.heap.size = n) := ⟨_, rfl⟩
      have hmk := fun w => run_make_row' (P := Tryz.prog) 59 3 (.int .i64 0) 8 Tryz.underlying59 Tryz.infoInt rfl .i64 .i64 m (by omega) (by omega) w
      go_wp2_with fail
      refine (new_made w0).mono ?_
      rintro e w1 ⟨rfl, hC, hB⟩
      rw [hn.out] at hC ⊢
      have X1 := Lib.hid (layO_start (ids := fun _ => ⟨0, 0, 0, 0, 0, 0, 0, 0, 0, 0, 0, 0, 0, 0, 0⟩) (d := waitOf At) hn.out hC (Kept.ofBelow hB (Nat.le_refl _) _))
      clear hC hB
      go_wp2_with fail
      go_loopg [6, 7, 8] m (fun k fv gv iv wr => MakeRel w0 wr n w1.heap.size m k (waitOf At) fv gv iv)
      case atStart => exact ⟨0, _, by omega, rfl, X1.out⟩
      case round =>
        obtain ⟨i, ids, hik, rfl, L⟩ := hrel
        have HL := Lib.hid L
        clear L
        by_cases hlt : i < m
        · have c1 := (HA.out.kept HL.out.kept).at_ i (by omega)
          have q0 : (i : Int) < m := by omega
          have q1 : (0 : Int) ≤ (i : Int) := by omega
          have hwr := wait_range At i
          obtain rfl := HA.out.a 0 (by omega)
          go_wp2_with fail
          refine (at_walk 40 _ (by decide) (by decide) _).mono ?_
          rintro e w2 ⟨rfl, rfl⟩
          go_wp2_with fail
          refine (fnew_any _).mono ?_
          rintro e w2 ⟨lf, hf, pf, rfl, z2, F2, K2⟩
          have Z2 := Lib.hid z2
          have HK2 := Lib.hid K2
          have HF2 := Lib.hid F2
          obtain ⟨dd, f, C, hd1, hd2⟩ := (HL.out.still K2).clk
          have HC := Lib.hid C
          have D1 := Lib.hid hd1
          have D2 := Lib.hid hd2
          clear z2 F2 K2 C hd1 hd2
          go_wp2_with fail
          have hfree := sts_free i (fun _ => false) (fun _ _ => rfl)
          refine (within_made n i wr.heap.size lf hf pf 0 0 (sts i fun _ => false) dd f (waitOf At i) hwr.1 (by omega) (by omega) (by omega) hfree.1 (by rw [hfree.2]; rfl) (by rw [hfree.2]; decide) (by rw [hfree.2]; decide) _ HC.out HF2.out (by have := HL.out.base; omega)).mono ?_
          rintro e w3 ⟨I, rfl, e1, _, _, _, g1, H3, C3, K3⟩
          rw [later_zero hwr.1 (by omega)] at H3 C3
          rw [hfree.2] at H3 C3
          have X3 := Lib.hid (layO_within HL.out HK2.out (by rw [Z2.out]; exact Nat.le_refl _) e1 g1 H3 C3 D1.out D2.out K3)
          have E1 : Hid (∀ x y, (put x i I i).nf = wr.heap.size ∧ (put y i I i).ng = I.ng) := fun x y => ⟨by rw [put_same]; exact e1, by rw [put_same]⟩
          clear e1 g1 H3 C3 K3 hfree c1
          go_wp2_with (at_builtin; go_loud (refine wpList_append_lies _ rfl _ _ 55 rfl w1.heap.size 26 i0 (.pointer none) 1 8 Tryz.underlying55 hi hz0 hz1 hz2 rfl (by decide) _ _ _ rfl (X3.out.ownF.alloc _) ⟨w3.heap.size, 0, none⟩ 1 1 [.pointer (some ⟨wr.heap.size + 5, 0, none⟩)] rfl rfl ?c1 ?c2 ?c3 ?c4 ?c5 ?c6 _ rfl ?_))
          case c1 =>
            intro j u hj
            match j, hj with
            | 0, hj => simp at hj; subst hj; simp [Addr.add]
          case c2 => intro u hu; simp at hu; subst hu; rfl
          case c3 => decide
          case c4 => first | (simp only [maxLen]; omega) | (simp [maxLen]; omega)
          case c5 => first | omega | (simp; omega)
          case c6 =>
            have := X3.out.base
            simp; omega
          intro g cap w4 own4 grown4 lies4 _
          have X4 := Lib.hid (layO_appF X3.out (by rw [(E1.out ids ids).1]; exact own4) grown4 (by simpa using lies4))
          clear own4 grown4 lies4
          go_wp2_with (at_builtin; go_loud (refine wpList_append_lies _ rfl _ _ 55 rfl w1.heap.size 26 i0 (.pointer none) 1 8 Tryz.underlying55 hi hz0 hz1 hz2 rfl (by decide) _ _ _ rfl (X4.out.ownG.alloc _) ⟨w4.heap.size, 0, none⟩ 1 1 [.pointer (some ⟨I.ng + 5, 0, none⟩)] rfl rfl ?c1 ?c2 ?c3 ?c4 ?c5 ?c6 _ rfl ?_))
          case c1 =>
            intro j u hj
            match j, hj with
            | 0, hj => simp at hj; subst hj; simp [Addr.add]
          case c2 => intro u hu; simp at hu; subst hu; rfl
          case c3 => decide
          case c4 => first | (simp only [maxLen]; omega) | (simp [maxLen]; omega)
          case c5 => first | omega | (simp; omega)
          case c6 =>
            have := X4.out.base
            simp; omega
          intro g2 cap2 w5 own5 grown5 lies5 _
          have X5 := Lib.hid (layO_appG X4.out (by rw [(E1.out ids ids).2]; exact own5) grown5 (by simpa using lies5))
          clear own5 grown5 lies5
          go_wp2_with fail
          go_roundg (gk - 1)
          case measure => omega
          case rel => exact ⟨i + 1, _, by omega, by go_num, X5.out⟩
        · obtain rfl : i = m := by omega
          obtain ⟨w5, rfl⟩ : ∃ w5 : World, w5 = wr := ⟨_, rfl⟩
          obtain ⟨fB, gB, dd, hrow, hdd, hS⟩ := layO_end HL.out 3
          have HR := Lib.hid hrow
          have HD := Lib.hid hdd
          have XS := Lib.hid hS
          clear hrow hdd hS
          go_wp2_with fail
          go_loopg [13, 15] p (fun k a13 a15 wr2 => StepRel w0 wr2 n fB gB w5.heap.size i p k ids dd a13 a15)
          case atStart => exact ⟨0, 0, _, by omega, rfl, rfl, Int.le_refl _, by omega, XS.out⟩
          case round =>
            obtain ⟨s, now, en, hsk, rfl, rfl, hn0, hn1, hS⟩ := hrel
            have YS := Lib.hid hS
            clear hS
            by_cases hsp : s < p
            · go_wp2_with fail
              go_loopg [16] i (fun k a16 wr2 => FillRel w0 wr2 n fB gB w5.heap.size i k ids dd now a16)
              case atStart => exact ⟨0, en, by omega, rfl, YS.out⟩
              case round =>
                obtain ⟨j, en2, hjk, rfl, hS⟩ := hrel
                have ZS := Lib.hid hS
                clear hS
                by_cases hji : j < i
                · have c2 := (HA.out.kept ZS.out.kept).st j (by omega)
                  have j0 : (j : Int) < i := by omega
                  have j1 : (0 : Int) ≤ (j : Int) := by omega
                  obtain rfl := HA.out.a 0 (by omega)
                  by_cases hst : St j = (s : Int)
                  · obtain ⟨⟨capF, rfl⟩, capG, rfl⟩ := HR.out (by omega)
                    have rf := (ZS.out.rf j hji).c
                    go_wp2_with fail
                    obtain ⟨f, C, hf⟩ := ZS.out.clk
                    refine (fill_any n j i (dd j) now dd f en2 ids hm16 hji _ (ZS.out.lays.ok j hji) (ZS.out.st j hji) C hf (ZS.out.lays.own hji)).mono ?_
                    rintro e w6 ⟨b, rfl, hb0, hSt, hCk, hK⟩
                    have XF := Lib.hid (ZS.out.fill hji _ hK hSt hCk)
                    have o1 := (XF.out.re j hji).c
                    have o2 := (XF.out.re j hji).fr
                    have o3 := (XF.out.re j hji).lt
                    clear rf c2 C hf hSt hCk hK
                    by_cases he : en2 j = 0
                    · obtain rfl := hb0 he
                      rw [he] at o1
                      rw [if_pos he] at XF
                      have HE := Lib.hid he
                      clear he hb0
                      go_wp2_with fail
                      go_roundg (gk - 1)
                      case measure => omega
                      case rel => exact ⟨j + 1, put en2 j 1, by omega, by go_num, XF.out.mark hji 1 1 rfl⟩
                    · have hp : put en2 j (if en2 j = 0 then 1 else en2 j) = en2 := by rw [if_neg he, put_self]
                      rw [hp] at XF
                      have g1 : (((en2 j : Nat) : Int) == 0) = false := by simp; omega
                      clear he hb0 hp
                      cases b with
                      | true =>
                        go_wp2_with fail
                        go_roundg (gk - 1)
                        case measure => omega
                        case rel => exact ⟨j + 1, en2, by omega, by go_num, XF.out⟩
                      | false =>
                        go_wp2_with fail
                        go_roundg (gk - 1)
                        case measure => omega
                        case rel => exact ⟨j + 1, en2, by omega, by go_num, XF.out⟩
                  · go_wp2_with fail
                    go_roundg (gk - 1)
                    case measure => omega
                    case rel => exact ⟨j + 1, en2, by omega, by go_num, ZS.out⟩
                · obtain rfl : i = j := by omega
                  obtain ⟨hbo, hcs⟩ := HS.out s (by omega)
                  obtain rfl := hbo
                  have c3 := (ZS.out.kept.cell (p := ⟨tb, tg + s, none⟩) (World.block_lt_of_cell? _ _ hcs) id).trans hcs
                  have s0 : (s : Int) < p := by omega
                  have s1 : (0 : Int) ≤ (s : Int) := by omega
                  obtain ⟨dt, hdt⟩ : ∃ dt : Int, Hid (goOf (Sp s) = dt) := ⟨_, rfl⟩
                  have hgr := go_range (Sp s)
                  rw [hdt.out] at hgr
                  have hn2 : now ≤ 600 := by omega
                  clear hcs
                  go_wp2_with fail
                  refine (at_walk 20 _ (by decide) (by decide) _).mono ?_
                  rintro e w2 ⟨rfl, rfl⟩
                  rw [show atOf 20 ((Sp s).tmod 1000) = dt from hdt.out]
                  go_wp2_with fail
                  refine (adv_limit _ n i ids now dt (now + dt) dd en2 hm16 ZS.out.lays hn0 (by omega) hgr.1 (later_add hn0 (by omega) (by omega)) ZS.out.st ZS.out.clk).mono ?_
                  rintro e w7 ⟨rfl, hSt, hCk, hK⟩
                  have XA := Lib.hid (ZS.out.turn hK hSt hCk)
                  clear hSt hCk hK c3
                  go_wp2_with fail
                  go_loopg [20, 21] i (fun k a20 a21 wr => LateRel w0 wr n fB gB w5.heap.size i k ids dd (now + dt) en2 a20 a21)
                  case atStart => exact ⟨0, by omega, rfl, rfl, by rw [upto_zero]; exact XA.out⟩
                  case round =>
                    obtain ⟨j, hjk, rfl, rfl, hS⟩ := hrel
                    have VS := Lib.hid hS
                    clear hS
                    by_cases hji : j < i
                    · have c1 := (HA.out.kept VS.out.kept).at_ j (by omega)
                      have j0 : (j : Int) < i := by omega
                      have j1 : (0 : Int) ≤ (j : Int) := by omega
                      obtain rfl := HA.out.a 0 (by omega)
                      have hup : upto en2 (fin en2 dd (now + dt)) j j = en2 j := by unfold upto; rw [if_neg (by omega)]
                      have o1 := (VS.out.re j hji).c
                      have o2 := (VS.out.re j hji).fr
                      have o3 := (VS.out.re j hji).lt
                      rw [hup] at o1
                      have hll := left_le (ovf en2) dd (now + dt) j
                      by_cases he : en2 j = 0
                      · rw [he] at o1
                        have hdj : atOf 40 ((At j).tmod 1000) = dd j := (HD.out j hji).symm
                        have HDJ := Lib.hid hdj
                        have HE := Lib.hid he
                        clear hdj he hup
                        go_wp2_with fail
                        refine (at_walk 40 _ (by decide) (by decide) _).mono ?_
                        rintro e w8 ⟨rfl, rfl⟩
                        rw [HDJ.out]
                        by_cases hd : dd j ≤ now + dt
                        · have hf2 : fin en2 dd (now + dt) j = 2 := by unfold fin; rw [if_pos ⟨HE.out, hd⟩]
                          have hlf : left (ovf en2) dd (now + dt) (j + 1) = left (ovf en2) dd (now + dt) j + 1 := by
                            show left (ovf en2) dd (now + dt) j + _ = _
                            rw [if_pos ⟨ovf_zero HE.out, hd⟩]
                          have F2 := Lib.hid hf2
                          have FL := Lib.hid hlf
                          clear hf2 hlf
                          go_wp2_with fail
                          go_roundg (gk - 1)
                          case measure => omega
                          case rel => exact ⟨j + 1, by omega, by go_num, by rw [FL.out]; go_num, by rw [← upto_put, F2.out]; exact VS.out.mark hji 2 2 rfl⟩
                        · have hf2 : fin en2 dd (now + dt) j = en2 j := by unfold fin; rw [if_neg fun h => hd h.2]
                          have hlf : left (ovf en2) dd (now + dt) (j + 1) = left (ovf en2) dd (now + dt) j := by
                            show left (ovf en2) dd (now + dt) j + _ = _
                            rw [if_neg fun h => hd h.2]; rfl
                          have F2 := Lib.hid hf2
                          have FL := Lib.hid hlf
                          clear hf2 hlf
                          go_wp2_with fail
                          go_roundg (gk - 1)
                          case measure => omega
                          case rel => exact ⟨j + 1, by omega, by go_num, by rw [FL.out], by rw [← upto_same _ _ _ F2.out]; exact VS.out⟩
                      · have g1 : (((en2 j : Nat) : Int) == 0) = false := by simp; omega
                        have hf2 : fin en2 dd (now + dt) j = en2 j := by unfold fin; rw [if_neg fun h => he h.1]
                        have hlf : left (ovf en2) dd (now + dt) (j + 1) = left (ovf en2) dd (now + dt) j := by
                          show left (ovf en2) dd (now + dt) j + _ = _
                          rw [if_neg fun h => he (ovf_false h.1)]; rfl
                        have F2 := Lib.hid hf2
                        have FL := Lib.hid hlf
                        clear hf2 hlf he hup
                        go_wp2_with fail
                        go_roundg (gk - 1)
                        case measure => omega
                        case rel => exact ⟨j + 1, by omega, by go_num, by rw [FL.out], by rw [← upto_same _ _ _ F2.out]; exact VS.out⟩
                    · obtain rfl : i = j := by omega
                      have XE := Lib.hid (VS.out.congr (er' := fin en2 dd (now + dt)) (fun k hk => by unfold upto; rw [if_pos hk]) fun _ _ => rfl)
                      go_wp2_with fail
                      go_loopg [22] i (fun k a22 wr => LookRel w0 wr n fB gB w5.heap.size i k ids dd (now + dt) (fin en2 dd (now + dt)) a22)
                      case atStart => exact ⟨0, by omega, rfl, XE.out⟩
                      case round =>
                        obtain ⟨j, hjk, rfl, hS⟩ := hrel
                        have US := Lib.hid hS
                        clear hS
                        by_cases hji : j < i
                        · obtain ⟨⟨capF, rfl⟩, capG, rfl⟩ := HR.out (by omega)
                          have j0 : (j : Int) < i := by omega
                          have j1 : (0 : Int) ≤ (j : Int) := by omega
                          have rg := (US.out.rg j hji).c
                          go_wp2_with fail
                          refine (peek_any n j (ids j) (dd j) _ _ (US.out.st j hji)).mono ?_
                          rintro e w9 ⟨hK, hcase⟩
                          have PS := Lib.hid (US.out.still hK)
                          have o1 := (PS.out.re j hji).c
                          clear hK rg
                          rcases hcase with ⟨he, rfl⟩ | ⟨he, rfl⟩ | ⟨he, y, rfl⟩
                          · rw [he] at o1
                            clear he
                            go_wp2_with fail
                            go_roundg (gk - 1)
                            case measure => omega
                            case rel => exact ⟨j + 1, by omega, by go_num, PS.out⟩
                          · rw [he] at o1
                            clear he
                            go_wp2_with fail
                            go_roundg (gk - 1)
                            case measure => omega
                            case rel => exact ⟨j + 1, by omega, by go_num, PS.out⟩
                          · rw [he] at o1
                            clear he
                            go_wp2_with fail
                            refine (class_late _ _ (HG.out.kept PS.out.kept id)).mono ?_
                            rintro e w10 ⟨rfl, hK⟩
                            have QS := Lib.hid (PS.out.still hK)
                            clear hK
                            go_wp2_with fail
                            go_roundg (gk - 1)
                            case measure => omega
                            case rel => exact ⟨j + 1, by omega, by go_num, QS.out⟩
                        · obtain rfl : i = j := by omega
                          go_wp2_with fail
                          go_roundg (p - (s + 1))
                          case measure => omega
                          case rel => exact ⟨s + 1, now + dt, fin en2 dd (now + dt), by omega, by go_num, rfl, by omega, by omega, US.out⟩
            · obtain rfl : s = p := by omega
              go_wp2_with fail
              refine (works_any _ (HG.out.kept YS.out.kept id)).mono ?_
              rintro e w2 ⟨rfl, K⟩
              have HW := Lib.hid (YS.out.kept.trans K)
              clear K
              go_wp2_with fail
              go_ret
              exact ⟨rfl, HW.out⟩
end Go.Proofs.YtkbcpifhbpfhlaaGreatDoor

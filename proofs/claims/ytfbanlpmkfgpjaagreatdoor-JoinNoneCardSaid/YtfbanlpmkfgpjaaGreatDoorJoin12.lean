/-
  treadlelaw16: works() answers true.
-/
import Derived.Test.YtfbanlpmkfgpjaaGreatDoorJoin11
namespace Go.Proofs.YtfbanlpmkfgpjaaGreatDoor
open Go.RowKit

/-- A row of two pointers. -/
theorem row2 (W : World) (A B : Nat) : ∀ j, j < 2 → (W.alloc (.cells #[.pointer (some ⟨A + 5, 0, none⟩), .pointer (some ⟨B + 5, 0, none⟩)] 24)).cell? ⟨W.heap.size, j, none⟩ = some (.pointer (some ⟨two A B j + 5, 0, none⟩)) := by
  intro j hj
  have hh : (W.alloc (.cells #[.pointer (some ⟨A + 5, 0, none⟩), .pointer (some ⟨B + 5, 0, none⟩)] 24)).heap[W.heap.size]? = some (.cells #[.pointer (some ⟨A + 5, 0, none⟩), .pointer (some ⟨B + 5, 0, none⟩)] 24) := block_last _ _ _ rfl
  match j, hj with
  | 0, _ => exact (slot_of hh rfl).c
  | 1, _ => exact (slot_of hh rfl).c

theorem three_of {w wa wb wc w1 w2 wd w3 w4 we w5 w6 : World} {la ha pa lb hb pb l1 h1 p1 V jb bj E be Lc bl s1 G2 l2 h2 p2 E2 be2 Lc2 bl2 bg2 s2 l3 h3 p3 s3 : Nat} {X0 X1 X2 : Nat → Nat → Value} (Hsa : wa.heap.size = w.heap.size + 6) (Hsb : wb.heap.size = wa.heap.size + 6) (HS0 : wc.heap.size = wb.heap.size + 1) (HK0 : Kept (fun _ => False) w wc)
    (F1 : Ftr w2 wc.heap.size l1 h1 p1 0 0 .nilIface 0 0 (fun _ => .pointer none)) (J1 : Jn w2 wc.heap.size (wc.heap.size + 6) (wc.heap.size + 7) V jb bj 2 (fun _ => 0)) (E1 : El w2 E be Lc bl 2 (2 : Nat))
    (b1 : Btw (wc.heap.size + 8) V (wc.heap.size + 11) ∧ Btw (wc.heap.size + 8) jb (wc.heap.size + 11) ∧ Btw (wc.heap.size + 8) bj (wc.heap.size + 11))
    (b2 : Btw (wc.heap.size + 11) E w1.heap.size ∧ Btw (wc.heap.size + 11) be w1.heap.size ∧ Btw (wc.heap.size + 11) Lc w1.heap.size ∧ Btw (wc.heap.size + 11) bl w1.heap.size)
    (K1 : Kept (fun _ => False) wc w1) (G1 : Hung w1 w2 2 0 2 (two w.heap.size wa.heap.size) (two la lb) (two ha hb) (two pa pb) X0 w1.heap.size s1 (FA wc.heap.size bj be bl))
    (hX1 : X1 = fun j => put (X0 j) 0 (.pointer (some ⟨s1 + 6 * j + 5, 0, none⟩)))
    (HS2 : wd.heap.size = w2.heap.size + 1) (HK2 : Kept (fun _ => False) w2 wd)
    (F2 : Ftr w4 G2 l2 h2 p2 0 0 .nilIface 0 0 (fun _ => .pointer none)) (B2 : Slot w4 bg2 0 (.pointer (some ⟨G2 + 5, 0, none⟩)))
    (c1 : wd.heap.size < G2 ∧ G2 + 6 ≤ w3.heap.size ∧ Btw (wd.heap.size + 1) bg2 w3.heap.size ∧ Btw (wd.heap.size + 1) E2 w3.heap.size ∧ Btw (wd.heap.size + 1) be2 w3.heap.size ∧ Btw (wd.heap.size + 1) Lc2 w3.heap.size ∧ Btw (wd.heap.size + 1) bl2 w3.heap.size)
    (c2 : ∀ b, FOwn G2 b → b ≠ bg2 ∧ b ≠ E2 ∧ b ≠ be2 ∧ b ≠ Lc2 ∧ b ≠ bl2) (K3 : Kept (fun _ => False) wd w3)
    (G3 : Hung w3 w4 2 1 2 (two w.heap.size wa.heap.size) (two la lb) (two ha hb) (two pa pb) X1 w3.heap.size s2 (FN bg2 be2 bl2 wd.heap.size))
    (hX2 : X2 = fun j => put (X1 j) 1 (.pointer (some ⟨s2 + 6 * j + 5, 0, none⟩)))
    (HS4 : we.heap.size = w4.heap.size + 1) (HK4 : Kept (fun _ => False) w4 we)
    (F3 : Ftr w6 we.heap.size l3 h3 p3 0 0 .nilIface 0 0 (fun _ => .pointer none)) (Q3 : Qu w6 we.heap.size 2 2 0 0) (z3 : w5.heap.size = we.heap.size + 13) (K5 : Kept (fun _ => False) we w5)
    (G5 : Hung w5 w6 2 2 2 (two w.heap.size wa.heap.size) (two la lb) (two ha hb) (two pa pb) X2 w5.heap.size s3 (FQ we.heap.size)) :
    Three w w6 w.heap.size la ha pa wa.heap.size lb hb pb wc.heap.size l1 h1 p1 V jb bj E be Lc bl w1.heap.size w1.heap.size s1 G2 l2 h2 p2 bg2 be2 bl2 wd.heap.size wd.heap.size w3.heap.size w3.heap.size s2 we.heap.size l3 h3 p3 w5.heap.size s3
      (put (X2 0) 2 (.pointer (some ⟨s3 + 6 * 0 + 5, 0, none⟩))) (put (X2 1) 2 (.pointer (some ⟨s3 + 6 * 1 + 5, 0, none⟩))) := by
  subst hX1
  subst hX2
  have ow : ∀ b, wc.heap.size ≤ b → ¬ Own 2 (two w.heap.size wa.heap.size) b := fun b hb h => by
    rcases own_two h with ⟨h1, h2⟩ | ⟨h1, h2⟩ <;> omega
  have e2 := HK2.size
  have e3 := K3.size
  have e4 := G3.kept.size
  have e6 := HK4.size
  have z1 := G1.size
  have z2 := G3.size
  have z5 := G5.size
  have y1 := G1.lo.2
  have y3 := G3.lo.2
  have y5 := G5.lo.2
  have k1 := K1.size
  have q1 := b1.1.1
  have q2 := b2.1.1
  have q3 := b2.1.2
  have k24 : Kept (Own 2 (two w.heap.size wa.heap.size)) w2 w4 := ((HK2.trans K3).mono fun _ _ h => h.elim).trans G3.kept
  have k46 : Kept (Own 2 (two w.heap.size wa.heap.size)) w4 w6 := ((HK4.trans K5).mono fun _ _ h => h.elim).trans G5.kept
  have k26 := k24.trans k46
  have kw : Kept (fun _ => False) w w6 := by
    have h1 := (HK0.trans K1).far (G1.kept.trans k26) (fun b h => by rcases own_two h with ⟨h1, h2⟩ | ⟨h1, h2⟩ <;> omega)
    exact h1
  refine ⟨G5.done 0 (by decide), G5.done 1 (by decide), ⟨rfl, rfl, rfl⟩, ⟨rfl, rfl, rfl⟩, ⟨?_, ?_, G5.ent 0 (by decide)⟩, ⟨?_, ?_, G5.ent 1 (by decide)⟩, ?_, ?_, ⟨F3, Q3⟩, ⟨by omega, by omega, by omega, by omega, by omega, by omega, by omega, by omega, by omega, by omega, by omega, by omega, by omega⟩, rfl, kw⟩
  · exact (G1.ent 0 (by decide)).kept k26 (ow _ (by omega)) (fun b h1 h2 => ow b (by omega))
  · exact (G3.ent 0 (by decide)).kept k46 (ow _ (by omega)) (fun b h1 h2 => ow b (by omega))
  · exact (G1.ent 1 (by decide)).kept k26 (ow _ (by omega)) (fun b h1 h2 => ow b (by omega))
  · exact (G3.ent 1 (by decide)).kept k46 (ow _ (by omega)) (fun b h1 h2 => ow b (by omega))
  · refine CA.kept ⟨F1, J1, E1, ⟨b1.1, b1.2.1, b1.2.2, b2.1.1, b2.2.1.1, b2.2.2.1.1, b2.2.2.2.1⟩, by omega, b2.1.2, b2.2.1.2, b2.2.2.1.2, b2.2.2.2.2⟩ k26 (fun b h1 h2 => ow b h1)
  · exact CN.kept ⟨F2, B2, fun h => (c2 _ h).1 rfl, by omega, by omega, by have := c1.2.2.1.1; omega, c1.2.2.1.2⟩ k46 (fun b h1 h2 => ow b (by omega))

set_option maxRecDepth 100000 in
set_option maxHeartbeats 3200000 in
theorem works_ok (w : World) : Calls Tryz.prog 12 #[] w fun e w' => e = .returned (.bool true) ∧ Kept (fun _ => False) w w' := by
  go_enter Tryz.func12, Tryz.ntmps12
  go_wp2_with fail
  refine (fnew_any _).mono ?_
  rintro e wa ⟨la, ha, pa, rfl, sa, Fa, Ka⟩
  have HFa := Lib.hid Fa
  have HKa := Lib.hid Ka
  have Hsa := Lib.hid sa
  clear Fa Ka sa
  go_wp2_with fail
  refine (fnew_any _).mono ?_
  rintro e wb ⟨lb, hb, pb, rfl, sb, Fb, Kb⟩
  have HFa1 := Lib.hid (HFa.out.far Kb)
  have HFb := Lib.hid Fb
  have HKb := Lib.hid (HKa.out.trans Kb)
  have Hsb := Lib.hid sb
  clear HFa HKa Fb Kb sb
  -- All
  have KS : Kept (fun _ => False) wb (wb.alloc (.cells #[.pointer (some ⟨w.heap.size + 5, 0, none⟩), .pointer (some ⟨wa.heap.size + 5, 0, none⟩)] 24)) := (Kept.refl _ wb).alloc _
  have A0 := fts_two (c := 0) (HFa1.out.far KS) (HFb.out.far KS) (fun _ _ => rfl) (by have := Hsa.out; omega)
  have HALL := Lib.hid (all_open wb.heap.size 2 2 0 (by decide) (by decide) (by decide) _ _ _ _ _ _ A0 (row2 _ _ _) (by simp) (unmade_of A0 wb.heap.size 2 (by decide) (row2 _ _ _) (by simp)))
  have HA0 := Lib.hid A0
  have HS0 : Hid ((wb.alloc (.cells #[.pointer (some ⟨w.heap.size + 5, 0, none⟩), .pointer (some ⟨wa.heap.size + 5, 0, none⟩)] 24)).heap.size = wb.heap.size + 1) := Lib.hid (by simp)
  have HK0 := Lib.hid (HKb.out.trans KS)
  clear A0 KS
  go_wp2_with fail
  generalize wb.alloc (.cells #[.pointer (some ⟨w.heap.size + 5, 0, none⟩), .pointer (some ⟨wa.heap.size + 5, 0, none⟩)] 24) = wc at HALL HA0 HS0 HK0 ⊢
  refine HALL.out.mono ?_
  rintro e w2 ⟨l1, h1, p1, V, jb, bj, E, be, Lc, bl, s1, w1, rfl, F1, J1, E1, b1, b2, K1, G1⟩
  have HC1 := Lib.hid (And.intro F1 (And.intro J1 (And.intro E1 (And.intro b1 (And.intro b2 (And.intro K1 G1))))))
  have HA1 := Lib.hid ((G1.fts HA0.out).kept ((Kept.refl (fun _ => False) w2).alloc (.cells #[.pointer (some ⟨w.heap.size + 5, 0, none⟩), .pointer (some ⟨wa.heap.size + 5, 0, none⟩)] 24)) (fun _ _ _ _ => id))
  clear F1 J1 E1 b1 b2 K1 G1 HALL
  have HANY := Lib.hid (any_open w2.heap.size 2 2 1 (by decide) (by decide) (by decide) _ _ _ _ _ _ HA1.out (row2 _ _ _) (by simp) (unmade_of HA1.out w2.heap.size 2 (by decide) (row2 _ _ _) (by simp)))
  have HS2 : Hid ((w2.alloc (.cells #[.pointer (some ⟨w.heap.size + 5, 0, none⟩), .pointer (some ⟨wa.heap.size + 5, 0, none⟩)] 24)).heap.size = w2.heap.size + 1) := Lib.hid (by simp)
  have HK2 : Hid (Kept (fun _ => False) w2 (w2.alloc (.cells #[.pointer (some ⟨w.heap.size + 5, 0, none⟩), .pointer (some ⟨wa.heap.size + 5, 0, none⟩)] 24))) := (Kept.refl _ _).alloc _
  go_wp2_with fail
  generalize w2.alloc (.cells #[.pointer (some ⟨w.heap.size + 5, 0, none⟩), .pointer (some ⟨wa.heap.size + 5, 0, none⟩)] 24) = wd at HANY HA1 HS2 HK2 ⊢
  refine HANY.out.mono ?_
  rintro e w4 ⟨G2, l2, h2, p2, E2, be2, Lc2, bl2, bg2, s2, w3, rfl, F2, B2, N2, E2f, c1, c2, c3, c4, K3, G3⟩
  have HC2 := Lib.hid (And.intro F2 (And.intro B2 (And.intro c1 (And.intro c2 (And.intro K3 G3)))))
  have HA2 := Lib.hid ((G3.fts HA1.out).kept ((Kept.refl (fun _ => False) w4).alloc (.cells #[.pointer (some ⟨w.heap.size + 5, 0, none⟩), .pointer (some ⟨wa.heap.size + 5, 0, none⟩)] 24)) (fun _ _ _ _ => id))
  clear F2 B2 N2 E2f c1 c2 c3 c4 K3 G3 HANY
  have HQ := Lib.hid (quorum_open w4.heap.size 2 2 2 2 (by decide) (by decide) (by decide) (by decide) (by decide) _ _ _ _ _ _ HA2.out (row2 _ _ _) (by simp) (unmade_of HA2.out w4.heap.size 2 (by decide) (row2 _ _ _) (by simp)))
  have HS4 : Hid ((w4.alloc (.cells #[.pointer (some ⟨w.heap.size + 5, 0, none⟩), .pointer (some ⟨wa.heap.size + 5, 0, none⟩)] 24)).heap.size = w4.heap.size + 1) := Lib.hid (by simp)
  have HK4 : Hid (Kept (fun _ => False) w4 (w4.alloc (.cells #[.pointer (some ⟨w.heap.size + 5, 0, none⟩), .pointer (some ⟨wa.heap.size + 5, 0, none⟩)] 24))) := (Kept.refl _ _).alloc _
  go_wp2_with fail
  generalize w4.alloc (.cells #[.pointer (some ⟨w.heap.size + 5, 0, none⟩), .pointer (some ⟨wa.heap.size + 5, 0, none⟩)] 24) = we at HQ HA2 HS4 HK4 ⊢
  refine HQ.out.mono ?_
  rintro e w6 ⟨l3, h3, p3, s3, w5, rfl, F3, Q3, z3, K5, G5⟩
  have T := by
    obtain ⟨F1, J1, E1, b1, b2, K1, G1⟩ := HC1.out
    obtain ⟨F2, B2, c1, c2, K3, G3⟩ := HC2.out
    exact three_of Hsa.out Hsb.out HS0.out HK0.out F1 J1 E1 b1 b2 K1 G1 rfl HS2.out HK2.out F2 B2 c1 c2 K3 G3 rfl HS4.out HK4.out F3 Q3 z3 K5 G5
  clear F3 Q3 z3 K5 G5 HQ
  have HT := Lib.hid (three_done T)
  clear T
  go_wp2_with fail
  refine HT.out.mono ?_
  rintro e w7 ⟨rfl, H7⟩
  have HH7 := Lib.hid H7
  clear H7
  go_wp2_with fail
  refine HH7.out.mono ?_
  rintro e w8 ⟨rfl, cd, cn, f3, k8⟩
  have HV := Lib.hid (values_two _ _ _ _ _ _ _ _ _ _ _ _ cd.jn cd.fut)
  have HE := Lib.hid (And.intro cn.fut (And.intro f3 k8))
  clear cd cn f3 k8
  go_wp2_with fail
  refine HV.out.mono ?_
  rintro e w9 ⟨R, rfl, r0, r1, r2, r3, k9⟩
  have HW := Lib.hid (fawait_is (by decide) w9 (HE.out.1.far k9))
  have HR := Lib.hid (And.intro r0 (And.intro r1 r2))
  have HE2 := Lib.hid (And.intro (HE.out.2.1.far k9) (HE.out.2.2.trans k9))
  clear r0 r1 k9
  go_wp2_with fail
  refine HW.out.mono ?_
  rintro e w10 ⟨rfl, k10⟩
  have HW2 := Lib.hid (fawait_is (by decide) w10 (HE2.out.1.far k10))
  have HR2 := Lib.hid (And.intro ((k10.cell (p := ⟨R, 0, none⟩) r2 id).trans HR.out.1) (And.intro ((k10.cell (p := ⟨R, 1, none⟩) r2 id).trans HR.out.2.1) (Nat.lt_of_lt_of_le r2 k10.size)))
  have HE3 := Lib.hid (HE2.out.2.trans k10)
  clear k10 r2
  go_wp2_with fail
  refine HW2.out.mono ?_
  rintro e w11 ⟨rfl, k11⟩
  have r0 := (k11.cell (p := ⟨R, 0, none⟩) HR2.out.2.2 id).trans HR2.out.1
  have r1 := (k11.cell (p := ⟨R, 1, none⟩) HR2.out.2.2 id).trans HR2.out.2.1
  have v0 : put (put (fun _ => (0 : Int)) 1 2) 0 1 0 = 1 := by simp [put]
  have v1 : put (put (fun _ => (0 : Int)) 1 2) 0 1 1 = 2 := by simp [put]
  rw [v0] at r0
  rw [v1] at r1
  have HE4 := Lib.hid (HE3.out.trans k11)
  clear k11 v0 v1
  go_wp2_with fail
  go_ret
  exact ⟨rfl, HE4.out⟩

end Go.Proofs.YtfbanlpmkfgpjaaGreatDoor

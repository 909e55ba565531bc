/-
  treadlelaw16.JoinNone: the walk where there are some, and all are whole.
-/
import Derived.Test.YtfbanlpmkfgpjaaGreatDoorJoin16
namespace Go.Proofs.YtfbanlpmkfgpjaaGreatDoor
open Go.RowKit

set_option maxRecDepth 100000 in
set_option maxHeartbeats 6400000 in
theorem walk_some (many k nobody : Int) (m : Nat) (hm : m < 6) (hnb : ¬ (0 ≤ nobody ∧ nobody < m)) (mp : 0 < m) (hat : ∀ w, Calls Tryz.prog 4 #[.int .i64 many, .int .i64 6] w fun e w' => e = .returned (.int .i64 m) ∧ w = w') (w : World) (hg : ErrorType w) : Calls Tryz.prog 3 #[.int .i64 many, .int .i64 k, .int .i64 nobody] w (Says true w) := by
  obtain ⟨i0, hi, hz0, hz1, hz2⟩ := info_parts Tryz.info24
  have HG := Lib.hid hg
  clear hg
  go_enter Tryz.func3, Tryz.ntmps3
  go_wp2_with fail
  refine (hat _).mono ?_
  rintro e w' ⟨rfl, rfl⟩
  have Hm : Hid (m < 6) := hm
  clear hm
  go_wp2_with fail
  go_loopw [7, 8] (fun v c wr => MkRel w m v c wr) (fun _ c _ => m - (intOf c).toNat)
  case atStart => exact ⟨0, Nat.zero_le _, rfl, fun _ => 0, fun _ => 0, fun _ => 0, fun _ => 0, ⟨World.ownsRow_nil _ _ _ _, fun j hj => by omega, fun a b ha => by omega, fun j hj => by omega, fun g hg j hj => by omega, Kept.refl _ _, fun _ => rfl⟩⟩
  case round =>
    obtain ⟨i, hi', rfl, fs, L, H, P, M⟩ := hrel
    by_cases hlt : i < m
    · have i1 : (i : Int) < m := by omega
      have h6 : m < 6 := Hm.out
      have HM := Lib.hid M
      clear M
      go_wp2_with fail
      refine (fnew_any _).mono ?_
      rintro e w1 ⟨l, h, p, rfl, s1, F1, K1⟩
      have KS : Kept (fun _ => False) w1 (w1.alloc (.cells #[.pointer (some ⟨wr.heap.size + 5, 0, none⟩)] 24)) := (Kept.refl _ w1).alloc _
      have K12 := K1.trans KS
      have hown := own_kept HM.out.own K12 (fun _ _ h => h)
      have HF1 := Lib.hid F1
      have HK1 := Lib.hid K1
      have Hs1 := Lib.hid s1
      have HKS := Lib.hid KS
      have hb : w.heap.size ≤ w1.heap.size := Nat.le_trans HM.out.kept.size K1.size
      clear F1 K1 s1 KS K12
      go_wp2_with (at_builtin; go_loud (refine wpList_append_lies _ rfl _ _ 23 rfl w.heap.size 24 i0 (.pointer none) 1 8 Tryz.underlying23 hi hz0 hz1 hz2 rfl (by decide) _ _ _ rfl hown ⟨w1.heap.size, 0, none⟩ 1 1 [.pointer (some ⟨wr.heap.size + 5, 0, none⟩)] rfl rfl ?c1 ?c2 ?c3 ?c4 ?c5 ?c6 _ rfl ?_))
      case c1 =>
        intro j u hj
        match j, hj with
        | 0, hj => simp at hj; subst hj; simp [Addr.add]
      case c2 => intro u hu; simp at hu; subst hu; rfl
      case c3 => decide
      case c4 =>
        simp only [maxLen]
        omega
      case c5 => omega
      case c6 => simp; omega
      intro g' cap' w3 own' grown' lies' lt'
      have M' := HM.out.step HF1.out Hs1.out HK1.out HKS.out own' grown' (fun g hg => by
        simp only [Value.ownBlock, Option.some.injEq] at hg
        subst hg
        rcases lies' with h | h
        · exact .inl h
        · exact .inr (by rw [h]; simp))
      have HM' := Lib.hid M'
      clear own' grown' lies' M' hown hb
      go_wp2_with fail
      go_roundw
      case rel => exact ⟨i + 1, by omega, by go_num, _, _, _, _, HM'.out⟩
      case measure => simp [intOf]; omega
    · obtain rfl : i = m := by omega
      have HM := Lib.hid M
      clear M hi'
      have lm : ¬ (i : Int) < i := by omega
      have h6 : i < 6 := Hm.out
      clear Hm
      go_upto_region 8 with fail
      go_cut [50] (fun b wx => wx = wr ∧ b = .bool (decide (0 ≤ nobody ∧ nobody < i)))
      case first =>
        by_cases c1 : 0 < i
        · have d1 : (0 : Int) < i := by omega
          by_cases c2 : 0 ≤ nobody
          · by_cases c3 : nobody < i
            · go_wp2_with fail
              go_meet
              exact ⟨rfl, by simp [c2, c3]; try omega⟩
            · have d3 : (i : Int) ≤ nobody := by omega
              go_wp2_with fail
              go_meet
              exact ⟨rfl, by simp [c2, c3]; try omega⟩
          · have d2 : nobody < 0 := by omega
            go_wp2_with fail
            go_meet
            exact ⟨rfl, by simp [c2]; try omega⟩
        · obtain rfl : i = 0 := by omega
          go_wp2_with fail
          go_meet
          exact ⟨rfl, by simp; try omega⟩
      case rest =>
        obtain ⟨rfl, rfl⟩ := hcut
        go_upto_if 50 with fail
        go_cut [7, 9] (fun v b wx => Kept (fun _ => False) w wx ∧ b = .bool false ∧ wx = wc ∧ v = u7)
        case first =>
          go_wp2_with fail
          go_meet
          exact ⟨HM.out.kept, rfl, rfl, rfl⟩
        case rest =>
          obtain ⟨K0, rfl, hw, rfl⟩ := hcut
          have HGx := Lib.hid (HG.out.kept K0 id)
          have HKx := Lib.hid K0
          clear K0
          subst hw
          obtain ⟨g, cap, rfl, lg, g0, gn, gc, gf⟩ := row_of HM.out mp
          have A0 := fts_of HM.out
          have HU := Lib.hid (unmade_of A0 g cap (by omega) gc lg)
          have HALL := Lib.hid (all_open g cap i 0 mp (by omega) (by decide) fs L H P _ wc A0 gc lg HU.out)
          have HA0 := Lib.hid A0
          have HGC := Lib.hid gc
          have HGN := Lib.hid gn
          have HG0 := Lib.hid g0
          have Hlg := Lib.hid lg
          have Hlo := Lib.hid HM.out.lo
          have ipos : (0 : Int) < i := by omega
          have ine : ¬ (i : Int) = 0 := by omega
          clear A0 gc gn gf g0 lg
          go_wp2_with fail
          refine HALL.out.mono ?_
          rintro e w2 ⟨l1, h1, p1, V, jb, bj, E, be, Lc, bl, s1, w1, rfl, F1, J1, E1, b1, b2, K1, G1⟩
          have own : ∀ b, Own i fs b → w.heap.size ≤ b := by
            rintro b ⟨j, hj, h1, h2⟩
            have := Hlo.out j hj
            omega
          have now : ∀ b, wc.heap.size ≤ b → ¬ Own i fs b := by
            rintro b hb ⟨j, hj, h1, h2⟩
            have := (HA0.out.fut j hj).size
            omega
          have gow : ¬ Own i fs g := by
            rintro ⟨j, hj, h⟩
            exact HGN.out j hj h
          have HB : Hid (wc.heap.size + 8 ≤ jb) := b1.2.1.1
          have HOw := Lib.hid own
          have HNow := Lib.hid now
          have HGow := Lib.hid gow
          have A1 := G1.fts HA0.out
          have K12 := (K1.mono (T := Own i fs) fun _ _ h => h.elim).trans G1.kept
          have gc1 : ∀ j, j < i → w2.cell? ⟨g, j, none⟩ = some (.pointer (some ⟨fs j + 5, 0, none⟩)) := fun j hj => (K12.cell (p := ⟨g, j, none⟩) Hlg.out gow).trans (HGC.out j hj)
          have lg1 : g < w2.heap.size := Nat.lt_of_lt_of_le Hlg.out K12.size
          have HANY := Lib.hid (any_open g cap i 1 mp (by omega) (by decide) fs L H P _ w2 A1 gc1 lg1 (unmade_of A1 g cap (by omega) gc1 lg1))
          have HA1 := Lib.hid A1
          have HGC1 := Lib.hid gc1
          have Hlg1 := Lib.hid lg1
          have HF1 := Lib.hid F1
          have HJ1 := Lib.hid J1.j0
          have HK1 := Lib.hid (HKx.out.far K12 own)
          have Hsz : Hid (wc.heap.size ≤ w2.heap.size) := K12.size
          clear F1 J1 E1 b1 b2 K1 G1 A1 K12 gc1 lg1 own now gow HALL
          go_wp2_with fail
          refine HANY.out.mono ?_
          rintro e w4 ⟨G2, l2, h2, p2, E2, be2, Lc2, bl2, bg2, s2, w3, rfl, F2, B2, N2, E2f, c1, c2, c3, c4, K3, G3⟩
          have A2 := G3.fts HA1.out
          have K34 := (K3.mono (T := Own i fs) fun _ _ h => h.elim).trans G3.kept
          have gc2 : ∀ j, j < i → w4.cell? ⟨g, j, none⟩ = some (.pointer (some ⟨fs j + 5, 0, none⟩)) := fun j hj => (K34.cell (p := ⟨g, j, none⟩) Hlg1.out HGow.out).trans (HGC1.out j hj)
          have lg2 : g < w4.heap.size := Nat.lt_of_lt_of_le Hlg1.out K34.size
          have HUQ := Lib.hid (unmade_of A2 g cap (by omega) gc2 lg2)
          have HA2 := Lib.hid A2
          have HGC2 := Lib.hid gc2
          have Hlg2 := Lib.hid lg2
          have HF2 := Lib.hid (HF1.out.kept K34 (fun b hb => HNow.out b hb.1))
          have HJ2 := Lib.hid (HJ1.out.kept K34 (HNow.out _ (by have := HB.out; omega)))
          have HK2 := Lib.hid (HK1.out.far K34 HOw.out)
          have Hsz2 : Hid (wc.heap.size ≤ w4.heap.size) := Nat.le_trans Hsz.out K34.size
          clear F2 B2 N2 E2f c1 c2 c3 c4 K3 G3 A2 K34 gc2 lg2 HANY
          go_upto_region 15 with fail
          go_cut [14, 15] (fun c g wx => Kept (fun _ => False) w wx ∧ Slot wx jb 0 (.pointer (some ⟨wc.heap.size + 5, 0, none⟩)) ∧ Ftr wx wc.heap.size l1 h1 p1 0 0 .nilIface 0 0 (fun _ => .pointer none) ∧ QR wx i k c g)
          case first =>
            by_cases hk : k = 0
            · subst hk
              go_wp2_with fail
              refine (quorum_zero _ _ _ _ HUQ.out).mono ?_
              rintro e w5 ⟨l3, h3, p3, rfl, F3, K3⟩
              have HF3 := Lib.hid F3
              have HA := Lib.hid (And.intro (HK2.out.trans K3) (And.intro (HJ2.out.kept K3 id) (HF2.out.far K3)))
              clear F3 K3
              go_wp2_with fail
              go_meet
              exact ⟨HA.out.1, HA.out.2.1, HA.out.2.2, .inr ⟨_, _, _, _, _, _, rfl, rfl, HF3.out, .inl ⟨rfl, rfl⟩⟩⟩
            · by_cases hk2 : k < 0 ∨ (i : Int) < k
              · go_wp2_with fail
                refine (quorum_arg _ _ _ k hk2 _ HUQ.out).mono ?_
                rintro e w5 ⟨rfl, rfl⟩
                go_wp2_with fail
                go_meet
                exact ⟨HK2.out, HJ2.out, HF2.out, .inl ⟨hk2, rfl, rfl⟩⟩
              · have HQO := Lib.hid (quorum_open g cap i 2 k mp (by omega) (by omega) (by omega) (by decide) fs L H P _ w4 HA2.out HGC2.out Hlg2.out HUQ.out)
                go_wp2_with fail
                refine HQO.out.mono ?_
                rintro e w6 ⟨l3, h3, p3, s3, w5, rfl, F3, Q3, z3, K5, G5⟩
                have K46 := (K5.mono (T := Own i fs) fun _ _ h => h.elim).trans G5.kept
                have HF3 := Lib.hid F3
                have HA := Lib.hid (And.intro (HK2.out.far K46 HOw.out) (And.intro (HJ2.out.kept K46 (HNow.out _ (by have := HB.out; omega))) (HF2.out.kept K46 (fun b hb => HNow.out b hb.1))))
                clear F3 Q3 z3 K5 G5 K46 HQO
                go_wp2_with fail
                go_meet
                exact ⟨HA.out.1, HA.out.2.1, HA.out.2.2, .inr ⟨_, _, _, _, _, _, rfl, rfl, HF3.out, .inr ⟨by omega, by omega, rfl⟩⟩⟩
          case rest =>
            obtain ⟨K5, J5, F5, hq⟩ := hcut
            have HGx := Lib.hid (HG.out.kept K5 id)
            have HK5 := Lib.hid K5
            have HJ5 := Lib.hid J5
            have HF5 := Lib.hid F5
            have HQ5 := Lib.hid hq
            clear K5 J5 F5 hq HK2 HJ2 HF2 HA0 HA1 HA2 HU HUQ HGC HGC1 HGC2
            have KB : Kept (fun _ => False) wc (wc.alloc (.cells #[.pointer none, .slice none 0 0] 41)) := (Kept.refl _ _).alloc _
            have B0 : Slot (wc.alloc (.cells #[.pointer none, .slice none 0 0] 41)) wc.heap.size 0 (.pointer none) := slot_of (block_last _ _ _ rfl) rfl
            have HKB := Lib.hid KB
            have hb0 := B0.c
            clear KB B0
            go_wp2_with fail
            generalize wc.alloc (.cells #[.pointer none, .slice none 0 0] 41) = WB at HKB hb0 ⊢
            refine (values_nil _).mono ?_
            rintro e w' ⟨rfl, rfl⟩
            go_wp2_with fail
            refine (values_bare _ _ hb0).mono ?_
            rintro e w' ⟨rfl, rfl⟩
            go_wp2_with fail
            refine (jfuture_nil _).mono ?_
            rintro e w' ⟨rfl, rfl⟩
            go_wp2_with fail
            refine (jfuture_bare _ _ hb0).mono ?_
            rintro e w' ⟨rfl, rfl⟩
            go_wp2_with fail
            refine (class_num 2 _ (HGx.out.kept HKB.out id)).mono ?_
            rintro e W2 ⟨rfl, K2⟩
            have HK2 := Lib.hid (HKB.out.trans K2)
            clear K2 hb0
            go_wp2_with fail
            refine (class_num 2 _ (HGx.out.kept HK2.out id)).mono ?_
            rintro e W3 ⟨rfl, K3⟩
            have HK3 := Lib.hid (HK2.out.trans K3)
            clear K3 HK2 HKB
            have HF7 := Lib.hid (HF5.out.far HK3.out)
            have HJ7 := Lib.hid (HJ5.out.kept HK3.out id)
            have HK7 := Lib.hid (HK5.out.trans HK3.out)
            have hj7 := HJ7.out.c
            rcases HQ5.out with ⟨hk, rfl, rfl⟩ | ⟨G3, l3, h3, p3, s3, hd3, rfl, rfl, F6, hk⟩
            · clear HQ5
              rcases hk with hk | hk
              · go_wp2_with fail
                refine (jfuture_is jb _ _ hj7).mono ?_
                rintro e w' ⟨rfl, rfl⟩
                go_wp2_with fail
                refine (fpeek_open (by decide) _ HF7.out).mono ?_
                rintro e W8 ⟨rfl, K8⟩
                have HK8 := Lib.hid K8
                clear K8
                go_wp2_with fail
                refine (fpeek_nil2 W8).mono ?_
                rintro e W9 ⟨rfl, K9⟩
                have HK9 := Lib.hid ((HK7.out.trans HK8.out).trans K9)
                clear K9
                go_wp2_with fail
                refine (works_ok _).mono ?_
                rintro e W4 ⟨rfl, K4⟩
                have HK4 := Lib.hid (HK9.out.trans K4)
                clear K4
                go_wp2_with fail
                go_ret
                exact ⟨by simp; try omega, HK4.out⟩
              · have hk0 : 0 ≤ k := by omega
                go_wp2_with fail
                refine (jfuture_is jb _ _ hj7).mono ?_
                rintro e w' ⟨rfl, rfl⟩
                go_wp2_with fail
                refine (fpeek_open (by decide) _ HF7.out).mono ?_
                rintro e W8 ⟨rfl, K8⟩
                have HK8 := Lib.hid K8
                clear K8
                go_wp2_with fail
                refine (fpeek_nil2 W8).mono ?_
                rintro e W9 ⟨rfl, K9⟩
                have HK9 := Lib.hid ((HK7.out.trans HK8.out).trans K9)
                clear K9
                go_wp2_with fail
                refine (works_ok _).mono ?_
                rintro e W4 ⟨rfl, K4⟩
                have HK4 := Lib.hid (HK9.out.trans K4)
                clear K4
                go_wp2_with fail
                go_ret
                exact ⟨by simp; try omega, HK4.out⟩
            · have HF6 := Lib.hid (F6.far HK3.out)
              clear F6 HQ5
              rcases hk with ⟨rfl, rfl⟩ | ⟨hk1, hk2, rfl⟩
              · go_wp2_with fail
                refine (jfuture_is jb _ _ hj7).mono ?_
                rintro e w' ⟨rfl, rfl⟩
                go_wp2_with fail
                refine (fpeek_open (by decide) _ HF7.out).mono ?_
                rintro e W8 ⟨rfl, K8⟩
                have HK8 := Lib.hid K8
                clear K8
                go_wp2_with fail
                refine (fpeek_is (by decide) _ (HF6.out.far HK8.out)).mono ?_
                rintro e W9 ⟨rfl, K9⟩
                have HK9 := Lib.hid ((HK7.out.trans HK8.out).trans K9)
                clear K9
                go_wp2_with fail
                refine (works_ok _).mono ?_
                rintro e W4 ⟨rfl, K4⟩
                have HK4 := Lib.hid (HK9.out.trans K4)
                clear K4
                go_wp2_with fail
                go_ret
                exact ⟨by simp; try omega, HK4.out⟩
              · have hk0 : 0 ≤ k := by omega
                have hk3 : ¬ k = 0 := by omega
                go_wp2_with fail
                refine (jfuture_is jb _ _ hj7).mono ?_
                rintro e w' ⟨rfl, rfl⟩
                go_wp2_with fail
                refine (fpeek_open (by decide) _ HF7.out).mono ?_
                rintro e W8 ⟨rfl, K8⟩
                have HK8 := Lib.hid K8
                clear K8
                go_wp2_with fail
                refine (fpeek_open (by decide) _ (HF6.out.far HK8.out)).mono ?_
                rintro e W9 ⟨rfl, K9⟩
                have HK9 := Lib.hid ((HK7.out.trans HK8.out).trans K9)
                clear K9
                go_wp2_with fail
                refine (works_ok _).mono ?_
                rintro e W4 ⟨rfl, K4⟩
                have HK4 := Lib.hid (HK9.out.trans K4)
                clear K4
                go_wp2_with fail
                go_ret
                exact ⟨by simp; try omega, HK4.out⟩


theorem walk_joinNone (many k nobody : Int) (w : World) (hg : ErrorType w) : Calls Tryz.prog 3 #[.int .i64 many, .int .i64 k, .int .i64 nobody] w (Says true w) := by
  obtain ⟨m, hm, hat⟩ := at_what many
  by_cases hb : 0 ≤ nobody ∧ nobody < m
  · exact walk_bad many k nobody m hm hb hat w hg
  · by_cases hz : m = 0
    · exact walk_zero many k nobody m hm hb hz hat w hg
    · exact walk_some many k nobody m hm hb (by omega) hat w hg

end Go.Proofs.YtfbanlpmkfgpjaaGreatDoor

/-
  treadlelaw16.JoinNone: the walk, up to what the three calls answer.
-/
import Derived.Test.YtfbanlpmkfgpjaaGreatDoorJoinAt
namespace Go.Proofs.YtfbanlpmkfgpjaaGreatDoor
open Go.RowKit

theorem fpeek_open {n l h p : Nat} {s v m hd : Int} {e : Value} {x : Nat → Value} (hs : s < 2) (w : World) (F : Ftr w n l h p s v e m hd x) : Calls Tryz.prog 13 #[.pointer (some ⟨n + 5, 0, none⟩), .pointer none] w fun r w' => r = .returned (.tuple #[.int .i64 0, .nilIface, .bool false]) ∧ Kept (fun _ => False) w w' := by
  have t0 := F.t0
  have c0 := F.cel.c0
  have c1 := F.cel.c1
  clear F
  go_enter Tryz.func13, Tryz.ntmps13
  go_wp2_with (first
    | (go_at_call 31; refine (fnone_is (n + 5) _ _ t0).mono ?_; rintro e w' ⟨rfl, rfl⟩)
    | (go_at_call 32; refine (load_free n s _ c0 c1).mono ?_; rintro e w' ⟨rfl, rfl⟩))
  go_ret3
  exact ⟨rfl, Kept.refl _ _⟩

/-- A call that answers b, and leaves all as it was. -/
def Says (b : Bool) (w : World) : Ending → World → Prop := fun e w' => e = .returned (.bool b) ∧ Kept (fun _ => False) w w'

theorem row_of {w0 W : World} {v : Value} {m : Nat} {fs L H P : Nat → Nat} (M : Mk w0 W v m fs L H P) (hm : 0 < m) : ∃ g cap : Nat, v = .slice (some ⟨g, 0, none⟩) m cap ∧ g < W.heap.size ∧ w0.heap.size ≤ g ∧ (∀ j, j < m → ¬ FOwn (fs j) g) ∧ (∀ j, j < m → W.cell? ⟨g, j, none⟩ = some (.pointer (some ⟨fs j + 5, 0, none⟩))) ∧ (∀ j, W.frozen? ⟨g, j, none⟩ = false) := by
  have ow := M.own
  rcases ow.2 with ⟨_, h⟩ | ⟨g, cap, cur, hv, hg, hgg, _⟩
  · omega
  · subst hv
    refine ⟨g, cap, rfl, (Array.getElem?_eq_some_iff.1 hgg).1, hg, M.nrow g rfl, fun j hj => ?_, fun j => ow.frozenAt j⟩
    rw [ow.cellAt j (by omega)]
    unfold rowF
    rw [List.getElem?_map, List.getElem?_range hj]
    rfl

theorem fts_of {w0 W : World} {v : Value} {m : Nat} {fs L H P : Nat → Nat} (M : Mk w0 W v m fs L H P) : Fts W m 0 fs L H P (fun _ _ => .pointer none) := ⟨fun j hj => M.fut j hj, fun _ _ _ _ => rfl, M.apart⟩

/-- What a Quorum answers. -/
def QR (wx : World) (m : Nat) (k : Int) (c g : Value) : Prop :=
  ((k < 0 ∨ (m : Int) < k) ∧ c = .pointer none ∧ g = .int .i64 1) ∨
  (∃ (G3 l3 h3 p3 : Nat) (s3 hd3 : Int), c = .pointer (some ⟨G3 + 5, 0, none⟩) ∧ g = .int .i64 0 ∧ Ftr wx G3 l3 h3 p3 s3 0 .nilIface 0 hd3 (fun _ => .pointer none) ∧ ((k = 0 ∧ s3 = 2) ∨ (0 < k ∧ k ≤ m ∧ s3 = 0)))

theorem fpeek_nil2 (w : World) : Calls Tryz.prog 13 #[.pointer none, .pointer none] w fun e w' => e = .returned (.tuple #[.int .i64 0, .nilIface, .bool false]) ∧ Kept (fun _ => False) w w' := by
  refine (fpeek_nil w).mono ?_
  rintro e w' ⟨rfl, rfl⟩
  exact ⟨rfl, Kept.refl _ _⟩

/-- The futures of the law, and what is spoilt. -/
theorem tells_fut {W : World} {n l h p : Nat} {s v m hd : Int} {e : Value} {x : Nat → Value} (F : Ftr W n l h p s v e m hd x) : Tells W (.pointer (some ⟨n + 5, 0, none⟩)) false := unmade1_is (n + 5) _ W F.t0

theorem spoil_nil {W : World} {g q : Nat} {u : Value} (S : Slot W g q u) (v : Nat → Value) (i : Nat) (h : ∀ j, j < i → W.cell? ⟨g, j, none⟩ = some (v j)) :
    Kept (fun c => c = g) W (W.setCell ⟨g, q, none⟩ (.pointer none)) ∧ (W.setCell ⟨g, q, none⟩ (.pointer none)).cell? ⟨g, q, none⟩ = some (.pointer none) ∧ ∀ j, j < i → j ≠ q → (W.setCell ⟨g, q, none⟩ (.pointer none)).cell? ⟨g, j, none⟩ = some (v j) :=
  ⟨Kept.one W ⟨g, q, none⟩ _, (S.set _).c, fun j hj ne => by rw [World.cell?_setCell_other _ _ _ _ (by simp; try omega)]; exact h j hj⟩

theorem spoil_bare {W : World} {g q : Nat} {u : Value} (S : Slot W g q u) (v : Nat → Value) (i : Nat) (h : ∀ j, j < i → W.cell? ⟨g, j, none⟩ = some (v j)) (W2 : World) (e : W2 = ((W.setCell ⟨g, q, none⟩ (.pointer none)).setCell ⟨g, q, none⟩ (.pointer (some ⟨W.heap.size, 0, none⟩))).alloc (.cells #[.pointer none, .pointer none, .int .i64 0, .nilIface] 31)) :
    Kept (fun c => c = g) W W2 ∧ W2.cell? ⟨g, q, none⟩ = some (.pointer (some ⟨W.heap.size, 0, none⟩)) ∧ (∀ j, j < i → j ≠ q → W2.cell? ⟨g, j, none⟩ = some (v j)) ∧ W2.cell? ⟨W.heap.size, 0, none⟩ = some (.pointer none) := by
  subst e
  have k1 : Kept (fun c => c = g) W ((W.setCell ⟨g, q, none⟩ (.pointer none)).setCell ⟨g, q, none⟩ (.pointer (some ⟨W.heap.size, 0, none⟩))) := ((Kept.refl (fun c => c = g) W).setCell ⟨g, q, none⟩ (.inl rfl) _).setCell ⟨g, q, none⟩ (.inl rfl) _
  have ka : Kept (fun _ => False) ((W.setCell ⟨g, q, none⟩ (.pointer none)).setCell ⟨g, q, none⟩ (.pointer (some ⟨W.heap.size, 0, none⟩))) _ := (Kept.refl _ _).alloc (.cells #[.pointer none, .pointer none, .int .i64 0, .nilIface] 31)
  have S2 := (S.set (.pointer none)).set (.pointer (some ⟨W.heap.size, 0, none⟩))
  refine ⟨k1.alloc _, (S2.kept ka id).c, fun j hj ne => ?_, ?_⟩
  · refine (ka.cell (p := ⟨g, j, none⟩) S2.lt id).trans ?_
    rw [World.cell?_setCell_other _ _ _ _ (by simp; try omega), World.cell?_setCell_other _ _ _ _ (by simp; try omega)]
    exact h j hj
  · have hb := block_last ((W.setCell ⟨g, q, none⟩ (.pointer none)).setCell ⟨g, q, none⟩ (.pointer (some ⟨W.heap.size, 0, none⟩))) (.cells #[.pointer none, .pointer none, .int .i64 0, .nilIface] 31) W.heap.size (by simp)
    exact (slot_of hb rfl).c

set_option maxRecDepth 100000 in
set_option maxHeartbeats 6400000 in
theorem walk_bad (many k nobody : Int) (m : Nat) (hm : m < 6) (hb : 0 ≤ nobody ∧ nobody < m) (hat : ∀ w, Calls Tryz.prog 4 #[.int .i64 many, .int .i64 6] w fun e w' => e = .returned (.int .i64 m) ∧ w = w') (w : World) (hg : ErrorType w) : Calls Tryz.prog 3 #[.int .i64 many, .int .i64 k, .int .i64 nobody] w (Says true w) := by
  obtain ⟨i0, hi, hz0, hz1, hz2⟩ := info_parts Tryz.info24
  have HG := Lib.hid hg
  clear hg
  go_enter Tryz.func3, Tryz.ntmps3
  go_wp2_with fail
  refine (hat _).mono ?_
  rintro e w' ⟨rfl, rfl⟩
  have Hm : Hid (m < 6) := hm
  clear hm
  go_wp2_with fail
  go_loopw [7, 8] (fun v c wr => MkRel w m v c wr) (fun _ c _ => m - (intOf c).toNat)
  case atStart => exact ⟨0, Nat.zero_le _, rfl, fun _ => 0, fun _ => 0, fun _ => 0, fun _ => 0, ⟨World.ownsRow_nil _ _ _ _, fun j hj => by omega, fun a b ha => by omega, fun j hj => by omega, fun g hg j hj => by omega, Kept.refl _ _, fun _ => rfl⟩⟩
  case round =>
    obtain ⟨i, hi', rfl, fs, L, H, P, M⟩ := hrel
    by_cases hlt : i < m
    · have i1 : (i : Int) < m := by omega
      have h6 : m < 6 := Hm.out
      have HM := Lib.hid M
      clear M
      go_wp2_with fail
      refine (fnew_any _).mono ?_
      rintro e w1 ⟨l, h, p, rfl, s1, F1, K1⟩
      have KS : Kept (fun _ => False) w1 (w1.alloc (.cells #[.pointer (some ⟨wr.heap.size + 5, 0, none⟩)] 24)) := (Kept.refl _ w1).alloc _
      have K12 := K1.trans KS
      have hown := own_kept HM.out.own K12 (fun _ _ h => h)
      have HF1 := Lib.hid F1
      have HK1 := Lib.hid K1
      have Hs1 := Lib.hid s1
      have HKS := Lib.hid KS
      have hb : w.heap.size ≤ w1.heap.size := Nat.le_trans HM.out.kept.size K1.size
      clear F1 K1 s1 KS K12
      go_wp2_with (at_builtin; go_loud (refine wpList_append_lies _ rfl _ _ 23 rfl w.heap.size 24 i0 (.pointer none) 1 8 Tryz.underlying23 hi hz0 hz1 hz2 rfl (by decide) _ _ _ rfl hown ⟨w1.heap.size, 0, none⟩ 1 1 [.pointer (some ⟨wr.heap.size + 5, 0, none⟩)] rfl rfl ?c1 ?c2 ?c3 ?c4 ?c5 ?c6 _ rfl ?_))
      case c1 =>
        intro j u hj
        match j, hj with
        | 0, hj => simp at hj; subst hj; simp [Addr.add]
      case c2 => intro u hu; simp at hu; subst hu; rfl
      case c3 => decide
      case c4 =>
        simp only [maxLen]
        omega
      case c5 => omega
      case c6 => simp; omega
      intro g' cap' w3 own' grown' lies' lt'
      have M' := HM.out.step HF1.out Hs1.out HK1.out HKS.out own' grown' (fun g hg => by
        simp only [Value.ownBlock, Option.some.injEq] at hg
        subst hg
        rcases lies' with h | h
        · exact .inl h
        · exact .inr (by rw [h]; simp))
      have HM' := Lib.hid M'
      clear own' grown' lies' M' hown hb
      go_wp2_with fail
      go_roundw
      case rel => exact ⟨i + 1, by omega, by go_num, _, _, _, _, HM'.out⟩
      case measure => simp [intOf]; omega
    · obtain rfl : i = m := by omega
      have HM := Lib.hid M
      clear M hi'
      have lm : ¬ (i : Int) < i := by omega
      have h6 : i < 6 := Hm.out
      clear Hm
      go_upto_region 8 with fail
      go_cut [50] (fun b wx => wx = wr ∧ b = .bool (decide (0 ≤ nobody ∧ nobody < i)))
      case first =>
        by_cases c1 : 0 < i
        · have d1 : (0 : Int) < i := by omega
          by_cases c2 : 0 ≤ nobody
          · by_cases c3 : nobody < i
            · go_wp2_with fail
              go_meet
              exact ⟨rfl, by simp [c2, c3]; try omega⟩
            · have d3 : (i : Int) ≤ nobody := by omega
              go_wp2_with fail
              go_meet
              exact ⟨rfl, by simp [c2, c3]; try omega⟩
          · have d2 : nobody < 0 := by omega
            go_wp2_with fail
            go_meet
            exact ⟨rfl, by simp [c2]; try omega⟩
        · obtain rfl : i = 0 := by omega
          go_wp2_with fail
          go_meet
          exact ⟨rfl, by simp; try omega⟩
      case rest =>
        obtain ⟨rfl, rfl⟩ := hcut
        go_upto_if 50 with fail
        go_cut [7, 9] (fun v b wx => Kept (fun _ => False) w wx ∧ b = .bool true ∧ Calls Tryz.prog 16 #[v] wx fun e w' => e = .returned (.bool true) ∧ wx = w')
        case first =>
          obtain ⟨g, cap, rfl, lg, g0, gn, gc, gf⟩ := row_of HM.out (by omega)
          obtain ⟨q, rfl⟩ := Int.eq_ofNat_of_zero_le hb.1
          have q1 : (q : Int) < i := hb.2
          have q2 : (0 : Int) ≤ q := hb.1
          have q3 : q < i := by omega
          have gq := gc q q3
          have gfq := gf q
          have KR := Kept.one wc ⟨g, q, none⟩ (.pointer none)
          have S0 : Slot wc g q (.pointer (some ⟨fs q + 5, 0, none⟩)) := ⟨gq, gfq, lg⟩
          have rowK : ∀ W u, Kept (fun c => c = g) wc W → W.cell? ⟨g, q, none⟩ = some u → (∀ j, j < i → j ≠ q → W.cell? ⟨g, j, none⟩ = some (.pointer (some ⟨fs j + 5, 0, none⟩))) → Tells W u true → Calls Tryz.prog 16 #[.slice (some ⟨g, 0, none⟩) i cap] W fun e w' => e = .returned (.bool true) ∧ W = w' := by
            intro W u k hu ho ht
            refine unmade_yes _ i q (by omega) q3 (fun j => if j = q then u else .pointer (some ⟨fs j + 5, 0, none⟩)) W ⟨.inr ⟨g, cap, rfl, Nat.lt_of_lt_of_le lg k.size, fun j hj => ?_⟩⟩ (fun j hj => ?_) ?_
            · by_cases e : j = q
              · subst e; simp only [if_pos rfl]; exact hu
              · simp only [if_neg e]; exact ho j hj e
            · rw [if_neg (by omega)]
              exact tells_fut ((HM.out.fut j (by omega)).kept k (fun b hb e => gn j (by omega) (e ▸ hb)))
            · rw [if_pos rfl]; exact ht
          have HR := Lib.hid rowK
          have Hg0 := Lib.hid g0
          have HGC := Lib.hid gc
          have HKR := Lib.hid KR
          have HS0 := Lib.hid S0
          clear rowK gn gc gf KR S0 g0 hb
          go_wp2_with fail
          all_goals
            go_meet
            first
              | (obtain ⟨k1, k2, k3⟩ := spoil_nil HS0.out (fun j => .pointer (some ⟨fs j + 5, 0, none⟩)) i HGC.out
                 exact ⟨HM.out.kept.far k1 (fun b e => by rw [e]; exact Hg0.out), rfl, HR.out _ _ k1 k2 k3 (unmade1_nil _)⟩)
              | (obtain ⟨k1, k2, k3, k4⟩ := spoil_bare HS0.out (fun j => .pointer (some ⟨fs j + 5, 0, none⟩)) i HGC.out _ rfl
                 exact ⟨HM.out.kept.far k1 (fun b e => by rw [e]; exact Hg0.out), rfl, HR.out _ _ k1 k2 k3 (unmade1_bare _ _ k4)⟩)
        case rest =>
          obtain ⟨K0, rfl, hu⟩ := hcut
          have HGx := Lib.hid (HG.out.kept K0 id)
          have HKx := Lib.hid K0
          clear K0
          have HU := Lib.hid hu
          clear hu
          go_wp2_with fail
          refine (all_bad _ _ HU.out).mono ?_
          rintro e w' ⟨rfl, rfl⟩
          go_wp2_with fail
          refine (any_bad _ _ HU.out).mono ?_
          rintro e w' ⟨rfl, rfl⟩
          go_wp2_with fail
          refine (quorum_bad _ k _ HU.out).mono ?_
          rintro e w' ⟨rfl, rfl⟩
          have KB : Kept (fun _ => False) wc (wc.alloc (.cells #[.pointer none, .slice none 0 0] 41)) := (Kept.refl _ _).alloc _
          have B0 : Slot (wc.alloc (.cells #[.pointer none, .slice none 0 0] 41)) wc.heap.size 0 (.pointer none) := slot_of (block_last _ _ _ rfl) rfl
          have HKB := Lib.hid KB
          have hb0 := B0.c
          clear KB B0
          go_wp2_with fail
          generalize wc.alloc (.cells #[.pointer none, .slice none 0 0] 41) = WB at HKB hb0 ⊢
          refine (values_nil _).mono ?_
          rintro e w' ⟨rfl, rfl⟩
          go_wp2_with fail
          refine (values_bare _ _ hb0).mono ?_
          rintro e w' ⟨rfl, rfl⟩
          go_wp2_with fail
          refine (jfuture_nil _).mono ?_
          rintro e w' ⟨rfl, rfl⟩
          go_wp2_with fail
          refine (jfuture_bare _ _ hb0).mono ?_
          rintro e w' ⟨rfl, rfl⟩
          go_wp2_with fail
          refine (class_num 2 _ (HGx.out.kept HKB.out id)).mono ?_
          rintro e W2 ⟨rfl, K2⟩
          have HK2 := Lib.hid (HKB.out.trans K2)
          clear K2 hb0
          go_wp2_with fail
          refine (class_num 2 _ (HGx.out.kept HK2.out id)).mono ?_
          rintro e W3 ⟨rfl, K3⟩
          have HK3 := Lib.hid (HK2.out.trans K3)
          clear K3 HK2 HKB
          go_wp2_with fail
          refine (works_ok _).mono ?_
          rintro e W4 ⟨rfl, K4⟩
          have HK4 := Lib.hid ((HKx.out.trans HK3.out).trans K4)
          clear K4
          go_wp2_with fail
          go_ret
          exact ⟨by simp; try omega, HK4.out⟩

end Go.Proofs.YtfbanlpmkfgpjaaGreatDoor

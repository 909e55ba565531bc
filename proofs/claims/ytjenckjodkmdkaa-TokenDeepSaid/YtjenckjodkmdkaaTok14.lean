/-
  treadlelaw11.TokenDeep, walked.
-/
import Derived.Test.YtjenckjodkmdkaaTok13
import Derived.Deep.CutBlock
import Derived.Deep.DeepCutAuto
import Derived.Deep.LoopGhost
namespace Go.Proofs.Ytjenckjodkmdkaa
open Go.RowKit

theorem Try.info23 : (Try.prog.info? 23).map (fun i => (i.zero, i.size, i.bytes)) = some (some (.pointer none), 1, 8) := by kernel_rfl

theorem Try.info3 : (Try.prog.info? 3).map (fun i => (i.zero, i.size, i.bytes)) = some (some (.int .i64 0), 1, 8) := by kernel_rfl

theorem at_in (x : Int) (n : Nat) (hn : 0 < n) (hm : n ≤ 1000) (w : World) : Calls Try.prog 4 #[.int .i64 x, .int .i64 n] w fun e w' => ∃ k : Nat, k < n ∧ e = .returned (.int .i64 k) ∧ w = w' := by
  have h0 : ¬ (n : Int) = 0 := by omega
  have h1 : (n : Int) ≠ -1 := by omega
  have h2 : Hid (x.tmod n < n ∧ -(n : Int) < x.tmod n) := ⟨Int.tmod_lt_of_pos x (by omega), Int.lt_tmod_of_pos x (by omega)⟩
  by_cases hx : x.tmod n < 0
  · go_enter Try.func4, Try.ntmps4
    go_wp2
    go_ret
    have h3 := h2.out
    refine ⟨(x.tmod n + n).toNat, by omega, ?_, rfl⟩
    show Ending.returned (.int .i64 (wrap64 (x.tmod n + n))) = _
    congr 2
    unfold wrap64; omega
  · go_enter Try.func4, Try.ntmps4
    go_wp2
    go_ret
    have h3 := h2.out
    refine ⟨(x.tmod n).toNat, by omega, ?_, rfl⟩
    show Ending.returned (.int .i64 (x.tmod n)) = _
    congr 2
    omega

def UpRel (w0 : World) (v : Value) (wr : World) (n : Nat) : Prop := ∃ lab D g cap, n ≤ 64 ∧ v = .slice (some ⟨g, 0, none⟩) (n + 1) cap ∧ Up w0 wr lab D n g cap

theorem var_far {w : World} {lab : Nat → Nat} {j fb : Nat} {T : Tk} {n hd : Int} {x0 x1 : Value} (B : Base w lab j T n hd x0 x1) (hf : lab fb = 0) : ¬ (fb = T.l ∨ fb = T.h ∨ fb = T.p) := by
  have ll := B.ll
  have lh := B.lh
  have lp := B.lp
  rintro (rfl | rfl | rfl) <;> omega

theorem on_next {w0 w : World} {lab : Nat → Nat} {D : Nat → Tk} {L i k c oB cB g : Nat} (hk : i + 1 + k = L) (M : Mix w0 w lab D L (i + 1) c oB cB g) :
    OnRel w0 (w.alloc (.cells #[.int .i64 ((i : Int) + 1)] 3)) L k c oB cB g (.pointer (some ⟨w.heap.size, 0, none⟩)) := by
  have ka : Kept (fun _ => False) w (w.alloc (.cells #[.int .i64 ((i : Int) + 1)] 3)) := (Kept.refl _ _).alloc _
  exact ⟨i + 1, lab, D, w.heap.size, hk, rfl, ⟨by go_simp, by go_simp, by simp⟩, M.z _ (Nat.le_refl _), M.kept.size, M.carry ka (fun _ _ => id) fun _ f => f.elim⟩

/-- What loop 1 leaves: L tokens. -/
def OutRel (w0 : World) (v : Value) (wr : World) (L : Nat) : Prop := ∃ n lab D g cap, L = n + 1 ∧ L ≤ 65 ∧ v = .slice (some ⟨g, 0, none⟩) L cap ∧ Up w0 wr lab D n g cap

set_option maxRecDepth 100000 in
set_option maxHeartbeats 1600000 in
theorem deep_walk (a b x : Int) (w : World) : Calls Try.prog 3 #[.int .i64 a, .int .i64 b, .int .i64 x] w fun e w' => e = .returned (.bool true) ∧ Below w.heap.size w w' := by
  obtain ⟨i0, hi, hz0, hz1, hz2⟩ := info_parts Try.info23
  go_enter Try.func3, Try.ntmps3
  go_wp2_with fail
  refine (at_in a 80 (by decide) (by decide) w).mono ?_
  rintro e w' ⟨N, hN, rfl, rfl⟩
  go_wp2_with fail
  refine (new_any w).mono ?_
  rintro e w1 ⟨l, h, p, rfl, H⟩
  have X := Lib.hid H
  clear H
  go_upto_block 0 with fail
  go_cut [7, 8, 9, 10] (fun v _ _ _ wx => ∃ L, OutRel w v wx L)
  case first =>
    go_wp2_with fail
    go_loopw [7, 8, 9, 10] (fun v i _ _ wr => ∃ n, n ≤ N ∧ i = .int .i64 n ∧ UpRel w v wr n) (fun _ i _ _ _ => 100 - (intOf i).toNat)
    case atStart => exact ⟨0, Nat.zero_le _, rfl, _, _, _, _, by decide, rfl, up_start rfl X.out.1 X.out.2.1 X.out.2.2⟩
    case round =>
      obtain ⟨n, hn, rfl, lab, D, g, cap, hm, rfl, U⟩ := hrel
      have HU := Lib.hid U
      clear U
      by_cases hlt : n < N
      · have hg := HU.out.own.cellAt n (by omega)
        rw [rowOf_at D (n + 1) n (by omega)] at hg
        by_cases h64 : n < 64
        · go_wp2_with fail
          refine (child_at wr wr.heap.size (D n).k (D n).r (D n).b (D n).l (D n).h (D n).p n _ rfl (by omega) (by omega) HU.out.grow.last.head HU.out.grow.last.live).mono ?_
          rintro e w2 ⟨l', h', p', rfl, H⟩
          have X2 := Lib.hid (HU.out.child rfl H.1 H.2.1 H.2.2.1 H.2.2.2.1 H.2.2.2.2.1 H.2.2.2.2.2)
          have X3 : Hid (wr.heap.size + 11 = w2.heap.size) := H.1.symm
          clear H hg
          go_wp2_with (at_builtin; go_loud (refine wpList_append_lies _ rfl _ _ 25 rfl w.heap.size 23 i0 (.pointer none) 1 8 Try.underlying25 hi hz0 hz1 hz2 rfl (by decide) _ _ _ rfl (X2.out.2.1.alloc _) ⟨w2.heap.size, 0, none⟩ 1 1 [.pointer (some ⟨wr.heap.size + 5, 0, none⟩)] rfl rfl ?c1 ?c2 ?c3 ?c4 ?c5 ?c6 _ rfl ?_))
          case c1 =>
            intro j u hj
            match j, hj with
            | 0, hj => simp at hj; subst hj; simp [Addr.add]
          case c2 => intro u hu; simp at hu; subst hu; rfl
          case c3 => decide
          case c4 => first | (simp only [maxLen]; omega) | (simp [maxLen]; omega)
          case c5 => first | omega | (simp; omega)
          case c6 =>
            have := X2.out.2.2.2.2.2.1.size
            simp; omega
          intro g' cap' w3 own' grown' lies' _
          have X4 := Lib.hid (Up.next X2.out.1 X2.out.2.1 X2.out.2.2.1 X2.out.2.2.2.2.1 X2.out.2.2.2.2.2.1 own' grown' lies')
          clear own' grown' lies'
          go_wp2_with fail
          go_roundw
          case rel => exact ⟨n + 1, by omega, by go_num, _, _, g', cap', by omega, rfl, X4.out⟩
          case measure => simp [intOf]; omega
        · obtain rfl : n = 64 := by omega
          go_wp2_with fail
          refine (child_deep _ _ _ _ rfl wr HU.out.grow.last.head).mono ?_
          rintro e w' ⟨rfl, hw⟩
          obtain rfl := hw.symm
          go_wp2_with fail
          go_meet
          exact ⟨65, 64, _, _, _, _, rfl, by decide, rfl, HU.out⟩
      · go_wp2_with fail
        go_meet
        exact ⟨n + 1, n, _, _, _, _, rfl, by omega, rfl, HU.out⟩
  case rest =>
    obtain ⟨L, n, lab, D, g, cap, e1, e2, rfl, U⟩ := hcut
    have HL : Hid (L = n + 1) := e1
    have hL0 : 0 < L := by omega
    obtain ⟨wo, rfl⟩ : ∃ wo : World, wo = wc := ⟨_, rfl⟩
    clear e1
    have HU := Lib.hid U
    clear U X
    have hmk := fun w => run_make_row' (P := Try.prog) 29 3 (.int .i64 0) 8 Try.underlying29 Try.info3 rfl .i64 .i64 L (by omega) (by omega) w
    go_wp2_with fail
    refine (at_in b L hL0 (by omega) wo).mono ?_
    rintro e w' ⟨at0, hat, rfl, rfl⟩
    go_wp2_with fail
    have hmf : ∀ (fn : Fn) (first cap : Array Value) (w : World), (Instr.makeFunc fn first cap).run Try.prog w = .ok (.func fn first cap) w := fun _ _ _ _ => rfl
    go_loopg [13, 14] L (fun k f _ wr => OnRel w wr L k (wo.heap.size + 1) wo.heap.size (wo.heap.size + 1 + 1) g f)
    case atStart => exact on_begin HU.out HL.out
    case round =>
      obtain ⟨i, lab, D, fb, hik, rfl, F, lf, lz, M⟩ := hrel
      have HM := Lib.hid M
      have HF := Lib.hid F
      have HZ := Lib.hid lf
      have f0 := F.c
      have fz := F.lt
      clear M F lf
      by_cases hlt : i < L
      · have hg := (HM.out.all i hlt).c
        by_cases h1 : i + 1 < L
        · go_wp2_with fail
          refine (on_second wr (D i).k (D i).r (D i).b (D i).l (D i).h (D i).p i _ _ _ _ (HM.out.mid i (Nat.le_refl _) h1).1.head (HM.out.mid i (Nat.le_refl _) h1).1.live).mono ?_
          rintro e w2 ⟨rfl, H⟩
          have M2 := Lib.hid (mix_on HM.out hlt rfl H.1 HF.out HZ.out lz H.2.1 H.2.2.1 H.2.2.2.1 H.2.2.2.2 (.inl ⟨h1, rfl, rfl, rfl, rfl⟩))
          have hF2 := HF.out.kept H.2.2.2.2 (var_far (HM.out.mid i (Nat.le_refl _) h1).1 HZ.out)
          have f2 := hF2.c
          have fz2 := hF2.lt
          clear H hF2 hg f0 fz
          go_wp2_with fail
          go_roundg (gk - 1)
          case measure => omega
          case rel => exact on_next (by omega) M2.out
        · go_wp2_with fail
          refine (on_first wr (D i).k (D i).r (D i).b (D i).l (D i).h (D i).p i _ _ _ _ (HM.out.last i (Nat.le_refl _) (by omega)).head (HM.out.last i (Nat.le_refl _) (by omega)).live).mono ?_
          rintro e w2 ⟨rfl, H⟩
          have M2 := Lib.hid (mix_on HM.out hlt rfl H.1 HF.out HZ.out lz H.2.1 H.2.2.1 H.2.2.2.1 H.2.2.2.2 (.inr ⟨by omega, rfl, rfl, rfl, rfl⟩))
          have hF2 := HF.out.kept H.2.2.2.2 (var_far (HM.out.last i (Nat.le_refl _) (by omega)) HZ.out)
          have f2 := hF2.c
          have fz2 := hF2.lt
          clear H hF2 hg f0 fz
          go_wp2_with fail
          go_roundg (gk - 1)
          case measure => omega
          case rel => exact on_next (by omega) M2.out
      · obtain rfl : i = L := by omega
        have hg := (HM.out.all at0 hat).c
        go_upto_region 22 with fail
        go_cut [96] (fun v wx => v = .bool false ∧ ∃ D, EndRel w wx D i (wo.heap.size + 1) (wo.heap.size + 1 + 1) g at0 x)
        case first =>
          by_cases hx : 1 ≤ x
          · go_wp2_with fail
            refine (gone lab i D (wo.heap.size + 1) wo.heap.size (wo.heap.size + 1 + 1) x hx (by omega) 0 _ (by decide) (by decide) (i - 1 - at0) at0 (by omega) wr HM.out.z (fun j _ h => HM.out.done j h) HM.out.glob).mono ?_
            rintro e w2 ⟨rfl, N⟩
            have HE := Lib.hid (end_gone hx HM.out N)
            clear N
            go_wp2_with fail
            go_meet
            exact ⟨rfl, D, HE.out⟩
          · go_wp2_with fail
            refine (cancel_below _ _ x (by omega) wr ((HM.out.done at0 hat).is hat).1).mono ?_
            rintro e w' ⟨rfl, hw⟩
            obtain rfl := hw.symm
            have HE := Lib.hid (end_below (i := at0) (x := x) (by omega) HM.out)
            go_wp2_with fail
            go_meet
            exact ⟨by rw [decide_eq_false (by omega)], D, HE.out⟩
        case rest =>
          obtain ⟨rfl, D2, E⟩ := hcut
          have HE := Lib.hid E
          clear E HM HF HZ HU HL hg f0 fz
          go_wp2_with fail
          go_loop [15, 16, 17] (fun s _ _ => ∃ k : Nat, k ≤ i ∧ s = .int .i64 k) (fun s _ _ => i - (intOf s).toNat)
          case atStart => exact ⟨0, Nat.zero_le _, rfl⟩
          case round =>
            obtain ⟨k, hk, rfl⟩ := hrel
            by_cases hlt : k < i
            · have hg := (HE.out.all k hlt).c
              have hb := HE.out.box.c
              have hr := (HE.out.row k hlt).c
              have hR := reason_is (D2 k).k (D2 k).r _ wc (HE.out.is k hlt) (HE.out.cel k hlt)
              by_cases hx : 1 ≤ x
              · by_cases ha : at0 ≤ k
                · simp only [hx, ha, and_self, if_true] at hr hR
                  have HR := Lib.hid hR
                  clear hR
                  go_wp2_with fail
                  refine HR.out.mono ?_
                  rintro e w' ⟨rfl, hw⟩
                  obtain rfl := hw.symm
                  go_wp2_with fail
                  go_round
                  case rel => exact ⟨k + 1, by omega, by go_num⟩
                  case measure => simp [intOf]; omega
                · simp only [hx, ha, and_false, if_false] at hr hR
                  have HR := Lib.hid hR
                  clear hR
                  go_wp2_with fail
                  refine HR.out.mono ?_
                  rintro e w' ⟨rfl, hw⟩
                  obtain rfl := hw.symm
                  go_wp2_with fail
                  go_round
                  case rel => exact ⟨k + 1, by omega, by go_num⟩
                  case measure => simp [intOf]; omega
              · simp only [hx, false_and, if_false] at hr hR
                have HR := Lib.hid hR
                clear hR
                go_wp2_with fail
                refine HR.out.mono ?_
                rintro e w' ⟨rfl, hw⟩
                obtain rfl := hw.symm
                go_wp2_with fail
                go_round
                case rel => exact ⟨k + 1, by omega, by go_num⟩
                case measure => simp [intOf]; omega
            · obtain rfl : k = i := by omega
              have g0 := (HE.out.all 0 hL0).c
              have gz := (HE.out.all 0 hL0).lt
              have g1 := Lib.hid ((((Kept.refl (fun _ => False) wc).alloc (.cells #[.pointer none, .pointer none, .int .i64 0] 38)).cell (World.block_lt_of_cell? _ _ (HE.out.is 0 hL0)) id).trans (HE.out.is 0 hL0))
              go_wp2_with fail
              refine (child_nil _).mono ?_
              rintro e w' ⟨rfl, hw⟩
              obtain rfl := hw.symm
              go_wp2_with fail
              refine (child_bare _ _ (by simp)).mono ?_
              rintro e w' ⟨rfl, hw⟩
              obtain rfl := hw.symm
              go_wp2_with fail
              refine (cancel_nil _ _).mono ?_
              rintro e w' ⟨rfl, hw⟩
              obtain rfl := hw.symm
              go_wp2_with fail
              refine (cancel_bare _ _ _ (by simp)).mono ?_
              rintro e w' ⟨rfl, hw⟩
              obtain rfl := hw.symm
              go_wp2_with fail
              refine (reason_nil _).mono ?_
              rintro e w' ⟨rfl, hw⟩
              obtain rfl := hw.symm
              go_wp2_with fail
              refine (reason_bare _ _ (by simp)).mono ?_
              rintro e w' ⟨rfl, hw⟩
              obtain rfl := hw.symm
              go_wp2_with fail
              refine (wait_nil _).mono ?_
              rintro e w' ⟨rfl, hw⟩
              obtain rfl := hw.symm
              go_wp2_with fail
              refine (wait_bare _ _ (by simp)).mono ?_
              rintro e w' ⟨rfl, hw⟩
              obtain rfl := hw.symm
              go_wp2_with fail
              refine (on_nil _ _).mono ?_
              rintro e w' ⟨rfl, hw⟩
              obtain rfl := hw.symm
              go_wp2_with fail
              refine (on_bare _ _ _ (by simp)).mono ?_
              rintro e w' ⟨rfl, hw⟩
              obtain rfl := hw.symm
              go_wp2_with fail
              refine (on_arg _ _ _ g1.out).mono ?_
              rintro e w' ⟨rfl, hw⟩
              obtain rfl := hw.symm
              go_wp2_with fail
              refine (works_any _).mono ?_
              rintro e w2 ⟨rfl, H⟩
              have HW := Lib.hid H
              clear H
              go_wp2_with fail
              go_ret
              exact ⟨rfl, ((HE.out.kept.alloc _).trans HW.out).below (Nat.le_refl _) fun _ f => f.elim⟩

theorem walk_tokenDeep (a b x : Int) (_ : (Lit.int .i64 a).wf = true) (_ : (Lit.int .i64 b).wf = true) (_ : (Lit.int .i64 x).wf = true) (w : World) :
    Calls Try.prog 3 #[.int .i64 a, .int .i64 b, .int .i64 x] w fun e w' => e = .returned (.bool true) ∧ Below w.heap.size w w' := deep_walk a b x w

end Go.Proofs.Ytjenckjodkmdkaa

/-
  The walk of FutureNone.
-/
import Derived.Test.YtlkglgpaadfieaaGreatDoorFut6
namespace Go.Proofs.YtlkglgpaadfieaaGreatDoor
open Go.RowKit

/-- What there is at first: a world like the first one; a future that New did not make, a promise that no Claim made. -/
structure FBase (w0 w : World) : Prop where
  kept : Kept (fun _ => False) w0 w
  et : ErrorType w
  bare : w.cell? ⟨w0.heap.size, 0, none⟩ = some (.pointer none)
  empty : w.cell? ⟨w0.heap.size + 1, 0, none⟩ = some (.pointer none)
  lt : w0.heap.size + 1 < w.heap.size

theorem FBase.next {w0 w w' : World} (h : FBase w0 w) (k : Kept (fun _ => False) w w') : FBase w0 w' :=
  ⟨h.kept.trans k, h.et.kept k id, (k.cell (p := ⟨w0.heap.size, 0, none⟩) (by have := h.lt; show w0.heap.size < _; omega) id).trans h.bare, (k.cell (p := ⟨w0.heap.size + 1, 0, none⟩) h.lt id).trans h.empty, Nat.lt_of_lt_of_le h.lt k.size⟩

set_option maxRecDepth 100000 in
set_option maxHeartbeats 4000000 in
theorem walk_futureNone (v : Int) (w : World) (hg : ErrorType w) : Calls Tryz.prog 3 #[.int .i64 v] w (Says true w) := by
  have HG := Lib.hid hg
  clear hg
  go_enter Tryz.func3, Tryz.ntmps3
  go_wp2_with fail
  refine (fclaim_nil _).mono ?_
  rintro r w' ⟨rfl, rfl⟩
  have B0 : FBase w ((w.alloc (.cells #[.pointer none, .pointer none, .int .i64 0, .nilIface] 28)).alloc (.cells #[.pointer none] 31)) :=
    ⟨((Kept.refl _ w).alloc _).alloc _, HG.out.kept (S := fun _ => False) (((Kept.refl _ w).alloc _).alloc _) id, by go_simp, by go_simp, by simp⟩
  have HB := Lib.hid B0
  clear B0
  go_wp2_with fail
  generalize (w.alloc (.cells #[.pointer none, .pointer none, .int .i64 0, .nilIface] 28)).alloc (.cells #[.pointer none] 31) = w0 at HB ⊢
  refine (fclaim_bare _ _ HB.out.bare).mono ?_
  rintro r w' ⟨rfl, rfl⟩
  go_wp2_with fail
  refine (fcomplete_no _ v .nilIface _ (fclaim_nil _)).mono ?_
  rintro r w' ⟨rfl, rfl⟩
  go_wp2_with fail
  refine (fcomplete_no _ v .nilIface _ (fclaim_bare _ _ HB.out.bare)).mono ?_
  rintro r w' ⟨rfl, rfl⟩
  go_wp2_with fail
  refine (ffill_nil v .nilIface _).mono ?_
  rintro r w' ⟨rfl, rfl⟩
  go_wp2_with fail
  refine (ffill_bare _ v .nilIface _ HB.out.empty).mono ?_
  rintro r w' ⟨rfl, rfl⟩
  go_wp2_with fail
  refine (fawait_nil _).mono ?_
  rintro r w' ⟨rfl, rfl⟩
  go_wp2_with fail
  refine (fawait_bare _ _ HB.out.bare).mono ?_
  rintro r w' ⟨rfl, rfl⟩
  go_wp2_with fail
  refine (fpeek_nil _).mono ?_
  rintro r w' ⟨rfl, rfl⟩
  go_wp2_with fail
  refine (fpeek_bare _ _ HB.out.bare).mono ?_
  rintro r w' ⟨rfl, rfl⟩
  go_wp2_with fail
  refine (fmap_nil _ _ _).mono ?_
  rintro r w1 ⟨rfl, k⟩
  have HB1 := Lib.hid (HB.out.next k)
  clear k HB
  go_wp2_with fail
  refine (fmap_bare _ _ _ _ HB1.out.bare (by have := HB1.out.lt; omega)).mono ?_
  rintro r w2 ⟨rfl, k⟩
  have HB2 := Lib.hid (HB1.out.next k)
  clear k HB1
  go_wp2_with fail
  refine (class_num 2 _ HB2.out.et).mono ?_
  rintro r w3 ⟨rfl, k⟩
  have HB3 := Lib.hid (HB2.out.next k)
  clear k HB2
  go_wp2_with fail
  refine (class_num 2 _ HB3.out.et).mono ?_
  rintro r w4 ⟨rfl, k⟩
  have HB4 := Lib.hid (HB3.out.next k)
  clear k HB3
  go_wp2_with fail
  refine (fnew_any w4).mono ?_
  rintro r w5 ⟨l, h, p, rfl, s5, F5, k⟩
  have HB5 := Lib.hid (HB4.out.next k)
  have HF5 := Lib.hid F5
  have HL := Lib.hid HB4.out.lt
  clear k F5 HB4 s5
  go_wp2_with fail
  refine (fmap_arg _ _ _ HF5.out.t0 HF5.out.size).mono ?_
  rintro r w6 ⟨rfl, k⟩
  have HB6 := Lib.hid (HB5.out.next k)
  have HF6 := Lib.hid (HF5.out.far k)
  clear k HB5 HF5
  go_wp2_with fail
  refine (fthen_nil _ _).mono ?_
  rintro r w' ⟨rfl, rfl⟩
  go_wp2_with fail
  refine (fthen_bare _ _ _ HB6.out.bare).mono ?_
  rintro r w' ⟨rfl, rfl⟩
  go_wp2_with fail
  refine (fthen_nil _ _).mono ?_
  rintro r w' ⟨rfl, rfl⟩
  go_wp2_with fail
  refine (fthen_arg _ _ _ HF6.out.t0).mono ?_
  rintro r w' ⟨rfl, rfl⟩
  go_wp2_with fail
  refine (fclaim_hit _ HF6.out).mono ?_
  rintro r w7 ⟨rfl, s7, F7, P7, k⟩
  have sz6 := HF6.out.size
  have KA : Kept (fun _ => False) w w7 := HB6.out.kept.far k (by rintro i rfl; have := HL.out; omega)
  have EA : ErrorType w7 := HG.out.kept KA id
  have HF7 := Lib.hid F7
  have HP7 := Lib.hid P7
  have HK7 := Lib.hid KA
  have HE7 := Lib.hid EA
  have nb : ¬ FOwn w4.heap.size w6.heap.size := by rintro ⟨_, h2⟩; omega
  have NB := Lib.hid nb
  have lw : Hid (w.heap.size ≤ w4.heap.size) := by have := HL.out; show _ ≤ _; omega
  have HS6 := Lib.hid sz6
  clear k F7 P7 KA EA HB6 HF6 sz6 s7 nb
  go_wp2_with fail
  refine (fclaim_miss (by decide) _ HF7.out).mono ?_
  rintro r w' ⟨rfl, rfl⟩
  go_wp2_with fail
  refine (fcomplete_no _ v .nilIface _ (fclaim_miss (by decide) _ HF7.out)).mono ?_
  rintro r w' ⟨rfl, rfl⟩
  go_wp2_with fail
  have K8 : Kept (fun _ => False) w7 (w7.alloc (.cells #[.int .i64 v] 49)) := (Kept.refl _ w7).alloc _
  refine (ffill_err v _ _ _ (HF7.out.far K8) (HP7.out.kept K8 id) NB.out).mono ?_
  rintro r w9 ⟨rfl, F9, P9, k⟩
  have K9 : Kept (fun _ => False) w w9 := (HK7.out.trans K8).far k (by
    rintro i (⟨h1, h2⟩ | rfl)
    · have := lw.out; omega
    · have := lw.out; have := HS6.out; omega)
  have HF9 := Lib.hid F9
  have HP9 := Lib.hid P9
  have HK9 := Lib.hid K9
  clear K8 F9 P9 k K9 HF7 HP7 HK7 HE7
  go_wp2_with fail
  refine (ffill_bare _ v .nilIface _ HP9.out.c).mono ?_
  rintro r w' ⟨rfl, rfl⟩
  go_wp2_with fail
  refine (fawait_is (by decide) _ HF9.out).mono ?_
  rintro r w10 ⟨rfl, k⟩
  have HK10 := Lib.hid (HK9.out.trans k)
  clear k HF9 HP9 HK9
  go_wp2_with fail
  refine (class_failed _ _ (HG.out.kept HK10.out id)).mono ?_
  rintro r w11 ⟨rfl, k⟩
  have HK11 := Lib.hid (HK10.out.trans k)
  clear k HK10
  go_wp2_with fail
  refine (works_is _).mono ?_
  rintro r w12 ⟨rfl, k⟩
  have HK12 := Lib.hid (HK11.out.trans k)
  clear k HK11
  go_wp2_with fail
  go_ret
  exact ⟨rfl, HK12.out⟩

end Go.Proofs.YtlkglgpaadfieaaGreatDoor

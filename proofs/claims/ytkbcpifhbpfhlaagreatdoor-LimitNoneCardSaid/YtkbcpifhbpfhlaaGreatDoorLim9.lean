/-
  treadlelaw17.LimitNone, walked.
-/
import Derived.Test.YtkbcpifhbpfhlaaGreatDoorLim8
namespace Go.Proofs.YtkbcpifhbpfhlaaGreatDoor
open Go.RowKit

set_option maxRecDepth 100000 in
set_option maxHeartbeats 1600000 in
theorem none_low (d : Int) (hd : d < 0) (w : World) (hg : ErrorType w) : Calls Tryz.prog 3 #[.int .i64 d] w (WorksPost w) := by
  have HG := Lib.hid hg
  have HD := Lib.hid hd
  clear hg
  go_enter Tryz.func3, Tryz.ntmps3
  go_wp2_with fail
  refine (new_made _).mono ?_
  rintro e w1 ⟨rfl, C, B⟩
  have C1 := Lib.hid C
  have S1 := Lib.hid C.size
  have K1 := Lib.hid (Kept.ofBelow B (Nat.le_refl _) (fun _ => False))
  clear C B
  go_wp2_with fail
  refine (Tk.new_any _).mono ?_
  rintro e w2 ⟨lt, ht, pt, rfl, z, N, K⟩
  have Z2 := Lib.hid z
  have N2 := Lib.hid N
  have C2 := Lib.hid (C1.out.kept K fun _ _ => id)
  have K2 := Lib.hid (K1.out.trans K)
  clear z N K C1 K1
  go_wp2_with fail
  refine (fnew_any _).mono ?_
  rintro e w3 ⟨lf, hf, pf, rfl, z, F, K⟩
  have F3 := Lib.hid F
  have N3 := Lib.hid (N2.out.kept K fun _ _ _ => id)
  have C3 := Lib.hid (C2.out.kept K fun _ _ => id)
  have K3 := Lib.hid (K2.out.trans K)
  clear z F K N2 C2 K2
  go_wp2_with fail
  refine (within_unmade _ _ d _ (unmade_nil _)).mono ?_
  rintro e w4 ⟨rfl, K⟩
  have F4 := Lib.hid (F3.out.far K)
  have N4 := Lib.hid (N3.out.kept K fun _ _ _ => id)
  have C4 := Lib.hid (C3.out.kept K fun _ _ => id)
  have K4 := Lib.hid (K3.out.trans K)
  clear K F3 N3 C3 K3
  go_wp2_with fail
  refine (within_nofuture w.heap.size _ _ _ _ _ d _ C4.out).mono ?_
  rintro e w5 ⟨rfl, K⟩
  have F5 := Lib.hid (F4.out.far K)
  have N5 := Lib.hid (N4.out.kept K fun _ _ _ => id)
  have C5 := Lib.hid (C4.out.kept K fun _ _ => id)
  have K5 := Lib.hid (K4.out.trans K)
  clear K F4 N4 C4 K4
  go_wp2_with fail
  refine (within_unmade _ _ d _ (unmade_bare _ _ (by go_simp) (by simp))).mono ?_
  rintro e w6 ⟨rfl, K⟩
  have KA := (Kept.refl (fun _ => False) w5).alloc (.cells #[.pointer none, .pointer none, .pointer none, .pointer none, .nilFunc, .pointer none, .pointer none, .nilFunc, .pointer none, .pointer none, .nilFunc, .pointer none, .pointer none, .nilFunc, .pointer none, .pointer none, .nilFunc, .pointer none, .pointer none, .nilFunc, .pointer none, .pointer none, .nilFunc, .pointer none, .pointer none, .nilFunc, .pointer none, .pointer none, .nilFunc, .pointer none, .pointer none, .nilFunc, .pointer none, .pointer none, .nilFunc, .pointer none, .pointer none, .nilFunc, .pointer none, .pointer none, .nilFunc, .pointer none, .pointer none, .nilFunc, .pointer none, .pointer none, .nilFunc, .pointer none, .pointer none, .nilFunc] 37) |>.trans K
  have F6 := Lib.hid (F5.out.far KA)
  have N6 := Lib.hid (N5.out.kept KA fun _ _ _ => id)
  have C6 := Lib.hid (C5.out.kept KA fun _ _ => id)
  have K6 := Lib.hid (K5.out.trans KA)
  clear K KA F5 N5 C5 K5
  go_wp2_with fail
  refine (deadline_unmade _ _ d _ (unmade_nil _)).mono ?_
  rintro e w7 ⟨rfl, K⟩
  have F7 := Lib.hid (F6.out.far K)
  have N7 := Lib.hid (N6.out.kept K fun _ _ _ => id)
  have C7 := Lib.hid (C6.out.kept K fun _ _ => id)
  have K7 := Lib.hid (K6.out.trans K)
  clear K F6 N6 C6 K6
  go_wp2_with fail
  have C7' := Lib.hid (C7.out.alloc (.cells #[.pointer none, .pointer none, .int .i64 0] 42))
  refine (deadline_bare w.heap.size w7.heap.size _ _ _ _ _ d _ C7'.out (by go_simp) (by simp)).mono ?_
  rintro e w8 ⟨rfl, K⟩
  have KA := (Kept.refl (fun _ => False) w7).alloc (.cells #[.pointer none, .pointer none, .int .i64 0] 42) |>.trans K
  have F8 := Lib.hid (F7.out.far KA)
  have N8 := Lib.hid (N7.out.kept KA fun _ _ _ => id)
  have C8 := Lib.hid (C7.out.kept KA fun _ _ => id)
  have K8 := Lib.hid (K7.out.trans KA)
  clear K KA F7 N7 C7 K7 C7'
  go_wp2_with fail
  refine (within_low w.heap.size w2.heap.size lf hf pf _ _ _ _ _ _ _ _ _ _ _ _ d hd _ C8.out F8.out).mono ?_
  rintro e w9 ⟨rfl, K⟩
  have N9 := Lib.hid (N8.out.kept K fun _ _ _ => id)
  have C9 := Lib.hid (C8.out.kept K fun _ _ => id)
  have K9 := Lib.hid (K8.out.trans K)
  clear K N8 C8 K8
  go_wp2_with fail
  refine (deadline_low w.heap.size (w1.heap.size + 5) _ _ _ _ _ _ _ _ d hd _ C9.out N9.out.hd).mono ?_
  rintro e w10 ⟨rfl, K⟩
  have K10 := Lib.hid (K9.out.trans K)
  clear K N9 C9 K9
  go_wp2_with fail
  refine (works_any _ (HG.out.kept K10.out id)).mono ?_
  rintro e w11 ⟨rfl, K⟩
  have K11 := Lib.hid (K10.out.trans K)
  clear K K10
  go_wp2_with fail
  go_ret
  exact ⟨rfl, K11.out⟩

end Go.Proofs.YtkbcpifhbpfhlaaGreatDoor

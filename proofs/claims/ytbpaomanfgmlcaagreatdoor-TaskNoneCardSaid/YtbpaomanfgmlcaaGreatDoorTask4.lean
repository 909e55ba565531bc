/-
  The functions of the statement's tasks; its works().
-/
import Derived.Test.YtbpaomanfgmlcaaGreatDoorTask3
import Derived.Test.YtbpaomanfgmlcaaGreatDoorFlt6
namespace Go.Proofs.YtbpaomanfgmlcaaGreatDoor
open Go.RowKit

theorem f11_is (g : Nat) (n : Int) (w : World) (h : w.cell? ⟨g, 0, none⟩ = some (.int .i64 n)) :
    Calls Tryz.prog 11 #[.pointer none, .pointer (some ⟨g, 0, none⟩)] w (Ans n .nilIface (Does (fun _ => False) (fun _ => True) w)) := by
  go_enter Tryz.func11, Tryz.ntmps11
  go_wp2
  go_ret2
  exact ⟨rfl, Kept.refl _ w, trivial⟩

theorem f26_is (g : Nat) (w : World) (h : Slot w g 0 (.int .i64 0)) :
    Calls Tryz.prog 26 #[.pointer none, .pointer (some ⟨g, 0, none⟩)] w (Ans 42 .nilIface (Does (fun k => k = g) (fun W => Slot W g 0 (.int .i64 1)) w)) := by
  have c := h.c
  have fr := h.fr
  have lt := h.lt
  have H := Lib.hid h
  clear h
  go_enter Tryz.func26, Tryz.ntmps26
  go_wp2
  go_ret2
  exact ⟨rfl, Kept.one w ⟨g, 0, none⟩ _, H.out.set _⟩

theorem f27_is (g : Nat) (n : Int) (w : World) (h : w.cell? ⟨g, 0, none⟩ = some (.int .i64 n)) :
    Calls Tryz.prog 27 #[.pointer none, .pointer (some ⟨g, 0, none⟩)] w (Pan 2 (.int .i64 n) (Does (fun _ => False) (fun _ => True) w)) := by
  go_enter Tryz.func27, Tryz.ntmps27
  go_wp2
  exact ⟨rfl, rfl, Kept.refl _ w, trivial⟩

/-- What New leaves, its first block being m. -/
def MadeAt (m : Nat) (w : World) (n : Int) (f : Value) : Ending → World → Prop := fun r w' =>
  r = .returned (.pointer (some ⟨m + 1, 0, none⟩)) ∧ Kept (fun _ => False) w w' ∧ Tsk w' (m + 1) m n (.pointer none) f 0 .nilIface ∧ Cel w' m 0 ∧ w'.heap.size = m + 2

theorem new_at (n : Int) (K : Nat) (caps : Array Value) (w : World) (m : Nat) (hm : w.heap.size = m) : Calls Tryz.prog 10 #[.int .i64 n, .pointer none, .func (.func K) #[] caps] w (MadeAt m w n (.func (.func K) #[] caps)) := by
  subst hm; exact new_is n K caps w

/-- A call that answers b, and leaves all as it was. -/
def Says (b : Bool) (w : World) : Ending → World → Prop := fun e w' => e = .returned (.bool b) ∧ Kept (fun _ => False) w w'

theorem run_late (x c : Nat) (n v s : Int) (k f e : Value) (hs : ¬ s = 0) (w : World) (h : Tsk w x c n k f v e) (C : Cel w c s) : Calls Tryz.prog 5 #[.pointer (some ⟨x, 0, none⟩), .pointer none] w (Says false w) :=
  run_no _ _ (claim_miss x c n v s k f e hs _ (h.kept ((Kept.refl (fun _ => False) w).alloc _) id) (C.kept ((Kept.refl (fun _ => False) w).alloc _) id))

theorem cancel_late (x c : Nat) (n v s r : Int) (k f e : Value) (hs : ¬ s = 0) (hr : 1 ≤ r) (w : World) (h : Tsk w x c n k f v e) (C : Cel w c s) : Calls Tryz.prog 6 #[.pointer (some ⟨x, 0, none⟩), .pointer none, .int .i64 r] w (Says false w) :=
  cancel_no _ _ hr _ (claim_miss x c n v s k f e hs _ h C)

/-- What is there of the statement's works, from block B on: its count of calls, and what errors.errorType holds. -/
structure Ahead (w0 w : World) (g : Nat) (n : Int) : Prop where
  kept : Kept (fun _ => False) w0 w
  et : ErrorType w
  sl : Slot w g 0 (.int .i64 n)
  ge : w0.heap.size ≤ g

/-- works(): its tasks x, y, z. -/
theorem Ahead.next {S : Nat → Prop} {w0 w w' : World} {g : Nat} {n : Int} (h : Ahead w0 w g n) (h0 : ErrorType w0) (k : Kept S w w') (hS : ∀ i, S i → w0.heap.size ≤ i) (hg : ¬ S g) : Ahead w0 w' g n :=
  ⟨h.kept.far k hS, h0.kept (h.kept.far k hS) id, h.sl.kept k hg, h.ge⟩

set_option maxHeartbeats 4000000 in
theorem works_is (w : World) (hg : ErrorType w) : Calls Tryz.prog 12 #[] w (Says true w) := by
  have hmf : ∀ (fn : Fn) (first cap : Array Value) (w : World), (Instr.makeFunc fn first cap).run Tryz.prog w = .ok (.func fn first cap) w := fun _ _ _ _ => rfl
  have h26 := enters_of Tryz.func26 (by kernel_rfl) rfl
  have h27 := enters_of Tryz.func27 (by kernel_rfl) rfl
  have H26 := Lib.hid h26
  have H27 := Lib.hid h27
  clear h26 h27
  have HG := Lib.hid hg
  clear hg
  go_enter Tryz.func12, Tryz.ntmps12
  go_wp2_with fail
  have A0 : Ahead w (w.alloc (.cells #[.int .i64 0] 3)) w.heap.size 0 := ⟨(Kept.refl _ w).alloc _, HG.out.kept (S := fun _ => False) ((Kept.refl _ w).alloc _) id, ⟨by go_simp, by go_simp, by simp⟩, Nat.le_refl _⟩
  have HA0 := Lib.hid A0
  clear A0
  refine (new_at 7 26 _ _ (w.heap.size + 1) (by simp)).mono ?_
  rintro e w1 ⟨rfl, k1, tx, cx, sz⟩
  have HA1 := Lib.hid (HA0.out.next HG.out k1 (fun _ h => h.elim) id)
  have TX := Lib.hid tx
  have CX := Lib.hid cx
  clear k1 tx cx HA0
  have SZ := Lib.hid sz
  clear sz
  go_wp2_with fail
  refine (run_calm (w.heap.size + 1 + 1) (w.heap.size + 1) 7 42 0 26 ⟨w.heap.size, 0, none⟩ H26.out (fun k => k = w.heap.size) (fun W => Slot W w.heap.size 0 (.int .i64 1)) _ TX.out CX.out ?_ ?_ ?_).mono ?_
  · rintro k rfl
    have := SZ.out
    refine ⟨by omega, ?_⟩
    rintro (h | h) <;> omega
  · intro W hW
    exact f26_is w.heap.size W (HA1.out.sl.kept hW (by rintro (h | h) <;> omega))
  · intro a b hK hs
    exact hs.kept hK (by have := SZ.out; rintro ((h | h) | h) <;> omega)
  rintro e w2 ⟨rfl, k2, ⟨_, rfl, tx⟩, cx, sl⟩
  have HA2 : Hid (Ahead w w2 w.heap.size 1) := Lib.hid ⟨HA1.out.kept.far k2 (by rintro i ((h | h) | h) <;> omega), HG.out.kept (HA1.out.kept.far k2 (by rintro i ((h | h) | h) <;> omega)) id, sl, Nat.le_refl _⟩
  have TX2 := Lib.hid tx
  have CX2 := Lib.hid cx
  clear k2 tx cx sl HA1 TX CX SZ
  go_wp2_with fail
  refine (run_late _ _ 7 42 2 _ _ _ (by decide) _ TX2.out CX2.out).mono ?_
  rintro e w3 ⟨rfl, k3⟩
  have HA3 := Lib.hid (HA2.out.next HG.out k3 (fun _ h => h.elim) id)
  have TX3 := Lib.hid (TX2.out.kept k3 id)
  have CX3 := Lib.hid (CX2.out.kept k3 id)
  clear k3 HA2 TX2 CX2
  go_wp2_with fail
  refine (cancel_late _ _ 7 42 2 1 _ _ _ (by decide) (by decide) _ TX3.out CX3.out).mono ?_
  rintro e w4 ⟨rfl, k4⟩
  have HA4 := Lib.hid (HA3.out.next HG.out k4 (fun _ h => h.elim) id)
  have TX4 := Lib.hid (TX3.out.kept k4 id)
  have CX4 := Lib.hid (CX3.out.kept k4 id)
  clear k4 HA3 TX3 CX3
  go_wp2_with fail
  refine (wait_is _ _ 7 42 2 _ _ _ _ TX4.out CX4.out (by decide)).mono ?_
  rintro e w5 ⟨rfl, k5⟩
  have HA5 := Lib.hid (HA4.out.next HG.out k5 (fun _ h => h.elim) id)
  have TX5 := Lib.hid (TX4.out.kept k5 id)
  have CX5 := Lib.hid (CX4.out.kept k5 id)
  clear k5 HA4 TX4 CX4
  go_wp2_with fail
  have l5 : w.heap.size + 2 < w5.heap.size := TX5.out.lt
  refine (new_at 8 27 _ _ w5.heap.size rfl).mono ?_
  rintro e w6 ⟨rfl, k6, ty, cy, sz⟩
  have HA6 := Lib.hid (HA5.out.next HG.out k6 (fun _ h => h.elim) id)
  have TX6 := Lib.hid (TX5.out.kept k6 id)
  have CX6 := Lib.hid (CX5.out.kept k6 id)
  have TY6 := Lib.hid ty
  have CY6 := Lib.hid cy
  have l6 : w5.heap.size + 1 < w6.heap.size := by omega
  clear k6 ty cy sz HA5 TX5 CX5
  go_wp2_with fail
  refine (new_at 9 28 #[] _ w6.heap.size rfl).mono ?_
  rintro e w7 ⟨rfl, k7, tz, cz, sz⟩
  have HA7 := Lib.hid (HA6.out.next HG.out k7 (fun _ h => h.elim) id)
  have TX7 := Lib.hid (TX6.out.kept k7 id)
  have CX7 := Lib.hid (CX6.out.kept k7 id)
  have TY7 := Lib.hid (TY6.out.kept k7 id)
  have CY7 := Lib.hid (CY6.out.kept k7 id)
  have TZ7 := Lib.hid tz
  have CZ7 := Lib.hid cz
  clear k7 tz cz sz HA6 TX6 CX6 TY6 CY6
  go_wp2_with fail
  refine (run_panic (w5.heap.size + 1) w5.heap.size 8 0 2 (.int .i64 1) (by decide) 27 ⟨w.heap.size, 0, none⟩ H27.out (fun _ => False) (fun _ => True) _ TY7.out CY7.out (fun _ h => h.elim) ?_ (fun _ _ _ _ => trivial)).mono ?_
  · intro W hW
    exact f27_is w.heap.size 1 W (HA7.out.sl.kept hW (by rintro (h | h) <;> omega)).c
  rintro e w8 ⟨rfl, k8, ⟨_, ⟨ay, rfl⟩, ty⟩, cy, _⟩
  have HA8 := Lib.hid (HA7.out.next HG.out k8 (by rintro i ((h | h) | h); omega; omega; exact False.elim h) (by rintro ((h | h) | h) <;> omega))
  have TX8 := Lib.hid (TX7.out.kept k8 (by rintro ((h | h) | h) <;> omega))
  have CX8 := Lib.hid (CX7.out.kept k8 (by rintro ((h | h) | h) <;> omega))
  have TZ8 := Lib.hid (TZ7.out.kept k8 (by rintro ((h | h) | h) <;> omega))
  have CZ8 := Lib.hid (CZ7.out.kept k8 (by rintro ((h | h) | h) <;> omega))
  have TY8 := Lib.hid ty
  have CY8 := Lib.hid cy
  clear k8 ty cy HA7 TX7 CX7 TY7 CY7 TZ7 CZ7
  go_wp2_with fail
  refine (cancel_yes (w6.heap.size + 1) w6.heap.size 9 0 5 (by decide) _ rfl _ TZ8.out CZ8.out).mono ?_
  rintro e w9 ⟨rfl, k9, ⟨_, ⟨az, rfl⟩, tz⟩, cz, _⟩
  have HA9 := Lib.hid (HA8.out.next HG.out k9 (by rintro i ((h | h) | h); omega; omega; exact False.elim h) (by rintro ((h | h) | h) <;> omega))
  have TX9 := Lib.hid (TX8.out.kept k9 (by rintro ((h | h) | h) <;> omega))
  have CX9 := Lib.hid (CX8.out.kept k9 (by rintro ((h | h) | h) <;> omega))
  have TY9 := Lib.hid (TY8.out.kept k9 (by rintro ((h | h) | h) <;> omega))
  have CY9 := Lib.hid (CY8.out.kept k9 (by rintro ((h | h) | h) <;> omega))
  have TZ9 := Lib.hid tz
  have CZ9 := Lib.hid cz
  clear k9 tz cz HA8 TX8 CX8 TY8 CY8 TZ8 CZ8
  go_wp2_with fail
  refine (run_late _ _ 9 0 3 _ _ _ (by decide) _ TZ9.out CZ9.out).mono ?_
  rintro e w10 ⟨rfl, k10⟩
  have HA10 := Lib.hid (HA9.out.next HG.out k10 (fun _ h => h.elim) id)
  have TX10 := Lib.hid (TX9.out.kept k10 id)
  have CX10 := Lib.hid (CX9.out.kept k10 id)
  have TY10 := Lib.hid (TY9.out.kept k10 id)
  have CY10 := Lib.hid (CY9.out.kept k10 id)
  have TZ10 := Lib.hid (TZ9.out.kept k10 id)
  have CZ10 := Lib.hid (CZ9.out.kept k10 id)
  clear k10 HA9 TX9 CX9 TY9 CY9 TZ9 CZ9
  go_wp2_with fail
  refine (wait_is _ _ 8 0 3 _ _ _ _ TY10.out CY10.out (by decide)).mono ?_
  rintro e w11 ⟨rfl, k11⟩
  have HA11 := Lib.hid (HA10.out.next HG.out k11 (fun _ h => h.elim) id)
  have TX11 := Lib.hid (TX10.out.kept k11 id)
  have CX11 := Lib.hid (CX10.out.kept k11 id)
  have TY11 := Lib.hid (TY10.out.kept k11 id)
  have CY11 := Lib.hid (CY10.out.kept k11 id)
  have TZ11 := Lib.hid (TZ10.out.kept k11 id)
  have CZ11 := Lib.hid (CZ10.out.kept k11 id)
  clear k11 HA10 TX10 CX10 TY10 CY10 TZ10 CZ10
  go_wp2_with fail
  refine (wait_is _ _ 9 0 3 _ _ _ _ TZ11.out CZ11.out (by decide)).mono ?_
  rintro e w12 ⟨rfl, k12⟩
  have HA12 := Lib.hid (HA11.out.next HG.out k12 (fun _ h => h.elim) id)
  have TX12 := Lib.hid (TX11.out.kept k12 id)
  have CX12 := Lib.hid (CX11.out.kept k12 id)
  have TY12 := Lib.hid (TY11.out.kept k12 id)
  have CY12 := Lib.hid (CY11.out.kept k12 id)
  have TZ12 := Lib.hid (TZ11.out.kept k12 id)
  have CZ12 := Lib.hid (CZ11.out.kept k12 id)
  have s12 := HA12.out.sl.c
  clear k12 HA11 TX11 CX11 TY11 CY11 TZ11 CZ11
  go_wp2_with fail
  clear s12
  refine (class_panicked ay _ HA12.out.et).mono ?_
  rintro e w13 ⟨rfl, k13⟩
  have HA13 := Lib.hid (HA12.out.next HG.out k13 (fun _ h => h.elim) id)
  have TX13 := Lib.hid (TX12.out.kept k13 id)
  have CX13 := Lib.hid (CX12.out.kept k13 id)
  have TY13 := Lib.hid (TY12.out.kept k13 id)
  have CY13 := Lib.hid (CY12.out.kept k13 id)
  have TZ13 := Lib.hid (TZ12.out.kept k13 id)
  have CZ13 := Lib.hid (CZ12.out.kept k13 id)
  clear k13 HA12 TX12 CX12 TY12 CY12 TZ12 CZ12
  go_wp2_with fail
  refine (class_cancelled az _ HA13.out.et).mono ?_
  rintro e w14 ⟨rfl, k14⟩
  have HA14 := Lib.hid (HA13.out.next HG.out k14 (fun _ h => h.elim) id)
  have TX14 := Lib.hid (TX13.out.kept k14 id)
  have CX14 := Lib.hid (CX13.out.kept k14 id)
  have TY14 := Lib.hid (TY13.out.kept k14 id)
  have CY14 := Lib.hid (CY13.out.kept k14 id)
  have TZ14 := Lib.hid (TZ13.out.kept k14 id)
  have CZ14 := Lib.hid (CZ13.out.kept k14 id)
  clear k14 HA13 TX13 CX13 TY13 CY13 TZ13 CZ13
  go_wp2_with fail
  refine (state_is _ _ 7 42 2 _ _ _ _ TX14.out CX14.out).mono ?_
  rintro e w15 ⟨rfl, rfl⟩
  go_wp2_with fail
  refine (state_is _ _ 8 0 3 _ _ _ _ TY14.out CY14.out).mono ?_
  rintro e w15 ⟨rfl, rfl⟩
  go_wp2_with fail
  go_ret
  exact ⟨rfl, HA14.out.kept⟩

end Go.Proofs.YtbpaomanfgmlcaaGreatDoor

/-
  The walk of TaskNone.
-/
import Derived.Test.YtbpaomanfgmlcaaGreatDoorTask4
namespace Go.Proofs.YtbpaomanfgmlcaaGreatDoor
open Go.RowKit

/-- What there is behind the first half: a world like the first one; a number's block; a task that waits. -/
structure Mid (w0 w : World) (g x c : Nat) (n : Int) (v : Int) (s : Int) (f e : Value) : Prop where
  kept : Kept (fun _ => False) w0 w
  et : ErrorType w
  num : Slot w g 0 (.int .i64 n)
  ge : w0.heap.size ≤ g ∧ w0.heap.size ≤ x ∧ w0.heap.size ≤ c ∧ g ≠ x ∧ g ≠ c
  t : Tsk w x c n (.pointer none) f v e
  c : Cel w c s

theorem Mid.next {w0 w w' : World} {g x c : Nat} {n v s : Int} {f e : Value} (h : Mid w0 w g x c n v s f e) (k : Kept (fun _ => False) w w') : Mid w0 w' g x c n v s f e :=
  ⟨h.kept.trans k, h.et.kept k id, h.num.kept k id, h.ge, h.t.kept k id, h.c.kept k id⟩

/-- What there is at first: a world like the first one; a number's block; a task that New did not make. -/
structure Base (w0 w : World) (n : Int) : Prop where
  kept : Kept (fun _ => False) w0 w
  et : ErrorType w
  num : Slot w w0.heap.size 0 (.int .i64 n)
  bare : w.cell? ⟨w0.heap.size + 1, 1, none⟩ = some (.pointer none)
  lt : w0.heap.size + 1 < w.heap.size

theorem Base.next {w0 w w' : World} {n : Int} (h : Base w0 w n) (k : Kept (fun _ => False) w w') : Base w0 w' n :=
  ⟨h.kept.trans k, h.et.kept k id, h.num.kept k id, (k.cell (p := ⟨w0.heap.size + 1, 1, none⟩) h.lt id).trans h.bare, Nat.lt_of_lt_of_le h.lt k.size⟩

theorem cancel_none (x : Value) (r : Int) (w : World) (hc : Calls Tryz.prog 16 #[x, .pointer none] w fun r w' => r = .returned (.tuple #[.agg #[.pointer none, .nilFunc], .bool false]) ∧ Kept (fun _ => False) w w') :
    Calls Tryz.prog 6 #[x, .pointer none, .int .i64 r] w (Says false w) := by
  by_cases hr : r < 1
  · exact cancel_low x r hr w
  · exact cancel_no x r (by omega) w hc

theorem new_same (n : Int) (w : World) : Calls Tryz.prog 10 #[.int .i64 n, .pointer none, .nilFunc] w fun e w' => e = .returned (.pointer none) ∧ w' = w :=
  (new_nil n w).mono fun _ _ h => ⟨h.1, h.2.symm⟩

theorem run_none (w : World) : Calls Tryz.prog 5 #[.pointer none, .pointer none] w (Says false w) := run_no _ _ (claim_nil _)

theorem run_bare (x : Nat) (w : World) (h : w.cell? ⟨x, 1, none⟩ = some (.pointer none)) (hx : x < w.heap.size) : Calls Tryz.prog 5 #[.pointer (some ⟨x, 0, none⟩), .pointer none] w (Says false w) :=
  run_no _ _ (claim_bare x _ (((((Kept.refl (fun _ => False) w).alloc (.cells #[.pointer none] 40)).cell (p := ⟨x, 1, none⟩) hx id)).trans h) (by simp; omega))

/-- The last part of the statement: Cancel and Run of a task that waits. -/
def Last (w0 : World) (n : Int) : World → Prop := fun w => Base w0 w n

set_option maxHeartbeats 4000000 in
theorem walk_taskNone (n r : Int) (w : World) (hg : ErrorType w) : Calls Tryz.prog 3 #[.int .i64 n, .int .i64 r] w (Says true w) := by
  have hmf : ∀ (fn : Fn) (first cap : Array Value) (w : World), (Instr.makeFunc fn first cap).run Tryz.prog w = .ok (.func fn first cap) w := fun _ _ _ _ => rfl
  have h11 := enters_of Tryz.func11 (by kernel_rfl) rfl
  have H11 := Lib.hid h11
  clear h11
  have HG := Lib.hid hg
  clear hg
  go_enter Tryz.func3, Tryz.ntmps3
  go_wp2_with fail
  refine (wait_nil _).mono ?_
  rintro e w1 ⟨rfl, rfl⟩
  have B0 : Base w ((w.alloc (.cells #[.int .i64 n] 2)).alloc (.cells #[.int .i64 0, .pointer none, .pointer none, .nilFunc, .int .i64 0, .nilIface] 31)) n :=
    ⟨((Kept.refl _ w).alloc _).alloc _, HG.out.kept (S := fun _ => False) (((Kept.refl _ w).alloc _).alloc _) id, ⟨by go_simp, by go_simp, by simp; omega⟩, by go_simp, by simp⟩
  have HB := Lib.hid B0
  clear B0
  go_wp2_with fail
  generalize (w.alloc (.cells #[.int .i64 n] 2)).alloc (.cells #[.int .i64 0, .pointer none, .pointer none, .nilFunc, .int .i64 0, .nilIface] 31) = w0 at HB ⊢
  refine (wait_bare _ _ HB.out.bare).mono ?_
  rintro e w' ⟨rfl, rfl⟩
  go_wp2_with fail
  refine (run_none _).mono ?_
  rintro e w1 ⟨rfl, k⟩
  have HB1 := Lib.hid (HB.out.next k)
  clear k HB
  go_wp2_with fail
  refine (run_bare _ _ HB1.out.bare HB1.out.lt).mono ?_
  rintro e w2 ⟨rfl, k⟩
  have HB2 := Lib.hid (HB1.out.next k)
  clear k HB1
  go_wp2_with fail
  refine (cancel_none _ r _ (claim_nil _)).mono ?_
  rintro e w3 ⟨rfl, k⟩
  have HB3 := Lib.hid (HB2.out.next k)
  clear k HB2
  go_wp2_with fail
  refine (cancel_none _ r _ (claim_bare _ _ HB3.out.bare HB3.out.lt)).mono ?_
  rintro e w4 ⟨rfl, k⟩
  have HB4 := Lib.hid (HB3.out.next k)
  clear k HB3
  go_wp2_with fail
  refine (state_nil _).mono ?_
  rintro e w' ⟨rfl, rfl⟩
  go_wp2_with fail
  refine (state_bare _ _ HB4.out.bare).mono ?_
  rintro e w' ⟨rfl, rfl⟩
  go_wp2_with fail
  refine (number_nil _).mono ?_
  rintro e w' ⟨rfl, rfl⟩
  go_wp2_with fail
  refine (number_bare _ _ HB4.out.bare).mono ?_
  rintro e w' ⟨rfl, rfl⟩
  go_wp2_with fail
  refine (class_num 2 _ HB4.out.et).mono ?_
  rintro e w5 ⟨rfl, k⟩
  have HB5 := Lib.hid (HB4.out.next k)
  clear k HB4
  go_wp2_with fail
  refine (class_num 2 _ HB5.out.et).mono ?_
  rintro e w6 ⟨rfl, k⟩
  have HB6 := Lib.hid (HB5.out.next k)
  clear k HB5
  have nc := HB6.out.num.c
  go_wp2_with fail
  refine (new_at n 11 _ _ w6.heap.size rfl).mono ?_
  rintro e w7 ⟨rfl, k, tx, cx, sz⟩
  have HB7 := Lib.hid (HB6.out.next k)
  have TX := Lib.hid tx
  have CX := Lib.hid cx
  have lt6 := HB6.out.lt
  clear k HB6 nc tx cx sz
  have nc := HB7.out.num.c
  go_wp2_with fail
  have NS : Hid (∀ nq, Calls Tryz.prog 8 #[.pointer (some ⟨w6.heap.size + 1, 0, none⟩)] (w7.drewN nq) fun e w' => e = .returned (.int .i64 n) ∧ w' = w7.drewN nq) :=
    Lib.hid fun nq => (number_is _ _ n 0 _ _ _ _ (TX.out.kept ((Kept.refl (fun _ => False) w7).drewN nq) id)).mono fun _ _ h => ⟨h.1, h.2.symm⟩
  go_quiet ((first | (go_at_call 8; exact Calls.quiet_of_same (NS.out _)) | (go_at_call 10; exact Calls.quiet_of_same (new_same _ _))))
  have KD := (Kept.refl (fun _ => False) w7).drewN nq
  have HB8 := Lib.hid (HB7.out.next KD)
  have TX8 := Lib.hid (TX.out.kept KD id)
  have CX8 := Lib.hid (CX.out.kept KD id)
  clear KD nc NS HB7 TX CX
  generalize w7.drewN nq = w8 at HB8 TX8 CX8 ⊢
  by_cases hr : r < 1
  · have d1 : decide (1 ≤ r) = false := by simp; omega
    have d2 : decide (r < 1) = true := by simpa using hr
    go_wp2_with fail
    refine (cancel_low _ r hr _).mono ?_
    rintro e w9 ⟨rfl, k⟩
    have HB9 := Lib.hid (HB8.out.next k)
    have TX9 := Lib.hid (TX8.out.kept k id)
    have CX9 := Lib.hid (CX8.out.kept k id)
    clear k HB8 TX8 CX8
    go_wp2_with fail
    refine (run_calm (w6.heap.size + 1) w6.heap.size n n 0 11 ⟨w.heap.size, 0, none⟩ H11.out (fun _ => False) (fun _ => True) _ TX9.out CX9.out (fun _ h => h.elim) ?_ (fun _ _ _ _ => trivial)).mono ?_
    · intro W hW
      exact f11_is w.heap.size n W (HB9.out.num.kept hW (by rintro (h | h) <;> omega)).c
    rintro e w10 ⟨rfl, k, _, _, _⟩
    have K10 : Kept (fun _ => False) w w10 := HB9.out.kept.far k (by rintro i ((h | h) | h); omega; omega; exact False.elim h)
    have HK10 := Lib.hid K10
    clear k K10 HB9 TX9 CX9
    go_wp2_with fail
    refine (works_is _ (HG.out.kept HK10.out id)).mono ?_
    rintro e w11 ⟨rfl, k⟩
    have HK11 := Lib.hid (HK10.out.trans k)
    clear k HK10
    go_wp2_with fail
    go_ret
    exact ⟨rfl, HK11.out⟩
  · have hr' : 1 ≤ r := by omega
    have d1 : decide (1 ≤ r) = true := by simpa using hr'
    have d2 : decide (r < 1) = false := by simpa using hr'
    clear hr
    go_wp2_with fail
    refine (cancel_yes (w6.heap.size + 1) w6.heap.size n 0 r hr' _ rfl _ TX8.out CX8.out).mono ?_
    rintro e w9 ⟨rfl, k, ⟨_, ⟨az, rfl⟩, tz⟩, cz, _⟩
    have K9 : Kept (fun _ => False) w w9 := HB8.out.kept.far k (by rintro i ((h | h) | h); omega; omega; exact False.elim h)
    have HK9 := Lib.hid K9
    have TX9 := Lib.hid tz
    have CX9 := Lib.hid cz
    clear k tz cz K9 HB8 TX8 CX8
    go_wp2_with fail
    refine (run_late _ _ n 0 3 _ _ _ (by decide) _ TX9.out CX9.out).mono ?_
    rintro e w10 ⟨rfl, k⟩
    have HK10 := Lib.hid (HK9.out.trans k)
    clear k HK9 TX9 CX9
    go_wp2_with fail
    refine (works_is _ (HG.out.kept HK10.out id)).mono ?_
    rintro e w11 ⟨rfl, k⟩
    have HK11 := Lib.hid (HK10.out.trans k)
    clear k HK10
    go_wp2_with fail
    go_ret
    exact ⟨rfl, HK11.out⟩

end Go.Proofs.YtbpaomanfgmlcaaGreatDoor

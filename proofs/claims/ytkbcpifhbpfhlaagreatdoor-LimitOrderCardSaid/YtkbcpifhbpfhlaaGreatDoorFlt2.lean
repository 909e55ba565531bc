/-
  errors.as, by contracts: at the targets *api.Errno and **fault.At, for the errors of package fault that wrap no other one.
-/
import Derived.Test.YtkbcpifhbpfhlaaGreatDoorFlt0
namespace Go.Proofs.YtkbcpifhbpfhlaaGreatDoor
open Go.RowKit Go.Extern.Stop Go.Stop Go.Extern

set_option maxHeartbeats 4000000 in
/-- errors.as where the error's own type is the target's. -/
theorem asE_hit (c : Int) (tb ab : Nat) (old : Value) (w : World) (Ts : Slot w tb 0 old) (ha : w.cell? ⟨ab, 0, none⟩ = some (.pointer (some ⟨tb, 0, none⟩))) (hab : ab < w.heap.size) :
    Calls Tryz.prog 96 #[.iface 28 (.int .i64 c), .iface 88 (.pointer (some ⟨tb, 0, none⟩)), .agg #[.pointer (some ⟨1, 88, none⟩), .pointer (some ⟨ab, 0, none⟩), .int .u64 150], .iface 201 (.agg #[.pointer (some ⟨1, 28, none⟩)])] w (Res (fun k => k = tb) w true fun W => Slot W tb 0 (.int .i64 c)) := by
  have h48 := @run_callFunc_extern Tryz.prog 108 _ ReflectliteType.typeOf Tryz.func108 (by kernel_rfl) (by kernel_rfl) (by kernel_rfl) (by kernel_rfl)
  have h95 := @run_callFunc_extern Tryz.prog 156 _ (ReflectliteType.relation "AssignableTo" ReflectliteType.assignableTo) Tryz.func156 (by kernel_rfl) (by kernel_rfl) (by kernel_rfl) (by kernel_rfl)
  have mA := Tryz.methodAssignableTo
  have tO := Tryz.typeOfNum
  have aX := Tryz.asgENum
  have h60 := @run_callFunc_extern Tryz.prog 109 _ (ReflectliteValue.method (ReflectliteValue.valueError "reflectlite.Value.Elem" 0) ReflectliteValue.elem) Tryz.func109 (by kernel_rfl) (by kernel_rfl) (by kernel_rfl) (by kernel_rfl)
  have h50 := @run_callFunc_extern Tryz.prog 93 _ (fun args => ReflectliteValue.unpack (args.getD 0 (.tuple #[]))) Tryz.func93 (by kernel_rfl) (by kernel_rfl) (by kernel_rfl) (by kernel_rfl)
  have h61 := @run_callFunc_extern Tryz.prog 110 _ ReflectliteValue.set Tryz.func110 (by kernel_rfl) (by kernel_rfl) (by kernel_rfl) (by kernel_rfl)
  have tc := Ts.c
  have tf := Ts.fr
  have tz := Ts.lt
  have vX := Tryz.valE
  have el := Tryz.elemVE ⟨ab, 0, none⟩ ⟨tb, 0, none⟩ (w.alloc (.cells #[.pointer (some ⟨1, 88, none⟩), .pointer (some ⟨ab, 0, none⟩), .int .u64 150] 173)) (by rw [World.cell?_alloc_lt _ _ ⟨ab, 0, none⟩ hab]; exact ha)
  have st := Tryz.setE ⟨tb, 0, none⟩ ⟨w.heap.size + 1, 0, none⟩ c old ((w.alloc (.cells #[.pointer (some ⟨1, 88, none⟩), .pointer (some ⟨ab, 0, none⟩), .int .u64 150] 173)).alloc (.cells #[.int .i64 c] 28)) (by rw [World.cell?_alloc_at _ _ _ _ (by simp)]; rfl)
    (by rw [World.cell?_alloc_lt _ _ ⟨tb, 0, none⟩ (by simp; omega), World.cell?_alloc_lt _ _ ⟨tb, 0, none⟩ tz]; exact tc)
    (by rw [World.frozen?_alloc_old _ _ ⟨tb, 0, none⟩ (by simp; omega), World.frozen?_alloc_old _ _ ⟨tb, 0, none⟩ (Nat.ne_of_lt tz)]; exact tf)
  have HT := Lib.hid Ts
  clear Ts
  go_enter Tryz.func96, Tryz.ntmps96
  go_wp2
  refine wp_loop_rounds 1 ?_
  rw [rounds_succ]
  go_wp2
  go_ret
  exact ⟨rfl, (((Kept.refl (fun k => k = tb) w).setCell ⟨tb, 0, none⟩ (.inl rfl) _).alloc _).alloc _, (HT.out.set _).kept (S := fun _ => False) (((Kept.refl _ _).alloc _).alloc _) (fun h => h)⟩

set_option maxHeartbeats 4000000 in
theorem asE_Late (c : Addr) (tb ab : Nat) (old : Value) (w : World) (Ts : Slot w tb 0 old) (ha : w.cell? ⟨ab, 0, none⟩ = some (.pointer (some ⟨tb, 0, none⟩))) (hab : ab < w.heap.size) :
    Calls Tryz.prog 96 #[.iface 76 (.pointer (some c)), .iface 88 (.pointer (some ⟨tb, 0, none⟩)), .agg #[.pointer (some ⟨1, 88, none⟩), .pointer (some ⟨ab, 0, none⟩), .int .u64 150], .iface 201 (.agg #[.pointer (some ⟨1, 28, none⟩)])] w (Res (fun k => k = tb) w true fun W => Slot W tb 0 (.int .i64 21)) := by
  have h48 := @run_callFunc_extern Tryz.prog 108 _ ReflectliteType.typeOf Tryz.func108 (by kernel_rfl) (by kernel_rfl) (by kernel_rfl) (by kernel_rfl)
  have h95 := @run_callFunc_extern Tryz.prog 156 _ (ReflectliteType.relation "AssignableTo" ReflectliteType.assignableTo) Tryz.func156 (by kernel_rfl) (by kernel_rfl) (by kernel_rfl) (by kernel_rfl)
  have mA := Tryz.methodAssignableTo
  have tO := Tryz.typeOfLate
  have aX := Tryz.asgELate
  have nA := Tryz.noAsLate
  have hU := Tryz.hasUnwrapLate
  have mU := Tryz.unwrapLate
  have tN := Tryz.typeOfNum
  have aN := Tryz.asgENum
  have h60 := @run_callFunc_extern Tryz.prog 109 _ (ReflectliteValue.method (ReflectliteValue.valueError "reflectlite.Value.Elem" 0) ReflectliteValue.elem) Tryz.func109 (by kernel_rfl) (by kernel_rfl) (by kernel_rfl) (by kernel_rfl)
  have h50 := @run_callFunc_extern Tryz.prog 93 _ (fun args => ReflectliteValue.unpack (args.getD 0 (.tuple #[]))) Tryz.func93 (by kernel_rfl) (by kernel_rfl) (by kernel_rfl) (by kernel_rfl)
  have h61 := @run_callFunc_extern Tryz.prog 110 _ ReflectliteValue.set Tryz.func110 (by kernel_rfl) (by kernel_rfl) (by kernel_rfl) (by kernel_rfl)
  have tc := Ts.c
  have tf := Ts.fr
  have tz := Ts.lt
  have vX := Tryz.valE
  have el := Tryz.elemVE ⟨ab, 0, none⟩ ⟨tb, 0, none⟩ (w.alloc (.cells #[.pointer (some ⟨1, 88, none⟩), .pointer (some ⟨ab, 0, none⟩), .int .u64 150] 173)) (by rw [World.cell?_alloc_lt _ _ ⟨ab, 0, none⟩ hab]; exact ha)
  have st := Tryz.setE ⟨tb, 0, none⟩ ⟨w.heap.size + 1, 0, none⟩ 21 old ((w.alloc (.cells #[.pointer (some ⟨1, 88, none⟩), .pointer (some ⟨ab, 0, none⟩), .int .u64 150] 173)).alloc (.cells #[.int .i64 21] 28)) (by rw [World.cell?_alloc_at _ _ _ _ (by simp)]; rfl)
    (by rw [World.cell?_alloc_lt _ _ ⟨tb, 0, none⟩ (by simp; omega), World.cell?_alloc_lt _ _ ⟨tb, 0, none⟩ tz]; exact tc)
    (by rw [World.frozen?_alloc_old _ _ ⟨tb, 0, none⟩ (by simp; omega), World.frozen?_alloc_old _ _ ⟨tb, 0, none⟩ (Nat.ne_of_lt tz)]; exact tf)
  have HT := Lib.hid Ts
  clear Ts
  go_enter Tryz.func96, Tryz.ntmps96
  go_wp2
  refine wp_loop_rounds 2 ?_
  rw [rounds_succ]
  go_wp2
  rw [rounds_succ]
  go_wp2
  go_ret
  exact ⟨rfl, (((Kept.refl (fun k => k = tb) w).setCell ⟨tb, 0, none⟩ (.inl rfl) _).alloc _).alloc _, (HT.out.set _).kept (S := fun _ => False) (((Kept.refl _ _).alloc _).alloc _) (fun h => h)⟩

set_option maxHeartbeats 4000000 in
theorem asE_Pan (c : Addr) (tb ab : Nat) (old : Value) (w : World) (Ts : Slot w tb 0 old) (ha : w.cell? ⟨ab, 0, none⟩ = some (.pointer (some ⟨tb, 0, none⟩))) (hab : ab < w.heap.size) :
    Calls Tryz.prog 96 #[.iface 197 (.pointer (some c)), .iface 88 (.pointer (some ⟨tb, 0, none⟩)), .agg #[.pointer (some ⟨1, 88, none⟩), .pointer (some ⟨ab, 0, none⟩), .int .u64 150], .iface 201 (.agg #[.pointer (some ⟨1, 28, none⟩)])] w (Res (fun k => k = tb) w true fun W => Slot W tb 0 (.int .i64 22)) := by
  have h48 := @run_callFunc_extern Tryz.prog 108 _ ReflectliteType.typeOf Tryz.func108 (by kernel_rfl) (by kernel_rfl) (by kernel_rfl) (by kernel_rfl)
  have h95 := @run_callFunc_extern Tryz.prog 156 _ (ReflectliteType.relation "AssignableTo" ReflectliteType.assignableTo) Tryz.func156 (by kernel_rfl) (by kernel_rfl) (by kernel_rfl) (by kernel_rfl)
  have mA := Tryz.methodAssignableTo
  have tO := Tryz.typeOfPan
  have aX := Tryz.asgEPan
  have nA := Tryz.noAsPan
  have hU := Tryz.hasUnwrapPan
  have mU := Tryz.unwrapPan
  have tN := Tryz.typeOfNum
  have aN := Tryz.asgENum
  have h60 := @run_callFunc_extern Tryz.prog 109 _ (ReflectliteValue.method (ReflectliteValue.valueError "reflectlite.Value.Elem" 0) ReflectliteValue.elem) Tryz.func109 (by kernel_rfl) (by kernel_rfl) (by kernel_rfl) (by kernel_rfl)
  have h50 := @run_callFunc_extern Tryz.prog 93 _ (fun args => ReflectliteValue.unpack (args.getD 0 (.tuple #[]))) Tryz.func93 (by kernel_rfl) (by kernel_rfl) (by kernel_rfl) (by kernel_rfl)
  have h61 := @run_callFunc_extern Tryz.prog 110 _ ReflectliteValue.set Tryz.func110 (by kernel_rfl) (by kernel_rfl) (by kernel_rfl) (by kernel_rfl)
  have tc := Ts.c
  have tf := Ts.fr
  have tz := Ts.lt
  have vX := Tryz.valE
  have el := Tryz.elemVE ⟨ab, 0, none⟩ ⟨tb, 0, none⟩ (w.alloc (.cells #[.pointer (some ⟨1, 88, none⟩), .pointer (some ⟨ab, 0, none⟩), .int .u64 150] 173)) (by rw [World.cell?_alloc_lt _ _ ⟨ab, 0, none⟩ hab]; exact ha)
  have st := Tryz.setE ⟨tb, 0, none⟩ ⟨w.heap.size + 1, 0, none⟩ 22 old ((w.alloc (.cells #[.pointer (some ⟨1, 88, none⟩), .pointer (some ⟨ab, 0, none⟩), .int .u64 150] 173)).alloc (.cells #[.int .i64 22] 28)) (by rw [World.cell?_alloc_at _ _ _ _ (by simp)]; rfl)
    (by rw [World.cell?_alloc_lt _ _ ⟨tb, 0, none⟩ (by simp; omega), World.cell?_alloc_lt _ _ ⟨tb, 0, none⟩ tz]; exact tc)
    (by rw [World.frozen?_alloc_old _ _ ⟨tb, 0, none⟩ (by simp; omega), World.frozen?_alloc_old _ _ ⟨tb, 0, none⟩ (Nat.ne_of_lt tz)]; exact tf)
  have HT := Lib.hid Ts
  clear Ts
  go_enter Tryz.func96, Tryz.ntmps96
  go_wp2
  refine wp_loop_rounds 2 ?_
  rw [rounds_succ]
  go_wp2
  rw [rounds_succ]
  go_wp2
  go_ret
  exact ⟨rfl, (((Kept.refl (fun k => k = tb) w).setCell ⟨tb, 0, none⟩ (.inl rfl) _).alloc _).alloc _, (HT.out.set _).kept (S := fun _ => False) (((Kept.refl _ _).alloc _).alloc _) (fun h => h)⟩

end Go.Proofs.YtkbcpifhbpfhlaaGreatDoor

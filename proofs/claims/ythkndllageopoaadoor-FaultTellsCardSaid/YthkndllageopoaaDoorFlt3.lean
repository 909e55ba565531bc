/-
  errors.as, by contracts, at the target **fault.At.
-/
import Derived.Test.YthkndllageopoaaDoorFlt0
namespace Go.Proofs.YthkndllageopoaaDoor
open Go.RowKit Go.Extern.Stop Go.Stop Go.Extern

set_option maxHeartbeats 4000000 in
/-- errors.as where the error's own type is the target's. -/
theorem asA_hit (c : Option Addr) (tb ab : Nat) (old : Value) (w : World) (Ts : Slot w tb 0 old) (ha : w.cell? ⟨ab, 0, none⟩ = some (.pointer (some ⟨tb, 0, none⟩))) (hab : ab < w.heap.size) :
    Calls Tryd.prog 49 #[.iface 44 (.pointer c), .iface 60 (.pointer (some ⟨tb, 0, none⟩)), .agg #[.pointer (some ⟨5, 60, none⟩), .pointer (some ⟨ab, 0, none⟩), .int .u64 150], .iface 98 (.agg #[.pointer (some ⟨5, 44, none⟩)])] w (Res (fun k => k = tb) w true fun W => Slot W tb 0 (.pointer c)) := by
  have h48 := @run_callFunc_extern Tryd.prog 55 _ ReflectliteType.typeOf Tryd.func55 (by kernel_rfl) (by kernel_rfl) (by kernel_rfl) (by kernel_rfl)
  have h95 := @run_callFunc_extern Tryd.prog 86 _ (ReflectliteType.relation "AssignableTo" ReflectliteType.assignableTo) Tryd.func86 (by kernel_rfl) (by kernel_rfl) (by kernel_rfl) (by kernel_rfl)
  have mA := Tryd.methodAssignableTo
  have tO := Tryd.typeOfAt
  have aX := Tryd.asgAAt
  have h60 := @run_callFunc_extern Tryd.prog 56 _ (ReflectliteValue.method (ReflectliteValue.valueError "reflectlite.Value.Elem" 0) ReflectliteValue.elem) Tryd.func56 (by kernel_rfl) (by kernel_rfl) (by kernel_rfl) (by kernel_rfl)
  have h50 := @run_callFunc_extern Tryd.prog 46 _ (fun args => ReflectliteValue.unpack (args.getD 0 (.tuple #[]))) Tryd.func46 (by kernel_rfl) (by kernel_rfl) (by kernel_rfl) (by kernel_rfl)
  have h61 := @run_callFunc_extern Tryd.prog 57 _ ReflectliteValue.set Tryd.func57 (by kernel_rfl) (by kernel_rfl) (by kernel_rfl) (by kernel_rfl)
  have tc := Ts.c
  have tf := Ts.fr
  have tz := Ts.lt
  have vX := Tryd.valA
  have el := Tryd.elemVA ⟨ab, 0, none⟩ ⟨tb, 0, none⟩ (w.alloc (.cells #[.pointer (some ⟨5, 60, none⟩), .pointer (some ⟨ab, 0, none⟩), .int .u64 150] 79)) (by rw [World.cell?_alloc_lt _ _ ⟨ab, 0, none⟩ hab]; exact ha)
  have st := Tryd.setA ⟨tb, 0, none⟩ ⟨w.heap.size + 1, 0, none⟩ c old ((w.alloc (.cells #[.pointer (some ⟨5, 60, none⟩), .pointer (some ⟨ab, 0, none⟩), .int .u64 150] 79)).alloc (.cells #[.pointer c] 44)) (by rw [World.cell?_alloc_at _ _ _ _ (by simp)]; rfl)
    (by rw [World.cell?_alloc_lt _ _ ⟨tb, 0, none⟩ (by simp; omega), World.cell?_alloc_lt _ _ ⟨tb, 0, none⟩ tz]; exact tc)
    (by rw [World.frozen?_alloc_old _ _ ⟨tb, 0, none⟩ (by simp; omega), World.frozen?_alloc_old _ _ ⟨tb, 0, none⟩ (Nat.ne_of_lt tz)]; exact tf)
  have HT := Lib.hid Ts
  clear Ts
  go_enter Tryd.func49, Tryd.ntmps49
  go_wp2
  refine wp_loop_rounds 1 ?_
  rw [rounds_succ]
  go_wp2
  go_ret
  exact ⟨rfl, (((Kept.refl (fun k => k = tb) w).setCell ⟨tb, 0, none⟩ (.inl rfl) _).alloc _).alloc _, (HT.out.set _).kept (S := fun _ => False) (((Kept.refl _ _).alloc _).alloc _) (fun h => h)⟩

set_option maxHeartbeats 4000000 in
theorem asA_Num (c : Int) (a1 a2 : Value) (w : World) :
    Calls Tryd.prog 49 #[.iface 29 (.int .i64 c), a1, .agg #[.pointer (some ⟨5, 60, none⟩), a2, .int .u64 150], .iface 98 (.agg #[.pointer (some ⟨5, 44, none⟩)])] w (Res (fun _ => False) w false fun _ => True) := by
  have h48 := @run_callFunc_extern Tryd.prog 55 _ ReflectliteType.typeOf Tryd.func55 (by kernel_rfl) (by kernel_rfl) (by kernel_rfl) (by kernel_rfl)
  have h95 := @run_callFunc_extern Tryd.prog 86 _ (ReflectliteType.relation "AssignableTo" ReflectliteType.assignableTo) Tryd.func86 (by kernel_rfl) (by kernel_rfl) (by kernel_rfl) (by kernel_rfl)
  have mA := Tryd.methodAssignableTo
  have tO := Tryd.typeOfNum
  have aX := Tryd.asgANum
  have nA := Tryd.noAsNum
  have nU := Tryd.noUnwrapNum
  have nV := Tryd.noUnwrapsNum
  go_enter Tryd.func49, Tryd.ntmps49
  go_wp2
  refine wp_loop_rounds 1 ?_
  rw [rounds_succ]
  go_wp2
  go_ret
  exact ⟨rfl, (Kept.refl _ w).alloc _, trivial⟩

set_option maxHeartbeats 4000000 in
theorem asA_Failed (c : Addr) (a1 a2 : Value) (w : World) :
    Calls Tryd.prog 49 #[.iface 40 (.pointer (some c)), a1, .agg #[.pointer (some ⟨5, 60, none⟩), a2, .int .u64 150], .iface 98 (.agg #[.pointer (some ⟨5, 44, none⟩)])] w (Res (fun _ => False) w false fun _ => True) := by
  have h48 := @run_callFunc_extern Tryd.prog 55 _ ReflectliteType.typeOf Tryd.func55 (by kernel_rfl) (by kernel_rfl) (by kernel_rfl) (by kernel_rfl)
  have h95 := @run_callFunc_extern Tryd.prog 86 _ (ReflectliteType.relation "AssignableTo" ReflectliteType.assignableTo) Tryd.func86 (by kernel_rfl) (by kernel_rfl) (by kernel_rfl) (by kernel_rfl)
  have mA := Tryd.methodAssignableTo
  have tO := Tryd.typeOfFailed
  have aX := Tryd.asgAFailed
  have nA := Tryd.noAsFailed
  have hU := Tryd.hasUnwrapFailed
  have mU := Tryd.unwrapFailed
  have tN := Tryd.typeOfNum
  have aN := Tryd.asgANum
  have nAN := Tryd.noAsNum
  have nU := Tryd.noUnwrapNum
  have nV := Tryd.noUnwrapsNum
  go_enter Tryd.func49, Tryd.ntmps49
  go_wp2
  refine wp_loop_rounds 2 ?_
  rw [rounds_succ]
  go_wp2
  rw [rounds_succ]
  go_wp2
  go_ret
  exact ⟨rfl, (Kept.refl _ w).alloc _, trivial⟩

set_option maxHeartbeats 4000000 in
theorem asA_Canc (c : Addr) (a1 a2 : Value) (w : World) :
    Calls Tryd.prog 49 #[.iface 41 (.pointer (some c)), a1, .agg #[.pointer (some ⟨5, 60, none⟩), a2, .int .u64 150], .iface 98 (.agg #[.pointer (some ⟨5, 44, none⟩)])] w (Res (fun _ => False) w false fun _ => True) := by
  have h48 := @run_callFunc_extern Tryd.prog 55 _ ReflectliteType.typeOf Tryd.func55 (by kernel_rfl) (by kernel_rfl) (by kernel_rfl) (by kernel_rfl)
  have h95 := @run_callFunc_extern Tryd.prog 86 _ (ReflectliteType.relation "AssignableTo" ReflectliteType.assignableTo) Tryd.func86 (by kernel_rfl) (by kernel_rfl) (by kernel_rfl) (by kernel_rfl)
  have mA := Tryd.methodAssignableTo
  have tO := Tryd.typeOfCanc
  have aX := Tryd.asgACanc
  have nA := Tryd.noAsCanc
  have hU := Tryd.hasUnwrapCanc
  have mU := Tryd.unwrapCanc
  have tN := Tryd.typeOfNum
  have aN := Tryd.asgANum
  have nAN := Tryd.noAsNum
  have nU := Tryd.noUnwrapNum
  have nV := Tryd.noUnwrapsNum
  go_enter Tryd.func49, Tryd.ntmps49
  go_wp2
  refine wp_loop_rounds 2 ?_
  rw [rounds_succ]
  go_wp2
  rw [rounds_succ]
  go_wp2
  go_ret
  exact ⟨rfl, (Kept.refl _ w).alloc _, trivial⟩

set_option maxHeartbeats 4000000 in
theorem asA_Late (c : Addr) (a1 a2 : Value) (w : World) :
    Calls Tryd.prog 49 #[.iface 42 (.pointer (some c)), a1, .agg #[.pointer (some ⟨5, 60, none⟩), a2, .int .u64 150], .iface 98 (.agg #[.pointer (some ⟨5, 44, none⟩)])] w (Res (fun _ => False) w false fun _ => True) := by
  have h48 := @run_callFunc_extern Tryd.prog 55 _ ReflectliteType.typeOf Tryd.func55 (by kernel_rfl) (by kernel_rfl) (by kernel_rfl) (by kernel_rfl)
  have h95 := @run_callFunc_extern Tryd.prog 86 _ (ReflectliteType.relation "AssignableTo" ReflectliteType.assignableTo) Tryd.func86 (by kernel_rfl) (by kernel_rfl) (by kernel_rfl) (by kernel_rfl)
  have mA := Tryd.methodAssignableTo
  have tO := Tryd.typeOfLate
  have aX := Tryd.asgALate
  have nA := Tryd.noAsLate
  have hU := Tryd.hasUnwrapLate
  have mU := Tryd.unwrapLate
  have tN := Tryd.typeOfNum
  have aN := Tryd.asgANum
  have nAN := Tryd.noAsNum
  have nU := Tryd.noUnwrapNum
  have nV := Tryd.noUnwrapsNum
  go_enter Tryd.func49, Tryd.ntmps49
  go_wp2
  refine wp_loop_rounds 2 ?_
  rw [rounds_succ]
  go_wp2
  rw [rounds_succ]
  go_wp2
  go_ret
  exact ⟨rfl, (Kept.refl _ w).alloc _, trivial⟩

set_option maxHeartbeats 4000000 in
theorem asA_Pan (c : Addr) (a1 a2 : Value) (w : World) :
    Calls Tryd.prog 49 #[.iface 43 (.pointer (some c)), a1, .agg #[.pointer (some ⟨5, 60, none⟩), a2, .int .u64 150], .iface 98 (.agg #[.pointer (some ⟨5, 44, none⟩)])] w (Res (fun _ => False) w false fun _ => True) := by
  have h48 := @run_callFunc_extern Tryd.prog 55 _ ReflectliteType.typeOf Tryd.func55 (by kernel_rfl) (by kernel_rfl) (by kernel_rfl) (by kernel_rfl)
  have h95 := @run_callFunc_extern Tryd.prog 86 _ (ReflectliteType.relation "AssignableTo" ReflectliteType.assignableTo) Tryd.func86 (by kernel_rfl) (by kernel_rfl) (by kernel_rfl) (by kernel_rfl)
  have mA := Tryd.methodAssignableTo
  have tO := Tryd.typeOfPan
  have aX := Tryd.asgAPan
  have nA := Tryd.noAsPan
  have hU := Tryd.hasUnwrapPan
  have mU := Tryd.unwrapPan
  have tN := Tryd.typeOfNum
  have aN := Tryd.asgANum
  have nAN := Tryd.noAsNum
  have nU := Tryd.noUnwrapNum
  have nV := Tryd.noUnwrapsNum
  go_enter Tryd.func49, Tryd.ntmps49
  go_wp2
  refine wp_loop_rounds 2 ?_
  rw [rounds_succ]
  go_wp2
  rw [rounds_succ]
  go_wp2
  go_ret
  exact ⟨rfl, (Kept.refl _ w).alloc _, trivial⟩

set_option maxHeartbeats 4000000 in
theorem asA_Plain (c : Option Addr) (a1 a2 : Value) (w : World) :
    Calls Tryd.prog 49 #[.iface 120 (.pointer c), a1, .agg #[.pointer (some ⟨5, 60, none⟩), a2, .int .u64 150], .iface 98 (.agg #[.pointer (some ⟨5, 44, none⟩)])] w (Res (fun _ => False) w false fun _ => True) := by
  have h48 := @run_callFunc_extern Tryd.prog 55 _ ReflectliteType.typeOf Tryd.func55 (by kernel_rfl) (by kernel_rfl) (by kernel_rfl) (by kernel_rfl)
  have h95 := @run_callFunc_extern Tryd.prog 86 _ (ReflectliteType.relation "AssignableTo" ReflectliteType.assignableTo) Tryd.func86 (by kernel_rfl) (by kernel_rfl) (by kernel_rfl) (by kernel_rfl)
  have mA := Tryd.methodAssignableTo
  have tO := Tryd.typeOfPlain
  have aX := Tryd.asgAPlain
  have nA := Tryd.noAsPlain
  have nU := Tryd.noUnwrapPlain
  have nV := Tryd.noUnwrapsPlain
  go_enter Tryd.func49, Tryd.ntmps49
  go_wp2
  refine wp_loop_rounds 1 ?_
  rw [rounds_succ]
  go_wp2
  go_ret
  exact ⟨rfl, (Kept.refl _ w).alloc _, trivial⟩

end Go.Proofs.YthkndllageopoaaDoor

/-
  errors.as, by contracts: at the targets *api.Errno and **fault.At, for the errors of package fault that wrap no other one.
-/
import Derived.Test.YthkndllageopoaaDoorFlt0
namespace Go.Proofs.YthkndllageopoaaDoor
open Go.RowKit Go.Extern.Stop Go.Stop Go.Extern

set_option maxHeartbeats 4000000 in
/-- errors.as where the error's own type is the target's. -/
theorem asE_hit (c : Int) (tb ab : Nat) (old : Value) (w : World) (Ts : Slot w tb 0 old) (ha : w.cell? ⟨ab, 0, none⟩ = some (.pointer (some ⟨tb, 0, none⟩))) (hab : ab < w.heap.size) :
    Calls Tryd.prog 49 #[.iface 29 (.int .i64 c), .iface 59 (.pointer (some ⟨tb, 0, none⟩)), .agg #[.pointer (some ⟨5, 59, none⟩), .pointer (some ⟨ab, 0, none⟩), .int .u64 150], .iface 98 (.agg #[.pointer (some ⟨5, 29, none⟩)])] w (Res (fun k => k = tb) w true fun W => Slot W tb 0 (.int .i64 c)) := by
  have h48 := @run_callFunc_extern Tryd.prog 55 _ ReflectliteType.typeOf Tryd.func55 (by kernel_rfl) (by kernel_rfl) (by kernel_rfl) (by kernel_rfl)
  have h95 := @run_callFunc_extern Tryd.prog 86 _ (ReflectliteType.relation "AssignableTo" ReflectliteType.assignableTo) Tryd.func86 (by kernel_rfl) (by kernel_rfl) (by kernel_rfl) (by kernel_rfl)
  have mA := Tryd.methodAssignableTo
  have tO := Tryd.typeOfNum
  have aX := Tryd.asgENum
  have h60 := @run_callFunc_extern Tryd.prog 56 _ (ReflectliteValue.method (ReflectliteValue.valueError "reflectlite.Value.Elem" 0) ReflectliteValue.elem) Tryd.func56 (by kernel_rfl) (by kernel_rfl) (by kernel_rfl) (by kernel_rfl)
  have h50 := @run_callFunc_extern Tryd.prog 46 _ (fun args => ReflectliteValue.unpack (args.getD 0 (.tuple #[]))) Tryd.func46 (by kernel_rfl) (by kernel_rfl) (by kernel_rfl) (by kernel_rfl)
  have h61 := @run_callFunc_extern Tryd.prog 57 _ ReflectliteValue.set Tryd.func57 (by kernel_rfl) (by kernel_rfl) (by kernel_rfl) (by kernel_rfl)
  have tc := Ts.c
  have tf := Ts.fr
  have tz := Ts.lt
  have vX := Tryd.valE
  have el := Tryd.elemVE ⟨ab, 0, none⟩ ⟨tb, 0, none⟩ (w.alloc (.cells #[.pointer (some ⟨5, 59, none⟩), .pointer (some ⟨ab, 0, none⟩), .int .u64 150] 79)) (by rw [World.cell?_alloc_lt _ _ ⟨ab, 0, none⟩ hab]; exact ha)
  have st := Tryd.setE ⟨tb, 0, none⟩ ⟨w.heap.size + 1, 0, none⟩ c old ((w.alloc (.cells #[.pointer (some ⟨5, 59, none⟩), .pointer (some ⟨ab, 0, none⟩), .int .u64 150] 79)).alloc (.cells #[.int .i64 c] 29)) (by rw [World.cell?_alloc_at _ _ _ _ (by simp)]; rfl)
    (by rw [World.cell?_alloc_lt _ _ ⟨tb, 0, none⟩ (by simp; omega), World.cell?_alloc_lt _ _ ⟨tb, 0, none⟩ tz]; exact tc)
    (by rw [World.frozen?_alloc_old _ _ ⟨tb, 0, none⟩ (by simp; omega), World.frozen?_alloc_old _ _ ⟨tb, 0, none⟩ (Nat.ne_of_lt tz)]; exact tf)
  have HT := Lib.hid Ts
  clear Ts
  go_enter Tryd.func49, Tryd.ntmps49
  go_wp2
  refine wp_loop_rounds 1 ?_
  rw [rounds_succ]
  go_wp2
  go_ret
  exact ⟨rfl, (((Kept.refl (fun k => k = tb) w).setCell ⟨tb, 0, none⟩ (.inl rfl) _).alloc _).alloc _, (HT.out.set _).kept (S := fun _ => False) (((Kept.refl _ _).alloc _).alloc _) (fun h => h)⟩

set_option maxHeartbeats 4000000 in
theorem asE_Failed (c : Addr) (tb ab : Nat) (old : Value) (w : World) (Ts : Slot w tb 0 old) (ha : w.cell? ⟨ab, 0, none⟩ = some (.pointer (some ⟨tb, 0, none⟩))) (hab : ab < w.heap.size) :
    Calls Tryd.prog 49 #[.iface 40 (.pointer (some c)), .iface 59 (.pointer (some ⟨tb, 0, none⟩)), .agg #[.pointer (some ⟨5, 59, none⟩), .pointer (some ⟨ab, 0, none⟩), .int .u64 150], .iface 98 (.agg #[.pointer (some ⟨5, 29, none⟩)])] w (Res (fun k => k = tb) w true fun W => Slot W tb 0 (.int .i64 23)) := by
  have h48 := @run_callFunc_extern Tryd.prog 55 _ ReflectliteType.typeOf Tryd.func55 (by kernel_rfl) (by kernel_rfl) (by kernel_rfl) (by kernel_rfl)
  have h95 := @run_callFunc_extern Tryd.prog 86 _ (ReflectliteType.relation "AssignableTo" ReflectliteType.assignableTo) Tryd.func86 (by kernel_rfl) (by kernel_rfl) (by kernel_rfl) (by kernel_rfl)
  have mA := Tryd.methodAssignableTo
  have tO := Tryd.typeOfFailed
  have aX := Tryd.asgEFailed
  have nA := Tryd.noAsFailed
  have hU := Tryd.hasUnwrapFailed
  have mU := Tryd.unwrapFailed
  have tN := Tryd.typeOfNum
  have aN := Tryd.asgENum
  have h60 := @run_callFunc_extern Tryd.prog 56 _ (ReflectliteValue.method (ReflectliteValue.valueError "reflectlite.Value.Elem" 0) ReflectliteValue.elem) Tryd.func56 (by kernel_rfl) (by kernel_rfl) (by kernel_rfl) (by kernel_rfl)
  have h50 := @run_callFunc_extern Tryd.prog 46 _ (fun args => ReflectliteValue.unpack (args.getD 0 (.tuple #[]))) Tryd.func46 (by kernel_rfl) (by kernel_rfl) (by kernel_rfl) (by kernel_rfl)
  have h61 := @run_callFunc_extern Tryd.prog 57 _ ReflectliteValue.set Tryd.func57 (by kernel_rfl) (by kernel_rfl) (by kernel_rfl) (by kernel_rfl)
  have tc := Ts.c
  have tf := Ts.fr
  have tz := Ts.lt
  have vX := Tryd.valE
  have el := Tryd.elemVE ⟨ab, 0, none⟩ ⟨tb, 0, none⟩ (w.alloc (.cells #[.pointer (some ⟨5, 59, none⟩), .pointer (some ⟨ab, 0, none⟩), .int .u64 150] 79)) (by rw [World.cell?_alloc_lt _ _ ⟨ab, 0, none⟩ hab]; exact ha)
  have st := Tryd.setE ⟨tb, 0, none⟩ ⟨w.heap.size + 1, 0, none⟩ 23 old ((w.alloc (.cells #[.pointer (some ⟨5, 59, none⟩), .pointer (some ⟨ab, 0, none⟩), .int .u64 150] 79)).alloc (.cells #[.int .i64 23] 29)) (by rw [World.cell?_alloc_at _ _ _ _ (by simp)]; rfl)
    (by rw [World.cell?_alloc_lt _ _ ⟨tb, 0, none⟩ (by simp; omega), World.cell?_alloc_lt _ _ ⟨tb, 0, none⟩ tz]; exact tc)
    (by rw [World.frozen?_alloc_old _ _ ⟨tb, 0, none⟩ (by simp; omega), World.frozen?_alloc_old _ _ ⟨tb, 0, none⟩ (Nat.ne_of_lt tz)]; exact tf)
  have HT := Lib.hid Ts
  clear Ts
  go_enter Tryd.func49, Tryd.ntmps49
  go_wp2
  refine wp_loop_rounds 2 ?_
  rw [rounds_succ]
  go_wp2
  rw [rounds_succ]
  go_wp2
  go_ret
  exact ⟨rfl, (((Kept.refl (fun k => k = tb) w).setCell ⟨tb, 0, none⟩ (.inl rfl) _).alloc _).alloc _, (HT.out.set _).kept (S := fun _ => False) (((Kept.refl _ _).alloc _).alloc _) (fun h => h)⟩

set_option maxHeartbeats 4000000 in
theorem asE_Canc (c : Addr) (tb ab : Nat) (old : Value) (w : World) (Ts : Slot w tb 0 old) (ha : w.cell? ⟨ab, 0, none⟩ = some (.pointer (some ⟨tb, 0, none⟩))) (hab : ab < w.heap.size) :
    Calls Tryd.prog 49 #[.iface 41 (.pointer (some c)), .iface 59 (.pointer (some ⟨tb, 0, none⟩)), .agg #[.pointer (some ⟨5, 59, none⟩), .pointer (some ⟨ab, 0, none⟩), .int .u64 150], .iface 98 (.agg #[.pointer (some ⟨5, 29, none⟩)])] w (Res (fun k => k = tb) w true fun W => Slot W tb 0 (.int .i64 20)) := by
  have h48 := @run_callFunc_extern Tryd.prog 55 _ ReflectliteType.typeOf Tryd.func55 (by kernel_rfl) (by kernel_rfl) (by kernel_rfl) (by kernel_rfl)
  have h95 := @run_callFunc_extern Tryd.prog 86 _ (ReflectliteType.relation "AssignableTo" ReflectliteType.assignableTo) Tryd.func86 (by kernel_rfl) (by kernel_rfl) (by kernel_rfl) (by kernel_rfl)
  have mA := Tryd.methodAssignableTo
  have tO := Tryd.typeOfCanc
  have aX := Tryd.asgECanc
  have nA := Tryd.noAsCanc
  have hU := Tryd.hasUnwrapCanc
  have mU := Tryd.unwrapCanc
  have tN := Tryd.typeOfNum
  have aN := Tryd.asgENum
  have h60 := @run_callFunc_extern Tryd.prog 56 _ (ReflectliteValue.method (ReflectliteValue.valueError "reflectlite.Value.Elem" 0) ReflectliteValue.elem) Tryd.func56 (by kernel_rfl) (by kernel_rfl) (by kernel_rfl) (by kernel_rfl)
  have h50 := @run_callFunc_extern Tryd.prog 46 _ (fun args => ReflectliteValue.unpack (args.getD 0 (.tuple #[]))) Tryd.func46 (by kernel_rfl) (by kernel_rfl) (by kernel_rfl) (by kernel_rfl)
  have h61 := @run_callFunc_extern Tryd.prog 57 _ ReflectliteValue.set Tryd.func57 (by kernel_rfl) (by kernel_rfl) (by kernel_rfl) (by kernel_rfl)
  have tc := Ts.c
  have tf := Ts.fr
  have tz := Ts.lt
  have vX := Tryd.valE
  have el := Tryd.elemVE ⟨ab, 0, none⟩ ⟨tb, 0, none⟩ (w.alloc (.cells #[.pointer (some ⟨5, 59, none⟩), .pointer (some ⟨ab, 0, none⟩), .int .u64 150] 79)) (by rw [World.cell?_alloc_lt _ _ ⟨ab, 0, none⟩ hab]; exact ha)
  have st := Tryd.setE ⟨tb, 0, none⟩ ⟨w.heap.size + 1, 0, none⟩ 20 old ((w.alloc (.cells #[.pointer (some ⟨5, 59, none⟩), .pointer (some ⟨ab, 0, none⟩), .int .u64 150] 79)).alloc (.cells #[.int .i64 20] 29)) (by rw [World.cell?_alloc_at _ _ _ _ (by simp)]; rfl)
    (by rw [World.cell?_alloc_lt _ _ ⟨tb, 0, none⟩ (by simp; omega), World.cell?_alloc_lt _ _ ⟨tb, 0, none⟩ tz]; exact tc)
    (by rw [World.frozen?_alloc_old _ _ ⟨tb, 0, none⟩ (by simp; omega), World.frozen?_alloc_old _ _ ⟨tb, 0, none⟩ (Nat.ne_of_lt tz)]; exact tf)
  have HT := Lib.hid Ts
  clear Ts
  go_enter Tryd.func49, Tryd.ntmps49
  go_wp2
  refine wp_loop_rounds 2 ?_
  rw [rounds_succ]
  go_wp2
  rw [rounds_succ]
  go_wp2
  go_ret
  exact ⟨rfl, (((Kept.refl (fun k => k = tb) w).setCell ⟨tb, 0, none⟩ (.inl rfl) _).alloc _).alloc _, (HT.out.set _).kept (S := fun _ => False) (((Kept.refl _ _).alloc _).alloc _) (fun h => h)⟩

set_option maxHeartbeats 4000000 in
theorem asE_Late (c : Addr) (tb ab : Nat) (old : Value) (w : World) (Ts : Slot w tb 0 old) (ha : w.cell? ⟨ab, 0, none⟩ = some (.pointer (some ⟨tb, 0, none⟩))) (hab : ab < w.heap.size) :
    Calls Tryd.prog 49 #[.iface 42 (.pointer (some c)), .iface 59 (.pointer (some ⟨tb, 0, none⟩)), .agg #[.pointer (some ⟨5, 59, none⟩), .pointer (some ⟨ab, 0, none⟩), .int .u64 150], .iface 98 (.agg #[.pointer (some ⟨5, 29, none⟩)])] w (Res (fun k => k = tb) w true fun W => Slot W tb 0 (.int .i64 21)) := by
  have h48 := @run_callFunc_extern Tryd.prog 55 _ ReflectliteType.typeOf Tryd.func55 (by kernel_rfl) (by kernel_rfl) (by kernel_rfl) (by kernel_rfl)
  have h95 := @run_callFunc_extern Tryd.prog 86 _ (ReflectliteType.relation "AssignableTo" ReflectliteType.assignableTo) Tryd.func86 (by kernel_rfl) (by kernel_rfl) (by kernel_rfl) (by kernel_rfl)
  have mA := Tryd.methodAssignableTo
  have tO := Tryd.typeOfLate
  have aX := Tryd.asgELate
  have nA := Tryd.noAsLate
  have hU := Tryd.hasUnwrapLate
  have mU := Tryd.unwrapLate
  have tN := Tryd.typeOfNum
  have aN := Tryd.asgENum
  have h60 := @run_callFunc_extern Tryd.prog 56 _ (ReflectliteValue.method (ReflectliteValue.valueError "reflectlite.Value.Elem" 0) ReflectliteValue.elem) Tryd.func56 (by kernel_rfl) (by kernel_rfl) (by kernel_rfl) (by kernel_rfl)
  have h50 := @run_callFunc_extern Tryd.prog 46 _ (fun args => ReflectliteValue.unpack (args.getD 0 (.tuple #[]))) Tryd.func46 (by kernel_rfl) (by kernel_rfl) (by kernel_rfl) (by kernel_rfl)
  have h61 := @run_callFunc_extern Tryd.prog 57 _ ReflectliteValue.set Tryd.func57 (by kernel_rfl) (by kernel_rfl) (by kernel_rfl) (by kernel_rfl)
  have tc := Ts.c
  have tf := Ts.fr
  have tz := Ts.lt
  have vX := Tryd.valE
  have el := Tryd.elemVE ⟨ab, 0, none⟩ ⟨tb, 0, none⟩ (w.alloc (.cells #[.pointer (some ⟨5, 59, none⟩), .pointer (some ⟨ab, 0, none⟩), .int .u64 150] 79)) (by rw [World.cell?_alloc_lt _ _ ⟨ab, 0, none⟩ hab]; exact ha)
  have st := Tryd.setE ⟨tb, 0, none⟩ ⟨w.heap.size + 1, 0, none⟩ 21 old ((w.alloc (.cells #[.pointer (some ⟨5, 59, none⟩), .pointer (some ⟨ab, 0, none⟩), .int .u64 150] 79)).alloc (.cells #[.int .i64 21] 29)) (by rw [World.cell?_alloc_at _ _ _ _ (by simp)]; rfl)
    (by rw [World.cell?_alloc_lt _ _ ⟨tb, 0, none⟩ (by simp; omega), World.cell?_alloc_lt _ _ ⟨tb, 0, none⟩ tz]; exact tc)
    (by rw [World.frozen?_alloc_old _ _ ⟨tb, 0, none⟩ (by simp; omega), World.frozen?_alloc_old _ _ ⟨tb, 0, none⟩ (Nat.ne_of_lt tz)]; exact tf)
  have HT := Lib.hid Ts
  clear Ts
  go_enter Tryd.func49, Tryd.ntmps49
  go_wp2
  refine wp_loop_rounds 2 ?_
  rw [rounds_succ]
  go_wp2
  rw [rounds_succ]
  go_wp2
  go_ret
  exact ⟨rfl, (((Kept.refl (fun k => k = tb) w).setCell ⟨tb, 0, none⟩ (.inl rfl) _).alloc _).alloc _, (HT.out.set _).kept (S := fun _ => False) (((Kept.refl _ _).alloc _).alloc _) (fun h => h)⟩

set_option maxHeartbeats 4000000 in
theorem asE_Pan (c : Addr) (tb ab : Nat) (old : Value) (w : World) (Ts : Slot w tb 0 old) (ha : w.cell? ⟨ab, 0, none⟩ = some (.pointer (some ⟨tb, 0, none⟩))) (hab : ab < w.heap.size) :
    Calls Tryd.prog 49 #[.iface 43 (.pointer (some c)), .iface 59 (.pointer (some ⟨tb, 0, none⟩)), .agg #[.pointer (some ⟨5, 59, none⟩), .pointer (some ⟨ab, 0, none⟩), .int .u64 150], .iface 98 (.agg #[.pointer (some ⟨5, 29, none⟩)])] w (Res (fun k => k = tb) w true fun W => Slot W tb 0 (.int .i64 22)) := by
  have h48 := @run_callFunc_extern Tryd.prog 55 _ ReflectliteType.typeOf Tryd.func55 (by kernel_rfl) (by kernel_rfl) (by kernel_rfl) (by kernel_rfl)
  have h95 := @run_callFunc_extern Tryd.prog 86 _ (ReflectliteType.relation "AssignableTo" ReflectliteType.assignableTo) Tryd.func86 (by kernel_rfl) (by kernel_rfl) (by kernel_rfl) (by kernel_rfl)
  have mA := Tryd.methodAssignableTo
  have tO := Tryd.typeOfPan
  have aX := Tryd.asgEPan
  have nA := Tryd.noAsPan
  have hU := Tryd.hasUnwrapPan
  have mU := Tryd.unwrapPan
  have tN := Tryd.typeOfNum
  have aN := Tryd.asgENum
  have h60 := @run_callFunc_extern Tryd.prog 56 _ (ReflectliteValue.method (ReflectliteValue.valueError "reflectlite.Value.Elem" 0) ReflectliteValue.elem) Tryd.func56 (by kernel_rfl) (by kernel_rfl) (by kernel_rfl) (by kernel_rfl)
  have h50 := @run_callFunc_extern Tryd.prog 46 _ (fun args => ReflectliteValue.unpack (args.getD 0 (.tuple #[]))) Tryd.func46 (by kernel_rfl) (by kernel_rfl) (by kernel_rfl) (by kernel_rfl)
  have h61 := @run_callFunc_extern Tryd.prog 57 _ ReflectliteValue.set Tryd.func57 (by kernel_rfl) (by kernel_rfl) (by kernel_rfl) (by kernel_rfl)
  have tc := Ts.c
  have tf := Ts.fr
  have tz := Ts.lt
  have vX := Tryd.valE
  have el := Tryd.elemVE ⟨ab, 0, none⟩ ⟨tb, 0, none⟩ (w.alloc (.cells #[.pointer (some ⟨5, 59, none⟩), .pointer (some ⟨ab, 0, none⟩), .int .u64 150] 79)) (by rw [World.cell?_alloc_lt _ _ ⟨ab, 0, none⟩ hab]; exact ha)
  have st := Tryd.setE ⟨tb, 0, none⟩ ⟨w.heap.size + 1, 0, none⟩ 22 old ((w.alloc (.cells #[.pointer (some ⟨5, 59, none⟩), .pointer (some ⟨ab, 0, none⟩), .int .u64 150] 79)).alloc (.cells #[.int .i64 22] 29)) (by rw [World.cell?_alloc_at _ _ _ _ (by simp)]; rfl)
    (by rw [World.cell?_alloc_lt _ _ ⟨tb, 0, none⟩ (by simp; omega), World.cell?_alloc_lt _ _ ⟨tb, 0, none⟩ tz]; exact tc)
    (by rw [World.frozen?_alloc_old _ _ ⟨tb, 0, none⟩ (by simp; omega), World.frozen?_alloc_old _ _ ⟨tb, 0, none⟩ (Nat.ne_of_lt tz)]; exact tf)
  have HT := Lib.hid Ts
  clear Ts
  go_enter Tryd.func49, Tryd.ntmps49
  go_wp2
  refine wp_loop_rounds 2 ?_
  rw [rounds_succ]
  go_wp2
  rw [rounds_succ]
  go_wp2
  go_ret
  exact ⟨rfl, (((Kept.refl (fun k => k = tb) w).setCell ⟨tb, 0, none⟩ (.inl rfl) _).alloc _).alloc _, (HT.out.set _).kept (S := fun _ => False) (((Kept.refl _ _).alloc _).alloc _) (fun h => h)⟩

set_option maxHeartbeats 4000000 in
theorem asE_Plain (c : Option Addr) (a1 a2 : Value) (w : World) :
    Calls Tryd.prog 49 #[.iface 120 (.pointer c), a1, .agg #[.pointer (some ⟨5, 59, none⟩), a2, .int .u64 150], .iface 98 (.agg #[.pointer (some ⟨5, 29, none⟩)])] w (Res (fun _ => False) w false fun _ => True) := by
  have h48 := @run_callFunc_extern Tryd.prog 55 _ ReflectliteType.typeOf Tryd.func55 (by kernel_rfl) (by kernel_rfl) (by kernel_rfl) (by kernel_rfl)
  have h95 := @run_callFunc_extern Tryd.prog 86 _ (ReflectliteType.relation "AssignableTo" ReflectliteType.assignableTo) Tryd.func86 (by kernel_rfl) (by kernel_rfl) (by kernel_rfl) (by kernel_rfl)
  have mA := Tryd.methodAssignableTo
  have tO := Tryd.typeOfPlain
  have aX := Tryd.asgEPlain
  have nA := Tryd.noAsPlain
  have nU := Tryd.noUnwrapPlain
  have nV := Tryd.noUnwrapsPlain
  go_enter Tryd.func49, Tryd.ntmps49
  go_wp2
  refine wp_loop_rounds 1 ?_
  rw [rounds_succ]
  go_wp2
  go_ret
  exact ⟨rfl, (Kept.refl _ w).alloc _, trivial⟩

end Go.Proofs.YthkndllageopoaaDoor

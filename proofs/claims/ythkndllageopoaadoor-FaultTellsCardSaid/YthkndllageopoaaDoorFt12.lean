/-
  FaultTells: errors.As at the target **fault.Panicked.
-/
import Derived.Test.YthkndllageopoaaDoorFt11
namespace Go.Proofs.YthkndllageopoaaDoor
open Go.RowKit Go.Extern.Stop Go.Stop Go.Extern

theorem Tryd.valueOfQ (t : Addr) (w : World) : (ReflectliteValue.unpack (.iface 73 (.pointer (some t)))).run Tryd.prog w
    = .ok (.agg #[.pointer (some ⟨5, 73, none⟩), .pointer (some ⟨w.heap.size, 0, none⟩), .int .u64 150]) (w.alloc (.cells #[.pointer (some t)] 73)) := by kernel_rfl

theorem Tryd.typeQ (a : Addr) (w : World) : (ReflectliteValue.methodAny (ReflectliteValue.valueError "reflectlite.Value.Type" 0) (fun t _ _ _ => ReflectliteType.toType t) #[.agg #[.pointer (some ⟨5, 73, none⟩), .pointer (some a), .int .u64 150]]).run Tryd.prog w
    = .ok (.iface 98 (.agg #[.pointer (some ⟨5, 73, none⟩)])) w := by kernel_rfl

theorem Tryd.kindPQ (w : World) : ((ReflectliteType.abiMethod fun t => (fun a : Nat => Value.int IntKind.u8 (a : Int)) <$> Rtype.kind t) #[.pointer (some ⟨5, 73, none⟩)]).run Tryd.prog w = .ok (.int .u8 22) w := by kernel_rfl

theorem Tryd.kindTQ (w : World) : ((ReflectliteType.abiMethod fun t => (fun a : Nat => Value.int IntKind.u8 (a : Int)) <$> Rtype.kind t) #[.pointer (some ⟨5, 43, none⟩)]).run Tryd.prog w = .ok (.int .u8 22) w := by kernel_rfl

theorem Tryd.partsQ (a : Addr) (w : World) : (ReflectliteValue.parts (.agg #[.pointer (some ⟨5, 73, none⟩), .pointer (some a), .int .u64 150])).run Tryd.prog w = .ok (some (73, a, 150)) w := by kernel_rfl

/-- (Value).IsNil at the Value of a pointer that is not nil. -/
theorem Tryd.isNilQ (a p : Addr) (W : World) (ha : W.cell? a = some (.pointer (some p))) :
    (ReflectliteValue.method (ReflectliteValue.valueError "reflectlite.Value.IsNil" 0) ReflectliteValue.isNil #[.agg #[.pointer (some ⟨5, 73, none⟩), .pointer (some a), .int .u64 150]]).run Tryd.prog W = .ok (.bool false) W := by
  rw [rlm]
  simp only [Sem.run_bind, Tryd.partsQ, Result.andThen]
  simp [ReflectliteValue.isNil, loadVar, isAgg, underlying, Tryd.underlying73, ha, Result.andThen]

theorem Tryd.elemQ (w : World) : (ReflectliteType.method ReflectliteType.elem #[.agg #[.pointer (some ⟨5, 73, none⟩)]]).run Tryd.prog w = .ok (.iface 98 (.agg #[.pointer (some ⟨5, 43, none⟩)])) w := by kernel_rfl

theorem Tryd.implementsQ (w : World) : (ReflectliteType.relation "Implements" ReflectliteType.implements_ #[.agg #[.pointer (some ⟨5, 43, none⟩)], .iface 98 (.agg #[.pointer (some ⟨5, 27, none⟩)])]).run Tryd.prog w = .ok (.bool true) w := by kernel_rfl

theorem Tryd.elemOfQ (w : World) : (Rtype.elem? 73).run Tryd.prog w = .ok (some 43) w := by kernel_rfl

theorem Tryd.mkQ (p : Addr) (w : World) : (ReflectliteValue.mk 43 p ReflectliteValue.flagAddr).run Tryd.prog w = .ok (.agg #[.pointer (some ⟨5, 43, none⟩), .pointer (some p), .int .u64 406]) w := by kernel_rfl

/-- (Value).Elem at the Value of a pointer that is not nil: the Value of the variable that it points to, addressable. -/
theorem Tryd.elemVQ (a p : Addr) (W : World) (ha : W.cell? a = some (.pointer (some p))) :
    (ReflectliteValue.method (ReflectliteValue.valueError "reflectlite.Value.Elem" 0) ReflectliteValue.elem #[.agg #[.pointer (some ⟨5, 73, none⟩), .pointer (some a), .int .u64 150]]).run Tryd.prog W
      = .ok (.agg #[.pointer (some ⟨5, 43, none⟩), .pointer (some p), .int .u64 406]) W := by
  rw [rlm]
  simp only [Sem.run_bind, Tryd.partsQ, Result.andThen]
  simp [ReflectliteValue.elem, loadVar, isAgg, underlying, Tryd.underlying73, ha, Result.andThen, Tryd.elemOfQ, Tryd.mkQ]

theorem Tryd.partsTQ (a : Addr) (w : World) : (ReflectliteValue.parts (.agg #[.pointer (some ⟨5, 43, none⟩), .pointer (some a), .int .u64 406])).run Tryd.prog w = .ok (some (43, a, 406)) w := by kernel_rfl

theorem Tryd.partsVQ (a : Addr) (w : World) : (ReflectliteValue.parts (.agg #[.pointer (some ⟨5, 43, none⟩), .pointer (some a), .int .u64 150])).run Tryd.prog w = .ok (some (43, a, 150)) w := by kernel_rfl

theorem Tryd.directQ (w : World) : (Rtype.directlyAssignable 43 43).run Tryd.prog w = .ok true w := by kernel_rfl

theorem Tryd.sizeTQ (w : World) : (sizeOf 43).run Tryd.prog w = .ok 1 w := by kernel_rfl

theorem Tryd.valQ (c : Option Addr) (w : World) : (ReflectliteValue.unpack (.iface 43 (.pointer c))).run Tryd.prog w = .ok (.agg #[.pointer (some ⟨5, 43, none⟩), .pointer (some ⟨w.heap.size, 0, none⟩), .int .u64 150]) (w.alloc (.cells #[.pointer c] 43)) := by kernel_rfl

/-- (Value).Set: the variable at 'ta' gets what the Value's own variable 'b' holds. -/
theorem Tryd.setQ (ta b : Addr) (c : Option Addr) (old : Value) (W : World) (hb : W.cell? b = some (.pointer c)) (ht : W.cell? ta = some old) (hf : W.frozen? ta = false) :
    (ReflectliteValue.set #[.agg #[.pointer (some ⟨5, 43, none⟩), .pointer (some ta), .int .u64 406], .agg #[.pointer (some ⟨5, 43, none⟩), .pointer (some b), .int .u64 150]]).run Tryd.prog W
      = .ok (.tuple #[]) (W.setCell ta (.pointer c)) := by
  rw [rls]
  simp only [Sem.run_bind, Tryd.partsTQ, Tryd.partsVQ, Result.andThen]
  simp [ReflectliteValue.flagAddr, loadVar, isAgg, underlying, Tryd.underlying43, hb, Result.andThen, Tryd.directQ, storeVar, Value.cells, storeCells, Addr.add]
  rw [run_store Tryd.prog W ta _ _ (by rfl)]
  simp [ht, hf]

theorem Tryd.asgQPan (w : World) : (ReflectliteType.relation "AssignableTo" ReflectliteType.assignableTo #[.agg #[.pointer (some ⟨5, 43, none⟩)], .iface 98 (.agg #[.pointer (some ⟨5, 43, none⟩)])]).run Tryd.prog w = .ok (.bool true) w := by kernel_rfl

set_option maxHeartbeats 4000000 in
/-- errors.as where the error's own type is the target's. -/
theorem asQ_hit (c : Option Addr) (tb ab : Nat) (old : Value) (w : World) (Ts : Slot w tb 0 old) (ha : w.cell? ⟨ab, 0, none⟩ = some (.pointer (some ⟨tb, 0, none⟩))) (hab : ab < w.heap.size) :
    Calls Tryd.prog 49 #[.iface 43 (.pointer c), .iface 73 (.pointer (some ⟨tb, 0, none⟩)), .agg #[.pointer (some ⟨5, 73, none⟩), .pointer (some ⟨ab, 0, none⟩), .int .u64 150], .iface 98 (.agg #[.pointer (some ⟨5, 43, none⟩)])] w (Res (fun k => k = tb) w true fun W => Slot W tb 0 (.pointer c)) := by
  have h48 := @run_callFunc_extern Tryd.prog 55 _ ReflectliteType.typeOf Tryd.func55 (by kernel_rfl) (by kernel_rfl) (by kernel_rfl) (by kernel_rfl)
  have h95 := @run_callFunc_extern Tryd.prog 86 _ (ReflectliteType.relation "AssignableTo" ReflectliteType.assignableTo) Tryd.func86 (by kernel_rfl) (by kernel_rfl) (by kernel_rfl) (by kernel_rfl)
  have mA := Tryd.methodAssignableTo
  have tO := Tryd.typeOfPan
  have aX := Tryd.asgQPan
  have h60 := @run_callFunc_extern Tryd.prog 56 _ (ReflectliteValue.method (ReflectliteValue.valueError "reflectlite.Value.Elem" 0) ReflectliteValue.elem) Tryd.func56 (by kernel_rfl) (by kernel_rfl) (by kernel_rfl) (by kernel_rfl)
  have h50 := @run_callFunc_extern Tryd.prog 46 _ (fun args => ReflectliteValue.unpack (args.getD 0 (.tuple #[]))) Tryd.func46 (by kernel_rfl) (by kernel_rfl) (by kernel_rfl) (by kernel_rfl)
  have h61 := @run_callFunc_extern Tryd.prog 57 _ ReflectliteValue.set Tryd.func57 (by kernel_rfl) (by kernel_rfl) (by kernel_rfl) (by kernel_rfl)
  have tc := Ts.c
  have tf := Ts.fr
  have tz := Ts.lt
  have vX := Tryd.valQ
  have el := Tryd.elemVQ ⟨ab, 0, none⟩ ⟨tb, 0, none⟩ (w.alloc (.cells #[.pointer (some ⟨5, 73, none⟩), .pointer (some ⟨ab, 0, none⟩), .int .u64 150] 79)) (by rw [World.cell?_alloc_lt _ _ ⟨ab, 0, none⟩ hab]; exact ha)
  have st := Tryd.setQ ⟨tb, 0, none⟩ ⟨w.heap.size + 1, 0, none⟩ c old ((w.alloc (.cells #[.pointer (some ⟨5, 73, none⟩), .pointer (some ⟨ab, 0, none⟩), .int .u64 150] 79)).alloc (.cells #[.pointer c] 43)) (by rw [World.cell?_alloc_at _ _ _ _ (by simp)]; rfl)
    (by rw [World.cell?_alloc_lt _ _ ⟨tb, 0, none⟩ (by simp; omega), World.cell?_alloc_lt _ _ ⟨tb, 0, none⟩ tz]; exact tc)
    (by rw [World.frozen?_alloc_old _ _ ⟨tb, 0, none⟩ (by simp; omega), World.frozen?_alloc_old _ _ ⟨tb, 0, none⟩ (Nat.ne_of_lt tz)]; exact tf)
  have HT := Lib.hid Ts
  clear Ts
  go_enter Tryd.func49, Tryd.ntmps49
  go_wp2
  refine wp_loop_rounds 1 ?_
  rw [rounds_succ]
  go_wp2
  go_ret
  exact ⟨rfl, (((Kept.refl (fun k => k = tb) w).setCell ⟨tb, 0, none⟩ (.inl rfl) _).alloc _).alloc _, (HT.out.set _).kept (S := fun _ => False) (((Kept.refl _ _).alloc _).alloc _) (fun h => h)⟩


set_option maxHeartbeats 4000000 in
theorem AsQ (u : Nat) (v : Value) (tb : Nat) (b : Bool) (S : Nat → Prop) (T : World → Prop) (w : World) (hg : ErrorType w)
    (hc : ∀ W, Kept (fun _ => False) w W → ∀ ab, ab < W.heap.size → W.cell? ⟨ab, 0, none⟩ = some (.pointer (some ⟨tb, 0, none⟩)) → Calls Tryd.prog 49 #[.iface u v, .iface 73 (.pointer (some ⟨tb, 0, none⟩)), .agg #[.pointer (some ⟨5, 73, none⟩), .pointer (some ⟨ab, 0, none⟩), .int .u64 150], .iface 98 (.agg #[.pointer (some ⟨5, 43, none⟩)])] W (Res S W b T)) :
    Calls Tryd.prog 36 #[.iface u v, .iface 73 (.pointer (some ⟨tb, 0, none⟩))] w (Res S w b T) := by
  have h6 := @run_callFunc_extern Tryd.prog 46 _ (fun args => ReflectliteValue.unpack (args.getD 0 (.tuple #[]))) Tryd.func46 (by kernel_rfl) (by kernel_rfl) (by kernel_rfl) (by kernel_rfl)
  have h7 := @run_callFunc_extern Tryd.prog 47 _ (ReflectliteValue.methodAny (ReflectliteValue.valueError "reflectlite.Value.Type" 0) (fun t _ _ _ => ReflectliteType.toType t)) Tryd.func47 (by kernel_rfl) (by kernel_rfl) (by kernel_rfl) (by kernel_rfl)
  have h8 := @run_callFunc_extern Tryd.prog 48 _ (ReflectliteValue.method (ReflectliteValue.valueError "reflectlite.Value.IsNil" 0) ReflectliteValue.isNil) Tryd.func48 (by kernel_rfl) (by kernel_rfl) (by kernel_rfl) (by kernel_rfl)
  have h27 := @run_callFunc_extern Tryd.prog 79 _ (ReflectliteType.abiMethod fun t => do pure (.int .u8 (← Rtype.kind t))) Tryd.func79 (by kernel_rfl) (by kernel_rfl) (by kernel_rfl) (by kernel_rfl)
  have h37 := @run_callFunc_extern Tryd.prog 88 _ (ReflectliteType.method ReflectliteType.elem) Tryd.func88 (by kernel_rfl) (by kernel_rfl) (by kernel_rfl) (by kernel_rfl)
  have h38 := @run_callFunc_extern Tryd.prog 89 _ (ReflectliteType.relation "Implements" ReflectliteType.implements_) Tryd.func89 (by kernel_rfl) (by kernel_rfl) (by kernel_rfl) (by kernel_rfl)
  have ne : ∀ w, (binOp .eql 27 (.iface u v) .nilIface).run Tryd.prog w = .ok (.bool false) w := fun w => run_eql_iface_nil w 27 (by kernel_rfl) u v
  have f6 := Tryd.valueOfQ
  have f7 := Tryd.typeQ
  have mK := Tryd.methodKind
  have mE := Tryd.methodElem
  have mI := Tryd.methodImplements
  have kP := Tryd.kindPQ
  have kT := Tryd.kindTQ
  have eX := Tryd.elemQ
  have iX := Tryd.implementsQ
  have n8 := Tryd.isNilQ ⟨w.heap.size, 0, none⟩ ⟨tb, 0, none⟩ ((w.alloc (.cells #[.pointer (some ⟨tb, 0, none⟩)] 73)).alloc (.cells #[.pointer (some ⟨5, 73, none⟩), .pointer (some ⟨w.heap.size, 0, none⟩), .int .u64 150] 79)) (by simp)
  have hg2 : ErrorType ((w.alloc (.cells #[.pointer (some ⟨tb, 0, none⟩)] 73)).alloc (.cells #[.pointer (some ⟨5, 73, none⟩), .pointer (some ⟨w.heap.size, 0, none⟩), .int .u64 150] 79)) := hg.kept (S := fun _ => False) (((Kept.refl _ _).alloc _).alloc _) (fun h => h)
  unfold ErrorType at hg2
  have HG := Lib.hid hg
  have HC := Lib.hid (hc ((w.alloc (.cells #[.pointer (some ⟨tb, 0, none⟩)] 73)).alloc (.cells #[.pointer (some ⟨5, 73, none⟩), .pointer (some ⟨w.heap.size, 0, none⟩), .int .u64 150] 79)) (((Kept.refl _ w).alloc _).alloc _) w.heap.size (by simp; omega) (by simp))
  clear hc hg
  go_enter Tryd.func36, Tryd.ntmps36
  go_wp2_with fail
  refine HC.out.mono ?_
  rintro e w' ⟨rfl, hK, hT⟩
  have HT := Lib.hid hT
  have HK := Lib.hid hK
  clear hT hK
  go_wp2_with fail
  go_ret
  exact ⟨rfl, (((Kept.refl S w).alloc _).alloc _).trans HK.out, HT.out⟩


end Go.Proofs.YthkndllageopoaaDoor

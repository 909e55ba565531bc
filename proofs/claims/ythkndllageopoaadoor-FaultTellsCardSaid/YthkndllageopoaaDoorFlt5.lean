/-
  errors.As and finds, out of what errors.as finds.
-/
import Derived.Test.YthkndllageopoaaDoorFlt4
import Derived.Shelf.Abstract
namespace Go.Proofs.YthkndllageopoaaDoor
open Go.RowKit Go.Extern.Stop Go.Stop Go.Extern

/-- What errors.errorType holds. -/
def ErrorType (w : World) : Prop := w.cell? ⟨1, 0, none⟩ = some (.iface 98 (.agg #[.pointer (some ⟨5, 27, none⟩)]))

theorem ErrorType.kept {w w' : World} {S : Nat → Prop} (h : ErrorType w) (k : Kept S w w') (hs : ¬ S 1) : ErrorType w' := by
  have hlt : 1 < w.heap.size := by
    rcases Nat.lt_or_ge 1 w.heap.size with h1 | h1
    · exact h1
    · have h' := h
      unfold ErrorType at h'
      simp [World.cell?, Array.getElem?_eq_none h1] at h'
  exact (k.cell (p := ⟨1, 0, none⟩) hlt hs).trans h

set_option maxHeartbeats 4000000 in
theorem AsE (u : Nat) (v : Value) (tb : Nat) (b : Bool) (S : Nat → Prop) (T : World → Prop) (w : World) (hg : ErrorType w)
    (hc : ∀ W, Kept (fun _ => False) w W → ∀ ab, ab < W.heap.size → W.cell? ⟨ab, 0, none⟩ = some (.pointer (some ⟨tb, 0, none⟩)) → Calls Tryd.prog 49 #[.iface u v, .iface 59 (.pointer (some ⟨tb, 0, none⟩)), .agg #[.pointer (some ⟨5, 59, none⟩), .pointer (some ⟨ab, 0, none⟩), .int .u64 150], .iface 98 (.agg #[.pointer (some ⟨5, 29, none⟩)])] W (Res S W b T)) :
    Calls Tryd.prog 36 #[.iface u v, .iface 59 (.pointer (some ⟨tb, 0, none⟩))] w (Res S w b T) := by
  have h6 := @run_callFunc_extern Tryd.prog 46 _ (fun args => ReflectliteValue.unpack (args.getD 0 (.tuple #[]))) Tryd.func46 (by kernel_rfl) (by kernel_rfl) (by kernel_rfl) (by kernel_rfl)
  have h7 := @run_callFunc_extern Tryd.prog 47 _ (ReflectliteValue.methodAny (ReflectliteValue.valueError "reflectlite.Value.Type" 0) (fun t _ _ _ => ReflectliteType.toType t)) Tryd.func47 (by kernel_rfl) (by kernel_rfl) (by kernel_rfl) (by kernel_rfl)
  have h8 := @run_callFunc_extern Tryd.prog 48 _ (ReflectliteValue.method (ReflectliteValue.valueError "reflectlite.Value.IsNil" 0) ReflectliteValue.isNil) Tryd.func48 (by kernel_rfl) (by kernel_rfl) (by kernel_rfl) (by kernel_rfl)
  have h27 := @run_callFunc_extern Tryd.prog 79 _ (ReflectliteType.abiMethod fun t => do pure (.int .u8 (← Rtype.kind t))) Tryd.func79 (by kernel_rfl) (by kernel_rfl) (by kernel_rfl) (by kernel_rfl)
  have h37 := @run_callFunc_extern Tryd.prog 88 _ (ReflectliteType.method ReflectliteType.elem) Tryd.func88 (by kernel_rfl) (by kernel_rfl) (by kernel_rfl) (by kernel_rfl)
  have h38 := @run_callFunc_extern Tryd.prog 89 _ (ReflectliteType.relation "Implements" ReflectliteType.implements_) Tryd.func89 (by kernel_rfl) (by kernel_rfl) (by kernel_rfl) (by kernel_rfl)
  have ne : ∀ w, (binOp .eql 27 (.iface u v) .nilIface).run Tryd.prog w = .ok (.bool false) w := fun w => run_eql_iface_nil w 27 (by kernel_rfl) u v
  have f6 := Tryd.valueOfE
  have f7 := Tryd.typeE
  have mK := Tryd.methodKind
  have mE := Tryd.methodElem
  have mI := Tryd.methodImplements
  have kP := Tryd.kindPE
  have kT := Tryd.kindTE
  have eX := Tryd.elemE
  have iX := Tryd.implementsE
  have n8 := Tryd.isNilE ⟨w.heap.size, 0, none⟩ ⟨tb, 0, none⟩ ((w.alloc (.cells #[.pointer (some ⟨tb, 0, none⟩)] 59)).alloc (.cells #[.pointer (some ⟨5, 59, none⟩), .pointer (some ⟨w.heap.size, 0, none⟩), .int .u64 150] 79)) (by simp)
  have hg2 : ErrorType ((w.alloc (.cells #[.pointer (some ⟨tb, 0, none⟩)] 59)).alloc (.cells #[.pointer (some ⟨5, 59, none⟩), .pointer (some ⟨w.heap.size, 0, none⟩), .int .u64 150] 79)) := hg.kept (S := fun _ => False) (((Kept.refl _ _).alloc _).alloc _) (fun h => h)
  unfold ErrorType at hg2
  have HG := Lib.hid hg
  have HC := Lib.hid (hc ((w.alloc (.cells #[.pointer (some ⟨tb, 0, none⟩)] 59)).alloc (.cells #[.pointer (some ⟨5, 59, none⟩), .pointer (some ⟨w.heap.size, 0, none⟩), .int .u64 150] 79)) (((Kept.refl _ w).alloc _).alloc _) w.heap.size (by simp; omega) (by simp))
  clear hc hg
  go_enter Tryd.func36, Tryd.ntmps36
  go_wp2_with fail
  refine HC.out.mono ?_
  rintro e w' ⟨rfl, hK, hT⟩
  have HT := Lib.hid hT
  have HK := Lib.hid hK
  clear hT hK
  go_wp2_with fail
  go_ret
  exact ⟨rfl, (((Kept.refl S w).alloc _).alloc _).trans HK.out, HT.out⟩

set_option maxHeartbeats 4000000 in
theorem AsA (u : Nat) (v : Value) (tb : Nat) (b : Bool) (S : Nat → Prop) (T : World → Prop) (w : World) (hg : ErrorType w)
    (hc : ∀ W, Kept (fun _ => False) w W → ∀ ab, ab < W.heap.size → W.cell? ⟨ab, 0, none⟩ = some (.pointer (some ⟨tb, 0, none⟩)) → Calls Tryd.prog 49 #[.iface u v, .iface 60 (.pointer (some ⟨tb, 0, none⟩)), .agg #[.pointer (some ⟨5, 60, none⟩), .pointer (some ⟨ab, 0, none⟩), .int .u64 150], .iface 98 (.agg #[.pointer (some ⟨5, 44, none⟩)])] W (Res S W b T)) :
    Calls Tryd.prog 36 #[.iface u v, .iface 60 (.pointer (some ⟨tb, 0, none⟩))] w (Res S w b T) := by
  have h6 := @run_callFunc_extern Tryd.prog 46 _ (fun args => ReflectliteValue.unpack (args.getD 0 (.tuple #[]))) Tryd.func46 (by kernel_rfl) (by kernel_rfl) (by kernel_rfl) (by kernel_rfl)
  have h7 := @run_callFunc_extern Tryd.prog 47 _ (ReflectliteValue.methodAny (ReflectliteValue.valueError "reflectlite.Value.Type" 0) (fun t _ _ _ => ReflectliteType.toType t)) Tryd.func47 (by kernel_rfl) (by kernel_rfl) (by kernel_rfl) (by kernel_rfl)
  have h8 := @run_callFunc_extern Tryd.prog 48 _ (ReflectliteValue.method (ReflectliteValue.valueError "reflectlite.Value.IsNil" 0) ReflectliteValue.isNil) Tryd.func48 (by kernel_rfl) (by kernel_rfl) (by kernel_rfl) (by kernel_rfl)
  have h27 := @run_callFunc_extern Tryd.prog 79 _ (ReflectliteType.abiMethod fun t => do pure (.int .u8 (← Rtype.kind t))) Tryd.func79 (by kernel_rfl) (by kernel_rfl) (by kernel_rfl) (by kernel_rfl)
  have h37 := @run_callFunc_extern Tryd.prog 88 _ (ReflectliteType.method ReflectliteType.elem) Tryd.func88 (by kernel_rfl) (by kernel_rfl) (by kernel_rfl) (by kernel_rfl)
  have h38 := @run_callFunc_extern Tryd.prog 89 _ (ReflectliteType.relation "Implements" ReflectliteType.implements_) Tryd.func89 (by kernel_rfl) (by kernel_rfl) (by kernel_rfl) (by kernel_rfl)
  have ne : ∀ w, (binOp .eql 27 (.iface u v) .nilIface).run Tryd.prog w = .ok (.bool false) w := fun w => run_eql_iface_nil w 27 (by kernel_rfl) u v
  have f6 := Tryd.valueOfA
  have f7 := Tryd.typeA
  have mK := Tryd.methodKind
  have mE := Tryd.methodElem
  have mI := Tryd.methodImplements
  have kP := Tryd.kindPA
  have kT := Tryd.kindTA
  have eX := Tryd.elemA
  have iX := Tryd.implementsA
  have n8 := Tryd.isNilA ⟨w.heap.size, 0, none⟩ ⟨tb, 0, none⟩ ((w.alloc (.cells #[.pointer (some ⟨tb, 0, none⟩)] 60)).alloc (.cells #[.pointer (some ⟨5, 60, none⟩), .pointer (some ⟨w.heap.size, 0, none⟩), .int .u64 150] 79)) (by simp)
  have hg2 : ErrorType ((w.alloc (.cells #[.pointer (some ⟨tb, 0, none⟩)] 60)).alloc (.cells #[.pointer (some ⟨5, 60, none⟩), .pointer (some ⟨w.heap.size, 0, none⟩), .int .u64 150] 79)) := hg.kept (S := fun _ => False) (((Kept.refl _ _).alloc _).alloc _) (fun h => h)
  unfold ErrorType at hg2
  have HG := Lib.hid hg
  have HC := Lib.hid (hc ((w.alloc (.cells #[.pointer (some ⟨tb, 0, none⟩)] 60)).alloc (.cells #[.pointer (some ⟨5, 60, none⟩), .pointer (some ⟨w.heap.size, 0, none⟩), .int .u64 150] 79)) (((Kept.refl _ w).alloc _).alloc _) w.heap.size (by simp; omega) (by simp))
  clear hc hg
  go_enter Tryd.func36, Tryd.ntmps36
  go_wp2_with fail
  refine HC.out.mono ?_
  rintro e w' ⟨rfl, hK, hT⟩
  have HT := Lib.hid hT
  have HK := Lib.hid hK
  clear hT hK
  go_wp2_with fail
  go_ret
  exact ⟨rfl, (((Kept.refl S w).alloc _).alloc _).trans HK.out, HT.out⟩

/-- What the function within finds leaves. -/
def Found (S : Nat → Prop) (q : Nat) (b : Bool) (T : World → Prop) (w : World) : World → Prop := fun w' => ∃ w1, Kept S w w1 ∧ T w1 ∧ w' = w1.setCell ⟨q, 0, none⟩ (.bool b)

theorem finds1 (e tg : Value) (p0 p1 q : Nat) (b : Bool) (S : Nat → Prop) (T : World → Prop) (w : World) (h0 : w.cell? ⟨p0, 0, none⟩ = some e) (h1 : w.cell? ⟨p1, 0, none⟩ = some tg) (hq : Slot w q 0 (.bool false)) (hS : ¬ S q)
    (hc : Calls Tryd.prog 36 #[e, tg] w (Res S w b T)) :
    Calls Tryd.prog 37 #[.pointer (some ⟨p0, 0, none⟩), .pointer (some ⟨p1, 0, none⟩), .pointer (some ⟨q, 0, none⟩)] w (Ans 0 .nilIface (Found S q b T w)) := by
  have HC := Lib.hid hc
  have HQ := Lib.hid hq
  clear hc hq
  go_enter Tryd.func37, Tryd.ntmps37
  go_wp2_with fail
  refine HC.out.mono ?_
  rintro e w1 ⟨rfl, hK, hT⟩
  have Q := HQ.out.kept hK hS
  have HT := Lib.hid hT
  have HK := Lib.hid hK
  have q0 := Q.c
  have q1 := Q.fr
  have q2 := Q.lt
  clear hT hK Q
  go_wp2_with fail
  go_ret2
  exact ⟨rfl, w1, HK.out, HT.out, rfl⟩

end Go.Proofs.YthkndllageopoaaDoor

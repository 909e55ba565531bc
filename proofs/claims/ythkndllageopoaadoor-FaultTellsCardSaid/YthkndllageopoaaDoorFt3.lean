/-
  errors.as at the target *api.Errno, along a chain of *At; Class.
-/
import Derived.Test.YthkndllageopoaaDoorFt2
import Derived.Test.YthkndllageopoaaDoorFlt6
import Derived.Deep.LoopGhost
namespace Go.Proofs.YthkndllageopoaaDoor
open Go.RowKit Go.Extern.Stop Go.Stop Go.Extern

/-- The number that errors.as finds: of a kind, if there is one. -/
def foundOf (k x : Int) : Option Int := if k = 1 then some 23 else if k = 2 then some 20 else if k = 3 then some 21 else if k = 4 then some 22 else if k = 7 then some x else none

/-- What is left of the way: an error of the chain, or the number that it unwraps to. -/
def AsRel (w wr : World) (k x : Int) (g : Nat) (v : Value) : Prop :=
  wr = w ∧ ((∃ l, Chain w k x v l ∧ g = l.length + 1) ∨ g = 0 ∧ ∃ c, foundOf k x = some c ∧ v = .iface 29 (.int .i64 c))

set_option maxRecDepth 100000 in
set_option maxHeartbeats 16000000 in
theorem asE_chain (k x : Int) (l : List Int) (hk : ¬ k = 0) (v : Value) (tb ab : Nat) (old : Value) (w : World) (H : Chain w k x v l) (Ts : Slot w tb 0 old) (ha : w.cell? ⟨ab, 0, none⟩ = some (.pointer (some ⟨tb, 0, none⟩))) (hab : ab < w.heap.size) :
    Calls Tryd.prog 49 #[v, .iface 59 (.pointer (some ⟨tb, 0, none⟩)), .agg #[.pointer (some ⟨5, 59, none⟩), .pointer (some ⟨ab, 0, none⟩), .int .u64 150], .iface 98 (.agg #[.pointer (some ⟨5, 29, none⟩)])] w
      (Res (fun i => (foundOf k x).isSome = true ∧ i = tb) w (foundOf k x).isSome fun W => ∀ c, foundOf k x = some c → Slot W tb 0 (.int .i64 c)) := by
  have h48 := @run_callFunc_extern Tryd.prog 55 _ ReflectliteType.typeOf Tryd.func55 (by kernel_rfl) (by kernel_rfl) (by kernel_rfl) (by kernel_rfl)
  have h95 := @run_callFunc_extern Tryd.prog 86 _ (ReflectliteType.relation "AssignableTo" ReflectliteType.assignableTo) Tryd.func86 (by kernel_rfl) (by kernel_rfl) (by kernel_rfl) (by kernel_rfl)
  have h60 := @run_callFunc_extern Tryd.prog 56 _ (ReflectliteValue.method (ReflectliteValue.valueError "reflectlite.Value.Elem" 0) ReflectliteValue.elem) Tryd.func56 (by kernel_rfl) (by kernel_rfl) (by kernel_rfl) (by kernel_rfl)
  have h50 := @run_callFunc_extern Tryd.prog 46 _ (fun args => ReflectliteValue.unpack (args.getD 0 (.tuple #[]))) Tryd.func46 (by kernel_rfl) (by kernel_rfl) (by kernel_rfl) (by kernel_rfl)
  have h61 := @run_callFunc_extern Tryd.prog 57 _ ReflectliteValue.set Tryd.func57 (by kernel_rfl) (by kernel_rfl) (by kernel_rfl) (by kernel_rfl)
  have mA := Tryd.methodAssignableTo
  have tc := Ts.c
  have tf := Ts.fr
  have tz := Ts.lt
  have vX := Tryd.valE
  have el := Tryd.elemVE ⟨ab, 0, none⟩ ⟨tb, 0, none⟩ (w.alloc (.cells #[.pointer (some ⟨5, 59, none⟩), .pointer (some ⟨ab, 0, none⟩), .int .u64 150] 79)) (by rw [World.cell?_alloc_lt _ _ ⟨ab, 0, none⟩ hab]; exact ha)
  have st := fun c : Int => Tryd.setE ⟨tb, 0, none⟩ ⟨w.heap.size + 1, 0, none⟩ c old ((w.alloc (.cells #[.pointer (some ⟨5, 59, none⟩), .pointer (some ⟨ab, 0, none⟩), .int .u64 150] 79)).alloc (.cells #[.int .i64 c] 29)) (by rw [World.cell?_alloc_at _ _ _ _ (by simp)]; rfl)
    (by rw [World.cell?_alloc_lt _ _ ⟨tb, 0, none⟩ (by simp; omega), World.cell?_alloc_lt _ _ ⟨tb, 0, none⟩ tz]; exact tc)
    (by rw [World.frozen?_alloc_old _ _ ⟨tb, 0, none⟩ (by simp; omega), World.frozen?_alloc_old _ _ ⟨tb, 0, none⟩ (Nat.ne_of_lt tz)]; exact tf)
  have HT := Lib.hid Ts
  have hen : ∀ (W : World) (t : TypeId) (u : Value), (binOp .eql 27 (.iface t u) .nilIface).run Tryd.prog W = .ok (.bool false) W := fun W t u => run_eql_iface_nil W 27 (by kernel_rfl) t u
  clear Ts
  go_enter Tryd.func49, Tryd.ntmps49
  go_wp2
  have KB : Kept (fun _ => False) w (w.alloc (.cells #[.pointer (some ⟨5, 59, none⟩), .pointer (some ⟨ab, 0, none⟩), .int .u64 150] 79)) := (Kept.refl _ _).alloc _
  go_loopg [0] (l.length + 1) (fun g ev wr => AsRel (w.alloc (.cells #[.pointer (some ⟨5, 59, none⟩), .pointer (some ⟨ab, 0, none⟩), .int .u64 150] 79)) wr k x g ev)
  case atStart => exact ⟨rfl, .inl ⟨l, H.kept KB, rfl⟩⟩
  case round =>
    obtain ⟨rfl, hor⟩ := hrel
    clear H KB
    rcases hor with ⟨l', hC, hg⟩ | ⟨hg, c, hc, rfl⟩
    · cases hC with
      | at_ a n t u l2 h0 h1 h2 =>
        have HC := Lib.hid h2
        have HG := Lib.hid hg
        clear h2 hg
        have tOAt := Tryd.typeOfAt
        have aXAt := Tryd.asgEAt
        have nAAt := Tryd.noAsAt
        have hUAt := Tryd.hasUnwrapAt
        have mUAt := Tryd.unwrapAt
        go_wp2
        go_roundg (gk - 1)
        case measure => have := HG.out; simp at this; omega
        case rel => exact ⟨rfl, .inl ⟨l2, HC.out, by have := HG.out; simp at this; omega⟩⟩
      | base v hB =>
        have HG := Lib.hid hg
        clear hg
        cases hB with
        | nil => exact absurd rfl hk
        | failed a x h =>
          clear h
          have tOFailed := Tryd.typeOfFailed
          have aXFailed := Tryd.asgEFailed
          have nAFailed := Tryd.noAsFailed
          have hUFailed := Tryd.hasUnwrapFailed
          have mUFailed := Tryd.unwrapFailed
          go_wp2
          go_roundg 0
          case measure => have := HG.out; simp at this; omega
          case rel => exact ⟨rfl, .inr ⟨rfl, 23, rfl, rfl⟩⟩
        | cancelled a x h =>
          clear h
          have tOCanc := Tryd.typeOfCanc
          have aXCanc := Tryd.asgECanc
          have nACanc := Tryd.noAsCanc
          have hUCanc := Tryd.hasUnwrapCanc
          have mUCanc := Tryd.unwrapCanc
          go_wp2
          go_roundg 0
          case measure => have := HG.out; simp at this; omega
          case rel => exact ⟨rfl, .inr ⟨rfl, 20, rfl, rfl⟩⟩
        | late a x h =>
          clear h
          have tOLate := Tryd.typeOfLate
          have aXLate := Tryd.asgELate
          have nALate := Tryd.noAsLate
          have hULate := Tryd.hasUnwrapLate
          have mULate := Tryd.unwrapLate
          go_wp2
          go_roundg 0
          case measure => have := HG.out; simp at this; omega
          case rel => exact ⟨rfl, .inr ⟨rfl, 21, rfl, rfl⟩⟩
        | panicked a x h =>
          clear h
          have tOPan := Tryd.typeOfPan
          have aXPan := Tryd.asgEPan
          have nAPan := Tryd.noAsPan
          have hUPan := Tryd.hasUnwrapPan
          have mUPan := Tryd.unwrapPan
          go_wp2
          go_roundg 0
          case measure => have := HG.out; simp at this; omega
          case rel => exact ⟨rfl, .inr ⟨rfl, 22, rfl, rfl⟩⟩
        | plain a o h =>
          clear h
          have tOPlain := Tryd.typeOfPlain
          have aXPlain := Tryd.asgEPlain
          have nAPlain := Tryd.noAsPlain
          have nUPlain := Tryd.noUnwrapPlain
          have nVPlain := Tryd.noUnwrapsPlain
          go_wp2
          go_ret
          exact ⟨rfl, (Kept.refl _ w).alloc _, fun c hc => by cases hc⟩
        | bare a x h h1 =>
          clear h
          have tOAt := Tryd.typeOfAt
          have aXAt := Tryd.asgEAt
          have nAAt := Tryd.noAsAt
          have hUAt := Tryd.hasUnwrapAt
          have mUAt := Tryd.unwrapAt
          go_wp2
          go_ret
          exact ⟨rfl, (Kept.refl _ w).alloc _, fun c hc => by cases hc⟩
        | number x =>
          have tON := Tryd.typeOfNum
          have aXN := Tryd.asgENum
          have st1 := st x
          clear st
          go_wp2
          go_ret
          rw [show foundOf 7 x = some x from rfl]
          refine ⟨rfl, ((((Kept.refl (fun i => i = tb) w).setCell ⟨tb, 0, none⟩ (.inl rfl) _).alloc _).alloc _).mono fun _ _ h => ⟨rfl, h⟩, fun c hc => ?_⟩
          obtain rfl := Option.some.inj hc
          exact (HT.out.set _).kept (S := fun _ => False) (((Kept.refl _ _).alloc _).alloc _) (fun h => h)
    · have tON := Tryd.typeOfNum
      have aXN := Tryd.asgENum
      have HC := Lib.hid hc
      clear hc
      have st1 := st c
      clear st
      go_wp2
      go_ret
      rw [HC.out]
      refine ⟨rfl, ((((Kept.refl (fun i => i = tb) w).setCell ⟨tb, 0, none⟩ (.inl rfl) _).alloc _).alloc _).mono fun _ _ h => ⟨rfl, h⟩, fun c2 hc => ?_⟩
      obtain rfl := Option.some.inj hc
      exact (HT.out.set _).kept (S := fun _ => False) (((Kept.refl _ _).alloc _).alloc _) (fun h => h)

end Go.Proofs.YthkndllageopoaaDoor

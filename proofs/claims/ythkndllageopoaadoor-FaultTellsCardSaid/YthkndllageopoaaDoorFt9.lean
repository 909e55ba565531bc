/-
  FaultTells: e.Error() within a Catch; (*At).Error along a chain.
-/
import Derived.Test.YthkndllageopoaaDoorFt8
import Derived.Lib.AppendStr
import Derived.Lib.Slices
import Derived.Laws.IdiomStrings
namespace Go.Proofs.YthkndllageopoaaDoor
open Go.RowKit Go.Shelf Go.Extern Go.Extern.Stop Go.Stop

theorem Tryd.methodFailedError (v : Value) (w : World) : (Go.method 252 40 v "Error").run Tryd.prog w = .ok (15, v) w := by kernel_rfl
theorem Tryd.methodCancelledError (v : Value) (w : World) : (Go.method 252 41 v "Error").run Tryd.prog w = .ok (16, v) w := by kernel_rfl
theorem Tryd.methodLateError (v : Value) (w : World) : (Go.method 252 42 v "Error").run Tryd.prog w = .ok (17, v) w := by kernel_rfl
theorem Tryd.methodPanickedError (v : Value) (w : World) : (Go.method 252 43 v "Error").run Tryd.prog w = .ok (18, v) w := by kernel_rfl
theorem Tryd.methodPlainError (v : Value) (w : World) : (Go.method 252 120 v "Error").run Tryd.prog w = .ok (96, v) w := by kernel_rfl
theorem Tryd.methodNumberError (v : Value) (w : World) : (Go.method 252 29 v "Error").run Tryd.prog w = .ok (39, v) w := by kernel_rfl
theorem Tryd.methodAtError (v : Value) (w : World) : (Go.method 252 44 v "Error").run Tryd.prog w = .ok (19, v) w := by kernel_rfl

/-- An error that is none of ours around another: no *At. -/
def Flat (k : Int) : Prop := ¬ k = 0 ∧ ¬ k = 6

/-- What the closure within text leaves. -/
def Told1 (q : Nat) (l : List UInt8) (w : World) : World → Prop := fun w' => ∃ w1, Kept (fun _ => False) w w1 ∧ w' = w1.setCell ⟨q, 0, none⟩ (.string ⟨l.toArray⟩)

theorem text_nil (w : World) : Calls Tryd.prog 33 #[.nilIface] w (GotText w []) := by
  go_enter Tryd.func33, Tryd.ntmps33
  go_wp2_with fail
  exact bodyPost_ret (v := .string ⟨#[]⟩) (by simp [results, Tryd.results33, go_sem]) rfl ⟨rfl, ((Kept.refl _ w).alloc _).alloc _⟩

set_option maxRecDepth 100000 in
set_option maxHeartbeats 1600000 in
theorem text1_any (k x : Int) (hx : I64 x) (v : Value) (p q : Nat) (w : World) (T : Tab w) (H : Base w v k x) (hk : Flat k) (hp : w.cell? ⟨p, 0, none⟩ = some v) (hq : Slot w q 0 (.string ⟨#[]⟩)) :
    Calls Tryd.prog 42 #[.pointer (some ⟨p, 0, none⟩), .pointer (some ⟨q, 0, none⟩)] w (Ans 0 .nilIface (Told1 q (baseText k x) w)) := by
  have HQ := Lib.hid hq
  clear hq
  have HT := Lib.hid T
  have HX := Lib.hid hx
  go_enter Tryd.func42, Tryd.ntmps42
  cases H with
  | nil => exact absurd rfl hk.1
  | bare => exact absurd rfl hk.2
  | failed a x h =>
    have HC := Lib.hid (fError_any a x HX.out w HT.out h)
    have mE := Tryd.methodFailedError
    go_wp2_with fail
    refine HC.out.mono ?_
    rintro e w1 ⟨rfl, hK⟩
    have Q := HQ.out.kept hK id
    have HK := Lib.hid hK
    have q0 := Q.c
    have q1 := Q.fr
    have q2 := Q.lt
    clear hK Q
    go_wp2_with fail
    go_ret2
    exact ⟨rfl, w1, HK.out, rfl⟩
  | cancelled a x h =>
    have HC := Lib.hid (cError_any a x HX.out w HT.out h)
    have mE := Tryd.methodCancelledError
    go_wp2_with fail
    refine HC.out.mono ?_
    rintro e w1 ⟨rfl, hK⟩
    have Q := HQ.out.kept hK id
    have HK := Lib.hid hK
    have q0 := Q.c
    have q1 := Q.fr
    have q2 := Q.lt
    clear hK Q
    go_wp2_with fail
    go_ret2
    exact ⟨rfl, w1, HK.out, rfl⟩
  | late a x h =>
    have HC := Lib.hid (lError_any a x HX.out w HT.out h)
    have mE := Tryd.methodLateError
    go_wp2_with fail
    refine HC.out.mono ?_
    rintro e w1 ⟨rfl, hK⟩
    have Q := HQ.out.kept hK id
    have HK := Lib.hid hK
    have q0 := Q.c
    have q1 := Q.fr
    have q2 := Q.lt
    clear hK Q
    go_wp2_with fail
    go_ret2
    exact ⟨rfl, w1, HK.out, rfl⟩
  | panicked a x h =>
    have HC := Lib.hid (pError_any a w)
    have mE := Tryd.methodPanickedError
    go_wp2_with fail
    refine HC.out.mono ?_
    rintro e w1 ⟨rfl, hK⟩
    have Q := HQ.out.kept hK id
    have HK := Lib.hid hK
    have q0 := Q.c
    have q1 := Q.fr
    have q2 := Q.lt
    clear hK Q
    go_wp2_with fail
    go_ret2
    exact ⟨rfl, w1, HK.out, rfl⟩
  | plain a o h =>
    have HC := Lib.hid (sError_any a o w h)
    have mE := Tryd.methodPlainError
    go_wp2_with fail
    refine HC.out.mono ?_
    rintro e w1 ⟨rfl, hK⟩
    have Q := HQ.out.kept hK id
    have HK := Lib.hid hK
    have q0 := Q.c
    have q1 := Q.fr
    have q2 := Q.lt
    clear hK Q
    go_wp2_with fail
    go_ret2
    exact ⟨rfl, w1, HK.out, rfl⟩
  | number x =>
    have HC := Lib.hid (nError_any x HX.out w)
    have mE := Tryd.methodNumberError
    go_wp2_with fail
    refine HC.out.mono ?_
    rintro e w1 ⟨rfl, hK⟩
    have Q := HQ.out.kept hK id
    have HK := Lib.hid hK
    have q0 := Q.c
    have q1 := Q.fr
    have q2 := Q.lt
    clear hK Q
    go_wp2_with fail
    go_ret2
    exact ⟨rfl, w1, HK.out, rfl⟩

set_option maxRecDepth 100000 in
set_option maxHeartbeats 1600000 in
theorem text_any (k x : Int) (hx : I64 x) (t : TypeId) (u : Value) (w : World) (T : Tab w) (H : Base w (.iface t u) k x) (hk : Flat k) : Calls Tryd.prog 33 #[.iface t u] w (GotText w (baseText k x)) := by
  have hmf : ∀ (fn : Fn) (first cap : Array Value) (w : World), (Instr.makeFunc fn first cap).run Tryd.prog w = .ok (.func fn first cap) w := fun _ _ _ _ => rfl
  have hent := enters_of Tryd.func42 (by kernel_rfl) rfl
  have ne : ∀ w, (binOp .eql 27 (.iface t u) .nilIface).run Tryd.prog w = .ok (.bool false) w := fun w => run_eql_iface_nil w 27 (by kernel_rfl) t u
  have HX := Lib.hid hx
  have HT := Lib.hid T
  have HH := Lib.hid H
  clear hx T H
  go_enter Tryd.func33, Tryd.ntmps33
  go_wp2_with fail
  have KB : Kept (fun _ => False) w ((((w.alloc (.cells #[.iface t u] 27)).alloc (.cells #[.string ⟨#[]⟩] 9)).alloc (.cells #[.int .i64 0] 2)).alloc (.cells #[.nilIface] 27)) := ((((Kept.refl _ w).alloc _).alloc _).alloc _).alloc _
  have c0 : ((((w.alloc (.cells #[.iface t u] 27)).alloc (.cells #[.string ⟨#[]⟩] 9)).alloc (.cells #[.int .i64 0] 2)).alloc (.cells #[.nilIface] 27)).cell? ⟨w.heap.size, 0, none⟩ = some (.iface t u) := by go_simp
  have Q0 : Slot ((((w.alloc (.cells #[.iface t u] 27)).alloc (.cells #[.string ⟨#[]⟩] 9)).alloc (.cells #[.int .i64 0] 2)).alloc (.cells #[.nilIface] 27)) (w.heap.size + 1) 0 (.string ⟨#[]⟩) := ⟨by go_simp, by go_simp, by simp⟩
  have F0 : Fresh (w.heap.size + 2) ((((w.alloc (.cells #[.iface t u] 27)).alloc (.cells #[.string ⟨#[]⟩] 9)).alloc (.cells #[.int .i64 0] 2)).alloc (.cells #[.nilIface] 27)) := ⟨⟨by go_simp, by go_simp, by simp⟩, ⟨by go_simp, by go_simp, by simp⟩⟩
  refine (catch_calm 42 _ hent 0 _ _ (text1_any k x HX.out (.iface t u) w.heap.size (w.heap.size + 1) _ (HT.out.kept KB) (HH.out.kept KB) hk c0 Q0) ?_).mono ?_
  · rintro w1 ⟨w0, hK, rfl⟩
    rw [show ((w.alloc (.cells #[.iface t u] 27)).alloc (.cells #[.string ⟨#[]⟩] 9)).heap.size = w.heap.size + 2 by simp]
    exact ⟨(F0.1.kept hK id).far ⟨w.heap.size + 1, 0, none⟩ _ (by simp), (F0.2.kept hK id).far ⟨w.heap.size + 1, 0, none⟩ _ (by simp)⟩
  rintro e' w' ⟨rfl, w1, ⟨w0, hK, rfl⟩, hK2⟩
  have Q := ((Q0.kept hK id).set (.string ⟨(baseText k x).toArray⟩)).kept hK2 (by simp)
  have KF : Kept (fun _ => False) w (w'.setCell ⟨w.heap.size + 1, 0, none⟩ (.string ⟨(baseText k x).toArray⟩)) :=
    ((((KB.trans hK).setCell ⟨w.heap.size + 1, 0, none⟩ (.inr (by simp)) _).far hK2 (by simp; omega)).setCell ⟨w.heap.size + 1, 0, none⟩ (.inr (by simp)) _)
  have HKF := Lib.hid KF
  have q0 := Q.c
  have q1 := Q.fr
  have q2 := Q.lt
  have z0 := (Q.set (.string ⟨(baseText k x).toArray⟩)).c
  clear KF Q hK2 hK F0 Q0 c0 KB
  go_wp2_with fail
  exact bodyPost_ret (v := .string ⟨(baseText k x).toArray⟩) (by simp [results, Tryd.results33, go_sem, z0]) rfl ⟨rfl, HKF.out⟩

theorem Tryd.isAt (v : Value) (xT : TypeId) (w : World) : (Instr.typeAssert (.iface 44 v) xT 44 true).run Tryd.prog w = .ok (.tuple #[v, .bool true]) w := by kernel_rfl
theorem Tryd.notAtNil (xT : TypeId) (w : World) : (Instr.typeAssert .nilIface xT 44 true).run Tryd.prog w = .ok (.tuple #[.pointer none, .bool false]) w := by kernel_rfl
theorem Tryd.notAtFailed (v : Value) (xT : TypeId) (w : World) : (Instr.typeAssert (.iface 40 v) xT 44 true).run Tryd.prog w = .ok (.tuple #[.pointer none, .bool false]) w := by kernel_rfl
theorem Tryd.notAtCancelled (v : Value) (xT : TypeId) (w : World) : (Instr.typeAssert (.iface 41 v) xT 44 true).run Tryd.prog w = .ok (.tuple #[.pointer none, .bool false]) w := by kernel_rfl
theorem Tryd.notAtLate (v : Value) (xT : TypeId) (w : World) : (Instr.typeAssert (.iface 42 v) xT 44 true).run Tryd.prog w = .ok (.tuple #[.pointer none, .bool false]) w := by kernel_rfl
theorem Tryd.notAtPanicked (v : Value) (xT : TypeId) (w : World) : (Instr.typeAssert (.iface 43 v) xT 44 true).run Tryd.prog w = .ok (.tuple #[.pointer none, .bool false]) w := by kernel_rfl
theorem Tryd.notAtPlain (v : Value) (xT : TypeId) (w : World) : (Instr.typeAssert (.iface 120 v) xT 44 true).run Tryd.prog w = .ok (.tuple #[.pointer none, .bool false]) w := by kernel_rfl
theorem Tryd.notAtNumber (v : Value) (xT : TypeId) (w : World) : (Instr.typeAssert (.iface 29 v) xT 44 true).run Tryd.prog w = .ok (.tuple #[.pointer none, .bool false]) w := by kernel_rfl

set_option maxRecDepth 100000 in
theorem itself_at (a : Nat) (w : World) : Calls Tryd.prog 32 #[.iface 44 (.pointer (some ⟨a, 0, none⟩))] w fun e w' => e = .returned (.tuple #[.pointer (some ⟨a, 0, none⟩), .bool true]) ∧ Kept (fun _ => False) w w' := by
  have h := Tryd.isAt
  go_enter Tryd.func32, Tryd.ntmps32
  go_wp2_with fail
  go_ret2
  exact ⟨rfl, Kept.refl _ w⟩

/-- An error that is no *At. -/
theorem notAt_flat (k x : Int) (t : TypeId) (u : Value) (w : World) (H : Base w (.iface t u) k x) (hk : Flat k) (xT : TypeId) (w2 : World) : (Instr.typeAssert (.iface t u) xT 44 true).run Tryd.prog w2 = .ok (.tuple #[.pointer none, .bool false]) w2 := by
  cases H with
  | failed a x h => exact Tryd.notAtFailed _ _ _
  | cancelled a x h => exact Tryd.notAtCancelled _ _ _
  | late a x h => exact Tryd.notAtLate _ _ _
  | panicked a x h => exact Tryd.notAtPanicked _ _ _
  | plain a o h => exact Tryd.notAtPlain _ _ _
  | number x => exact Tryd.notAtNumber _ _ _
  | bare => exact absurd rfl hk.2

set_option maxRecDepth 100000 in
theorem itself_not (v : Value) (w : World) (h : ∀ (xT : TypeId) (w : World), (Instr.typeAssert v xT 44 true).run Tryd.prog w = .ok (.tuple #[.pointer none, .bool false]) w) : Calls Tryd.prog 32 #[v] w fun e w' => e = .returned (.tuple #[.pointer none, .bool false]) ∧ Kept (fun _ => False) w w' := by
  go_enter Tryd.func32, Tryd.ntmps32
  go_wp2_with fail
  go_ret2
  exact ⟨rfl, Kept.refl _ w⟩

end Go.Proofs.YthkndllageopoaaDoor

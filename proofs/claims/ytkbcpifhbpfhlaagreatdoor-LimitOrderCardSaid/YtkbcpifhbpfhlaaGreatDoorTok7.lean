/-
  Package token, a nil thread: the parts are taken out of a row.
-/
import Derived.Test.YtkbcpifhbpfhlaaGreatDoorTok6
import Derived.Shelf.Abstract
import Derived.Laws.EntriesVeiled
namespace Go.Proofs.YtkbcpifhbpfhlaaGreatDoor.Tk
open Go.RowKit

theorem run_make0 (w : World) : (Instr.makeSlice 126 (.int .i64 0) (.int .i64 0)).run Tryz.prog w = .ok (.slice (some ⟨w.heap.size, 0, none⟩) 0 0) (w.alloc (.cells #[] 122)) := by kernel_rfl
theorem run_make1 (w : World) : (Instr.makeSlice 126 (.int .i64 1) (.int .i64 1)).run Tryz.prog w = .ok (.slice (some ⟨w.heap.size, 0, none⟩) 1 1) (w.alloc (.cells #[.pointer none, .nilFunc] 122)) := by kernel_rfl
theorem run_make2 (w : World) : (Instr.makeSlice 126 (.int .i64 2) (.int .i64 2)).run Tryz.prog w = .ok (.slice (some ⟨w.heap.size, 0, none⟩) 2 2) (w.alloc (.cells #[.pointer none, .nilFunc, .pointer none, .nilFunc] 122)) := by kernel_rfl

def TakenNone (w : World) : Ending → World → Prop := fun e w' =>
  e = .returned (.slice (some ⟨w.heap.size, 0, none⟩) 0 0) ∧ Kept (fun _ => False) w w'

theorem taken_none (w : World) : Calls Tryz.prog 55 #[.slice none 0 0] w (TakenNone w) := by
  have hmk := run_make0
  go_enter Tryz.func55, Tryz.ntmps55
  go_wp2_with fail
  refine wp_loop_rounds 1 ?_
  rw [rounds_succ]
  go_wp2_with fail
  go_ret
  exact ⟨rfl, (Kept.refl _ _).alloc _⟩

def TakenOne (w : World) (u : Nat) (c0 c1 : Value) : Ending → World → Prop := fun e w' =>
  e = .returned (.slice (some ⟨w.heap.size, 0, none⟩) 1 1) ∧ w.heap.size < w'.heap.size ∧ w'.cell? ⟨w.heap.size, 0, none⟩ = some c0 ∧ w'.cell? ⟨w.heap.size, 1, none⟩ = some c1 ∧ Kept (fun c => c = u) w w'

set_option maxRecDepth 100000 in
set_option maxHeartbeats 800000 in
theorem taken_one (w : World) (g cap u : Nat) (c0 c1 : Value) (h0 : c0.oneCell' = true) (h1 : c1.oneCell' = true) (hg : g < w.heap.size) (g0 : w.cell? ⟨g, 0, none⟩ = some (.pointer (some ⟨u, 0, none⟩))) (U : Two w u c0 c1) :
    Calls Tryz.prog 55 #[.slice (some ⟨g, 0, none⟩) 1 cap] w (TakenOne w u c0 c1) := by
  have hmk := run_make1
  have s0 : ∀ a m w, (store a c0 m).run Tryz.prog w = stored Tryz.prog w a c0 m := fun a m w => run_store Tryz.prog w a c0 m h0
  have s1 : ∀ a m w, (store a c1 m).run Tryz.prog w = stored Tryz.prog w a c1 m := fun a m w => run_store Tryz.prog w a c1 m h1
  have u0 := U.c0
  have u1 := U.c1
  have uf0 := U.f0
  have uf1 := U.f1
  have uz := U.lt
  have hne : u ≠ w.heap.size := by omega
  have hne' : w.heap.size ≠ u := by omega
  clear U
  go_enter Tryz.func55, Tryz.ntmps55
  go_wp2_with fail
  refine wp_loop_rounds 2 ?_
  rw [rounds_succ]
  go_wp2_with fail
  rw [rounds_succ]
  go_wp2_with fail
  go_ret
  refine ⟨rfl, ?_, ?_, ?_, ?_⟩
  · simp
  · go_simp
  · go_simp
  · exact (((Kept.refl (fun c => c = u) _).setCell (p := ⟨u, 0, none⟩) (.inl rfl) _).setCell (p := ⟨u, 1, none⟩) (.inl rfl) _).alloc _

def TakenTwo (w : World) (u v : Nat) (c0 c1 d0 d1 : Value) : Ending → World → Prop := fun e w' =>
  e = .returned (.slice (some ⟨w.heap.size, 0, none⟩) 2 2) ∧ w.heap.size < w'.heap.size ∧ w'.cell? ⟨w.heap.size, 0, none⟩ = some c0 ∧ w'.cell? ⟨w.heap.size, 1, none⟩ = some c1 ∧
    w'.cell? ⟨w.heap.size, 2, none⟩ = some d0 ∧ w'.cell? ⟨w.heap.size, 3, none⟩ = some d1 ∧ Kept (fun c => c = u ∨ c = v) w w'

set_option maxRecDepth 100000 in
set_option maxHeartbeats 800000 in
theorem taken_two (w : World) (g cap u v : Nat) (c0 c1 d0 d1 : Value) (h0 : c0.oneCell' = true) (h1 : c1.oneCell' = true) (h2 : d0.oneCell' = true) (h3 : d1.oneCell' = true) (hg : g < w.heap.size) (gu : g ≠ u) (uv : u ≠ v)
    (g0 : w.cell? ⟨g, 0, none⟩ = some (.pointer (some ⟨u, 0, none⟩))) (g1 : w.cell? ⟨g, 1, none⟩ = some (.pointer (some ⟨v, 0, none⟩))) (U : Two w u c0 c1) (V : Two w v d0 d1) :
    Calls Tryz.prog 55 #[.slice (some ⟨g, 0, none⟩) 2 cap] w (TakenTwo w u v c0 c1 d0 d1) := by
  have hmk := run_make2
  have s0 : ∀ a m w, (store a c0 m).run Tryz.prog w = stored Tryz.prog w a c0 m := fun a m w => run_store Tryz.prog w a c0 m h0
  have s1 : ∀ a m w, (store a c1 m).run Tryz.prog w = stored Tryz.prog w a c1 m := fun a m w => run_store Tryz.prog w a c1 m h1
  have s2 : ∀ a m w, (store a d0 m).run Tryz.prog w = stored Tryz.prog w a d0 m := fun a m w => run_store Tryz.prog w a d0 m h2
  have s3 : ∀ a m w, (store a d1 m).run Tryz.prog w = stored Tryz.prog w a d1 m := fun a m w => run_store Tryz.prog w a d1 m h3
  have u0 := U.c0
  have u1 := U.c1
  have uf0 := U.f0
  have uf1 := U.f1
  have uz := U.lt
  have v0 := V.c0
  have v1 := V.c1
  have vf0 := V.f0
  have vf1 := V.f1
  have vz := V.lt
  have hne : u ≠ w.heap.size := by omega
  have hne' : w.heap.size ≠ u := by omega
  have hnv : v ≠ w.heap.size := by omega
  have hnv' : w.heap.size ≠ v := by omega
  have vu : v ≠ u := fun e => uv e.symm
  have ug : u ≠ g := fun e => gu e.symm
  clear U V
  go_enter Tryz.func55, Tryz.ntmps55
  go_wp2_with fail
  refine wp_loop_rounds 3 ?_
  rw [rounds_succ]
  go_wp2_with fail
  rw [rounds_succ]
  go_wp2_with fail
  rw [rounds_succ]
  go_wp2_with fail
  go_ret
  refine ⟨rfl, ?_, ?_, ?_, ?_, ?_, ?_⟩
  · simp
  · go_simp
  · go_simp
  · go_simp
  · go_simp
  · exact (((((Kept.refl (fun c => c = u ∨ c = v) _).setCell (p := ⟨u, 0, none⟩) (.inl (.inl rfl)) _).setCell (p := ⟨u, 1, none⟩) (.inl (.inl rfl)) _).setCell (p := ⟨v, 0, none⟩) (.inl (.inr rfl)) _).setCell (p := ⟨v, 1, none⟩) (.inl (.inr rfl)) _).alloc _

/-- It ends, and R holds. -/
def Told (R : World → Prop) : Ending → World → Prop := fun e w' => e = .returned (.tuple #[]) ∧ R w'

/-- It answers yes or no, and R holds. -/
def Says (R : World → Prop) : Ending → World → Prop := fun e w' => ∃ b : Bool, e = .returned (.bool b) ∧ R w'

theorem part_child (R : World → Prop) (a : Nat) (x : Int) (w : World) (c1 : Value) (hc : Calls Tryz.prog 29 #[.pointer (some ⟨a, 0, none⟩), .pointer none, .int .i64 x] (w.alloc (.cells #[.pointer (some ⟨a, 0, none⟩), c1] 122)) (Says R)) :
    Calls Tryz.prog 56 #[.agg #[.pointer (some ⟨a, 0, none⟩), c1], .pointer none, .int .i64 x] w (Told R) := by
  have HC := Lib.hid hc
  clear hc
  go_enter Tryz.func56, Tryz.ntmps56
  go_wp2_with fail
  refine HC.out.mono ?_
  rintro e w' ⟨b, rfl, H⟩
  have X := Lib.hid H
  clear H
  go_wp2_with fail
  first | go_end0 | refine bodyPost_ret (results_none rfl _ _ _) rfl ?_
  exact ⟨rfl, X.out⟩

theorem part_call (R : World → Prop) (K : Nat) (caps : Array Value) (hent : ∀ args w, (callFunc K args).run Tryz.prog w = .ok (.enter K args) w) (x : Int) (w : World)
    (hc : Calls Tryz.prog K (#[.pointer none, .int .i64 x] ++ caps) (w.alloc (.cells #[.pointer none, .func (.func K) #[] caps] 122)) (Told R)) :
    Calls Tryz.prog 56 #[.agg #[.pointer none, .func (.func K) #[] caps], .pointer none, .int .i64 x] w (Told R) := by
  have HC := Lib.hid hc
  clear hc
  go_enter Tryz.func56, Tryz.ntmps56
  go_wp2_with fail
  refine HC.out.mono ?_
  rintro e w' ⟨rfl, H⟩
  have X := Lib.hid H
  clear H
  go_wp2_with fail
  first | go_end0 | refine bodyPost_ret (results_none rfl _ _ _) rfl ?_
  exact ⟨rfl, X.out⟩

end Go.Proofs.YtkbcpifhbpfhlaaGreatDoor.Tk

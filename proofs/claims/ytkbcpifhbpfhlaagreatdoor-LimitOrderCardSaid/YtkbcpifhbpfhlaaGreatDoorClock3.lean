/-
  Package clock, a nil thread: a slot takes a timer.
-/
import Derived.Test.YtkbcpifhbpfhlaaGreatDoorClock2
import Derived.Laws.EntriesVeiled
namespace Go.Proofs.YtkbcpifhbpfhlaaGreatDoor
open Go.RowKit

theorem kind_free {x : Int} (h : x.tmod 4 = 0) (w : World) : Calls Tryz.prog 77 #[.int .i64 x] w fun e w' => e = .returned (.int .i64 0) ∧ w' = w := by
  have := kind_any x w; rwa [h] at this

theorem lay_later (b : Nat) (a : Addr) (u : FrameMode) (w : World) (h0 : w.cell? ⟨b, 0, none⟩ = some (.bool true)) :
    CallsD Tryz.prog 101 #[.pointer (some ⟨b, 0, none⟩), .pointer (some a)] u w fun e u' w' => u' = u ∧ (e = .returned (.tuple #[]) ∧ w' = w) := by
  go_enter_d Tryz.func101, Tryz.ntmps101
  go_wp2
  first | go_end0 | refine bodyPost_ret (results_none rfl _ _ _) rfl ?_
  exact ⟨rfl, rfl⟩

/-- A slot that is not free takes none. -/
def LayNo (w : World) : Ending → World → Prop := fun e w' => e = .returned (.tuple #[.int .i64 0, .bool false]) ∧ Kept (fun _ => False) w w'

def LayYes (w : World) (n j : Nat) (now busy due : Int) (s d : Nat → Int) (f : Nat → Value) (u : Value) : Ending → World → Prop := fun e w' =>
  e = .returned (.tuple #[.int .i64 (s j + 2), .bool true]) ∧ Clk w' n now busy (put s j (s j + 2)) (put d j due) (put f j u) ∧ Kept (Own n) w w'

set_option maxRecDepth 100000 in
set_option maxHeartbeats 800000 in
theorem lay_no (n j : Nat) (now busy due : Int) (s d : Nat → Int) (f : Nat → Value) (u : Value) (hj : j < 16) (hs : ¬ (s j).tmod 4 = 0) (w : World) (C : Clk w n now busy s d f) :
    Calls Tryz.prog 73 #[.pointer (some ⟨n + 2, 2 + 3 * j, none⟩), .pointer none, .int .i64 due, u] w (LayNo w) := by
  have ps := C.ps j hj
  have st := C.st j hj
  have c0 := st.c0
  have c1 := st.c1
  have lt := st.lt
  have sz := C.size
  clear st C
  have a1 : n + 2 < w.heap.size := by omega
  have a2 : n + 2 < w.heap.size + 1 := by omega
  have a3 : n + 3 + 2 * j < w.heap.size + 1 := by omega
  go_enter_defers Tryz.func73, Tryz.ntmps73
  go_wp2_with fail
  refine (load_free (n + 3 + 2 * j) (s j) _ (by go_simp) (by go_simp)).mono ?_
  rintro e w' ⟨rfl, rfl⟩
  go_wp2_with fail
  refine (kind_any _ _).mono ?_
  rintro e w' ⟨rfl, rfl⟩
  go_wp2_with fail
  refine ⟨.tuple #[.int .i64 0, .bool false], by simp [results, Tryz.results73, go_sem], rfl, ?_⟩
  exact ((Kept.refl _ _).alloc _).alloc _

theorem put_put {α : Type} (s : Nat → α) (i : Nat) (x y : α) : put (put s i x) i y = put s i y := by
  funext j; simp only [put]; split <;> rfl

theorem own_lt {n b : Nat} {w : World} (h : n + 35 ≤ w.heap.size) (hb : Own n b) : b < w.heap.size := by
  have := hb.2; omega

set_option maxRecDepth 100000 in
set_option maxHeartbeats 800000 in
theorem lay_yes (n j : Nat) (now busy due : Int) (s d : Nat → Int) (f : Nat → Value) (g : Fn) (q1 q2 : Array Value) (hj : j < 16) (h0 : 0 ≤ s j) (h1 : s j ≤ 4611686018427387904) (hs : (s j).tmod 4 = 0) (w : World) (C : Clk w n now busy s d f) :
    Calls Tryz.prog 73 #[.pointer (some ⟨n + 2, 2 + 3 * j, none⟩), .pointer none, .int .i64 due, .func g q1 q2] w (LayYes w n j now busy due s d f (.func g q1 q2)) := by
  have hmf : ∀ (fn : Fn) (first cap : Array Value) (w : World), (Instr.makeFunc fn first cap).run Tryz.prog w = .ok (.func fn first cap) w := fun _ _ _ _ => rfl
  have ps := C.ps j hj
  have pd := C.pd j hj
  have pf := C.pf j hj
  have ff := C.ff j hj
  have st := C.st j hj
  have du := C.du j hj
  have c0 := st.c0
  have c1 := st.c1
  have c2 := st.c2
  have fr := st.fr
  have lt := st.lt
  have d0 := du.c0
  have d1 := du.c1
  have d2 := du.c2
  have dr := du.fr
  have dt := du.lt
  have sz := C.size
  have X : Hid (Clk w n now busy s d f) := C
  clear st du C
  have a1 : n + 2 < w.heap.size := by omega
  have a2 : n + 2 < w.heap.size + 1 := by omega
  have a3 : n + 3 + 2 * j < w.heap.size + 1 := by omega
  have a4 : n + 4 + 2 * j < w.heap.size + 1 := by omega
  have b1 : n + 2 ≠ n + 3 + 2 * j := by omega
  have b2 : n + 2 ≠ n + 4 + 2 * j := by omega
  have b3 : n + 3 + 2 * j ≠ n + 4 + 2 * j := by omega
  have b4 : n + 3 + 2 * j ≠ n + 2 := by omega
  have b5 : n + 4 + 2 * j ≠ n + 2 := by omega
  have b6 : n + 4 + 2 * j ≠ n + 3 + 2 * j := by omega
  go_enter_defers Tryz.func73, Tryz.ntmps73
  go_wp2_with fail
  refine (load_free (n + 3 + 2 * j) (s j) _ (by go_simp) (by go_simp)).mono ?_
  rintro e w' ⟨rfl, rfl⟩
  go_wp2_with fail
  refine (kind_free hs _).mono ?_
  rintro e w' ⟨rfl, rfl⟩
  go_wp2_with fail
  refine (cas_hit (n + 3 + 2 * j) (s j) (s j + 1) _ (by go_simp) (by go_simp) (by go_simp) (by go_simp)).mono ?_
  rintro e w' ⟨rfl, rfl⟩
  go_wp2_with fail
  refine (store_free (n + 4 + 2 * j) (d j) due _ (by go_simp) (by go_simp) (by go_simp) (by go_simp)).mono ?_
  rintro e w' ⟨rfl, rfl⟩
  go_wp2_with fail
  refine (store_free (n + 3 + 2 * j) (s j + 1) (s j + 2) _ (by go_simp) (by go_simp) (by go_simp) (by go_simp)).mono ?_
  rintro e w' ⟨rfl, rfl⟩
  go_wp2_with fail
  refine leaves_cons (f := 101) (args := #[.pointer (some ⟨w.heap.size + 1, 0, none⟩), .pointer (some ⟨w.heap.size, 0, none⟩)]) (by simp) (by simp [go_sem]) ?_
  refine (lay_later _ _ _ _ (by go_simp)).mono ?_
  rintro e u' w'' ⟨rfl, rfl, rfl⟩
  refine ⟨.tuple #[.int .i64 (s j + 2), .bool true], by simp [results, Tryz.results73, go_sem], rfl, ?_, ?_⟩
  · have Y := (((((X.out.setState j hj (s j + 1)).setFunc j hj (.func g q1 q2)).setDue j hj due).setState j hj (s j + 2)).alloc (.cells #[.pointer (some ⟨n + 2, 2 + 3 * j, none⟩)] 134)).alloc (.cells #[.bool true] 4)
    rw [put_put] at Y
    exact Y
  · refine Kept.alloc (Kept.alloc ?_ _) _
    refine own_set (own_set (own_set (own_set (Kept.refl _ _) _ ?_ ?_ _ _) _ ?_ ?_ _ _) _ ?_ ?_ _ _) _ ?_ ?_ _ _
    all_goals omega

end Go.Proofs.YtkbcpifhbpfhlaaGreatDoor

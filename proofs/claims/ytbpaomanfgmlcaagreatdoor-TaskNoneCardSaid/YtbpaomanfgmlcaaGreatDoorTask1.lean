/-
  Package task, a nil thread: what a task is in memory; its small calls.
-/
import Derived.Test.YtbpaomanfgmlcaaGreatDoorCel
import Derived.Test.YtbpaomanfgmlcaaGreatDoorFlt4
import Derived.Laws.EntriesVeiled
namespace Go.Proofs.YtbpaomanfgmlcaaGreatDoor
open Go.RowKit

/-- Block x is a task: its number, its state's cell, its token, its function, its value, its error. -/
structure Tsk (w : World) (x c : Nat) (n : Int) (k f : Value) (v : Int) (e : Value) : Prop where
  t0 : w.cell? ⟨x, 0, none⟩ = some (.int .i64 n)
  t1 : w.cell? ⟨x, 1, none⟩ = some (.pointer (some ⟨c, 0, none⟩))
  t2 : w.cell? ⟨x, 2, none⟩ = some k
  t3 : w.cell? ⟨x, 3, none⟩ = some f
  t4 : w.cell? ⟨x, 4, none⟩ = some (.int .i64 v)
  t5 : w.cell? ⟨x, 5, none⟩ = some e
  f2 : w.frozen? ⟨x, 2, none⟩ = false
  f3 : w.frozen? ⟨x, 3, none⟩ = false
  f4 : w.frozen? ⟨x, 4, none⟩ = false
  f5 : w.frozen? ⟨x, 5, none⟩ = false
  lt : x < w.heap.size
  ne : x ≠ c

theorem Tsk.kept {S : Nat → Prop} {w w' : World} {x c : Nat} {n v : Int} {k f e : Value} (h : Tsk w x c n k f v e) (q : Kept S w w') (hs : ¬ S x) : Tsk w' x c n k f v e :=
  ⟨(q.cell (p := ⟨x, 0, none⟩) h.lt hs).trans h.t0, (q.cell (p := ⟨x, 1, none⟩) h.lt hs).trans h.t1, (q.cell (p := ⟨x, 2, none⟩) h.lt hs).trans h.t2, (q.cell (p := ⟨x, 3, none⟩) h.lt hs).trans h.t3, (q.cell (p := ⟨x, 4, none⟩) h.lt hs).trans h.t4, (q.cell (p := ⟨x, 5, none⟩) h.lt hs).trans h.t5,
    (q.frozen (p := ⟨x, 2, none⟩) h.lt hs).trans h.f2, (q.frozen (p := ⟨x, 3, none⟩) h.lt hs).trans h.f3, (q.frozen (p := ⟨x, 4, none⟩) h.lt hs).trans h.f4, (q.frozen (p := ⟨x, 5, none⟩) h.lt hs).trans h.f5, Nat.lt_of_lt_of_le h.lt q.size, h.ne⟩

theorem Tsk.lay {w : World} {x c : Nat} {n v : Int} {k f e : Value} (h : Tsk w x c n k f v e) (k' f' : Value) : Tsk ((w.setCell ⟨x, 2, none⟩ k').setCell ⟨x, 3, none⟩ f') x c n k' f' v e := by
  obtain ⟨t0, t1, t2, t3, t4, t5, f2, f3, f4, f5, lt, ne⟩ := h
  refine ⟨?_, ?_, ?_, ?_, ?_, ?_, ?_, ?_, ?_, ?_, ?_, ne⟩
  all_goals go_simp

theorem Tsk.come {w : World} {x c : Nat} {n v : Int} {k f e : Value} (h : Tsk w x c n k f v e) (v' : Int) (e' : Value) : Tsk ((w.setCell ⟨x, 4, none⟩ (.int .i64 v')).setCell ⟨x, 5, none⟩ e') x c n k f v' e' := by
  obtain ⟨t0, t1, t2, t3, t4, t5, f2, f3, f4, f5, lt, ne⟩ := h
  refine ⟨?_, ?_, ?_, ?_, ?_, ?_, ?_, ?_, ?_, ?_, ?_, ne⟩
  all_goals go_simp

theorem Tsk.cell {w : World} {x c : Nat} {n v : Int} {k f e : Value} (h : Tsk w x c n k f v e) (u : Value) : Tsk (w.setCell ⟨c, 0, none⟩ u) x c n k f v e :=
  h.kept (Kept.one w ⟨c, 0, none⟩ u) h.ne

theorem tnone_nil (w : World) : Calls Tryz.prog 13 #[.pointer none] w fun e w' => e = .returned (.bool true) ∧ w = w' := by
  go_enter Tryz.func13, Tryz.ntmps13
  go_wp2
  go_ret
  exact ⟨rfl, rfl⟩

theorem tnone_bare (x : Nat) (w : World) (h : w.cell? ⟨x, 1, none⟩ = some (.pointer none)) : Calls Tryz.prog 13 #[.pointer (some ⟨x, 0, none⟩)] w fun e w' => e = .returned (.bool true) ∧ w = w' := by
  go_enter Tryz.func13, Tryz.ntmps13
  go_wp2
  go_ret
  exact ⟨rfl, rfl⟩

theorem tnone_is (x : Nat) (a : Addr) (w : World) (h : w.cell? ⟨x, 1, none⟩ = some (.pointer (some a))) : Calls Tryz.prog 13 #[.pointer (some ⟨x, 0, none⟩)] w fun e w' => e = .returned (.bool false) ∧ w = w' := by
  go_enter Tryz.func13, Tryz.ntmps13
  go_wp2
  go_ret
  exact ⟨rfl, rfl⟩

theorem number_nil (w : World) : Calls Tryz.prog 8 #[.pointer none] w fun e w' => e = .returned (.int .i64 0) ∧ w = w' := by
  go_enter Tryz.func8, Tryz.ntmps8
  go_wp2_with (go_at_call 13; refine (tnone_nil _).mono ?_; rintro e w' ⟨rfl, rfl⟩)
  go_ret
  exact ⟨rfl, rfl⟩

theorem number_bare (x : Nat) (w : World) (h : w.cell? ⟨x, 1, none⟩ = some (.pointer none)) : Calls Tryz.prog 8 #[.pointer (some ⟨x, 0, none⟩)] w fun e w' => e = .returned (.int .i64 0) ∧ w = w' := by
  go_enter Tryz.func8, Tryz.ntmps8
  go_wp2_with (go_at_call 13; refine (tnone_bare x _ h).mono ?_; rintro e w' ⟨rfl, rfl⟩)
  go_ret
  exact ⟨rfl, rfl⟩

theorem number_is (x c : Nat) (n v : Int) (k f e : Value) (w : World) (h : Tsk w x c n k f v e) : Calls Tryz.prog 8 #[.pointer (some ⟨x, 0, none⟩)] w fun e w' => e = .returned (.int .i64 n) ∧ w = w' := by
  have t0 := h.t0
  have t1 := h.t1
  clear h
  go_enter Tryz.func8, Tryz.ntmps8
  go_wp2_with (go_at_call 13; refine (tnone_is x _ _ t1).mono ?_; rintro e w' ⟨rfl, rfl⟩)
  go_ret
  exact ⟨rfl, rfl⟩

theorem state_nil (w : World) : Calls Tryz.prog 7 #[.pointer none, .pointer none] w fun e w' => e = .returned (.int .i64 0) ∧ w = w' := by
  go_enter Tryz.func7, Tryz.ntmps7
  go_wp2_with (go_at_call 13; refine (tnone_nil _).mono ?_; rintro e w' ⟨rfl, rfl⟩)
  go_ret
  exact ⟨rfl, rfl⟩

theorem state_bare (x : Nat) (w : World) (h : w.cell? ⟨x, 1, none⟩ = some (.pointer none)) : Calls Tryz.prog 7 #[.pointer (some ⟨x, 0, none⟩), .pointer none] w fun e w' => e = .returned (.int .i64 0) ∧ w = w' := by
  go_enter Tryz.func7, Tryz.ntmps7
  go_wp2_with (go_at_call 13; refine (tnone_bare x _ h).mono ?_; rintro e w' ⟨rfl, rfl⟩)
  go_ret
  exact ⟨rfl, rfl⟩

theorem state_is (x c : Nat) (n v s : Int) (k f e : Value) (w : World) (h : Tsk w x c n k f v e) (C : Cel w c s) : Calls Tryz.prog 7 #[.pointer (some ⟨x, 0, none⟩), .pointer none] w fun e w' => e = .returned (.int .i64 s) ∧ w = w' := by
  have t1 := h.t1
  have c0 := C.c0
  have c1 := C.c1
  clear h C
  go_enter Tryz.func7, Tryz.ntmps7
  go_wp2_with (first
    | (go_at_call 13; refine (tnone_is x _ _ t1).mono ?_; rintro e w' ⟨rfl, rfl⟩)
    | (go_at_call 14; refine (load_free c s _ c0 c1).mono ?_; rintro e w' ⟨rfl, rfl⟩))
  go_ret
  exact ⟨rfl, rfl⟩

theorem wait_nil (w : World) : Calls Tryz.prog 4 #[.pointer none, .pointer none] w fun e w' => e = .returned (.tuple #[.int .i64 0, .iface 37 (.int .i64 2)]) ∧ w = w' := by
  go_enter Tryz.func4, Tryz.ntmps4
  go_wp2_with (go_at_call 13; refine (tnone_nil _).mono ?_; rintro e w' ⟨rfl, rfl⟩)
  go_ret2
  exact ⟨rfl, rfl⟩

theorem wait_bare (x : Nat) (w : World) (h : w.cell? ⟨x, 1, none⟩ = some (.pointer none)) : Calls Tryz.prog 4 #[.pointer (some ⟨x, 0, none⟩), .pointer none] w fun e w' => e = .returned (.tuple #[.int .i64 0, .iface 37 (.int .i64 2)]) ∧ w = w' := by
  go_enter Tryz.func4, Tryz.ntmps4
  go_wp2_with (go_at_call 13; refine (tnone_bare x _ h).mono ?_; rintro e w' ⟨rfl, rfl⟩)
  go_ret2
  exact ⟨rfl, rfl⟩

theorem wait_is (x c : Nat) (n v s : Int) (k f e : Value) (w : World) (h : Tsk w x c n k f v e) (C : Cel w c s) (hs : 2 ≤ s) : Calls Tryz.prog 4 #[.pointer (some ⟨x, 0, none⟩), .pointer none] w fun r w' => r = .returned (.tuple #[.int .i64 v, e]) ∧ Kept (fun _ => False) w w' := by
  have t1 := h.t1
  have t4 := h.t4
  have t5 := h.t5
  have c0 := C.c0
  have c1 := C.c1
  have hd : decide (s < 2) = false := by simp; omega
  clear h C
  go_enter Tryz.func4, Tryz.ntmps4
  go_wp2_with (first
    | (go_at_call 13; refine (tnone_is x _ _ t1).mono ?_; rintro e w' ⟨rfl, rfl⟩)
    | (go_at_call 14; refine (load_free c s _ c0 c1).mono ?_; rintro e w' ⟨rfl, rfl⟩))
  refine wp_loop_rounds 1 ?_
  rw [rounds_succ]
  go_wp2
  go_region
  all_goals
    go_wp2
    go_ret2
    exact ⟨rfl, (Kept.refl _ _).drew⟩

theorem mark_nil (n k : Int) (w : World) : Calls Tryz.prog 19 #[.pointer none, .int .i64 n, .int .i64 k] w fun e w' => e = .returned (.tuple #[]) ∧ w = w' := by
  go_enter Tryz.func19, Tryz.ntmps19
  go_wp2_with (go_at_call 30; refine (live_nil _).mono ?_; rintro e w' ⟨rfl, rfl⟩)
  go_end0
  exact ⟨rfl, rfl⟩

theorem unmade_nil (w : World) : Calls Tryz.prog 24 #[.pointer none] w fun e w' => e = .returned (.bool false) ∧ w = w' := by
  go_enter Tryz.func24, Tryz.ntmps24
  go_wp2
  go_ret
  exact ⟨rfl, rfl⟩

theorem knone_nil (w : World) : Calls Tryz.prog 35 #[.pointer none] w fun e w' => e = .returned (.bool true) ∧ w = w' := by
  go_enter Tryz.func35, Tryz.ntmps35
  go_wp2
  go_ret
  exact ⟨rfl, rfl⟩

theorem kreason_nil (w : World) : Calls Tryz.prog 17 #[.pointer none, .pointer none] w fun e w' => e = .returned (.int .i64 0) ∧ w = w' := by
  go_enter Tryz.func17, Tryz.ntmps17
  go_wp2_with (go_at_call 35; refine (knone_nil _).mono ?_; rintro e w' ⟨rfl, rfl⟩)
  go_ret
  exact ⟨rfl, rfl⟩

end Go.Proofs.YtbpaomanfgmlcaaGreatDoor

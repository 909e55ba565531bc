/-
  Package list, a nil thread: New; what New did not make.
-/
import Derived.Test.YtcklfdlkgohgiaaCellLone
import Derived.Deep.RegionWith
import Derived.Deep.OwnRows
import Derived.OwnWalk
namespace Go.Proofs.Ytcklfdlkgohgiaa
open Go.RowKit

theorem Try.info66 : (Try.prog.info? 66).map (fun i => (i.zero, i.size, i.bytes)) = some (some (.pointer none), 1, 8) := by kernel_rfl

theorem block_last (w : World) (o : Obj) (k : Nat) (h : k = w.heap.size) : (w.alloc o).heap[k]? = some o := by
  subst h; show (w.heap.push o)[_]? = _; simp

theorem block_old (w : World) (o : Obj) (k : Nat) (h : k < w.heap.size) {x : Option Obj} (hx : w.heap[k]? = x) : (w.alloc o).heap[k]? = x := by
  rw [← hx]; show (w.heap.push o)[k]? = _; rw [Array.getElem?_push, if_neg (by omega)]

theorem block_drew_of {w : World} {k : Nat} {x : Option Obj} (h : w.heap[k]? = x) : w.drew.heap[k]? = x := h

theorem lnone_nil (w : World) : Calls Try.prog 10 #[.pointer none] w fun e w' => e = .returned (.bool true) ∧ w' = w := by
  go_enter Try.func10, Try.ntmps10
  go_wp2
  go_ret
  exact ⟨rfl, rfl⟩

theorem lnone_bare (b : Nat) (w : World) (h1 : w.cell? ⟨b, 1, none⟩ = some (.pointer none)) :
    Calls Try.prog 10 #[.pointer (some ⟨b, 0, none⟩)] w fun e w' => e = .returned (.bool true) ∧ w' = w := by
  go_enter Try.func10, Try.ntmps10
  go_wp2
  go_ret
  exact ⟨rfl, rfl⟩

theorem lnone_made (b : Nat) (a : Addr) (w : World) (h1 : w.cell? ⟨b, 1, none⟩ = some (.pointer (some a))) :
    Calls Try.prog 10 #[.pointer (some ⟨b, 0, none⟩)] w fun e w' => e = .returned (.bool false) ∧ w' = w := by
  go_enter Try.func10, Try.ntmps10
  go_wp2
  go_ret
  exact ⟨rfl, rfl⟩

theorem ladd_nil (t : Value) (v : Int) (w : World) : Calls Try.prog 5 #[.pointer none, t, .int .i64 v] w fun e w' => e = .returned (.tuple #[.int .i64 0, .int .i64 2]) ∧ w' = w := by
  go_enter Try.func5, Try.ntmps5
  go_wp2_with (go_at_call 10; refine (lnone_nil _).mono ?_; rintro e w' ⟨rfl, rfl⟩)
  go_ret2
  exact ⟨rfl, rfl⟩

theorem ladd_bare (b : Nat) (t : Value) (v : Int) (w : World) (h1 : w.cell? ⟨b, 1, none⟩ = some (.pointer none)) : Calls Try.prog 5 #[.pointer (some ⟨b, 0, none⟩), t, .int .i64 v] w fun e w' => e = .returned (.tuple #[.int .i64 0, .int .i64 2]) ∧ w' = w := by
  go_enter Try.func5, Try.ntmps5
  go_wp2_with (go_at_call 10; refine (lnone_bare b _ h1).mono ?_; rintro e w' ⟨rfl, rfl⟩)
  go_ret2
  exact ⟨rfl, rfl⟩

theorem lclose_nil (t : Value) (w : World) : Calls Try.prog 6 #[.pointer none, t] w fun e w' => e = .returned (.tuple #[.slice none 0 0, .int .i64 2]) ∧ w' = w := by
  go_enter Try.func6, Try.ntmps6
  go_wp2_with (go_at_call 10; refine (lnone_nil _).mono ?_; rintro e w' ⟨rfl, rfl⟩)
  go_ret2
  exact ⟨rfl, rfl⟩

theorem lclose_bare (b : Nat) (t : Value) (w : World) (h1 : w.cell? ⟨b, 1, none⟩ = some (.pointer none)) : Calls Try.prog 6 #[.pointer (some ⟨b, 0, none⟩), t] w fun e w' => e = .returned (.tuple #[.slice none 0 0, .int .i64 2]) ∧ w' = w := by
  go_enter Try.func6, Try.ntmps6
  go_wp2_with (go_at_call 10; refine (lnone_bare b _ h1).mono ?_; rintro e w' ⟨rfl, rfl⟩)
  go_ret2
  exact ⟨rfl, rfl⟩

theorem leach_nil (t : Value) (w : World) : Calls Try.prog 7 #[.pointer none, t] w fun e w' => e = .returned (.tuple #[.slice none 0 0, .bool false, .int .i64 2]) ∧ w' = w := by
  go_enter Try.func7, Try.ntmps7
  go_wp2_with (go_at_call 10; refine (lnone_nil _).mono ?_; rintro e w' ⟨rfl, rfl⟩)
  go_ret3
  exact ⟨rfl, rfl⟩

theorem leach_bare (b : Nat) (t : Value) (w : World) (h1 : w.cell? ⟨b, 1, none⟩ = some (.pointer none)) : Calls Try.prog 7 #[.pointer (some ⟨b, 0, none⟩), t] w fun e w' => e = .returned (.tuple #[.slice none 0 0, .bool false, .int .i64 2]) ∧ w' = w := by
  go_enter Try.func7, Try.ntmps7
  go_wp2_with (go_at_call 10; refine (lnone_bare b _ h1).mono ?_; rintro e w' ⟨rfl, rfl⟩)
  go_ret3
  exact ⟨rfl, rfl⟩

theorem lnew_below (n : Int) (h : n < 0) (w : World) : Calls Try.prog 4 #[.int .i64 n] w fun e w' => e = .returned (.pointer none) ∧ w' = w := by
  go_enter Try.func4, Try.ntmps4
  go_wp2
  go_ret
  exact ⟨rfl, rfl⟩

theorem lnew_above (n : Int) (h : 4096 < n) (w : World) : Calls Try.prog 4 #[.int .i64 n] w fun e w' => e = .returned (.pointer none) ∧ w' = w := by
  have h0 : ¬ n < 0 := by omega
  go_enter Try.func4, Try.ntmps4
  go_wp2
  go_ret
  exact ⟨rfl, rfl⟩

/-- What New leaves: a list's block b behind whose fields l, h are cells and p a row of n empty places. -/
structure Fresh (w : World) (n b l h p : Nat) (w' : World) : Prop where
  sb : w.heap.size ≤ b ∧ b < w'.heap.size
  sl : w.heap.size ≤ l ∧ l < w'.heap.size
  sh : w.heap.size ≤ h ∧ h < w'.heap.size
  sp : w.heap.size ≤ p ∧ p < w'.heap.size
  ne : b ≠ l ∧ b ≠ h ∧ b ≠ p ∧ l ≠ h ∧ l ≠ p ∧ h ≠ p
  cb : w'.heap[b]? = some (.cells #[.pointer (some ⟨l, 0, none⟩), .pointer (some ⟨h, 0, none⟩), .slice (some ⟨p, 0, none⟩) n n] 27)
  cl : w'.heap[l]? = some (.cells #[.int .i64 0, .bool true, .int .i64 0, .int .i32 0, .int .u32 0, .chan none] 57)
  ch : w'.heap[h]? = some (.cells #[.int .i64 0, .bool true, .int .i64 0, .int .i32 0, .int .u32 0, .chan none] 57)
  cp : w'.heap[p]? = some (.cells (madeCells #[.pointer none] n) 66)
  below : Below w.heap.size w w'

def NewPost (w : World) (n : Nat) (e : Ending) (w' : World) : Prop := ∃ b l h p : Nat, e = .returned (.pointer (some ⟨b, 0, none⟩)) ∧ Fresh w n b l h p w'

set_option maxHeartbeats 400000 in
theorem lnew_made (n : Nat) (h : n ≤ 4096) (w : World) : Calls Try.prog 4 #[.int .i64 n] w (NewPost w n) := by
  have hmk := fun w => run_make_row' (P := Try.prog) 25 66 (.pointer none) 8 Try.underlying25 Try.info66 rfl .i64 .i64 n (by omega) (by omega) w
  have h0 : ¬ ((n : Int) < 0) := by omega
  have h1 : ¬ ((4096 : Int) < n) := by omega
  go_enter Try.func4, Try.ntmps4
  go_wp2_with fail
  go_region_with (go_at_call 9; refine (new_cell 0 _).mono ?_; rintro e w' ⟨rfl, rfl⟩)
  · go_wp2
    go_ret
    refine ⟨w.heap.size + 1 + 1 + 1, w.heap.size, w.heap.size + 1, w.heap.size + 1 + 1, rfl, ?_⟩
    constructor <;> first
      | (refine ⟨?_, ?_⟩ <;> (try simp) <;> omega)
      | (refine ⟨?_, ?_, ?_, ?_, ?_, ?_⟩ <;> omega)
      | exact ((((Below.refl _ _).alloc (Nat.le_refl _) _).alloc (by simp) _).alloc (by simp; omega) _).alloc (by simp; omega) _ |>.drew
      | (refine block_drew_of ?_; repeat (first | (refine block_last _ _ _ ?_; (try simp) <;> omega) | (refine block_old _ _ _ ?_ ?_; ((try simp) <;> omega))))
  · go_wp2
    go_ret
    refine ⟨w.heap.size + 1 + 1 + 1, w.heap.size, w.heap.size + 1 + 1, w.heap.size + 1, rfl, ?_⟩
    constructor <;> first
      | (refine ⟨?_, ?_⟩ <;> (try simp) <;> omega)
      | (refine ⟨?_, ?_, ?_, ?_, ?_, ?_⟩ <;> omega)
      | exact ((((Below.refl _ _).alloc (Nat.le_refl _) _).alloc (by simp) _).alloc (by simp; omega) _).alloc (by simp; omega) _ |>.drew
      | (refine block_drew_of ?_; repeat (first | (refine block_last _ _ _ ?_; (try simp) <;> omega) | (refine block_old _ _ _ ?_ ?_; ((try simp) <;> omega))))
  · go_wp2
    go_ret
    refine ⟨w.heap.size + 1 + 1 + 1, w.heap.size + 1, w.heap.size + 1 + 1, w.heap.size, rfl, ?_⟩
    constructor <;> first
      | (refine ⟨?_, ?_⟩ <;> (try simp) <;> omega)
      | (refine ⟨?_, ?_, ?_, ?_, ?_, ?_⟩ <;> omega)
      | exact ((((Below.refl _ _).alloc (Nat.le_refl _) _).alloc (by simp) _).alloc (by simp; omega) _).alloc (by simp; omega) _ |>.drew
      | (refine block_drew_of ?_; repeat (first | (refine block_last _ _ _ ?_; (try simp) <;> omega) | (refine block_old _ _ _ ?_ ?_; ((try simp) <;> omega))))

end Go.Proofs.Ytcklfdlkgohgiaa

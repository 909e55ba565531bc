/-
  A memo's none, a place's of, find; builds.
-/
import Derived.Test.YtailldgochoklaaGreatDoorMemo4
import Derived.Test.YtailldgochoklaaGreatDoorFlt4
import Derived.Shelf.Abstract
namespace Go.Proofs.YtailldgochoklaaGreatDoor
open Go.RowKit

theorem mnone_nil (w : World) : Calls Tryz.prog 17 #[.pointer none] w fun e w' => e = .returned (.bool true) ∧ w = w' := by
  go_enter Tryz.func17, Tryz.ntmps17
  go_wp2
  go_ret
  exact ⟨rfl, rfl⟩

set_option maxRecDepth 100000 in
theorem mnone_bare (x : Nat) (w : World) (h : w.cell? ⟨x, 0, none⟩ = some (.slice none 0 0)) : Calls Tryz.prog 17 #[.pointer (some ⟨x, 0, none⟩)] w fun e w' => e = .returned (.bool true) ∧ w = w' := by
  have hn := fun (w : World) => Lib.run_eql_slice_nil (P := Tryz.prog) w 26 49 none 0 0 0 0 Tryz.underlying26
  go_enter Tryz.func17, Tryz.ntmps17
  go_wp2
  go_ret
  exact ⟨rfl, rfl⟩

set_option maxRecDepth 100000 in
theorem mnone_is (x : Nat) (a : Addr) (n m : Nat) (w : World) (h : w.cell? ⟨x, 0, none⟩ = some (.slice (some a) n m)) : Calls Tryz.prog 17 #[.pointer (some ⟨x, 0, none⟩)] w fun e w' => e = .returned (.bool false) ∧ w = w' := by
  have hn := fun (w : World) => Lib.run_eql_slice_nil (P := Tryz.prog) w 26 49 (some a) n m 0 0 Tryz.underlying26
  go_enter Tryz.func17, Tryz.ntmps17
  go_wp2
  go_ret
  exact ⟨rfl, rfl⟩

theorem mark_nil (n k : Int) (w : World) : Calls Tryz.prog 35 #[.pointer none, .int .i64 n, .int .i64 k] w fun e w' => e = .returned (.tuple #[]) ∧ w = w' := by
  go_enter Tryz.func35, Tryz.ntmps35
  go_wp2_with (go_at_call 43; refine (live_nil _).mono ?_; rintro e w' ⟨rfl, rfl⟩)
  go_end0
  exact ⟨rfl, rfl⟩

/-- What a call that answers a bool leaves. -/
def Did (b : Bool) (S : Nat → Prop) (T : World → Prop) (w : World) : Ending → World → Prop := fun e w' => e = .returned (.bool b) ∧ Kept S w w' ∧ T w'

set_option maxRecDepth 100000 in
theorem of_same (c : Nat) (f : Addr) (key : Int) (h0 : 0 ≤ key) (h1 : key < 9223372036854775807) (w : World) (C : Cel w c (key + 1)) :
    Calls Tryz.prog 31 #[.agg #[.pointer (some ⟨c, 0, none⟩), .pointer (some f)], .pointer none, .int .i64 key] w (Did true (fun _ => False) (fun _ => True) w) := by
  have HC := Lib.hid C
  clear C
  go_enter Tryz.func31, Tryz.ntmps31
  go_wp2_with fail
  have K0 : Kept (fun _ => False) w (w.alloc (.cells #[.pointer (some ⟨c, 0, none⟩), .pointer (some f)] 49)) := (Kept.refl _ w).alloc _
  have b0 : (w.alloc (.cells #[.pointer (some ⟨c, 0, none⟩), .pointer (some f)] 49)).cell? ⟨w.heap.size, 0, none⟩ = some (.pointer (some ⟨c, 0, none⟩)) := by go_simp
  have c0 := (HC.out.kept K0 id).c0
  have c1 := (HC.out.kept K0 id).c1
  have HK := Lib.hid K0
  clear K0
  generalize w.alloc (.cells #[.pointer (some ⟨c, 0, none⟩), .pointer (some f)] 49) = W at b0 c0 c1 HK ⊢
  refine wp_loop_rounds 1 ?_
  rw [rounds_succ]
  have bb : ((key + 1) == (key + 1)) = true := by simp
  go_wp2_with (go_at_call 24; refine (load_free c (key + 1) _ c0 c1).mono ?_; rintro e w' ⟨rfl, rfl⟩)
  go_ret
  exact ⟨rfl, HK.out, trivial⟩

set_option maxRecDepth 100000 in
theorem of_zero (c : Nat) (f : Addr) (key : Int) (h0 : 0 ≤ key) (h1 : key < 9223372036854775807) (w : World) (C : Cel w c 0) :
    Calls Tryz.prog 31 #[.agg #[.pointer (some ⟨c, 0, none⟩), .pointer (some f)], .pointer none, .int .i64 key] w (Did true (fun k => k = c) (fun W => Cel W c (key + 1)) w) := by
  have HC := Lib.hid C
  clear C
  go_enter Tryz.func31, Tryz.ntmps31
  go_wp2_with fail
  have K0 : Kept (fun k => k = c) w (w.alloc (.cells #[.pointer (some ⟨c, 0, none⟩), .pointer (some f)] 49)) := (Kept.refl _ w).alloc _
  have b0 : (w.alloc (.cells #[.pointer (some ⟨c, 0, none⟩), .pointer (some f)] 49)).cell? ⟨w.heap.size, 0, none⟩ = some (.pointer (some ⟨c, 0, none⟩)) := by go_simp
  have C0 := HC.out.kept (S := fun _ => False) ((Kept.refl _ w).alloc (.cells #[.pointer (some ⟨c, 0, none⟩), .pointer (some f)] 49)) id
  have HK := Lib.hid K0
  have HC0 := Lib.hid C0
  clear K0 C0
  generalize w.alloc (.cells #[.pointer (some ⟨c, 0, none⟩), .pointer (some f)] 49) = W at b0 HC0 HK ⊢
  have c0 := HC0.out.c0
  have c1 := HC0.out.c1
  have c2 := HC0.out.c2
  have fr := HC0.out.fr
  refine wp_loop_rounds 1 ?_
  rw [rounds_succ]
  have bb : ((0 : Int) == (key + 1)) = false := by rw [beq_eq_false_iff_ne]; omega
  go_wp2_with (first
    | (go_at_call 24; refine (load_free c 0 _ c0 c1).mono ?_; rintro e w' ⟨rfl, rfl⟩)
    | (go_at_call 33; refine (cas_hit c 0 (key + 1) _ c0 c1 c2 fr).mono ?_; rintro e w' ⟨rfl, rfl⟩))
  go_ret
  exact ⟨rfl, HK.out.setCell ⟨c, 0, none⟩ (.inl rfl) _, HC0.out.set _⟩

set_option maxRecDepth 100000 in
theorem of_other (c : Nat) (f : Addr) (key v : Int) (h0 : 0 ≤ key) (h1 : key < 9223372036854775807) (hv0 : v ≠ 0) (hv1 : v ≠ key + 1) (w : World) (C : Cel w c v) :
    Calls Tryz.prog 31 #[.agg #[.pointer (some ⟨c, 0, none⟩), .pointer (some f)], .pointer none, .int .i64 key] w (Did false (fun _ => False) (fun _ => True) w) := by
  have HC := Lib.hid C
  have b1 : (v == key + 1) = false := by rw [beq_eq_false_iff_ne]; exact hv1
  have b2 : (v == 0) = false := by rw [beq_eq_false_iff_ne]; exact hv0
  clear C hv0 hv1
  go_enter Tryz.func31, Tryz.ntmps31
  go_wp2_with fail
  have K0 : Kept (fun _ => False) w (w.alloc (.cells #[.pointer (some ⟨c, 0, none⟩), .pointer (some f)] 49)) := (Kept.refl _ w).alloc _
  have b0 : (w.alloc (.cells #[.pointer (some ⟨c, 0, none⟩), .pointer (some f)] 49)).cell? ⟨w.heap.size, 0, none⟩ = some (.pointer (some ⟨c, 0, none⟩)) := by go_simp
  have c0 := (HC.out.kept K0 id).c0
  have c1 := (HC.out.kept K0 id).c1
  have HK := Lib.hid K0
  clear K0
  generalize w.alloc (.cells #[.pointer (some ⟨c, 0, none⟩), .pointer (some f)] 49) = W at b0 c0 c1 HK ⊢
  refine wp_loop_rounds 1 ?_
  rw [rounds_succ]
  go_wp2_with (go_at_call 24; refine (load_free c v _ c0 c1).mono ?_; rintro e w' ⟨rfl, rfl⟩)
  go_ret
  exact ⟨rfl, HK.out, trivial⟩

end Go.Proofs.YtailldgochoklaaGreatDoor

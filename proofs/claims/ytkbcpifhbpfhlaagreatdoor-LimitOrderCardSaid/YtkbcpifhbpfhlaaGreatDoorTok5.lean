/-
  Package token, a nil thread: New, Child, Reason, Wait, and what New did not make.
-/
import Derived.Test.YtkbcpifhbpfhlaaGreatDoorTok4
namespace Go.Proofs.YtkbcpifhbpfhlaaGreatDoor.Tk
open Go.RowKit

/-- A token's block: its reason's cell, its list, its depth. -/
structure Hd (w : World) (k r b : Nat) (d : Int) : Prop where
  k0 : w.cell? ⟨k, 0, none⟩ = some (.pointer (some ⟨r, 0, none⟩))
  k1 : w.cell? ⟨k, 1, none⟩ = some (.pointer (some ⟨b, 0, none⟩))
  k2 : w.cell? ⟨k, 2, none⟩ = some (.int .i64 d)
  lt : k < w.heap.size

theorem Hd.kept {S : Nat → Prop} {w w' : World} {k r b : Nat} {d : Int} (h : Hd w k r b d) (c : Kept S w w') (hs : ¬ S k) : Hd w' k r b d :=
  ⟨(c.cell (p := ⟨k, 0, none⟩) h.lt hs).trans h.k0, (c.cell (p := ⟨k, 1, none⟩) h.lt hs).trans h.k1, (c.cell (p := ⟨k, 2, none⟩) h.lt hs).trans h.k2, Nat.lt_of_lt_of_le h.lt c.size⟩

theorem none_tok (w : World) : Calls Tryz.prog 40 #[.pointer none] w fun e w' => e = .returned (.bool true) ∧ w' = w := by
  go_enter Tryz.func40, Tryz.ntmps40
  go_wp2
  go_ret
  exact ⟨rfl, rfl⟩

theorem none_bare (k : Nat) (w : World) (h : w.cell? ⟨k, 0, none⟩ = some (.pointer none)) : Calls Tryz.prog 40 #[.pointer (some ⟨k, 0, none⟩)] w fun e w' => e = .returned (.bool true) ∧ w' = w := by
  go_enter Tryz.func40, Tryz.ntmps40
  go_wp2
  go_ret
  exact ⟨rfl, rfl⟩

theorem none_is (k : Nat) (a : Addr) (w : World) (h : w.cell? ⟨k, 0, none⟩ = some (.pointer (some a))) : Calls Tryz.prog 40 #[.pointer (some ⟨k, 0, none⟩)] w fun e w' => e = .returned (.bool false) ∧ w' = w := by
  go_enter Tryz.func40, Tryz.ntmps40
  go_wp2
  go_ret
  exact ⟨rfl, rfl⟩

/-- What a new token is, from block n on: six blocks. -/
structure New (w' : World) (n l h p : Nat) (d : Int) : Prop where
  size : n + 6 ≤ w'.heap.size
  sl : n + 1 ≤ l ∧ l < n + 4
  sh : n + 1 ≤ h ∧ h < n + 4
  sp : n + 1 ≤ p ∧ p < n + 4
  ne : l ≠ h ∧ l ≠ p ∧ h ≠ p
  r : Cel w' n 0
  live : Live w' (n + 4) l h p 0 0 (.pointer none) (.pointer none)
  hd : Hd w' (n + 5) n (n + 4) d

theorem New.kept {S : Nat → Prop} {w w' : World} {n l h p : Nat} {d : Int} (N : New w n l h p d) (k : Kept S w w') (hs : ∀ c, n ≤ c → c < n + 6 → ¬ S c) : New w' n l h p d := by
  have sl := N.sl
  have sh := N.sh
  have sp := N.sp
  exact ⟨Nat.le_trans N.size k.size, N.sl, N.sh, N.sp, N.ne, N.r.kept k (hs _ (by omega) (by omega)), N.live.kept k (hs _ (by omega) (by omega)) (hs _ (by omega) (by omega)) (hs _ (by omega) (by omega)) (hs _ (by omega) (by omega)), N.hd.kept k (hs _ (by omega) (by omega))⟩

def MadePost (w : World) (d : Int) : Ending → World → Prop := fun e w' =>
  ∃ l h p : Nat, e = .returned (.pointer (some ⟨w.heap.size + 5, 0, none⟩)) ∧ w'.heap.size = w.heap.size + 6 ∧ New w' w.heap.size l h p d ∧ Kept (fun _ => False) w w'

set_option maxHeartbeats 400000 in
theorem made_any (d : Int) (w : World) : Calls Tryz.prog 19 #[.int .i64 d] w (MadePost w d) := by
  go_enter Tryz.func19, Tryz.ntmps19
  go_wp2_with fail
  refine (new_cell 0 _).mono ?_
  rintro e w1 ⟨rfl, H⟩
  have hs1 : w1.heap.size = w.heap.size + 1 := by rw [H]; simp
  have hk1 : Kept (fun _ => False) w w1 := by rw [H]; exact (Kept.refl _ _).alloc _
  have hc1 : Cel w1 w.heap.size 0 := by
    rw [H]
    refine ⟨?_, ?_, ?_, ?_, by simp⟩ <;> go_simp
  clear H
  have X1 := Lib.hid hs1
  have X2 := Lib.hid hk1
  have X3 := Lib.hid hc1
  clear hs1 hk1 hc1
  go_wp2_with fail
  refine (lnew_made _).mono ?_
  rintro e w2 ⟨l, h, p, rfl, F⟩
  have X4 := Lib.hid F
  clear F
  go_wp2_with fail
  go_ret
  obtain ⟨size, sl, sh, sp, ne, live, kept⟩ := X4.out
  have hs := X1.out
  rw [hs] at size sl sh sp live
  have hk : Kept (fun _ => False) w2 (w2.alloc (.cells #[.pointer (some ⟨w.heap.size, 0, none⟩), .pointer (some ⟨w1.heap.size + 3, 0, none⟩), .int .i64 d] 42)) := (Kept.refl _ _).alloc _
  have hsz : w2.heap.size = w.heap.size + 5 := by omega
  refine ⟨l, h, p, by rw [hsz]; rfl, by simp; omega, ⟨by simp; omega, by omega, by omega, by omega, ne, (X3.out.kept kept id).kept hk id, ?_, ⟨?_, ?_, ?_, by simp; omega⟩⟩, (X2.out.trans kept).trans hk⟩
  · exact (live.kept hk id id id id)
  · rw [← hsz]; go_simp
  · rw [← hsz]; go_simp
  · rw [← hsz]; go_simp

theorem new_any (w : World) : Calls Tryz.prog 6 #[] w (MadePost w 0) := by
  go_enter Tryz.func6, Tryz.ntmps6
  go_wp2_with fail
  refine (made_any 0 _).mono ?_
  rintro e w1 ⟨l, h, p, rfl, H⟩
  have X := Lib.hid H
  clear H
  go_wp2_with fail
  go_ret
  exact ⟨l, h, p, rfl, X.out⟩

theorem reason_nil (w : World) : Calls Tryz.prog 14 #[.pointer none, .pointer none] w fun e w' => e = .returned (.int .i64 0) ∧ w' = w := by
  go_enter Tryz.func14, Tryz.ntmps14
  go_wp2_with (go_at_call 40; refine (none_tok _).mono ?_; rintro e w' ⟨rfl, rfl⟩)
  go_ret
  exact ⟨rfl, rfl⟩

theorem reason_bare (k : Nat) (w : World) (h : w.cell? ⟨k, 0, none⟩ = some (.pointer none)) : Calls Tryz.prog 14 #[.pointer (some ⟨k, 0, none⟩), .pointer none] w fun e w' => e = .returned (.int .i64 0) ∧ w' = w := by
  go_enter Tryz.func14, Tryz.ntmps14
  go_wp2_with (go_at_call 40; refine (none_bare k _ h).mono ?_; rintro e w' ⟨rfl, rfl⟩)
  go_ret
  exact ⟨rfl, rfl⟩

theorem reason_is (k r : Nat) (x : Int) (w : World) (h : w.cell? ⟨k, 0, none⟩ = some (.pointer (some ⟨r, 0, none⟩))) (C : Cel w r x) : Calls Tryz.prog 14 #[.pointer (some ⟨k, 0, none⟩), .pointer none] w fun e w' => e = .returned (.int .i64 x) ∧ w' = w := by
  have c0 := C.c0
  have c1 := C.c1
  clear C
  go_enter Tryz.func14, Tryz.ntmps14
  go_wp2_with (first
    | (go_at_call 40; refine (none_is k _ _ h).mono ?_; rintro e w' ⟨rfl, rfl⟩)
    | (go_at_call 37; refine (load_free r x _ c0 c1).mono ?_; rintro e w' ⟨rfl, rfl⟩))
  go_ret
  exact ⟨rfl, rfl⟩

theorem child_nil (w : World) : Calls Tryz.prog 27 #[.pointer none, .pointer none] w fun e w' => e = .returned (.tuple #[.pointer none, .int .i64 2]) ∧ w' = w := by
  go_enter Tryz.func27, Tryz.ntmps27
  go_wp2_with (go_at_call 40; refine (none_tok _).mono ?_; rintro e w' ⟨rfl, rfl⟩)
  go_ret2
  exact ⟨rfl, rfl⟩

theorem child_bare (k : Nat) (w : World) (h : w.cell? ⟨k, 0, none⟩ = some (.pointer none)) : Calls Tryz.prog 27 #[.pointer (some ⟨k, 0, none⟩), .pointer none] w fun e w' => e = .returned (.tuple #[.pointer none, .int .i64 2]) ∧ w' = w := by
  go_enter Tryz.func27, Tryz.ntmps27
  go_wp2_with (go_at_call 40; refine (none_bare k _ h).mono ?_; rintro e w' ⟨rfl, rfl⟩)
  go_ret2
  exact ⟨rfl, rfl⟩

set_option maxRecDepth 100000 in
theorem child_deep (k r b : Nat) (d : Int) (hd : d = 64) (w : World) (H : Hd w k r b d) : Calls Tryz.prog 27 #[.pointer (some ⟨k, 0, none⟩), .pointer none] w fun e w' => e = .returned (.tuple #[.pointer none, .int .i64 15]) ∧ w' = w := by
  have k0 := H.k0
  have k2 := H.k2
  clear H
  go_enter Tryz.func27, Tryz.ntmps27
  go_wp2_with (go_at_call 40; refine (none_is k _ _ k0).mono ?_; rintro e w' ⟨rfl, rfl⟩)
  go_ret2
  exact ⟨rfl, rfl⟩

theorem on_nil (f : Value) (w : World) : Calls Tryz.prog 26 #[.pointer none, .pointer none, f] w fun e w' => e = .returned (.int .i64 2) ∧ w' = w := by
  go_enter Tryz.func26, Tryz.ntmps26
  go_wp2_with (go_at_call 40; refine (none_tok _).mono ?_; rintro e w' ⟨rfl, rfl⟩)
  go_ret
  exact ⟨rfl, rfl⟩

theorem on_bare (k : Nat) (f : Value) (w : World) (h : w.cell? ⟨k, 0, none⟩ = some (.pointer none)) : Calls Tryz.prog 26 #[.pointer (some ⟨k, 0, none⟩), .pointer none, f] w fun e w' => e = .returned (.int .i64 2) ∧ w' = w := by
  go_enter Tryz.func26, Tryz.ntmps26
  go_wp2_with (go_at_call 40; refine (none_bare k _ h).mono ?_; rintro e w' ⟨rfl, rfl⟩)
  go_ret
  exact ⟨rfl, rfl⟩

theorem on_arg (k : Nat) (a : Addr) (w : World) (h : w.cell? ⟨k, 0, none⟩ = some (.pointer (some a))) : Calls Tryz.prog 26 #[.pointer (some ⟨k, 0, none⟩), .pointer none, .nilFunc] w fun e w' => e = .returned (.int .i64 1) ∧ w' = w := by
  have hnil : ∀ w : World, (binOp BinOp.eql 79 .nilFunc .nilFunc).run Tryz.prog w = .ok (.bool true) w := fun _ => by kernel_rfl
  go_enter Tryz.func26, Tryz.ntmps26
  go_wp2_with (go_at_call 40; refine (none_is k _ _ h).mono ?_; rintro e w' ⟨rfl, rfl⟩)
  go_ret
  exact ⟨rfl, rfl⟩

theorem cancel_nil (x : Int) (w : World) : Calls Tryz.prog 29 #[.pointer none, .pointer none, .int .i64 x] w fun e w' => e = .returned (.bool false) ∧ w' = w := by
  go_enter Tryz.func29, Tryz.ntmps29
  go_wp2_with (go_at_call 40; refine (none_tok _).mono ?_; rintro e w' ⟨rfl, rfl⟩)
  go_ret
  exact ⟨rfl, rfl⟩

theorem cancel_bare (k : Nat) (x : Int) (w : World) (h : w.cell? ⟨k, 0, none⟩ = some (.pointer none)) : Calls Tryz.prog 29 #[.pointer (some ⟨k, 0, none⟩), .pointer none, .int .i64 x] w fun e w' => e = .returned (.bool false) ∧ w' = w := by
  go_enter Tryz.func29, Tryz.ntmps29
  go_wp2_with (go_at_call 40; refine (none_bare k _ h).mono ?_; rintro e w' ⟨rfl, rfl⟩)
  go_ret
  exact ⟨rfl, rfl⟩

theorem cancel_below (k : Nat) (a : Addr) (x : Int) (hx : x < 1) (w : World) (h : w.cell? ⟨k, 0, none⟩ = some (.pointer (some a))) : Calls Tryz.prog 29 #[.pointer (some ⟨k, 0, none⟩), .pointer none, .int .i64 x] w fun e w' => e = .returned (.bool false) ∧ w' = w := by
  go_enter Tryz.func29, Tryz.ntmps29
  go_wp2_with (go_at_call 40; refine (none_is k _ _ h).mono ?_; rintro e w' ⟨rfl, rfl⟩)
  go_ret
  exact ⟨rfl, rfl⟩

theorem cancel_miss (k r : Nat) (x v : Int) (hx : 1 ≤ x) (hv : ¬ v = 0) (w : World) (h : w.cell? ⟨k, 0, none⟩ = some (.pointer (some ⟨r, 0, none⟩))) (C : Cel w r v) : Calls Tryz.prog 29 #[.pointer (some ⟨k, 0, none⟩), .pointer none, .int .i64 x] w fun e w' => e = .returned (.bool false) ∧ w' = w := by
  have c0 := C.c0
  have c1 := C.c1
  have fr := C.fr
  have hx' : ¬ x < 1 := by omega
  clear C
  go_enter Tryz.func29, Tryz.ntmps29
  go_wp2_with (first
    | (go_at_call 40; refine (none_is k _ _ h).mono ?_; rintro e w' ⟨rfl, rfl⟩)
    | (go_at_call 32; refine (cas_miss r v 0 x hv _ c0 c1 fr).mono ?_; rintro e w' ⟨rfl, rfl⟩))
  go_ret
  exact ⟨rfl, rfl⟩

end Go.Proofs.YtkbcpifhbpfhlaaGreatDoor.Tk

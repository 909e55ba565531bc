/-
  Package token, a nil thread: Child and OnCancel of a token that takes them, and of one that is cancelled.
-/
import Derived.Test.YtkbcpifhbpfhlaaGreatDoorTok5
namespace Go.Proofs.YtkbcpifhbpfhlaaGreatDoor.Tk
open Go.RowKit

/-- A box of two values. -/
theorem two_box (w : World) (u v : Value) (t : TypeId) : Two (w.alloc (.cells #[u, v] t)) w.heap.size u v := by
  refine ⟨?_, ?_, ?_, ?_, by simp⟩ <;> go_simp

theorem is_tok (k : Nat) (a : Addr) (w : World) (h : w.cell? ⟨k, 0, none⟩ = some (.pointer (some a))) : Calls Tryz.prog 40 #[.pointer (some ⟨k, 0, none⟩)] w fun e w' => e = .returned (.bool false) ∧ w = w' :=
  (none_is k a w h).mono fun _ _ h => ⟨h.1, h.2.symm⟩

/-- What Child leaves of a token that takes its first child. -/
def ChildPost (w : World) (b l h p : Nat) (d : Int) (x1 : Value) : Ending → World → Prop := fun e w' =>
  ∃ l' h' p' : Nat, e = .returned (.tuple #[.pointer (some ⟨w.heap.size + 5, 0, none⟩), .int .i64 0]) ∧ w'.heap.size = w.heap.size + 11 ∧ New w' w.heap.size l' h' p' (d + 1) ∧
    Live w' b l h p 1 1 (.pointer (some ⟨w.heap.size + 10, 0, none⟩)) x1 ∧ Two w' (w.heap.size + 10) (.pointer (some ⟨w.heap.size + 6, 0, none⟩)) (.int .i64 0) ∧
    Two w' (w.heap.size + 6) (.pointer (some ⟨w.heap.size + 5, 0, none⟩)) .nilFunc ∧ Kept (fun c => c = l ∨ c = h ∨ c = p) w w'

set_option maxRecDepth 100000 in
set_option maxHeartbeats 800000 in
theorem child_takes (w : World) (k r b l h p : Nat) (d : Int) (x1 : Value) (hd0 : 0 ≤ d) (hd : d < 64) (H : Hd w k r b d) (L : Live w b l h p 0 0 (.pointer none) x1) :
    Calls Tryz.prog 27 #[.pointer (some ⟨k, 0, none⟩), .pointer none] w (ChildPost w b l h p d x1) := by
  have k0 := H.k0
  have k2 := H.k2
  have hd' : ¬ d = 64 := by omega
  have HL := Lib.hid L
  have HH := Lib.hid H
  clear L H
  go_enter Tryz.func27, Tryz.ntmps27
  go_wp2_with fail
  refine (is_tok k _ _ k0).mono ?_
  rintro e w' ⟨rfl, rfl⟩
  go_wp2_with fail
  refine (made_any (d + 1) _).mono ?_
  rintro e w1 ⟨l', h', p', rfl, hs, hN, hK⟩
  have k1 := (HH.out.kept hK id).k1
  have X1 := Lib.hid hs
  have X2 := Lib.hid hN
  have X3 := Lib.hid hK
  have X4 := Lib.hid (HL.out.kept hK id id id id)
  clear hs hN hK k0 k2
  go_wp2_with fail
  refine (add_1 _ b l h p w1.heap.size x1 (X4.out.alloc _)).mono ?_
  rintro e w2 ⟨rfl, H⟩
  have X5 := Lib.hid H
  clear H
  go_wp2_with fail
  go_ret2
  obtain ⟨g1, g2, g3, g4⟩ := X5.out
  have hs := X1.out
  rw [World.size_alloc, hs] at g1 g2 g3
  have kA : Kept (fun _ => False) w1 (w1.alloc (.cells #[.pointer (some ⟨w.heap.size + 5, 0, none⟩), .nilFunc] 122)) := (Kept.refl _ _).alloc _
  have lt1 := X4.out.l.lt
  have hb : l < w.heap.size ∧ h < w.heap.size ∧ p < w.heap.size := ⟨HL.out.l.lt, HL.out.h.lt, HL.out.s0.lt⟩
  refine ⟨l', h', p', rfl, g1, (X2.out.kept kA fun _ _ _ => id).kept g4 (fun c h1 h2 => by omega), g2, g3, ?_, ?_⟩
  · rw [← hs]; exact (two_box w1 _ _ 122).kept g4 (by omega)
  · exact ((X3.out.trans kA).mono fun _ _ f => f.elim).trans g4

/-- What OnCancel leaves of a token with one child, or none. -/
def OnPost (w : World) (b l h p : Nat) (k hd : Int) (x0 x1 f : Value) : Ending → World → Prop := fun e w' =>
  e = .returned (.int .i64 0) ∧ w'.heap.size = w.heap.size + 5 ∧ Live w' b l h p k k x0 x1 ∧ Two w' (w.heap.size + 4) (.pointer (some ⟨w.heap.size, 0, none⟩)) (.int .i64 hd) ∧
    Two w' w.heap.size (.pointer none) f ∧ Kept (fun c => c = l ∨ c = h ∨ c = p) w w'

theorem run_func_nil (g : Fn) (q1 q2 : Array Value) (w : World) : (binOp BinOp.eql 79 (.func g q1 q2) .nilFunc).run Tryz.prog w = .ok (.bool false) w := by kernel_rfl

set_option maxRecDepth 100000 in
set_option maxHeartbeats 800000 in
theorem on_first (w : World) (k r b l h p : Nat) (d : Int) (x1 : Value) (g : Fn) (q1 q2 : Array Value) (H : Hd w k r b d) (L : Live w b l h p 0 0 (.pointer none) x1) :
    Calls Tryz.prog 26 #[.pointer (some ⟨k, 0, none⟩), .pointer none, .func g q1 q2] w (OnPost w b l h p 1 0 (.pointer (some ⟨w.heap.size + 4, 0, none⟩)) x1 (.func g q1 q2)) := by
  have hnil := run_func_nil g q1 q2
  have k0 := H.k0
  have k1 := H.k1
  have HA := Lib.hid (add_1 _ b l h p w.heap.size x1 (L.alloc (.cells #[.pointer none, .func g q1 q2] 122)))
  have HB : Hid (l < w.heap.size ∧ h < w.heap.size ∧ p < w.heap.size) := ⟨L.l.lt, L.h.lt, L.s0.lt⟩
  clear L H
  go_enter Tryz.func26, Tryz.ntmps26
  go_wp2_with fail
  refine (is_tok k _ _ k0).mono ?_
  rintro e w' ⟨rfl, rfl⟩
  go_wp2_with fail
  refine HA.out.mono ?_
  rintro e w2 ⟨rfl, H⟩
  have X5 := Lib.hid H
  clear H
  go_wp2_with fail
  go_ret
  obtain ⟨g1, g2, g3, g4⟩ := X5.out
  rw [World.size_alloc] at g1 g2 g3
  have hb := HB.out
  refine ⟨rfl, g1, g2, g3, (two_box _ _ _ 122).kept g4 (by omega), ?_⟩
  exact ((Kept.refl _ _).alloc _).trans g4

set_option maxRecDepth 100000 in
set_option maxHeartbeats 800000 in
theorem on_second (w : World) (k r b l h p : Nat) (d : Int) (x0 : Value) (g : Fn) (q1 q2 : Array Value) (H : Hd w k r b d) (L : Live w b l h p 1 1 x0 (.pointer none)) :
    Calls Tryz.prog 26 #[.pointer (some ⟨k, 0, none⟩), .pointer none, .func g q1 q2] w (OnPost w b l h p 2 1 x0 (.pointer (some ⟨w.heap.size + 4, 0, none⟩)) (.func g q1 q2)) := by
  have hnil := run_func_nil g q1 q2
  have k0 := H.k0
  have k1 := H.k1
  have HA := Lib.hid (add_2 _ b l h p w.heap.size x0 (L.alloc (.cells #[.pointer none, .func g q1 q2] 122)))
  have HB : Hid (l < w.heap.size ∧ h < w.heap.size ∧ p < w.heap.size) := ⟨L.l.lt, L.h.lt, L.s0.lt⟩
  clear L H
  go_enter Tryz.func26, Tryz.ntmps26
  go_wp2_with fail
  refine (is_tok k _ _ k0).mono ?_
  rintro e w' ⟨rfl, rfl⟩
  go_wp2_with fail
  refine HA.out.mono ?_
  rintro e w2 ⟨rfl, H⟩
  have X5 := Lib.hid H
  clear H
  go_wp2_with fail
  go_ret
  obtain ⟨g1, g2, g3, g4⟩ := X5.out
  rw [World.size_alloc] at g1 g2 g3
  have hb := HB.out
  refine ⟨rfl, g1, g2, g3, (two_box _ _ _ 122).kept g4 (by omega), ?_⟩
  exact ((Kept.refl _ _).alloc _).trans g4

/-- What born leaves of a new token. -/
theorem born_new (w : World) (n l h p : Nat) (d x : Int) (N : New w n l h p d) :
    Calls Tryz.prog 53 #[.pointer (some ⟨n + 5, 0, none⟩), .pointer none, .int .i64 x] w fun e w' => e = .returned (.tuple #[]) ∧ w' = (w.setCell ⟨n, 0, none⟩ (.int .i64 x)).setCell ⟨h, 0, none⟩ (.int .i64 (-1)) := by
  have k0 := N.hd.k0
  have c0 := N.r.c0
  have c1 := N.r.c1
  have c2 := N.r.c2
  have fr := N.r.fr
  have sl := N.sl
  have sh := N.sh
  have sp := N.sp
  have k : Kept (fun c => c = n) w (w.setCell ⟨n, 0, none⟩ (.int .i64 x)) := Kept.one w ⟨n, 0, none⟩ _
  have k1 := (N.hd.kept k (by omega)).k1
  have HC := Lib.hid (close_none _ _ _ _ _ _ _ _ (N.live.kept k (by omega) (by omega) (by omega) (by omega)))
  clear N sl sh sp
  go_enter Tryz.func53, Tryz.ntmps53
  go_wp2_with fail
  refine (store_free n 0 x _ c0 c1 c2 fr).mono ?_
  rintro e w' ⟨rfl, rfl⟩
  go_wp2_with fail
  refine HC.out.mono ?_
  rintro e w' ⟨rfl, rfl⟩
  go_wp2_with fail
  go_end0
  exact ⟨rfl, rfl⟩

/-- What Child leaves of a token that is cancelled. -/
def BornPost (w : World) (x : Int) : Ending → World → Prop := fun e w' =>
  e = .returned (.tuple #[.pointer (some ⟨w.heap.size + 5, 0, none⟩), .int .i64 0]) ∧ w.heap.size + 6 ≤ w'.heap.size ∧ w'.cell? ⟨w.heap.size + 5, 0, none⟩ = some (.pointer (some ⟨w.heap.size, 0, none⟩)) ∧ Cel w' w.heap.size x ∧ Kept (fun _ => False) w w'

set_option maxRecDepth 100000 in
set_option maxHeartbeats 800000 in
theorem child_born (w : World) (k r b l h p : Nat) (d x n : Int) (x0 x1 : Value) (hd0 : 0 ≤ d) (hd : d < 64) (H : Hd w k r b d) (L : Live w b l h p n (-1) x0 x1) (C : Cel w r x) :
    Calls Tryz.prog 27 #[.pointer (some ⟨k, 0, none⟩), .pointer none] w (BornPost w x) := by
  have k0 := H.k0
  have k2 := H.k2
  have hd' : ¬ d = 64 := by omega
  have HL := Lib.hid L
  have HH := Lib.hid H
  have HC := Lib.hid C
  clear L H C
  go_enter Tryz.func27, Tryz.ntmps27
  go_wp2_with fail
  refine (is_tok k _ _ k0).mono ?_
  rintro e w' ⟨rfl, rfl⟩
  go_wp2_with fail
  refine (made_any (d + 1) _).mono ?_
  rintro e w1 ⟨l', h', p', rfl, hs, hN, hK⟩
  have k1 := (HH.out.kept hK id).k1
  have k3 := (HH.out.kept hK id).k0
  have kz := (HH.out.kept hK id).lt
  have X6 := Lib.hid (HC.out.kept hK id)
  have X1 := Lib.hid hs
  have X2 := Lib.hid hN
  have X3 := Lib.hid hK
  have X4 := Lib.hid (HL.out.kept hK id id id id)
  clear hs hN hK k0 k2
  go_wp2_with fail
  refine (add_shut _ b l h p w1.heap.size n x0 x1 (X4.out.alloc _)).mono ?_
  rintro e w2 ⟨rfl, rfl⟩
  have X7 := Lib.hid (X6.out.kept ((Kept.refl (fun _ => False) _).alloc (.cells #[.pointer (some ⟨w.heap.size + 5, 0, none⟩), .nilFunc] 122)) id)
  go_wp2_with fail
  refine (load_free r x _ X7.out.c0 X7.out.c1).mono ?_
  rintro e w' ⟨rfl, rfl⟩
  go_wp2_with fail
  refine (born_new _ w.heap.size l' h' p' (d + 1) x (X2.out.kept ((Kept.refl (fun _ => False) _).alloc _) fun _ _ _ => id)).mono ?_
  rintro e w' ⟨rfl, H⟩
  have X5 := Lib.hid H
  clear H
  go_wp2_with fail
  go_ret2
  have hw := X5.out
  have kA : Kept (fun _ => False) w1 (w1.alloc (.cells #[.pointer (some ⟨w.heap.size + 5, 0, none⟩), .nilFunc] 122)) := (Kept.refl _ _).alloc _
  have N2 := X2.out.kept kA fun _ _ _ => id
  have sh := N2.sh
  have e5 := N2.hd.k0
  have sz := N2.size
  have hs := X1.out
  refine ⟨rfl, ?_, ?_, ?_, ?_⟩
  · rw [hw]; simp; omega
  · rw [hw, World.cell?_setCell_other _ _ _ _ (by simp; try omega), World.cell?_setCell_other _ _ _ _ (by simp; try omega)]; exact e5
  · rw [hw]; exact (N2.r.set x).far _ _ (by show w.heap.size ≠ h'; omega)
  · rw [hw]
    exact ((X3.out.trans kA).setCell _ (.inr (Nat.le_refl _)) _).setCell _ (.inr (by show w.heap.size ≤ h'; omega)) _

end Go.Proofs.YtkbcpifhbpfhlaaGreatDoor.Tk

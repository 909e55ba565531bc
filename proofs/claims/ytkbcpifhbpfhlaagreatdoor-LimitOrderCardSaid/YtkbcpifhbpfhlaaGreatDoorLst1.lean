/-
  Package list, a nil thread: New, none, what a list is.
-/
import Derived.Test.YtkbcpifhbpfhlaaGreatDoorCel
namespace Go.Proofs.YtkbcpifhbpfhlaaGreatDoor
open Go.RowKit

theorem Tryz.info187 : (Tryz.prog.info? 187).map (fun i => (i.zero, i.size, i.bytes)) = some (some (.pointer none), 1, 8) := by kernel_rfl

theorem lnone_made (b : Nat) (a : Addr) (w : World) (h1 : w.cell? ⟨b, 1, none⟩ = some (.pointer (some a))) :
    Calls Tryz.prog 74 #[.pointer (some ⟨b, 0, none⟩)] w fun e w' => e = .returned (.bool false) ∧ w' = w := by
  go_enter Tryz.func74, Tryz.ntmps74
  go_wp2
  go_ret
  exact ⟨rfl, rfl⟩

/-- A list of 64 places: its block b, its cells l (last, n) and h (head, hd), its row p, that begins with the places x0 and x1. -/
structure Live (w : World) (b l h p : Nat) (n hd : Int) (x0 x1 : Value) : Prop where
  lt : b < w.heap.size
  ne : b ≠ l ∧ b ≠ h ∧ b ≠ p ∧ l ≠ h ∧ l ≠ p ∧ h ≠ p
  b0 : w.cell? ⟨b, 0, none⟩ = some (.pointer (some ⟨l, 0, none⟩))
  b1 : w.cell? ⟨b, 1, none⟩ = some (.pointer (some ⟨h, 0, none⟩))
  b2 : w.cell? ⟨b, 2, none⟩ = some (.slice (some ⟨p, 0, none⟩) 64 64)
  l : Cel w l n
  h : Cel w h hd
  s0 : Slot w p 0 x0
  s1 : Slot w p 1 x1

theorem Live.kept {S : Nat → Prop} {w w' : World} {b l h p : Nat} {n hd : Int} {x0 x1 : Value} (L : Live w b l h p n hd x0 x1) (k : Kept S w w') (sb : ¬ S b) (sl : ¬ S l) (sh : ¬ S h) (sp : ¬ S p) : Live w' b l h p n hd x0 x1 :=
  ⟨Nat.lt_of_lt_of_le L.lt k.size, L.ne, (k.cell (p := ⟨b, 0, none⟩) L.lt sb).trans L.b0, (k.cell (p := ⟨b, 1, none⟩) L.lt sb).trans L.b1, (k.cell (p := ⟨b, 2, none⟩) L.lt sb).trans L.b2,
    L.l.kept k sl, L.h.kept k sh, L.s0.kept k sp, L.s1.kept k sp⟩

theorem Live.last {w : World} {b l h p : Nat} {n hd : Int} {x0 x1 : Value} (L : Live w b l h p n hd x0 x1) (m : Int) : Live (w.setCell ⟨l, 0, none⟩ (.int .i64 m)) b l h p m hd x0 x1 := by
  obtain ⟨n1, n2, n3, n4, n5, n6⟩ := L.ne
  have k : Kept (fun k => k = l) w (w.setCell ⟨l, 0, none⟩ (.int .i64 m)) := Kept.one w ⟨l, 0, none⟩ _
  exact ⟨Nat.lt_of_lt_of_le L.lt k.size, L.ne, (k.cell (p := ⟨b, 0, none⟩) L.lt n1).trans L.b0, (k.cell (p := ⟨b, 1, none⟩) L.lt n1).trans L.b1, (k.cell (p := ⟨b, 2, none⟩) L.lt n1).trans L.b2,
    L.l.set m, L.h.kept k (fun e => n4 e.symm), L.s0.kept k (fun e => n5 e.symm), L.s1.kept k (fun e => n5 e.symm)⟩

theorem Live.head {w : World} {b l h p : Nat} {n hd : Int} {x0 x1 : Value} (L : Live w b l h p n hd x0 x1) (m : Int) : Live (w.setCell ⟨h, 0, none⟩ (.int .i64 m)) b l h p n m x0 x1 := by
  obtain ⟨n1, n2, n3, n4, n5, n6⟩ := L.ne
  have k : Kept (fun k => k = h) w (w.setCell ⟨h, 0, none⟩ (.int .i64 m)) := Kept.one w ⟨h, 0, none⟩ _
  exact ⟨Nat.lt_of_lt_of_le L.lt k.size, L.ne, (k.cell (p := ⟨b, 0, none⟩) L.lt n2).trans L.b0, (k.cell (p := ⟨b, 1, none⟩) L.lt n2).trans L.b1, (k.cell (p := ⟨b, 2, none⟩) L.lt n2).trans L.b2,
    L.l.kept k n4, L.h.set m, L.s0.kept k (fun e => n6 e.symm), L.s1.kept k (fun e => n6 e.symm)⟩

theorem Live.first {w : World} {b l h p : Nat} {n hd : Int} {x0 x1 : Value} (L : Live w b l h p n hd x0 x1) (x : Value) : Live (w.setCell ⟨p, 0, none⟩ x) b l h p n hd x x1 := by
  obtain ⟨n1, n2, n3, n4, n5, n6⟩ := L.ne
  have k : Kept (fun k => k = p) w (w.setCell ⟨p, 0, none⟩ x) := Kept.one w ⟨p, 0, none⟩ _
  exact ⟨Nat.lt_of_lt_of_le L.lt k.size, L.ne, (k.cell (p := ⟨b, 0, none⟩) L.lt n3).trans L.b0, (k.cell (p := ⟨b, 1, none⟩) L.lt n3).trans L.b1, (k.cell (p := ⟨b, 2, none⟩) L.lt n3).trans L.b2,
    L.l.kept k n5, L.h.kept k n6, L.s0.set x, L.s1.beside x (by decide)⟩

theorem Live.second {w : World} {b l h p : Nat} {n hd : Int} {x0 x1 : Value} (L : Live w b l h p n hd x0 x1) (x : Value) : Live (w.setCell ⟨p, 1, none⟩ x) b l h p n hd x0 x := by
  obtain ⟨n1, n2, n3, n4, n5, n6⟩ := L.ne
  have k : Kept (fun k => k = p) w (w.setCell ⟨p, 1, none⟩ x) := Kept.one w ⟨p, 1, none⟩ _
  exact ⟨Nat.lt_of_lt_of_le L.lt k.size, L.ne, (k.cell (p := ⟨b, 0, none⟩) L.lt n3).trans L.b0, (k.cell (p := ⟨b, 1, none⟩) L.lt n3).trans L.b1, (k.cell (p := ⟨b, 2, none⟩) L.lt n3).trans L.b2,
    L.l.kept k n5, L.h.kept k n6, L.s0.beside x (by decide), L.s1.set x⟩

/-- What New leaves: four blocks, of which the last is the list. -/
structure Newl (w : World) (l h p : Nat) (w' : World) : Prop where
  size : w'.heap.size = w.heap.size + 4
  sl : w.heap.size ≤ l ∧ l < w.heap.size + 3
  sh : w.heap.size ≤ h ∧ h < w.heap.size + 3
  sp : w.heap.size ≤ p ∧ p < w.heap.size + 3
  ne : l ≠ h ∧ l ≠ p ∧ h ≠ p
  live : Live w' (w.heap.size + 3) l h p 0 0 (.pointer none) (.pointer none)
  kept : Kept (fun _ => False) w w'

def NewlPost (w : World) (e : Ending) (w' : World) : Prop := ∃ l h p : Nat, e = .returned (.pointer (some ⟨w.heap.size + 3, 0, none⟩)) ∧ Newl w l h p w'

theorem newl_of {w w' : World} {b l h p : Nat} (eb : b = w.heap.size + 3) (size : w'.heap.size = w.heap.size + 4) (sl : w.heap.size ≤ l ∧ l < w.heap.size + 3) (sh : w.heap.size ≤ h ∧ h < w.heap.size + 3) (sp : w.heap.size ≤ p ∧ p < w.heap.size + 3) (ne : l ≠ h ∧ l ≠ p ∧ h ≠ p)
    (cb : w'.heap[b]? = some (.cells #[.pointer (some ⟨l, 0, none⟩), .pointer (some ⟨h, 0, none⟩), .slice (some ⟨p, 0, none⟩) (64 : Nat) (64 : Nat)] 110))
    (cl : w'.heap[l]? = some (.cells #[.int .i64 0, .bool true, .int .i64 0, .int .i32 0, .int .u32 0, .chan none] 104))
    (ch : w'.heap[h]? = some (.cells #[.int .i64 0, .bool true, .int .i64 0, .int .i32 0, .int .u32 0, .chan none] 104))
    (cp : w'.heap[p]? = some (.cells (madeCells #[.pointer none] 64) 187)) (kept : Kept (fun _ => False) w w') : Newl w l h p w' := by
  subst eb
  refine ⟨size, sl, sh, sp, ne, ⟨by omega, ⟨by omega, by omega, by omega, ne.1, ne.2.1, ne.2.2⟩, ?_, ?_, ?_, ⟨?_, ?_, ?_, ?_, by omega⟩, ⟨?_, ?_, ?_, ?_, by omega⟩, ⟨?_, ?_, by omega⟩, ⟨?_, ?_, by omega⟩⟩, kept⟩
  all_goals first
    | (simp [World.cell?, cb]; done)
    | (simp [World.cell?, cl]; done)
    | (simp [World.cell?, ch]; done)
    | (simp [World.cell?, cp, madeCells]; done)
    | (simp [World.frozen?, cl]; done)
    | (simp [World.frozen?, ch]; done)
    | (simp [World.frozen?, cp]; done)

set_option maxHeartbeats 400000 in
theorem lnew_any (n : Nat) (h : n ≤ 4096) (h64 : Hid (n = 64)) (w : World) : Calls Tryz.prog 20 #[.int .i64 n] w (NewlPost w) := by
  have hmk := fun w => run_make_row' (P := Tryz.prog) 108 187 (.pointer none) 8 Tryz.underlying108 Tryz.info187 rfl .i64 .i64 n (by omega) (by omega) w
  have h0 : ¬ ((n : Int) < 0) := by omega
  have h1 : ¬ ((4096 : Int) < n) := by omega
  go_enter Tryz.func20, Tryz.ntmps20
  go_wp2_with fail
  go_region_with (go_at_call 18; refine (new_cell 0 _).mono ?_; rintro e w' ⟨rfl, rfl⟩)
  · go_wp2
    go_ret
    obtain rfl := h64.out
    refine ⟨w.heap.size, w.heap.size + 1, w.heap.size + 1 + 1, rfl, newl_of rfl (by simp) ⟨by omega, by omega⟩ ⟨by omega, by omega⟩ ⟨by omega, by omega⟩ ⟨by omega, by omega, by omega⟩ ?_ ?_ ?_ ?_ (((((Kept.refl _ _).alloc _).alloc _).alloc _).alloc _).drew⟩
    all_goals (refine block_drew_of ?_; repeat (first | (refine block_last _ _ _ ?_; (try simp) <;> omega) | (refine block_old _ _ _ ?_ ?_; ((try simp) <;> omega))))
  · go_wp2
    go_ret
    obtain rfl := h64.out
    refine ⟨w.heap.size, w.heap.size + 1 + 1, w.heap.size + 1, rfl, newl_of rfl (by simp) ⟨by omega, by omega⟩ ⟨by omega, by omega⟩ ⟨by omega, by omega⟩ ⟨by omega, by omega, by omega⟩ ?_ ?_ ?_ ?_ (((((Kept.refl _ _).alloc _).alloc _).alloc _).alloc _).drew⟩
    all_goals (refine block_drew_of ?_; repeat (first | (refine block_last _ _ _ ?_; (try simp) <;> omega) | (refine block_old _ _ _ ?_ ?_; ((try simp) <;> omega))))
  · go_wp2
    go_ret
    obtain rfl := h64.out
    refine ⟨w.heap.size + 1, w.heap.size + 1 + 1, w.heap.size, rfl, newl_of rfl (by simp) ⟨by omega, by omega⟩ ⟨by omega, by omega⟩ ⟨by omega, by omega⟩ ⟨by omega, by omega, by omega⟩ ?_ ?_ ?_ ?_ (((((Kept.refl _ _).alloc _).alloc _).alloc _).alloc _).drew⟩
    all_goals (refine block_drew_of ?_; repeat (first | (refine block_last _ _ _ ?_; (try simp) <;> omega) | (refine block_old _ _ _ ?_ ?_; ((try simp) <;> omega))))

theorem lnew_made (w : World) : Calls Tryz.prog 20 #[.int .i64 64] w (NewlPost w) := lnew_any 64 (by decide) rfl w

end Go.Proofs.YtkbcpifhbpfhlaaGreatDoor

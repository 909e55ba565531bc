/-
  Package list, a nil thread: a place is put on; Add.
-/
import Derived.Test.YtkbcpifhbpfhlaaGreatDoorLst1
namespace Go.Proofs.YtkbcpifhbpfhlaaGreatDoor
open Go.RowKit

theorem Live.alloc {w : World} {b l h p : Nat} {n hd : Int} {x0 x1 : Value} (L : Live w b l h p n hd x0 x1) (o : Obj) : Live (w.alloc o) b l h p n hd x0 x1 :=
  L.kept (S := fun _ => False) ((Kept.refl _ w).alloc o) id id id id

theorem Live.drew {w : World} {b l h p : Nat} {n hd : Int} {x0 x1 : Value} (L : Live w b l h p n hd x0 x1) : Live w.drew b l h p n hd x0 x1 :=
  L.kept (S := fun _ => False) (Kept.refl _ w).drew id id id id

/-- A statement of an exit where no panic is let. -/
def Calm (Q : Exit → Act → World → Prop) : Exit → Act → World → Prop
  | .panic _, _, _ => False
  | e, a, w => Q e a w

theorem calm_le {Q : Exit → Act → World → Prop} (e : Exit) (a : Act) (w : World) (h : Calm Q e a w) : Q e a w := by
  cases e <;> first | exact h | exact h.elim

theorem calm_normal {Q : Exit → Act → World → Prop} {a : Act} {w : World} (h : Q .normal a w) : Calm Q .normal a w := h

/-- What putting a place on leaves: a new place, known to the head. -/
def PutPost (w : World) (b l h p g : Nat) (n k hd : Int) (x0 x1 : Value) : Ending → World → Prop := fun e w' =>
  e = .returned (.bool true) ∧ w'.heap.size = w.heap.size + 4 ∧ Live w' b l h p n k x0 x1 ∧ Two w' (w.heap.size + 3) (.pointer (some ⟨g, 0, none⟩)) (.int .i64 hd) ∧ Kept (fun c => c = h ∨ c = p) w w'

theorem later_on (b : Nat) (a1 a2 : Addr) (u : FrameMode) (w : World) (h0 : w.cell? ⟨b, 0, none⟩ = some (.bool true)) :
    CallsD Tryz.prog 102 #[.pointer (some ⟨b, 0, none⟩), .pointer (some a1), .pointer (some a2)] u w fun e u' w' => u' = u ∧ (e = .returned (.tuple #[]) ∧ w' = w) := by
  go_enter_d Tryz.func102, Tryz.ntmps102
  go_wp2
  first | go_end0 | refine bodyPost_ret (results_none rfl _ _ _) rfl ?_
  exact ⟨rfl, rfl⟩

set_option maxRecDepth 100000 in
set_option maxHeartbeats 800000 in
theorem put_1 (w : World) (b l h p g : Nat) (x1 : Value) (L : Live w b l h p 1 0 (.pointer none) x1) :
    Calls Tryz.prog 76 #[.pointer (some ⟨b, 0, none⟩), .pointer none, .int .i64 1, .pointer (some ⟨g, 0, none⟩), .int .i64 0] w (PutPost w b l h p g 1 1 0 (.pointer (some ⟨w.heap.size + 3, 0, none⟩)) x1) := by
  have hmf : ∀ (fn : Fn) (first cap : Array Value) (w : World), (Instr.makeFunc fn first cap).run Tryz.prog w = .ok (.func fn first cap) w := fun _ _ _ _ => rfl
  have b0 := L.b0
  have b1 := L.b1
  have b2 := L.b2
  have h0 := L.h.c0
  have h1 := L.h.c1
  have h2 := L.h.c2
  have hf := L.h.fr
  have p0 := L.s0.c
  have p1 := L.s1.c
  have f0 := L.s0.fr
  have f1 := L.s1.fr
  have lt1 := L.lt
  have lt3 := L.h.lt
  have lt4 := L.s0.lt
  obtain ⟨n1, n2, n3, n4, n5, n6⟩ := L.ne
  have a1 : b < w.heap.size + 1 := by omega
  have a2 : b < w.heap.size + 1 + 1 := by omega
  have a3 : b < w.heap.size + 1 + 1 + 1 := by omega
  have c1 : h < w.heap.size + 1 := by omega
  have c2 : h < w.heap.size + 1 + 1 := by omega
  have c3 : h < w.heap.size + 1 + 1 + 1 := by omega
  have d1 : p < w.heap.size + 1 := by omega
  have d2 : p < w.heap.size + 1 + 1 := by omega
  have d3 : p < w.heap.size + 1 + 1 + 1 := by omega
  go_enter_defers Tryz.func76, Tryz.ntmps76
  go_wp2_with fail
  go_region
  go_wp2_with fail
  refine wp_loop_rounds 1 ?_
  rw [rounds_succ]
  go_wp2_with fail
  refine Code.wp_mono calm_le ?_
  go_region_with (go_at_call 32; refine (cas_hit h 0 1 _ ?_ ?_ ?_ ?_).mono ?_; go_simp; go_simp; go_simp; go_simp; rintro e w' ⟨rfl, rfl⟩)
  all_goals
    refine calm_normal ?_
    go_wp2_with fail
    refine leaves_cons (f := 102) (args := #[.pointer (some ⟨w.heap.size + 1 + 1, 0, none⟩), .pointer (some ⟨w.heap.size, 0, none⟩), .pointer (some ⟨w.heap.size + 1, 0, none⟩)]) (by simp) (by simp [go_sem]) ?_
    refine (later_on _ _ _ _ _ (by go_simp)).mono ?_
    rintro e u' w'' ⟨rfl, rfl, rfl⟩
    refine ⟨.bool true, by simp [results, Tryz.results76, go_sem], ?_⟩
    refine ⟨rfl, by simp, ?_, ⟨by go_simp, by go_simp, by go_simp, by go_simp, by simp⟩, ?_⟩
    · exact ((((((L.first _).head _).alloc _).alloc _).alloc _).alloc _).drew.drew
    · exact (((((((Kept.refl _ _).setCell (p := ⟨p, 0, none⟩) (.inl (.inr rfl)) _).setCell (p := ⟨h, 0, none⟩) (.inl (.inl rfl)) _).alloc _).alloc _).alloc _).alloc _).drew.drew

set_option maxRecDepth 100000 in
set_option maxHeartbeats 800000 in
theorem put_2 (w : World) (b l h p g : Nat) (x0 : Value) (L : Live w b l h p 2 1 x0 (.pointer none)) :
    Calls Tryz.prog 76 #[.pointer (some ⟨b, 0, none⟩), .pointer none, .int .i64 2, .pointer (some ⟨g, 0, none⟩), .int .i64 1] w (PutPost w b l h p g 2 2 1 x0 (.pointer (some ⟨w.heap.size + 3, 0, none⟩))) := by
  have hmf : ∀ (fn : Fn) (first cap : Array Value) (w : World), (Instr.makeFunc fn first cap).run Tryz.prog w = .ok (.func fn first cap) w := fun _ _ _ _ => rfl
  have b0 := L.b0
  have b1 := L.b1
  have b2 := L.b2
  have h0 := L.h.c0
  have h1 := L.h.c1
  have h2 := L.h.c2
  have hf := L.h.fr
  have p0 := L.s0.c
  have p1 := L.s1.c
  have f0 := L.s0.fr
  have f1 := L.s1.fr
  have lt1 := L.lt
  have lt3 := L.h.lt
  have lt4 := L.s0.lt
  obtain ⟨n1, n2, n3, n4, n5, n6⟩ := L.ne
  have a1 : b < w.heap.size + 1 := by omega
  have a2 : b < w.heap.size + 1 + 1 := by omega
  have a3 : b < w.heap.size + 1 + 1 + 1 := by omega
  have c1 : h < w.heap.size + 1 := by omega
  have c2 : h < w.heap.size + 1 + 1 := by omega
  have c3 : h < w.heap.size + 1 + 1 + 1 := by omega
  have d1 : p < w.heap.size + 1 := by omega
  have d2 : p < w.heap.size + 1 + 1 := by omega
  have d3 : p < w.heap.size + 1 + 1 + 1 := by omega
  go_enter_defers Tryz.func76, Tryz.ntmps76
  go_wp2_with fail
  go_region
  go_wp2_with fail
  refine wp_loop_rounds 1 ?_
  rw [rounds_succ]
  go_wp2_with fail
  refine Code.wp_mono calm_le ?_
  go_region_with (go_at_call 32; refine (cas_hit h 1 2 _ ?_ ?_ ?_ ?_).mono ?_; go_simp; go_simp; go_simp; go_simp; rintro e w' ⟨rfl, rfl⟩)
  all_goals
    refine calm_normal ?_
    go_wp2_with fail
    refine leaves_cons (f := 102) (args := #[.pointer (some ⟨w.heap.size + 1 + 1, 0, none⟩), .pointer (some ⟨w.heap.size, 0, none⟩), .pointer (some ⟨w.heap.size + 1, 0, none⟩)]) (by simp) (by simp [go_sem]) ?_
    refine (later_on _ _ _ _ _ (by go_simp)).mono ?_
    rintro e u' w'' ⟨rfl, rfl, rfl⟩
    refine ⟨.bool true, by simp [results, Tryz.results76, go_sem], ?_⟩
    refine ⟨rfl, by simp, ?_, ⟨by go_simp, by go_simp, by go_simp, by go_simp, by simp⟩, ?_⟩
    · exact ((((((L.second _).head _).alloc _).alloc _).alloc _).alloc _).drew.drew
    · exact (((((((Kept.refl _ _).setCell (p := ⟨p, 1, none⟩) (.inl (.inr rfl)) _).setCell (p := ⟨h, 0, none⟩) (.inl (.inl rfl)) _).alloc _).alloc _).alloc _).alloc _).drew.drew

theorem inc_1 (b : Nat) (w : World) (C : Cel w b 0) :
    Calls Tryz.prog 75 #[.pointer (some ⟨b, 0, none⟩), .pointer none, .int .i64 1] w fun e w' => e = .returned (.int .i64 1) ∧ w' = w.setCell ⟨b, 0, none⟩ (.int .i64 1) := by
  have e : wrap64 ((0 : Int) + 1) = 1 := by unfold wrap64; omega
  have h := add_free b 0 1 w C.c0 C.c1 C.c2 C.fr
  rwa [e] at h

theorem inc_2 (b : Nat) (w : World) (C : Cel w b 1) :
    Calls Tryz.prog 75 #[.pointer (some ⟨b, 0, none⟩), .pointer none, .int .i64 1] w fun e w' => e = .returned (.int .i64 2) ∧ w' = w.setCell ⟨b, 0, none⟩ (.int .i64 2) := by
  have e : wrap64 ((1 : Int) + 1) = 2 := by unfold wrap64; omega
  have h := add_free b 1 1 w C.c0 C.c1 C.c2 C.fr
  rwa [e] at h

/-- What an Add that puts a place on leaves. -/
def AddPost (w : World) (b l h p g : Nat) (k hd : Int) (x0 x1 : Value) : Ending → World → Prop := fun e w' =>
  e = .returned (.tuple #[.int .i64 k, .int .i64 0]) ∧ w'.heap.size = w.heap.size + 4 ∧ Live w' b l h p k k x0 x1 ∧ Two w' (w.heap.size + 3) (.pointer (some ⟨g, 0, none⟩)) (.int .i64 hd) ∧ Kept (fun c => c = l ∨ c = h ∨ c = p) w w'

set_option maxRecDepth 100000 in
set_option maxHeartbeats 800000 in
theorem add_1 (w : World) (b l h p g : Nat) (x1 : Value) (L : Live w b l h p 0 0 (.pointer none) x1) :
    Calls Tryz.prog 46 #[.pointer (some ⟨b, 0, none⟩), .pointer none, .pointer (some ⟨g, 0, none⟩)] w (AddPost w b l h p g 1 0 (.pointer (some ⟨w.heap.size + 3, 0, none⟩)) x1) := by
  have b0 := L.b0
  have b1 := L.b1
  have b2 := L.b2
  have h0 := L.h.c0
  have h1 := L.h.c1
  obtain ⟨n1, n2, n3, n4, n5, n6⟩ := L.ne
  have m1 : l ≠ b := fun e => n1 e.symm
  have hsz : Hid ((w.setCell ⟨l, 0, none⟩ (.int .i64 1)).heap.size = w.heap.size) := by show _ = _; simp
  have HP := Lib.hid (put_1 (w.setCell ⟨l, 0, none⟩ (.int .i64 1)) b l h p g x1 (L.last 1))
  have HI := Lib.hid (inc_1 l w L.l)
  clear L
  go_enter Tryz.func46, Tryz.ntmps46
  go_wp2_with fail
  refine (lnone_made b ⟨h, 0, none⟩ _ b1).mono ?_
  rintro e w' ⟨rfl, rfl⟩
  go_wp2_with fail
  refine (load_free h 0 _ h0 h1).mono ?_
  rintro e w' ⟨rfl, rfl⟩
  go_wp2_with fail
  refine HI.out.mono ?_
  rintro e w' ⟨rfl, rfl⟩
  go_wp2_with fail
  refine HP.out.mono ?_
  rintro e w' ⟨rfl, H⟩
  have X : Hid _ := H
  clear H
  go_wp2_with fail
  go_ret2
  obtain ⟨g1, g2, g3, g4⟩ := X
  rw [hsz] at g1 g2 g3
  refine ⟨rfl, g1, g2, g3, ?_⟩
  exact ((Kept.refl _ _).setCell (p := ⟨l, 0, none⟩) (.inl (.inl rfl)) _).trans (g4.mono fun k _ => .inr)

set_option maxRecDepth 100000 in
set_option maxHeartbeats 800000 in
theorem add_2 (w : World) (b l h p g : Nat) (x0 : Value) (L : Live w b l h p 1 1 x0 (.pointer none)) :
    Calls Tryz.prog 46 #[.pointer (some ⟨b, 0, none⟩), .pointer none, .pointer (some ⟨g, 0, none⟩)] w (AddPost w b l h p g 2 1 x0 (.pointer (some ⟨w.heap.size + 3, 0, none⟩))) := by
  have b0 := L.b0
  have b1 := L.b1
  have b2 := L.b2
  have h0 := L.h.c0
  have h1 := L.h.c1
  obtain ⟨n1, n2, n3, n4, n5, n6⟩ := L.ne
  have m1 : l ≠ b := fun e => n1 e.symm
  have hsz : Hid ((w.setCell ⟨l, 0, none⟩ (.int .i64 2)).heap.size = w.heap.size) := by show _ = _; simp
  have HP := Lib.hid (put_2 (w.setCell ⟨l, 0, none⟩ (.int .i64 2)) b l h p g x0 (L.last 2))
  have HI := Lib.hid (inc_2 l w L.l)
  clear L
  go_enter Tryz.func46, Tryz.ntmps46
  go_wp2_with fail
  refine (lnone_made b ⟨h, 0, none⟩ _ b1).mono ?_
  rintro e w' ⟨rfl, rfl⟩
  go_wp2_with fail
  refine (load_free h 1 _ h0 h1).mono ?_
  rintro e w' ⟨rfl, rfl⟩
  go_wp2_with fail
  refine HI.out.mono ?_
  rintro e w' ⟨rfl, rfl⟩
  go_wp2_with fail
  refine HP.out.mono ?_
  rintro e w' ⟨rfl, H⟩
  have X : Hid _ := H
  clear H
  go_wp2_with fail
  go_ret2
  obtain ⟨g1, g2, g3, g4⟩ := X
  rw [hsz] at g1 g2 g3
  refine ⟨rfl, g1, g2, g3, ?_⟩
  exact ((Kept.refl _ _).setCell (p := ⟨l, 0, none⟩) (.inl (.inl rfl)) _).trans (g4.mono fun k _ => .inr)

theorem add_shut (w : World) (b l h p g : Nat) (n : Int) (x0 x1 : Value) (L : Live w b l h p n (-1) x0 x1) :
    Calls Tryz.prog 46 #[.pointer (some ⟨b, 0, none⟩), .pointer none, .pointer (some ⟨g, 0, none⟩)] w fun e w' => e = .returned (.tuple #[.int .i64 0, .int .i64 13]) ∧ w' = w := by
  have b1 := L.b1
  have h0 := L.h.c0
  have h1 := L.h.c1
  clear L
  go_enter Tryz.func46, Tryz.ntmps46
  go_wp2_with (first
    | (go_at_call 74; refine (lnone_made b ⟨h, 0, none⟩ _ b1).mono ?_; rintro e w' ⟨rfl, rfl⟩)
    | (go_at_call 37; refine (load_free h (-1) _ h0 h1).mono ?_; rintro e w' ⟨rfl, rfl⟩))
  go_ret2
  exact ⟨rfl, rfl⟩

end Go.Proofs.YtkbcpifhbpfhlaaGreatDoor

/-
  Package list, a nil thread: a place is put on.
-/
import Derived.Test.YtcklfdlkgohgiaaList1
import Derived.StillTailTactics
import Derived.RegionTactic
import Derived.LoopTactic
import Derived.Deep.RegionWith
import Derived.Laws.NewBlocks
namespace Go.Proofs.Ytcklfdlkgohgiaa
open Go.RowKit

/-- A list of two places: its block b, its cells l (last, n) and h (head, hd), its row p of the places x0 and x1; all of them lie from B on. -/
structure Live (w : World) (B b l h p : Nat) (n hd : Int) (x0 x1 : Value) : Prop where
  ge : B ≤ b ∧ B ≤ l ∧ B ≤ h ∧ B ≤ p
  lt : b < w.heap.size ∧ l < w.heap.size ∧ h < w.heap.size ∧ p < w.heap.size
  ne : b ≠ l ∧ b ≠ h ∧ b ≠ p ∧ l ≠ h ∧ l ≠ p ∧ h ≠ p
  b0 : w.cell? ⟨b, 0, none⟩ = some (.pointer (some ⟨l, 0, none⟩))
  b1 : w.cell? ⟨b, 1, none⟩ = some (.pointer (some ⟨h, 0, none⟩))
  b2 : w.cell? ⟨b, 2, none⟩ = some (.slice (some ⟨p, 0, none⟩) 2 2)
  l0 : w.cell? ⟨l, 0, none⟩ = some (.int .i64 n)
  l1 : w.cell? ⟨l, 1, none⟩ = some (.bool true)
  l2 : w.cell? ⟨l, 2, none⟩ = some (.int .i64 0)
  lf : w.frozen? ⟨l, 0, none⟩ = false
  h0 : w.cell? ⟨h, 0, none⟩ = some (.int .i64 hd)
  h1 : w.cell? ⟨h, 1, none⟩ = some (.bool true)
  h2 : w.cell? ⟨h, 2, none⟩ = some (.int .i64 0)
  hf : w.frozen? ⟨h, 0, none⟩ = false
  p0 : w.cell? ⟨p, 0, none⟩ = some x0
  p1 : w.cell? ⟨p, 1, none⟩ = some x1
  f0 : w.frozen? ⟨p, 0, none⟩ = false
  f1 : w.frozen? ⟨p, 1, none⟩ = false

/-- A statement of an exit where no panic is let. -/
def Calm (Q : Exit → Act → World → Prop) : Exit → Act → World → Prop
  | .panic _, _, _ => False
  | e, a, w => Q e a w

theorem calm_le {Q : Exit → Act → World → Prop} (e : Exit) (a : Act) (w : World) (h : Calm Q e a w) : Q e a w := by
  cases e <;> first | exact h | exact h.elim

theorem calm_normal {Q : Exit → Act → World → Prop} {a : Act} {w : World} (h : Q .normal a w) : Calm Q .normal a w := h

theorem put_live0 {w : World} {B b l h p : Nat} {n hd : Int} {x0 x1 : Value} (L : Live w B b l h p n hd x0 x1) (k : Int) (x : Value) (o1 o2 o3 o4 : Obj) :
    Live ((((((w.setCell ⟨p, 0, none⟩ x).setCell ⟨h, 0, none⟩ (.int .i64 k)).alloc o1).alloc o2).alloc o3).alloc o4).drew.drew B b l h p n k x x1 := by
  have b0 := L.b0
  have b1 := L.b1
  have b2 := L.b2
  have l0 := L.l0
  have l1 := L.l1
  have l2 := L.l2
  have lf := L.lf
  have h0 := L.h0
  have h1 := L.h1
  have h2 := L.h2
  have hf := L.hf
  have p0 := L.p0
  have p1 := L.p1
  have f0 := L.f0
  have f1 := L.f1
  obtain ⟨lt1, lt2, lt3, lt4⟩ := L.lt
  obtain ⟨n1, n2, n3, n4, n5, n6⟩ := L.ne
  have a1 : b < w.heap.size + 1 := by omega
  have a2 : b < w.heap.size + 1 + 1 := by omega
  have a3 : b < w.heap.size + 1 + 1 + 1 := by omega
  have c1 : h < w.heap.size + 1 := by omega
  have c2 : h < w.heap.size + 1 + 1 := by omega
  have c3 : h < w.heap.size + 1 + 1 + 1 := by omega
  have d1 : p < w.heap.size + 1 := by omega
  have d2 : p < w.heap.size + 1 + 1 := by omega
  have d3 : p < w.heap.size + 1 + 1 + 1 := by omega
  have e1 : l < w.heap.size + 1 := by omega
  have e2 : l < w.heap.size + 1 + 1 := by omega
  have e3 : l < w.heap.size + 1 + 1 + 1 := by omega
  have m6 : p ≠ h := fun e => n6 e.symm
  refine ⟨L.ge, ?_, L.ne, ?_, ?_, ?_, ?_, ?_, ?_, ?_, ?_, ?_, ?_, ?_, ?_, ?_, ?_, ?_⟩
  · simp; omega
  all_goals go_simp

theorem put_live1 {w : World} {B b l h p : Nat} {n hd : Int} {x0 x1 : Value} (L : Live w B b l h p n hd x0 x1) (k : Int) (x : Value) (o1 o2 o3 o4 : Obj) :
    Live ((((((w.setCell ⟨p, 1, none⟩ x).setCell ⟨h, 0, none⟩ (.int .i64 k)).alloc o1).alloc o2).alloc o3).alloc o4).drew.drew B b l h p n k x0 x := by
  have b0 := L.b0
  have b1 := L.b1
  have b2 := L.b2
  have l0 := L.l0
  have l1 := L.l1
  have l2 := L.l2
  have lf := L.lf
  have h0 := L.h0
  have h1 := L.h1
  have h2 := L.h2
  have hf := L.hf
  have p0 := L.p0
  have p1 := L.p1
  have f0 := L.f0
  have f1 := L.f1
  obtain ⟨lt1, lt2, lt3, lt4⟩ := L.lt
  obtain ⟨n1, n2, n3, n4, n5, n6⟩ := L.ne
  have a1 : b < w.heap.size + 1 := by omega
  have a2 : b < w.heap.size + 1 + 1 := by omega
  have a3 : b < w.heap.size + 1 + 1 + 1 := by omega
  have c1 : h < w.heap.size + 1 := by omega
  have c2 : h < w.heap.size + 1 + 1 := by omega
  have c3 : h < w.heap.size + 1 + 1 + 1 := by omega
  have d1 : p < w.heap.size + 1 := by omega
  have d2 : p < w.heap.size + 1 + 1 := by omega
  have d3 : p < w.heap.size + 1 + 1 + 1 := by omega
  have e1 : l < w.heap.size + 1 := by omega
  have e2 : l < w.heap.size + 1 + 1 := by omega
  have e3 : l < w.heap.size + 1 + 1 + 1 := by omega
  have m6 : p ≠ h := fun e => n6 e.symm
  refine ⟨L.ge, ?_, L.ne, ?_, ?_, ?_, ?_, ?_, ?_, ?_, ?_, ?_, ?_, ?_, ?_, ?_, ?_, ?_⟩
  · simp; omega
  all_goals go_simp

theorem put_far (w : World) (p j h c i : Nat) (k x : Value) (o1 o2 o3 o4 : Obj) (hc : c < w.heap.size) (nh : c ≠ h) (np : c ≠ p) :
    ((((((w.setCell ⟨p, j, none⟩ x).setCell ⟨h, 0, none⟩ k).alloc o1).alloc o2).alloc o3).alloc o4).drew.drew.cell? ⟨c, i, none⟩ = w.cell? ⟨c, i, none⟩ := by
  have a1 : c < w.heap.size + 1 := by omega
  have a2 : c < w.heap.size + 1 + 1 := by omega
  have a3 : c < w.heap.size + 1 + 1 + 1 := by omega
  have m1 : h ≠ c := fun e => nh e.symm
  have m2 : p ≠ c := fun e => np e.symm
  go_simp

/-- What putting a place on leaves: a new place q, known to the head. -/
def PutPost (w : World) (B b l h p : Nat) (n k v hd : Int) (x0 x1 : Nat → Value) : Ending → World → Prop := fun e w' =>
  ∃ q : Nat, e = .returned (.bool true) ∧ (w.heap.size ≤ q ∧ q < w'.heap.size) ∧ Live w' B b l h p n k (x0 q) (x1 q) ∧
    w'.cell? ⟨q, 0, none⟩ = some (.int .i64 v) ∧ w'.cell? ⟨q, 1, none⟩ = some (.int .i64 hd) ∧ Below B w w' ∧
    ∀ c i, c < w.heap.size → c ≠ h → c ≠ p → w'.cell? ⟨c, i, none⟩ = w.cell? ⟨c, i, none⟩

theorem later_on (b : Nat) (a1 a2 : Addr) (u : FrameMode) (w : World) (h0 : w.cell? ⟨b, 0, none⟩ = some (.bool true)) :
    CallsD Try.prog 23 #[.pointer (some ⟨b, 0, none⟩), .pointer (some a1), .pointer (some a2)] u w fun e u' w' => u' = u ∧ (e = .returned (.tuple #[]) ∧ w' = w) := by
  go_enter_d Try.func23, Try.ntmps23
  go_wp2
  first | go_end0 | refine bodyPost_ret (results_none rfl _ _ _) rfl ?_
  exact ⟨rfl, rfl⟩

set_option maxRecDepth 100000 in
set_option maxHeartbeats 800000 in
theorem put_1 (v : Int) (w : World) (B b l h p : Nat) (L : Live w B b l h p 1 0 (.pointer none) (.pointer none)) (hB : B ≤ w.heap.size) :
    Calls Try.prog 13 #[.pointer (some ⟨b, 0, none⟩), .pointer none, .int .i64 1, .int .i64 v, .int .i64 0] w (PutPost w B b l h p 1 1 v 0 (fun q => .pointer (some ⟨q, 0, none⟩)) (fun _ => .pointer none)) := by
  have hmf : ∀ (fn : Fn) (first cap : Array Value) (w : World), (Instr.makeFunc fn first cap).run Try.prog w = .ok (.func fn first cap) w := fun _ _ _ _ => rfl
  have b0 := L.b0
  have b1 := L.b1
  have b2 := L.b2
  have l0 := L.l0
  have l1 := L.l1
  have l2 := L.l2
  have lf := L.lf
  have h0 := L.h0
  have h1 := L.h1
  have h2 := L.h2
  have hf := L.hf
  have p0 := L.p0
  have p1 := L.p1
  have f0 := L.f0
  have f1 := L.f1
  obtain ⟨lt1, lt2, lt3, lt4⟩ := L.lt
  obtain ⟨n1, n2, n3, n4, n5, n6⟩ := L.ne
  have a1 : b < w.heap.size + 1 := by omega
  have a2 : b < w.heap.size + 1 + 1 := by omega
  have a3 : b < w.heap.size + 1 + 1 + 1 := by omega
  have c1 : h < w.heap.size + 1 := by omega
  have c2 : h < w.heap.size + 1 + 1 := by omega
  have c3 : h < w.heap.size + 1 + 1 + 1 := by omega
  have d1 : p < w.heap.size + 1 := by omega
  have d2 : p < w.heap.size + 1 + 1 := by omega
  have d3 : p < w.heap.size + 1 + 1 + 1 := by omega
  have e1 : l < w.heap.size + 1 := by omega
  have e2 : l < w.heap.size + 1 + 1 := by omega
  have e3 : l < w.heap.size + 1 + 1 + 1 := by omega
  go_enter_defers Try.func13, Try.ntmps13
  go_wp2_with fail
  go_region
  go_wp2_with fail
  refine wp_loop_rounds 1 ?_
  rw [rounds_succ]
  go_wp2_with fail
  refine Code.wp_mono calm_le ?_
  go_region_with (go_at_call 24; refine (cas_hit h 0 1 _ ?_ ?_ ?_ ?_).mono ?_; go_simp; go_simp; go_simp; go_simp; rintro e w' ⟨rfl, rfl⟩)
  all_goals
    refine calm_normal ?_
    go_wp2_with fail
    refine leaves_cons (f := 23) (args := #[.pointer (some ⟨w.heap.size + 1 + 1, 0, none⟩), .pointer (some ⟨w.heap.size, 0, none⟩), .pointer (some ⟨w.heap.size + 1, 0, none⟩)]) (by simp) (by simp [go_sem]) ?_
    refine (later_on _ _ _ _ _ (by go_simp)).mono ?_
    rintro e u' w'' ⟨rfl, rfl, rfl⟩
    refine ⟨.bool true, by simp [results, Try.results13, go_sem], ?_⟩
    refine ⟨w.heap.size + 1 + 1 + 1, rfl, ⟨by omega, by simp⟩, put_live0 L 1 _ _ _ _ _, by go_simp, by go_simp, ?_, fun c i hc nh np => put_far w p 0 h c i _ _ _ _ _ _ hc nh np⟩
    exact ((((((((Below.refl _ _).setCell L.ge.2.2.2 _).setCell L.ge.2.2.1 _).alloc (by simp; omega) _).alloc (by simp; omega) _).alloc (by simp; omega) _).alloc (by simp; omega) _).drew).drew

set_option maxRecDepth 100000 in
set_option maxHeartbeats 800000 in
theorem put_2 (v : Int) (w : World) (B b l h p q0 : Nat) (L : Live w B b l h p 2 1 (.pointer (some ⟨q0, 0, none⟩)) (.pointer none)) (hB : B ≤ w.heap.size) :
    Calls Try.prog 13 #[.pointer (some ⟨b, 0, none⟩), .pointer none, .int .i64 2, .int .i64 v, .int .i64 1] w (PutPost w B b l h p 2 2 v 1 (fun _ => .pointer (some ⟨q0, 0, none⟩)) (fun q => .pointer (some ⟨q, 0, none⟩))) := by
  have hmf : ∀ (fn : Fn) (first cap : Array Value) (w : World), (Instr.makeFunc fn first cap).run Try.prog w = .ok (.func fn first cap) w := fun _ _ _ _ => rfl
  have b0 := L.b0
  have b1 := L.b1
  have b2 := L.b2
  have l0 := L.l0
  have l1 := L.l1
  have l2 := L.l2
  have lf := L.lf
  have h0 := L.h0
  have h1 := L.h1
  have h2 := L.h2
  have hf := L.hf
  have p0 := L.p0
  have p1 := L.p1
  have f0 := L.f0
  have f1 := L.f1
  obtain ⟨lt1, lt2, lt3, lt4⟩ := L.lt
  obtain ⟨n1, n2, n3, n4, n5, n6⟩ := L.ne
  have a1 : b < w.heap.size + 1 := by omega
  have a2 : b < w.heap.size + 1 + 1 := by omega
  have a3 : b < w.heap.size + 1 + 1 + 1 := by omega
  have c1 : h < w.heap.size + 1 := by omega
  have c2 : h < w.heap.size + 1 + 1 := by omega
  have c3 : h < w.heap.size + 1 + 1 + 1 := by omega
  have d1 : p < w.heap.size + 1 := by omega
  have d2 : p < w.heap.size + 1 + 1 := by omega
  have d3 : p < w.heap.size + 1 + 1 + 1 := by omega
  have e1 : l < w.heap.size + 1 := by omega
  have e2 : l < w.heap.size + 1 + 1 := by omega
  have e3 : l < w.heap.size + 1 + 1 + 1 := by omega
  go_enter_defers Try.func13, Try.ntmps13
  go_wp2_with fail
  go_region
  go_wp2_with fail
  refine wp_loop_rounds 1 ?_
  rw [rounds_succ]
  go_wp2_with fail
  refine Code.wp_mono calm_le ?_
  go_region_with (go_at_call 24; refine (cas_hit h 1 2 _ ?_ ?_ ?_ ?_).mono ?_; go_simp; go_simp; go_simp; go_simp; rintro e w' ⟨rfl, rfl⟩)
  all_goals
    refine calm_normal ?_
    go_wp2_with fail
    refine leaves_cons (f := 23) (args := #[.pointer (some ⟨w.heap.size + 1 + 1, 0, none⟩), .pointer (some ⟨w.heap.size, 0, none⟩), .pointer (some ⟨w.heap.size + 1, 0, none⟩)]) (by simp) (by simp [go_sem]) ?_
    refine (later_on _ _ _ _ _ (by go_simp)).mono ?_
    rintro e u' w'' ⟨rfl, rfl, rfl⟩
    refine ⟨.bool true, by simp [results, Try.results13, go_sem], ?_⟩
    refine ⟨w.heap.size + 1 + 1 + 1, rfl, ⟨by omega, by simp⟩, put_live1 L 2 _ _ _ _ _, by go_simp, by go_simp, ?_, fun c i hc nh np => put_far w p 1 h c i _ _ _ _ _ _ hc nh np⟩
    exact ((((((((Below.refl _ _).setCell L.ge.2.2.2 _).setCell L.ge.2.2.1 _).alloc (by simp; omega) _).alloc (by simp; omega) _).alloc (by simp; omega) _).alloc (by simp; omega) _).drew).drew

end Go.Proofs.Ytcklfdlkgohgiaa

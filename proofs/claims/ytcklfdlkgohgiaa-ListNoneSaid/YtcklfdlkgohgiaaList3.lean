/-
  Package list, a nil thread: the row of two values that were put on.
-/
import Derived.Test.YtcklfdlkgohgiaaList2
namespace Go.Proofs.Ytcklfdlkgohgiaa
open Go.RowKit

theorem Try.info2 : (Try.prog.info? 2).map (fun i => (i.zero, i.size, i.bytes)) = some (some (.int .i64 0), 1, 8) := by kernel_rfl

/-- Two cells of one row turned about. -/
def RevPost (w : World) (g : Nat) (u v : Value) : Ending → World → Prop := fun e w' =>
  e = .returned (.tuple #[]) ∧ w'.cell? ⟨g, 0, none⟩ = some v ∧ w'.cell? ⟨g, 1, none⟩ = some u ∧ Below g w w' ∧ w'.heap.size = w.heap.size

set_option maxRecDepth 100000 in
set_option maxHeartbeats 800000 in
theorem rev_two (g cap : Nat) (u v : Int) (w : World) (c0 : w.cell? ⟨g, 0, none⟩ = some (.int .i64 u)) (c1 : w.cell? ⟨g, 1, none⟩ = some (.int .i64 v))
    (f0 : w.frozen? ⟨g, 0, none⟩ = false) (f1 : w.frozen? ⟨g, 1, none⟩ = false) :
    Calls Try.prog 26 #[.slice (some ⟨g, 0, none⟩) 2 cap] w (RevPost w g (.int .i64 u) (.int .i64 v)) := by
  go_enter Try.func26, Try.ntmps26
  go_wp2_with fail
  refine wp_loop_rounds 2 ?_
  rw [rounds_succ]
  go_wp2_with fail
  go_region
  all_goals
    go_wp2_with fail
    rw [rounds_succ]
    go_wp2_with fail
    go_end0
    refine ⟨rfl, ?_, ?_, ?_, ?_⟩
    · go_simp
    · go_simp
    · first
        | exact (((Below.refl _ _).setCell (p := ⟨g, 0, none⟩) (Nat.le_refl _) _).setCell (p := ⟨g, 1, none⟩) (Nat.le_refl _) _).drew
        | exact (((Below.refl _ _).setCell (p := ⟨g, 1, none⟩) (Nat.le_refl _) _).setCell (p := ⟨g, 0, none⟩) (Nat.le_refl _) _).drew
    · simp

/-- The row of two values. -/
def RowPost (w : World) (u v : Int) : Ending → World → Prop := fun e w' =>
  ∃ g cap : Nat, e = .returned (.slice (some ⟨g, 0, none⟩) 2 cap) ∧ w.heap.size ≤ g ∧ g < w'.heap.size ∧ w'.cell? ⟨g, 0, none⟩ = some (.int .i64 u) ∧ w'.cell? ⟨g, 1, none⟩ = some (.int .i64 v) ∧ Below w.heap.size w w'

theorem bcells {B : Nat} {W w1 : World} (hb : Below B W w1) : (∀ b o, b < B → w1.cell? ⟨b, o, none⟩ = W.cell? ⟨b, o, none⟩) ∧ (∀ b o, b < B → w1.frozen? ⟨b, o, none⟩ = W.frozen? ⟨b, o, none⟩) :=
  ⟨fun b o h => hb.cell (p := ⟨b, o, none⟩) h, fun b o h => hb.frozen (p := ⟨b, o, none⟩) h⟩

set_option maxRecDepth 100000 in
set_option maxHeartbeats 1000000 in
theorem row_two (w : World) (B b l h p q0 q1 : Nat) (n hd x0 x1 : Int) (L : Live w B b l h p n hd (.pointer (some ⟨q0, 0, none⟩)) (.pointer (some ⟨q1, 0, none⟩)))
    (s0 : q0 < w.heap.size) (s1 : q1 < w.heap.size) (c0 : w.cell? ⟨q0, 0, none⟩ = some (.int .i64 x0)) (c1 : w.cell? ⟨q0, 1, none⟩ = some (.int .i64 0))
    (d0 : w.cell? ⟨q1, 0, none⟩ = some (.int .i64 x1)) (d1 : w.cell? ⟨q1, 1, none⟩ = some (.int .i64 1)) :
    Calls Try.prog 15 #[.pointer (some ⟨b, 0, none⟩), .int .i64 2] w (RowPost w x0 x1) := by
  obtain ⟨i0, hi, hz0, hz1, hz2⟩ := info_parts Try.info2
  have b2 := L.b2
  have p0 := L.p0
  have p1 := L.p1
  obtain ⟨lt1, lt2, lt3, lt4⟩ := L.lt
  have a1 : b < w.heap.size + 1 := by omega
  have a2 : p < w.heap.size + 1 := by omega
  have a3 : q0 < w.heap.size + 1 := by omega
  have a4 : q1 < w.heap.size + 1 := by omega
  go_enter Try.func15, Try.ntmps15
  go_wp2_with fail
  refine wp_loop_rounds 3 ?_
  rw [rounds_succ]
  go_wp2_with (at_builtin; go_loud (refine wpList_append_own _ rfl _ _ 31 rfl w.heap.size 2 i0 (.int .i64 0) 1 8 Try.underlying31 hi hz0 hz1 hz2 rfl (by decide) _ _ _ rfl (World.ownsRow_nil _ _ _ _) ⟨w.heap.size, 0, none⟩ 1 1 [.int .i64 x1] rfl rfl ?c1 ?c2 ?c3 ?c4 ?c5 ?_))
  case c1 =>
    intro j u hj
    match j, hj with
    | 0, hj => simp at hj; subst hj; simp [Addr.add]
  case c2 => intro u hu; simp at hu; subst hu; rfl
  case c3 => simp [maxLen]
  case c4 => simp
  case c5 => simp
  intro v' w1 hown' hgrow _
  replace hown' : w1.ownsRow w.heap.size 2 1 v' 1 [.int .i64 x1] := hown'
  have hb1 : Below w.heap.size w w1 := ((Below.refl _ _).alloc (Nat.le_refl _) _).grown hgrow (by simp) (by intro k hk; cases hk)
  have hgt : w.heap.size < w1.heap.size := by have := hgrow.size; simp at this; omega
  have b2' := (hb1.cell (p := ⟨b, 2, none⟩) lt1).trans b2
  have p0' := (hb1.cell (p := ⟨p, 0, none⟩) lt4).trans p0
  have d1' := (hb1.cell (p := ⟨q1, 1, none⟩) s1).trans d1
  have c0' := (hb1.cell (p := ⟨q0, 0, none⟩) s0).trans c0
  go_wp2_with fail
  rw [rounds_succ]
  go_wp2_with (at_builtin; go_loud (refine wpList_append_own _ rfl _ _ 31 rfl w.heap.size 2 i0 (.int .i64 0) 1 8 Try.underlying31 hi hz0 hz1 hz2 rfl (by decide) _ _ _ rfl (hown'.alloc _) ⟨w1.heap.size, 0, none⟩ 1 1 [.int .i64 x0] rfl rfl ?c6 ?c7 ?c8 ?c9 ?c10 ?_))
  case c6 =>
    intro j u hj
    match j, hj with
    | 0, hj => simp at hj; subst hj; simp [Addr.add]
  case c7 => intro u hu; simp at hu; subst hu; rfl
  case c8 => simp [maxLen]
  case c9 => simp
  case c10 => simp; omega
  intro v2 w2 hown2 hgrow2 _
  replace hown2 : w2.ownsRow w.heap.size 2 1 v2 2 [.int .i64 x1, .int .i64 x0] := hown2
  have hb2 : Below w.heap.size w w2 := (hb1.alloc (Nat.le_of_lt hgt) _).grown hgrow2 (by simp; omega) (fun k hk => (hown'.lt k hk).1)
  have c1' := (hb2.cell (p := ⟨q0, 1, none⟩) s0).trans c1
  have hex : ∃ g cap : Nat, v2 = .slice (some ⟨g, 0, none⟩) 2 cap ∧ w.heap.size ≤ g ∧ g < w2.heap.size := by
    rcases hown2.2 with ⟨_, h⟩ | ⟨g, cap, cur, hv, hg, hgg, _⟩
    · cases h
    · exact ⟨g, cap, hv, hg, (Array.getElem?_eq_some_iff.1 hgg).1⟩
  obtain ⟨g, cap, rfl, hg1, hg2⟩ := hex
  have e0 : w2.cell? ⟨g, 0, none⟩ = some (.int .i64 x1) := hown2.cellAt 0 (by decide)
  have e1 : w2.cell? ⟨g, 1, none⟩ = some (.int .i64 x0) := hown2.cellAt 1 (by decide)
  have f0 : w2.frozen? ⟨g, 0, none⟩ = false := hown2.frozenAt 0
  have f1 : w2.frozen? ⟨g, 1, none⟩ = false := hown2.frozenAt 1
  clear hown2 hgrow2
  go_wp2_with fail
  rw [rounds_succ]
  go_wp2_with fail
  refine (rev_two g cap x1 x0 _ e0 e1 f0 f1).mono ?_
  rintro e w3 ⟨rfl, r0, r1, rb, rs⟩
  go_wp2_with fail
  go_ret
  exact ⟨g, cap, rfl, hg1, by omega, r0, r1, hb2.trans (rb.mono hg1)⟩

end Go.Proofs.Ytcklfdlkgohgiaa

/-
  Package list, a nil thread: the row of what was put on; Close.
-/
import Derived.Test.YtfbanlpmkfgpjaaGreatDoorLsf2
namespace Go.Proofs.YtfbanlpmkfgpjaaGreatDoor
open Go.RowKit

theorem Tryz.info52 : (Tryz.prog.info? 52).map (fun i => (i.zero, i.size, i.bytes)) = some (some (.pointer none), 1, 8) := by kernel_rfl

theorem rev_none (w : World) : Calls Tryz.prog 95 #[.slice none 0 0] w fun e w' => e = .returned (.tuple #[]) ∧ w' = w := by
  go_enter Tryz.func95, Tryz.ntmps95
  go_wp2_with fail
  refine wp_loop_rounds 1 ?_
  rw [rounds_succ]
  go_wp2_with fail
  go_end0
  exact ⟨rfl, rfl⟩

/-- The first and the third cell of one row turned about. -/
def RevPost (w : World) (g : Nat) (u v : Value) : Ending → World → Prop := fun e w' =>
  e = .returned (.tuple #[]) ∧ w'.cell? ⟨g, 0, none⟩ = some v ∧ w'.cell? ⟨g, 2, none⟩ = some u ∧ w'.cell? ⟨g, 1, none⟩ = w.cell? ⟨g, 1, none⟩ ∧ Kept (fun c => c = g) w w' ∧ w'.heap.size = w.heap.size

set_option maxRecDepth 100000 in
set_option maxHeartbeats 800000 in
theorem rev_three (g cap a b : Nat) (w : World) (c0 : w.cell? ⟨g, 0, none⟩ = some (.pointer (some ⟨a, 0, none⟩))) (c2 : w.cell? ⟨g, 2, none⟩ = some (.pointer (some ⟨b, 0, none⟩)))
    (f0 : w.frozen? ⟨g, 0, none⟩ = false) (f2 : w.frozen? ⟨g, 2, none⟩ = false) :
    Calls Tryz.prog 95 #[.slice (some ⟨g, 0, none⟩) 3 cap] w (RevPost w g (.pointer (some ⟨a, 0, none⟩)) (.pointer (some ⟨b, 0, none⟩))) := by
  go_enter Tryz.func95, Tryz.ntmps95
  go_wp2_with fail
  refine wp_loop_rounds 2 ?_
  rw [rounds_succ]
  go_wp2_with fail
  go_region
  all_goals
    go_wp2_with fail
    rw [rounds_succ]
    go_wp2_with fail
    go_end0
    refine ⟨rfl, ?_, ?_, ?_, ?_, ?_⟩
    · go_simp
    · go_simp
    · go_simp
    · first
        | exact (((Kept.refl (fun c => c = g) _).setCell (p := ⟨g, 0, none⟩) (.inl rfl) _).setCell (p := ⟨g, 2, none⟩) (.inl rfl) _).drew
        | exact (((Kept.refl (fun c => c = g) _).setCell (p := ⟨g, 2, none⟩) (.inl rfl) _).setCell (p := ⟨g, 0, none⟩) (.inl rfl) _).drew
    · simp

/-- Nothing but new blocks. -/
def NonePost (w : World) : Ending → World → Prop := fun e w' => e = .returned (.slice none 0 0) ∧ w' = w

def ThreePost (w : World) (u0 u1 u2 : Nat) : Ending → World → Prop := fun e w' =>
  ∃ g cap : Nat, e = .returned (.slice (some ⟨g, 0, none⟩) 3 cap) ∧ w.heap.size ≤ g ∧ w'.cell? ⟨g, 0, none⟩ = some (.pointer (some ⟨u0, 0, none⟩)) ∧ w'.cell? ⟨g, 1, none⟩ = some (.pointer (some ⟨u1, 0, none⟩)) ∧ w'.cell? ⟨g, 2, none⟩ = some (.pointer (some ⟨u2, 0, none⟩)) ∧ g < w'.heap.size ∧ Kept (fun _ => False) w w'

theorem row_none (b : Nat) (w : World) : Calls Tryz.prog 85 #[.pointer (some ⟨b, 0, none⟩), .int .i64 0] w (NonePost w) := by
  go_enter Tryz.func85, Tryz.ntmps85
  go_wp2_with fail
  refine wp_loop_rounds 1 ?_
  rw [rounds_succ]
  go_wp2_with fail
  refine (rev_none _).mono ?_
  rintro e w' ⟨rfl, rfl⟩
  go_wp2_with fail
  go_ret
  exact ⟨rfl, rfl⟩

set_option maxRecDepth 100000 in
set_option maxHeartbeats 1000000 in
theorem row_three (w : World) (b l h p q0 q1 q2 u0 u1 u2 : Nat) (n hd : Int) (x : Nat → Value) (L : Live w b l h p n hd x) (x0 : x 0 = .pointer (some ⟨q0, 0, none⟩)) (x1 : x 1 = .pointer (some ⟨q1, 0, none⟩)) (x2 : x 2 = .pointer (some ⟨q2, 0, none⟩))
    (Q0 : Two w q0 (.pointer (some ⟨u0, 0, none⟩)) (.int .i64 0)) (Q1 : Two w q1 (.pointer (some ⟨u1, 0, none⟩)) (.int .i64 1)) (Q2 : Two w q2 (.pointer (some ⟨u2, 0, none⟩)) (.int .i64 2)) :
    Calls Tryz.prog 85 #[.pointer (some ⟨b, 0, none⟩), .int .i64 3] w (ThreePost w u0 u1 u2) := by
  obtain ⟨i0, hi, hz0, hz1, hz2⟩ := info_parts Tryz.info52
  have b2 := L.b2
  have p0 := (L.s 0 (by decide)).c
  have p1 := (L.s 1 (by decide)).c
  have p2 := (L.s 2 (by decide)).c
  rw [x0] at p0
  rw [x1] at p1
  rw [x2] at p2
  have lt1 := L.lt
  have lt4 := (L.s 0 (by decide)).lt
  have c0 := Q0.c0
  have c1 := Q0.c1
  have s0 := Q0.lt
  have d0 := Q1.c0
  have d1 := Q1.c1
  have s1 := Q1.lt
  have e0 := Q2.c0
  have e1 := Q2.c1
  have s2 := Q2.lt
  have a1 : b < w.heap.size + 1 := by omega
  have a2 : p < w.heap.size + 1 := by omega
  have a3 : q0 < w.heap.size + 1 := by omega
  have a4 : q1 < w.heap.size + 1 := by omega
  have a5 : q2 < w.heap.size + 1 := by omega
  clear L Q0 Q1 Q2 x0 x1 x2
  go_enter Tryz.func85, Tryz.ntmps85
  go_wp2_with fail
  refine wp_loop_rounds 4 ?_
  rw [rounds_succ]
  go_wp2_with (at_builtin; go_loud (refine wpList_append_own _ rfl _ _ 148 rfl w.heap.size 52 i0 (.pointer none) 1 8 Tryz.underlying148 hi hz0 hz1 hz2 rfl (by decide) _ _ _ rfl (World.ownsRow_nil _ _ _ _) ⟨w.heap.size, 0, none⟩ 1 1 [.pointer (some ⟨u2, 0, none⟩)] rfl rfl ?c1 ?c2 ?c3 ?c4 ?c5 ?_))
  case c1 =>
    intro j u hj
    match j, hj with
    | 0, hj => simp at hj; subst hj; simp [Addr.add]
  case c2 => intro u hu; simp at hu; subst hu; rfl
  case c3 => simp [maxLen]
  case c4 => simp
  case c5 => simp
  intro v' w1 hown' hgrow _
  replace hown' : w1.ownsRow w.heap.size 52 1 v' 1 [.pointer (some ⟨u2, 0, none⟩)] := hown'
  have hb1 : Below w.heap.size w w1 := ((Below.refl _ _).alloc (Nat.le_refl _) _).grown hgrow (by simp) (by intro k hk; cases hk)
  have hgt : w.heap.size < w1.heap.size := by have := hgrow.size; simp at this; omega
  have b2' := (hb1.cell (p := ⟨b, 2, none⟩) lt1).trans b2
  have p0' := (hb1.cell (p := ⟨p, 0, none⟩) lt4).trans p0
  have p1' := (hb1.cell (p := ⟨p, 1, none⟩) lt4).trans p1
  have e1' := (hb1.cell (p := ⟨q2, 1, none⟩) s2).trans e1
  have d0' := (hb1.cell (p := ⟨q1, 0, none⟩) s1).trans d0
  clear b2 p2 e0 e1
  go_wp2_with fail
  rw [rounds_succ]
  go_wp2_with (at_builtin; go_loud (refine wpList_append_own _ rfl _ _ 148 rfl w.heap.size 52 i0 (.pointer none) 1 8 Tryz.underlying148 hi hz0 hz1 hz2 rfl (by decide) _ _ _ rfl (hown'.alloc _) ⟨w1.heap.size, 0, none⟩ 1 1 [.pointer (some ⟨u1, 0, none⟩)] rfl rfl ?c6 ?c7 ?c8 ?c9 ?c10 ?_))
  case c6 =>
    intro j u hj
    match j, hj with
    | 0, hj => simp at hj; subst hj; simp [Addr.add]
  case c7 => intro u hu; simp at hu; subst hu; rfl
  case c8 => simp [maxLen]
  case c9 => simp
  case c10 => simp; omega
  intro v2 w2 hown2 hgrow2 _
  replace hown2 : w2.ownsRow w.heap.size 52 1 v2 2 [.pointer (some ⟨u2, 0, none⟩), .pointer (some ⟨u1, 0, none⟩)] := hown2
  have hb2 : Below w.heap.size w w2 := (hb1.alloc (Nat.le_of_lt hgt) _).grown hgrow2 (by simp; omega) (fun k hk => (hown'.lt k hk).1)
  have hgt2 : w.heap.size < w2.heap.size := by have := hgrow2.size; simp at this; omega
  have b2 := (hb2.cell (p := ⟨b, 2, none⟩) lt1).trans ((hb1.cell (p := ⟨b, 2, none⟩) lt1).symm.trans b2')
  have p0 := (hb2.cell (p := ⟨p, 0, none⟩) lt4).trans ((hb1.cell (p := ⟨p, 0, none⟩) lt4).symm.trans p0')
  have d1 := (hb2.cell (p := ⟨q1, 1, none⟩) s1).trans d1
  have c0 := (hb2.cell (p := ⟨q0, 0, none⟩) s0).trans c0
  clear hown' hgrow b2' p0' p1' e1' d0' p1
  go_wp2_with fail
  rw [rounds_succ]
  go_wp2_with (at_builtin; go_loud (refine wpList_append_own _ rfl _ _ 148 rfl w.heap.size 52 i0 (.pointer none) 1 8 Tryz.underlying148 hi hz0 hz1 hz2 rfl (by decide) _ _ _ rfl (hown2.alloc _) ⟨w2.heap.size, 0, none⟩ 1 1 [.pointer (some ⟨u0, 0, none⟩)] rfl rfl ?c11 ?c12 ?c13 ?c14 ?c15 ?_))
  case c11 =>
    intro j u hj
    match j, hj with
    | 0, hj => simp at hj; subst hj; simp [Addr.add]
  case c12 => intro u hu; simp at hu; subst hu; rfl
  case c13 => simp [maxLen]
  case c14 => simp
  case c15 => simp; omega
  intro v3 w3 hown3 hgrow3 _
  replace hown3 : w3.ownsRow w.heap.size 52 1 v3 3 [.pointer (some ⟨u2, 0, none⟩), .pointer (some ⟨u1, 0, none⟩), .pointer (some ⟨u0, 0, none⟩)] := hown3
  have hb3 : Below w.heap.size w w3 := (hb2.alloc (Nat.le_of_lt hgt2) _).grown hgrow3 (by simp; omega) (fun k hk => (hown2.lt k hk).1)
  have c1' := (hb3.cell (p := ⟨q0, 1, none⟩) s0).trans c1
  have hex : ∃ g cap : Nat, v3 = .slice (some ⟨g, 0, none⟩) 3 cap ∧ w.heap.size ≤ g ∧ g < w3.heap.size := by
    rcases hown3.2 with ⟨_, h⟩ | ⟨g, cap, cur, hv, hg, hgg, _⟩
    · cases h
    · exact ⟨g, cap, hv, hg, (Array.getElem?_eq_some_iff.1 hgg).1⟩
  obtain ⟨g, cap, rfl, hg1, hg2⟩ := hex
  have e0 : w3.cell? ⟨g, 0, none⟩ = some (.pointer (some ⟨u2, 0, none⟩)) := hown3.cellAt 0 (by decide)
  have e1 : w3.cell? ⟨g, 1, none⟩ = some (.pointer (some ⟨u1, 0, none⟩)) := hown3.cellAt 1 (by decide)
  have e2 : w3.cell? ⟨g, 2, none⟩ = some (.pointer (some ⟨u0, 0, none⟩)) := hown3.cellAt 2 (by decide)
  have f0 : w3.frozen? ⟨g, 0, none⟩ = false := hown3.frozenAt 0
  have f2 : w3.frozen? ⟨g, 2, none⟩ = false := hown3.frozenAt 2
  clear hown2 hgrow2 hown3 hgrow3 b2 p0 d1 c0
  go_wp2_with fail
  rw [rounds_succ]
  go_wp2_with fail
  refine (rev_three g cap u2 u0 _ e0 e2 f0 f2).mono ?_
  rintro e w4 ⟨rfl, r0, r2, r1, rb, rs⟩
  go_wp2_with fail
  go_ret
  exact ⟨g, cap, rfl, hg1, r0, r1.trans e1, r2, by omega, Kept.ofBelow (hb3.trans (rb.below (B := w.heap.size) hb3.size fun k hk => by omega)) (Nat.le_refl _) _⟩

/-- What a Close leaves of an empty list. -/
theorem close_none (w : World) (b l h p : Nat) (n : Int) (x : Nat → Value) (L : Live w b l h p n 0 x) :
    Calls Tryz.prog 73 #[.pointer (some ⟨b, 0, none⟩), .pointer none] w fun e w' => e = .returned (.tuple #[.slice none 0 0, .int .i64 0]) ∧ w' = w.setCell ⟨h, 0, none⟩ (.int .i64 (-1)) := by
  have b1 := L.b1
  have h0 := L.h.c0
  have h1 := L.h.c1
  have h2 := L.h.c2
  have hf := L.h.fr
  clear L
  go_enter Tryz.func73, Tryz.ntmps73
  go_wp2_with fail
  refine (lnone_made b ⟨h, 0, none⟩ _ b1).mono ?_
  rintro e w' ⟨rfl, rfl⟩
  go_wp2_with fail
  refine (swap_free h 0 (-1) _ h0 h1 h2 hf).mono ?_
  rintro e w' ⟨rfl, rfl⟩
  go_wp2_with fail
  refine (row_none b _).mono ?_
  rintro e w' ⟨rfl, rfl⟩
  go_wp2_with fail
  go_ret2
  exact ⟨rfl, rfl⟩

/-- What a Close of a list of three leaves. -/
def CloseThree (w : World) (h u0 u1 u2 : Nat) : Ending → World → Prop := fun e w' =>
  ∃ g cap : Nat, e = .returned (.tuple #[.slice (some ⟨g, 0, none⟩) 3 cap, .int .i64 0]) ∧ w.heap.size ≤ g ∧ w'.cell? ⟨g, 0, none⟩ = some (.pointer (some ⟨u0, 0, none⟩)) ∧ w'.cell? ⟨g, 1, none⟩ = some (.pointer (some ⟨u1, 0, none⟩)) ∧ w'.cell? ⟨g, 2, none⟩ = some (.pointer (some ⟨u2, 0, none⟩)) ∧ g < w'.heap.size ∧ Kept (fun c => c = h) w w' ∧ Cel w' h (-1)

theorem close_three (w : World) (b l h p q0 q1 q2 u0 u1 u2 : Nat) (n : Int) (x : Nat → Value) (L : Live w b l h p n 3 x) (x0 : x 0 = .pointer (some ⟨q0, 0, none⟩)) (x1 : x 1 = .pointer (some ⟨q1, 0, none⟩)) (x2 : x 2 = .pointer (some ⟨q2, 0, none⟩))
    (Q0 : Two w q0 (.pointer (some ⟨u0, 0, none⟩)) (.int .i64 0)) (Q1 : Two w q1 (.pointer (some ⟨u1, 0, none⟩)) (.int .i64 1)) (Q2 : Two w q2 (.pointer (some ⟨u2, 0, none⟩)) (.int .i64 2)) (t0 : q0 ≠ h) (t1 : q1 ≠ h) (t2 : q2 ≠ h) :
    Calls Tryz.prog 73 #[.pointer (some ⟨b, 0, none⟩), .pointer none] w (CloseThree w h u0 u1 u2) := by
  have b1 := L.b1
  have h0 := L.h.c0
  have h1 := L.h.c1
  have h2 := L.h.c2
  have hf := L.h.fr
  have k : Kept (fun c => c = h) w (w.setCell ⟨h, 0, none⟩ (.int .i64 (-1))) := Kept.one w ⟨h, 0, none⟩ _
  have HK := Lib.hid k
  have HH := Lib.hid (L.h.set (-1))
  have HR := Lib.hid (row_three _ b l h p q0 q1 q2 u0 u1 u2 n (-1) x (L.head (-1)) x0 x1 x2 (Q0.kept k t0) (Q1.kept k t1) (Q2.kept k t2))
  clear L Q0 Q1 Q2 k x0 x1 x2
  go_enter Tryz.func73, Tryz.ntmps73
  go_wp2_with fail
  refine (lnone_made b ⟨h, 0, none⟩ _ b1).mono ?_
  rintro e w' ⟨rfl, rfl⟩
  go_wp2_with fail
  refine (swap_free h 3 (-1) _ h0 h1 h2 hf).mono ?_
  rintro e w' ⟨rfl, rfl⟩
  go_wp2_with fail
  refine HR.out.mono ?_
  rintro e w' ⟨g, cap, rfl, H⟩
  have X : Hid _ := H
  clear H
  go_wp2_with fail
  go_ret2
  obtain ⟨g1, g2, g2', g2'', g3, g4⟩ := X
  exact ⟨g, cap, rfl, Nat.le_trans HK.out.size g1, g2, g2', g2'', g3, HK.out.trans (g4.mono fun _ _ f => f.elim), HH.out.kept g4 id⟩

end Go.Proofs.YtfbanlpmkfgpjaaGreatDoor

/-
  Package list, a nil thread: the row of what was put on; Close.
-/
import Derived.Test.YtkbcpifhbpfhlaaGreatDoorLst2
namespace Go.Proofs.YtkbcpifhbpfhlaaGreatDoor
open Go.RowKit

theorem Tryz.info68 : (Tryz.prog.info? 68).map (fun i => (i.zero, i.size, i.bytes)) = some (some (.pointer none), 1, 8) := by kernel_rfl

theorem rev_none (w : World) : Calls Tryz.prog 120 #[.slice none 0 0] w fun e w' => e = .returned (.tuple #[]) ∧ w' = w := by
  go_enter Tryz.func120, Tryz.ntmps120
  go_wp2_with fail
  refine wp_loop_rounds 1 ?_
  rw [rounds_succ]
  go_wp2_with fail
  go_end0
  exact ⟨rfl, rfl⟩

theorem rev_one (g cap : Nat) (w : World) : Calls Tryz.prog 120 #[.slice (some ⟨g, 0, none⟩) 1 cap] w fun e w' => e = .returned (.tuple #[]) ∧ w' = w := by
  go_enter Tryz.func120, Tryz.ntmps120
  go_wp2_with fail
  refine wp_loop_rounds 1 ?_
  rw [rounds_succ]
  go_wp2_with fail
  go_end0
  exact ⟨rfl, rfl⟩

/-- Two cells of one row turned about. -/
def RevPost (w : World) (g : Nat) (u v : Value) : Ending → World → Prop := fun e w' =>
  e = .returned (.tuple #[]) ∧ w'.cell? ⟨g, 0, none⟩ = some v ∧ w'.cell? ⟨g, 1, none⟩ = some u ∧ Kept (fun c => c = g) w w' ∧ w'.heap.size = w.heap.size

set_option maxRecDepth 100000 in
set_option maxHeartbeats 800000 in
theorem rev_two (g cap a b : Nat) (w : World) (c0 : w.cell? ⟨g, 0, none⟩ = some (.pointer (some ⟨a, 0, none⟩))) (c1 : w.cell? ⟨g, 1, none⟩ = some (.pointer (some ⟨b, 0, none⟩)))
    (f0 : w.frozen? ⟨g, 0, none⟩ = false) (f1 : w.frozen? ⟨g, 1, none⟩ = false) :
    Calls Tryz.prog 120 #[.slice (some ⟨g, 0, none⟩) 2 cap] w (RevPost w g (.pointer (some ⟨a, 0, none⟩)) (.pointer (some ⟨b, 0, none⟩))) := by
  go_enter Tryz.func120, Tryz.ntmps120
  go_wp2_with fail
  refine wp_loop_rounds 2 ?_
  rw [rounds_succ]
  go_wp2_with fail
  go_region
  all_goals
    go_wp2_with fail
    rw [rounds_succ]
    go_wp2_with fail
    go_end0
    refine ⟨rfl, ?_, ?_, ?_, ?_⟩
    · go_simp
    · go_simp
    · first
        | exact (((Kept.refl (fun c => c = g) _).setCell (p := ⟨g, 0, none⟩) (.inl rfl) _).setCell (p := ⟨g, 1, none⟩) (.inl rfl) _).drew
        | exact (((Kept.refl (fun c => c = g) _).setCell (p := ⟨g, 1, none⟩) (.inl rfl) _).setCell (p := ⟨g, 0, none⟩) (.inl rfl) _).drew
    · simp

/-- Nothing but new blocks. -/
def NonePost (w : World) : Ending → World → Prop := fun e w' => e = .returned (.slice none 0 0) ∧ w' = w

def OnePost (w : World) (u : Nat) : Ending → World → Prop := fun e w' =>
  ∃ g cap : Nat, e = .returned (.slice (some ⟨g, 0, none⟩) 1 cap) ∧ w.heap.size ≤ g ∧ w'.cell? ⟨g, 0, none⟩ = some (.pointer (some ⟨u, 0, none⟩)) ∧ g < w'.heap.size ∧ Kept (fun _ => False) w w'

def TwoPost (w : World) (u v : Nat) : Ending → World → Prop := fun e w' =>
  ∃ g cap : Nat, e = .returned (.slice (some ⟨g, 0, none⟩) 2 cap) ∧ w.heap.size ≤ g ∧ w'.cell? ⟨g, 0, none⟩ = some (.pointer (some ⟨u, 0, none⟩)) ∧ w'.cell? ⟨g, 1, none⟩ = some (.pointer (some ⟨v, 0, none⟩)) ∧ g < w'.heap.size ∧ Kept (fun _ => False) w w'

theorem row_none (b : Nat) (w : World) : Calls Tryz.prog 111 #[.pointer (some ⟨b, 0, none⟩), .int .i64 0] w (NonePost w) := by
  go_enter Tryz.func111, Tryz.ntmps111
  go_wp2_with fail
  refine wp_loop_rounds 1 ?_
  rw [rounds_succ]
  go_wp2_with fail
  refine (rev_none _).mono ?_
  rintro e w' ⟨rfl, rfl⟩
  go_wp2_with fail
  go_ret
  exact ⟨rfl, rfl⟩

set_option maxRecDepth 100000 in
set_option maxHeartbeats 1000000 in
theorem row_one (w : World) (b l h p q0 u : Nat) (n hd : Int) (x1 : Value) (L : Live w b l h p n hd (.pointer (some ⟨q0, 0, none⟩)) x1) (Q0 : Two w q0 (.pointer (some ⟨u, 0, none⟩)) (.int .i64 0)) :
    Calls Tryz.prog 111 #[.pointer (some ⟨b, 0, none⟩), .int .i64 1] w (OnePost w u) := by
  obtain ⟨i0, hi, hz0, hz1, hz2⟩ := info_parts Tryz.info68
  have b2 := L.b2
  have p0 := L.s0.c
  have lt1 := L.lt
  have lt4 := L.s0.lt
  have c0 := Q0.c0
  have c1 := Q0.c1
  have s0 := Q0.lt
  have a1 : b < w.heap.size + 1 := by omega
  have a2 : p < w.heap.size + 1 := by omega
  have a3 : q0 < w.heap.size + 1 := by omega
  clear L Q0
  go_enter Tryz.func111, Tryz.ntmps111
  go_wp2_with fail
  refine wp_loop_rounds 2 ?_
  rw [rounds_succ]
  go_wp2_with (at_builtin; go_loud (refine wpList_append_own _ rfl _ _ 182 rfl w.heap.size 68 i0 (.pointer none) 1 8 Tryz.underlying182 hi hz0 hz1 hz2 rfl (by decide) _ _ _ rfl (World.ownsRow_nil _ _ _ _) ⟨w.heap.size, 0, none⟩ 1 1 [.pointer (some ⟨u, 0, none⟩)] rfl rfl ?c1 ?c2 ?c3 ?c4 ?c5 ?_))
  case c1 =>
    intro j u hj
    match j, hj with
    | 0, hj => simp at hj; subst hj; simp [Addr.add]
  case c2 => intro u hu; simp at hu; subst hu; rfl
  case c3 => simp [maxLen]
  case c4 => simp
  case c5 => simp
  intro v' w1 hown' hgrow _
  replace hown' : w1.ownsRow w.heap.size 68 1 v' 1 [.pointer (some ⟨u, 0, none⟩)] := hown'
  have hb1 : Below w.heap.size w w1 := ((Below.refl _ _).alloc (Nat.le_refl _) _).grown hgrow (by simp) (by intro k hk; cases hk)
  have c1' := (hb1.cell (p := ⟨q0, 1, none⟩) s0).trans c1
  have hex : ∃ g cap : Nat, v' = .slice (some ⟨g, 0, none⟩) 1 cap ∧ w.heap.size ≤ g ∧ g < w1.heap.size := by
    rcases hown'.2 with ⟨_, h⟩ | ⟨g, cap, cur, hv, hg, hgg, _⟩
    · cases h
    · exact ⟨g, cap, hv, hg, (Array.getElem?_eq_some_iff.1 hgg).1⟩
  obtain ⟨g, cap, rfl, hg1, hg2⟩ := hex
  have e0 : w1.cell? ⟨g, 0, none⟩ = some (.pointer (some ⟨u, 0, none⟩)) := hown'.cellAt 0 (by decide)
  clear hown' hgrow
  go_wp2_with fail
  rw [rounds_succ]
  go_wp2_with fail
  refine (rev_one g cap _).mono ?_
  rintro e w3 ⟨rfl, rfl⟩
  go_wp2_with fail
  go_ret
  exact ⟨g, cap, rfl, hg1, e0, hg2, Kept.ofBelow hb1 (Nat.le_refl _) _⟩

set_option maxRecDepth 100000 in
set_option maxHeartbeats 1000000 in
theorem row_two (w : World) (b l h p q0 q1 u v : Nat) (n hd : Int) (L : Live w b l h p n hd (.pointer (some ⟨q0, 0, none⟩)) (.pointer (some ⟨q1, 0, none⟩)))
    (Q0 : Two w q0 (.pointer (some ⟨u, 0, none⟩)) (.int .i64 0)) (Q1 : Two w q1 (.pointer (some ⟨v, 0, none⟩)) (.int .i64 1)) :
    Calls Tryz.prog 111 #[.pointer (some ⟨b, 0, none⟩), .int .i64 2] w (TwoPost w u v) := by
  obtain ⟨i0, hi, hz0, hz1, hz2⟩ := info_parts Tryz.info68
  have b2 := L.b2
  have p0 := L.s0.c
  have p1 := L.s1.c
  have lt1 := L.lt
  have lt4 := L.s0.lt
  have c0 := Q0.c0
  have c1 := Q0.c1
  have s0 := Q0.lt
  have d0 := Q1.c0
  have d1 := Q1.c1
  have s1 := Q1.lt
  have a1 : b < w.heap.size + 1 := by omega
  have a2 : p < w.heap.size + 1 := by omega
  have a3 : q0 < w.heap.size + 1 := by omega
  have a4 : q1 < w.heap.size + 1 := by omega
  clear L Q0 Q1
  go_enter Tryz.func111, Tryz.ntmps111
  go_wp2_with fail
  refine wp_loop_rounds 3 ?_
  rw [rounds_succ]
  go_wp2_with (at_builtin; go_loud (refine wpList_append_own _ rfl _ _ 182 rfl w.heap.size 68 i0 (.pointer none) 1 8 Tryz.underlying182 hi hz0 hz1 hz2 rfl (by decide) _ _ _ rfl (World.ownsRow_nil _ _ _ _) ⟨w.heap.size, 0, none⟩ 1 1 [.pointer (some ⟨v, 0, none⟩)] rfl rfl ?c1 ?c2 ?c3 ?c4 ?c5 ?_))
  case c1 =>
    intro j u hj
    match j, hj with
    | 0, hj => simp at hj; subst hj; simp [Addr.add]
  case c2 => intro u hu; simp at hu; subst hu; rfl
  case c3 => simp [maxLen]
  case c4 => simp
  case c5 => simp
  intro v' w1 hown' hgrow _
  replace hown' : w1.ownsRow w.heap.size 68 1 v' 1 [.pointer (some ⟨v, 0, none⟩)] := hown'
  have hb1 : Below w.heap.size w w1 := ((Below.refl _ _).alloc (Nat.le_refl _) _).grown hgrow (by simp) (by intro k hk; cases hk)
  have hgt : w.heap.size < w1.heap.size := by have := hgrow.size; simp at this; omega
  have b2' := (hb1.cell (p := ⟨b, 2, none⟩) lt1).trans b2
  have p0' := (hb1.cell (p := ⟨p, 0, none⟩) lt4).trans p0
  have d1' := (hb1.cell (p := ⟨q1, 1, none⟩) s1).trans d1
  have c0' := (hb1.cell (p := ⟨q0, 0, none⟩) s0).trans c0
  go_wp2_with fail
  rw [rounds_succ]
  go_wp2_with (at_builtin; go_loud (refine wpList_append_own _ rfl _ _ 182 rfl w.heap.size 68 i0 (.pointer none) 1 8 Tryz.underlying182 hi hz0 hz1 hz2 rfl (by decide) _ _ _ rfl (hown'.alloc _) ⟨w1.heap.size, 0, none⟩ 1 1 [.pointer (some ⟨u, 0, none⟩)] rfl rfl ?c6 ?c7 ?c8 ?c9 ?c10 ?_))
  case c6 =>
    intro j u hj
    match j, hj with
    | 0, hj => simp at hj; subst hj; simp [Addr.add]
  case c7 => intro u hu; simp at hu; subst hu; rfl
  case c8 => simp [maxLen]
  case c9 => simp
  case c10 => simp; omega
  intro v2 w2 hown2 hgrow2 _
  replace hown2 : w2.ownsRow w.heap.size 68 1 v2 2 [.pointer (some ⟨v, 0, none⟩), .pointer (some ⟨u, 0, none⟩)] := hown2
  have hb2 : Below w.heap.size w w2 := (hb1.alloc (Nat.le_of_lt hgt) _).grown hgrow2 (by simp; omega) (fun k hk => (hown'.lt k hk).1)
  have c1' := (hb2.cell (p := ⟨q0, 1, none⟩) s0).trans c1
  have hex : ∃ g cap : Nat, v2 = .slice (some ⟨g, 0, none⟩) 2 cap ∧ w.heap.size ≤ g ∧ g < w2.heap.size := by
    rcases hown2.2 with ⟨_, h⟩ | ⟨g, cap, cur, hv, hg, hgg, _⟩
    · cases h
    · exact ⟨g, cap, hv, hg, (Array.getElem?_eq_some_iff.1 hgg).1⟩
  obtain ⟨g, cap, rfl, hg1, hg2⟩ := hex
  have e0 : w2.cell? ⟨g, 0, none⟩ = some (.pointer (some ⟨v, 0, none⟩)) := hown2.cellAt 0 (by decide)
  have e1 : w2.cell? ⟨g, 1, none⟩ = some (.pointer (some ⟨u, 0, none⟩)) := hown2.cellAt 1 (by decide)
  have f0 : w2.frozen? ⟨g, 0, none⟩ = false := hown2.frozenAt 0
  have f1 : w2.frozen? ⟨g, 1, none⟩ = false := hown2.frozenAt 1
  clear hown2 hgrow2
  go_wp2_with fail
  rw [rounds_succ]
  go_wp2_with fail
  refine (rev_two g cap v u _ e0 e1 f0 f1).mono ?_
  rintro e w3 ⟨rfl, r0, r1, rb, rs⟩
  go_wp2_with fail
  go_ret
  exact ⟨g, cap, rfl, hg1, r0, r1, by omega, Kept.ofBelow (hb2.trans (rb.below (B := w.heap.size) hb2.size fun k hk => by omega)) (Nat.le_refl _) _⟩

/-- What a Close leaves of an empty list. -/
theorem close_none (w : World) (b l h p : Nat) (n : Int) (x0 x1 : Value) (L : Live w b l h p n 0 x0 x1) :
    Calls Tryz.prog 99 #[.pointer (some ⟨b, 0, none⟩), .pointer none] w fun e w' => e = .returned (.tuple #[.slice none 0 0, .int .i64 0]) ∧ w' = w.setCell ⟨h, 0, none⟩ (.int .i64 (-1)) := by
  have b1 := L.b1
  have h0 := L.h.c0
  have h1 := L.h.c1
  have h2 := L.h.c2
  have hf := L.h.fr
  clear L
  go_enter Tryz.func99, Tryz.ntmps99
  go_wp2_with fail
  refine (lnone_made b ⟨h, 0, none⟩ _ b1).mono ?_
  rintro e w' ⟨rfl, rfl⟩
  go_wp2_with fail
  refine (swap_free h 0 (-1) _ h0 h1 h2 hf).mono ?_
  rintro e w' ⟨rfl, rfl⟩
  go_wp2_with fail
  refine (row_none b _).mono ?_
  rintro e w' ⟨rfl, rfl⟩
  go_wp2_with fail
  go_ret2
  exact ⟨rfl, rfl⟩

/-- What a Close of a list of one leaves. -/
def CloseOne (w : World) (h u : Nat) : Ending → World → Prop := fun e w' =>
  ∃ g cap : Nat, e = .returned (.tuple #[.slice (some ⟨g, 0, none⟩) 1 cap, .int .i64 0]) ∧ w.heap.size ≤ g ∧ w'.cell? ⟨g, 0, none⟩ = some (.pointer (some ⟨u, 0, none⟩)) ∧ g < w'.heap.size ∧ Kept (fun c => c = h) w w' ∧ Cel w' h (-1)

def CloseTwo (w : World) (h u v : Nat) : Ending → World → Prop := fun e w' =>
  ∃ g cap : Nat, e = .returned (.tuple #[.slice (some ⟨g, 0, none⟩) 2 cap, .int .i64 0]) ∧ w.heap.size ≤ g ∧ w'.cell? ⟨g, 0, none⟩ = some (.pointer (some ⟨u, 0, none⟩)) ∧ w'.cell? ⟨g, 1, none⟩ = some (.pointer (some ⟨v, 0, none⟩)) ∧ g < w'.heap.size ∧ Kept (fun c => c = h) w w'

theorem close_one (w : World) (b l h p q0 u : Nat) (n : Int) (x1 : Value) (L : Live w b l h p n 1 (.pointer (some ⟨q0, 0, none⟩)) x1) (Q0 : Two w q0 (.pointer (some ⟨u, 0, none⟩)) (.int .i64 0)) (t0 : q0 ≠ h) :
    Calls Tryz.prog 99 #[.pointer (some ⟨b, 0, none⟩), .pointer none] w (CloseOne w h u) := by
  have b1 := L.b1
  have h0 := L.h.c0
  have h1 := L.h.c1
  have h2 := L.h.c2
  have hf := L.h.fr
  have k : Kept (fun c => c = h) w (w.setCell ⟨h, 0, none⟩ (.int .i64 (-1))) := Kept.one w ⟨h, 0, none⟩ _
  have HK := Lib.hid k
  have HH := Lib.hid (L.h.set (-1))
  have HR := Lib.hid (row_one _ b l h p q0 u n (-1) x1 (L.head (-1)) (Q0.kept k t0))
  clear L Q0 k
  go_enter Tryz.func99, Tryz.ntmps99
  go_wp2_with fail
  refine (lnone_made b ⟨h, 0, none⟩ _ b1).mono ?_
  rintro e w' ⟨rfl, rfl⟩
  go_wp2_with fail
  refine (swap_free h 1 (-1) _ h0 h1 h2 hf).mono ?_
  rintro e w' ⟨rfl, rfl⟩
  go_wp2_with fail
  refine HR.out.mono ?_
  rintro e w' ⟨g, cap, rfl, H⟩
  have X : Hid _ := H
  clear H
  go_wp2_with fail
  go_ret2
  obtain ⟨g1, g2, g3, g4⟩ := X
  exact ⟨g, cap, rfl, Nat.le_trans HK.out.size g1, g2, g3, HK.out.trans (g4.mono fun _ _ f => f.elim), HH.out.kept g4 id⟩

theorem close_two (w : World) (b l h p q0 q1 u v : Nat) (n : Int) (L : Live w b l h p n 2 (.pointer (some ⟨q0, 0, none⟩)) (.pointer (some ⟨q1, 0, none⟩))) (Q0 : Two w q0 (.pointer (some ⟨u, 0, none⟩)) (.int .i64 0)) (Q1 : Two w q1 (.pointer (some ⟨v, 0, none⟩)) (.int .i64 1)) (t0 : q0 ≠ h) (t1 : q1 ≠ h) :
    Calls Tryz.prog 99 #[.pointer (some ⟨b, 0, none⟩), .pointer none] w (CloseTwo w h u v) := by
  have b1 := L.b1
  have h0 := L.h.c0
  have h1 := L.h.c1
  have h2 := L.h.c2
  have hf := L.h.fr
  have k : Kept (fun c => c = h) w (w.setCell ⟨h, 0, none⟩ (.int .i64 (-1))) := Kept.one w ⟨h, 0, none⟩ _
  have HK := Lib.hid k
  have HR := Lib.hid (row_two _ b l h p q0 q1 u v n (-1) (L.head (-1)) (Q0.kept k t0) (Q1.kept k t1))
  clear L Q0 Q1 k
  go_enter Tryz.func99, Tryz.ntmps99
  go_wp2_with fail
  refine (lnone_made b ⟨h, 0, none⟩ _ b1).mono ?_
  rintro e w' ⟨rfl, rfl⟩
  go_wp2_with fail
  refine (swap_free h 2 (-1) _ h0 h1 h2 hf).mono ?_
  rintro e w' ⟨rfl, rfl⟩
  go_wp2_with fail
  refine HR.out.mono ?_
  rintro e w' ⟨g, cap, rfl, H⟩
  have X : Hid _ := H
  clear H
  go_wp2_with fail
  go_ret2
  obtain ⟨g1, g2, g2', g3, g4⟩ := X
  exact ⟨g, cap, rfl, Nat.le_trans HK.out.size g1, g2, g2', g3, HK.out.trans (g4.mono fun _ _ f => f.elim)⟩

end Go.Proofs.YtkbcpifhbpfhlaaGreatDoor

/-
  treadlelaw11.works, walked.
-/
import Derived.Test.YtjenckjodkmdkaaTok8
namespace Go.Proofs.Ytjenckjodkmdkaa
open Go.RowKit

/-- What Child leaves, where the new blocks begin at n. -/
def ChildAt (w : World) (n b l h p : Nat) (d : Int) (x1 : Value) : Ending → World → Prop := fun e w' =>
  ∃ l' h' p' : Nat, e = .returned (.tuple #[.pointer (some ⟨n + 5, 0, none⟩), .int .i64 0]) ∧ w'.heap.size = n + 11 ∧ New w' n l' h' p' (d + 1) ∧
    Live w' b l h p 1 1 (.pointer (some ⟨n + 10, 0, none⟩)) x1 ∧ Two w' (n + 10) (.pointer (some ⟨n + 6, 0, none⟩)) (.int .i64 0) ∧
    Two w' (n + 6) (.pointer (some ⟨n + 5, 0, none⟩)) .nilFunc ∧ Kept (fun c => c = l ∨ c = h ∨ c = p) w w'

theorem child_at (w : World) (n k r b l h p : Nat) (d : Int) (x1 : Value) (hn : w.heap.size = n) (hd0 : 0 ≤ d) (hd : d < 64) (H : Hd w k r b d) (L : Live w b l h p 0 0 (.pointer none) x1) :
    Calls Try.prog 6 #[.pointer (some ⟨k, 0, none⟩), .pointer none] w (ChildAt w n b l h p d x1) := by
  subst hn; exact child_takes w k r b l h p d x1 hd0 hd H L

def BornAt (w : World) (n : Nat) (x : Int) : Ending → World → Prop := fun e w' =>
  e = .returned (.tuple #[.pointer (some ⟨n + 5, 0, none⟩), .int .i64 0]) ∧ n + 6 ≤ w'.heap.size ∧ w'.cell? ⟨n + 5, 0, none⟩ = some (.pointer (some ⟨n, 0, none⟩)) ∧ Cel w' n x ∧ Kept (fun _ => False) w w'

theorem born_at (w : World) (m k r b l h p : Nat) (d x n : Int) (x0 x1 : Value) (hm : w.heap.size = m) (hd0 : 0 ≤ d) (hd : d < 64) (H : Hd w k r b d) (L : Live w b l h p n (-1) x0 x1) (C : Cel w r x) :
    Calls Try.prog 6 #[.pointer (some ⟨k, 0, none⟩), .pointer none] w (BornAt w m x) := by
  subst hm; exact child_born w k r b l h p d x n x0 x1 hd0 hd H L C

/-- The three tokens of works, ahead of its Cancels; s: where the blocks begin. -/
structure Three (w : World) (s la ha pa lb hb pb lc hc pc : Nat) (w3 : World) : Prop where
  size : w3.heap.size = s + 28
  rangeA : s + 1 ≤ la ∧ la < s + 4 ∧ s + 1 ≤ ha ∧ ha < s + 4 ∧ s + 1 ≤ pa ∧ pa < s + 4
  rangeB : s + 7 ≤ lb ∧ lb < s + 10 ∧ s + 7 ≤ hb ∧ hb < s + 10 ∧ s + 7 ≤ pb ∧ pb < s + 10
  hdA : Hd w3 (s + 5) s (s + 4) 0
  celA : Cel w3 s 0
  liveA : Live w3 (s + 4) la ha pa 1 1 (.pointer (some ⟨s + 16, 0, none⟩)) (.pointer none)
  placeA : Two w3 (s + 16) (.pointer (some ⟨s + 12, 0, none⟩)) (.int .i64 0)
  partA : Two w3 (s + 12) (.pointer (some ⟨s + 11, 0, none⟩)) .nilFunc
  hdB : Hd w3 (s + 11) (s + 6) (s + 10) 1
  celB : Cel w3 (s + 6) 0
  liveB : Live w3 (s + 10) lb hb pb 1 1 (.pointer (some ⟨s + 27, 0, none⟩)) (.pointer none)
  placeB : Two w3 (s + 27) (.pointer (some ⟨s + 23, 0, none⟩)) (.int .i64 0)
  partB : Two w3 (s + 23) (.pointer (some ⟨s + 22, 0, none⟩)) .nilFunc
  newC : New w3 (s + 17) lc hc pc 2
  kept : Kept (fun _ => False) w w3

theorem three_of {w w1 w2 w3 : World} {s la ha pa lb hb pb lc hc pc : Nat} (es : w.heap.size = s) (e1 : w1.heap.size = s + 6) (N1 : New w1 s la ha pa 0) (K1 : Kept (fun _ => False) w w1)
    (X2 : w2.heap.size = s + 6 + 11 ∧ New w2 (s + 6) lb hb pb (0 + 1) ∧ Live w2 (s + 4) la ha pa 1 1 (.pointer (some ⟨s + 6 + 10, 0, none⟩)) (.pointer none) ∧ Two w2 (s + 6 + 10) (.pointer (some ⟨s + 6 + 6, 0, none⟩)) (.int .i64 0) ∧ Two w2 (s + 6 + 6) (.pointer (some ⟨s + 6 + 5, 0, none⟩)) .nilFunc ∧ Kept (fun c => c = la ∨ c = ha ∨ c = pa) w1 w2)
    (X3 : w3.heap.size = s + 17 + 11 ∧ New w3 (s + 17) lc hc pc (1 + 1) ∧ Live w3 (s + 6 + 4) lb hb pb 1 1 (.pointer (some ⟨s + 17 + 10, 0, none⟩)) (.pointer none) ∧ Two w3 (s + 17 + 10) (.pointer (some ⟨s + 17 + 6, 0, none⟩)) (.int .i64 0) ∧ Two w3 (s + 17 + 6) (.pointer (some ⟨s + 17 + 5, 0, none⟩)) .nilFunc ∧ Kept (fun c => c = lb ∨ c = hb ∨ c = pb) w2 w3) :
    Three w s la ha pa lb hb pb lc hc pc w3 := by
  obtain ⟨z2, N2, L2, Q2, U2, K2⟩ := X2
  obtain ⟨z3, N3, L3, Q3, U3, K3⟩ := X3
  have a1 := N1.sl
  have a2 := N1.sh
  have a3 := N1.sp
  have b1 := N2.sl
  have b2 := N2.sh
  have b3 := N2.sp
  refine ⟨z3, by omega, by omega, (N1.hd.kept K2 (by omega)).kept K3 (by omega), (N1.r.kept K2 (by omega)).kept K3 (by omega), L2.kept K3 (by omega) (by omega) (by omega) (by omega), Q2.kept K3 (by omega), U2.kept K3 (by omega),
    N2.hd.kept K3 (by omega), N2.r.kept K3 (by omega), L3, Q3, U3, N3, ?_⟩
  have k12 : Kept (fun _ => False) w w2 := Kept.ofBelow (Kept.below (B := s) (K1.mono (T := fun c => s ≤ c) (fun _ _ f => f.elim) |>.trans (K2.mono fun c _ e => by omega)) (by omega) fun _ h => h) (by omega) _
  exact Kept.ofBelow (Kept.below (B := s) (k12.mono (T := fun c => s ≤ c) (fun _ _ f => f.elim) |>.trans (K3.mono fun c _ e => by omega)) (by omega) fun _ h => h) (by omega) _

/-- What b's Cancel leaves. -/
def ByB (s hb hc : Nat) (w3 w4 : World) : Prop :=
  Kept (fun c => c = s + 6 ∨ c = hb ∨ c = s + 23 ∨ c = s + 17 ∨ c = hc) w3 w4 ∧ Cel w4 (s + 6) 3 ∧ Cel w4 (s + 17) 3

theorem cancel_b {w w3 : World} {s la ha pa lb hb pb lc hc pc : Nat} (T : Three w s la ha pa lb hb pb lc hc pc w3) :
    Calls Try.prog 9 #[.pointer (some ⟨s + 11, 0, none⟩), .pointer none, .int .i64 3] w3 (TrueThen (ByB s hb hc w3)) := by
  have b := T.rangeB
  have c1 := T.newC.sl
  have c2 := T.newC.sh
  have c3 := T.newC.sp
  refine cancel_one (ByB s hb hc w3) w3 (s + 11) (s + 6) (s + 10) lb hb pb (s + 27) (s + 23) 1 3 1 _ _ _ (by decide) rfl rfl T.hdB T.celB T.liveB T.placeB T.partB (by omega) (by omega) (by omega) ?_
  intro w' k c _
  have ka : Kept (fun _ => False) w' (w'.alloc (.cells #[.pointer (some ⟨s + 22, 0, none⟩), .nilFunc] 46)) := (Kept.refl _ _).alloc _
  have N := (T.newC.kept k fun e h1 h2 => by omega).kept ka fun _ _ _ => id
  refine part_child _ (s + 22) 3 w' _ ((cancel_none _ (s + 22) (s + 17) (s + 21) lc hc pc 2 3 0 _ _ (by decide) N.hd N.r N.live (by omega)).mono ?_)
  rintro e w'' ⟨rfl, C, K⟩
  refine ⟨true, rfl, ?_, (c.kept ka id).kept K (by omega), C⟩
  exact ((k.mono fun c _ e => by omega).trans (ka.mono fun _ _ f => f.elim)).trans (K.mono fun c _ e => by omega)

/-- What a's Cancel leaves. -/
def ByA (s ha : Nat) (w4 w5 : World) : Prop :=
  Kept (fun c => c = s ∨ c = ha ∨ c = s + 12) w4 w5 ∧ Cel w5 s 5 ∧ Cel w5 ha (-1)

theorem cancel_a {w w3 w4 : World} {s la ha pa lb hb pb lc hc pc : Nat} (T : Three w s la ha pa lb hb pb lc hc pc w3) (X : ByB s hb hc w3 w4) :
    Calls Try.prog 9 #[.pointer (some ⟨s + 5, 0, none⟩), .pointer none, .int .i64 5] w4 (TrueThen (ByA s ha w4)) := by
  obtain ⟨K, C6, C17⟩ := X
  have a := T.rangeA
  have b := T.rangeB
  have c2 := T.newC.sh
  refine cancel_one (ByA s ha w4) w4 (s + 5) s (s + 4) la ha pa (s + 16) (s + 12) 0 5 1 _ _ _ (by decide) rfl rfl (T.hdA.kept K (by omega)) (T.celA.kept K (by omega)) (T.liveA.kept K (by omega) (by omega) (by omega) (by omega)) (T.placeA.kept K (by omega)) (T.partA.kept K (by omega)) (by omega) (by omega) (by omega) ?_
  intro w' k c hh
  have ka : Kept (fun _ => False) w' (w'.alloc (.cells #[.pointer (some ⟨s + 11, 0, none⟩), .nilFunc] 46)) := (Kept.refl _ _).alloc _
  refine part_child _ (s + 11) 5 w' _ ((cancel_miss (s + 11) (s + 6) 5 3 (by decide) (by decide) _ (((T.hdB.kept K (by omega)).kept k (by omega)).kept ka id).k0 ((C6.kept k (by omega)).kept ka id)).mono ?_)
  rintro e w'' ⟨rfl, rfl⟩
  exact ⟨false, rfl, k.trans (ka.mono fun _ _ f => f.elim), c.kept ka id, hh.kept ka id⟩

theorem live_shut {w w3 w4 w5 : World} {s la ha pa lb hb pb lc hc pc : Nat} (T : Three w s la ha pa lb hb pb lc hc pc w3) (X4 : ByB s hb hc w3 w4) (X5 : ByA s ha w4 w5) :
    Live w5 (s + 4) la ha pa 1 (-1) (.pointer (some ⟨s + 16, 0, none⟩)) (.pointer none) := by
  obtain ⟨K4, _, _⟩ := X4
  obtain ⟨K5, _, Ch⟩ := X5
  have a := T.rangeA
  have b := T.rangeB
  have c2 := T.newC.sh
  have ne := T.liveA.ne
  have L := T.liveA.kept K4 (by omega) (by omega) (by omega) (by omega)
  have n4 : ¬ (s + 4 = s ∨ s + 4 = ha ∨ s + 4 = s + 12) := by omega
  exact ⟨Nat.lt_of_lt_of_le L.lt K5.size, L.ne, (K5.cell (p := ⟨s + 4, 0, none⟩) L.lt n4).trans L.b0, (K5.cell (p := ⟨s + 4, 1, none⟩) L.lt n4).trans L.b1, (K5.cell (p := ⟨s + 4, 2, none⟩) L.lt n4).trans L.b2,
    L.l.kept K5 (by omega), Ch, L.s0.kept K5 (by omega), L.s1.kept K5 (by omega)⟩

/-- All that the end of works asks. -/
structure Ended (w : World) (s d : Nat) (w6 : World) : Prop where
  hA : w6.cell? ⟨s + 5, 0, none⟩ = some (.pointer (some ⟨s, 0, none⟩))
  celA : Cel w6 s 5
  hB : w6.cell? ⟨s + 11, 0, none⟩ = some (.pointer (some ⟨s + 6, 0, none⟩))
  celB : Cel w6 (s + 6) 3
  hC : w6.cell? ⟨s + 22, 0, none⟩ = some (.pointer (some ⟨s + 17, 0, none⟩))
  celC : Cel w6 (s + 17) 3
  hD : w6.cell? ⟨d + 5, 0, none⟩ = some (.pointer (some ⟨d, 0, none⟩))
  celD : Cel w6 d 5
  kept : Kept (fun _ => False) w w6

theorem ended_of {w w3 w4 w5 w6 : World} {s la ha pa lb hb pb lc hc pc d : Nat} (es : w.heap.size = s) (T : Three w s la ha pa lb hb pb lc hc pc w3) (X4 : ByB s hb hc w3 w4) (X5 : ByA s ha w4 w5)
    (X6 : d + 6 ≤ w6.heap.size ∧ w6.cell? ⟨d + 5, 0, none⟩ = some (.pointer (some ⟨d, 0, none⟩)) ∧ Cel w6 d 5 ∧ Kept (fun _ => False) w5 w6) : Ended w s d w6 := by
  obtain ⟨K4, C6, C17⟩ := X4
  obtain ⟨K5, C0, _⟩ := X5
  obtain ⟨_, D0, D1, K6⟩ := X6
  have a := T.rangeA
  have b := T.rangeB
  have c1 := T.newC.sl
  have c2 := T.newC.sh
  refine ⟨(((T.hdA.kept K4 (by omega)).kept K5 (by omega)).kept K6 id).k0, C0.kept K6 id, (((T.hdB.kept K4 (by omega)).kept K5 (by omega)).kept K6 id).k0, (C6.kept K5 (by omega)).kept K6 id, (((T.newC.hd.kept K4 (by omega)).kept K5 (by omega)).kept K6 id).k0, (C17.kept K5 (by omega)).kept K6 id, D0, D1, ?_⟩
  exact Kept.ofBelow (Kept.below (B := s) (((T.kept.mono (T := fun c => s ≤ c) (fun _ _ f => f.elim)).trans (K4.mono fun c _ e => by omega)).trans (K5.mono fun c _ e => by omega) |>.trans (K6.mono fun _ _ f => f.elim)) (by omega) fun _ h => h) (by omega) _

def WorksPost (w : World) : Ending → World → Prop := fun e w' => e = .returned (.bool true) ∧ Kept (fun _ => False) w w'

set_option maxRecDepth 100000 in
set_option maxHeartbeats 1600000 in
theorem works_at (s : Nat) (w : World) (hs : Hid (w.heap.size = s)) : Calls Try.prog 12 #[] w (WorksPost w) := by
  go_enter Try.func12, Try.ntmps12
  go_wp2_with fail
  refine (new_any w).mono ?_
  rintro e w1 ⟨la, ha, pa, rfl, H⟩
  rw [hs.out] at H ⊢
  have X1 := Lib.hid H
  clear H
  go_wp2_with fail
  refine (child_at w1 (s + 6) (s + 5) s (s + 4) la ha pa 0 _ X1.out.1 (by decide) (by decide) X1.out.2.1.hd X1.out.2.1.live).mono ?_
  rintro e w2 ⟨lb, hb, pb, rfl, H⟩
  have X2 := Lib.hid H
  clear H
  go_wp2_with fail
  refine (child_at w2 (s + 17) (s + 6 + 5) (s + 6) (s + 6 + 4) lb hb pb 1 _ X2.out.1 (by decide) (by decide) X2.out.2.1.hd X2.out.2.1.live).mono ?_
  rintro e w3 ⟨lc, hc, pc, rfl, H⟩
  have T := Lib.hid (three_of hs.out X1.out.1 X1.out.2.1 X1.out.2.2 X2.out H)
  clear H X1 X2
  go_wp2_with fail
  refine (cancel_b T.out).mono ?_
  rintro e w4 ⟨rfl, H⟩
  have X4 := Lib.hid H
  clear H
  go_wp2_with fail
  refine (cancel_a T.out X4.out).mono ?_
  rintro e w5 ⟨rfl, H⟩
  have X5 := Lib.hid H
  clear H
  have HA := Lib.hid ((T.out.hdA.kept X4.out.1 (by have := T.out.rangeB; have := T.out.newC.sh; omega)).kept X5.out.1 (by have := T.out.rangeA; omega))
  go_wp2_with fail
  refine (cancel_miss (s + 5) s 7 5 (by decide) (by decide) _ HA.out.k0 X5.out.2.1).mono ?_
  rintro e w' ⟨rfl, hw⟩
  obtain rfl := hw.symm
  go_wp2_with fail
  refine (born_at w5 w5.heap.size (s + 5) s (s + 4) la ha pa 0 5 1 _ _ rfl (by decide) (by decide) HA.out (live_shut T.out X4.out X5.out) X5.out.2.1).mono ?_
  rintro e w6 ⟨rfl, H⟩
  have HE := Lib.hid (ended_of hs.out T.out X4.out X5.out H)
  clear H HA X4 X5 T
  go_wp2_with fail
  refine (reason_is (s + 5) s 5 _ HE.out.hA HE.out.celA).mono ?_
  rintro e w' ⟨rfl, hw⟩
  obtain rfl := hw.symm
  go_wp2_with fail
  refine (reason_is (s + 11) (s + 6) 3 _ HE.out.hB HE.out.celB).mono ?_
  rintro e w' ⟨rfl, hw⟩
  obtain rfl := hw.symm
  go_wp2_with fail
  refine (reason_is (s + 22) (s + 17) 3 _ HE.out.hC HE.out.celC).mono ?_
  rintro e w' ⟨rfl, hw⟩
  obtain rfl := hw.symm
  go_wp2_with fail
  refine (reason_is (w5.heap.size + 5) w5.heap.size 5 _ HE.out.hD HE.out.celD).mono ?_
  rintro e w' ⟨rfl, hw⟩
  obtain rfl := hw.symm
  go_wp2_with fail
  refine (wait_is (w5.heap.size + 5) w5.heap.size 5 (by decide) _ HE.out.hD HE.out.celD).mono ?_
  rintro e w' ⟨rfl, hw⟩
  obtain rfl := hw.symm
  go_wp2_with fail
  go_ret
  exact ⟨rfl, HE.out.kept⟩

theorem works_any (w : World) : Calls Try.prog 12 #[] w (WorksPost w) := works_at w.heap.size w rfl

end Go.Proofs.Ytjenckjodkmdkaa

/-
  treadlelaw16: works().
-/
import Derived.Test.YtfbanlpmkfgpjaaGreatDoorJoin10
namespace Go.Proofs.YtfbanlpmkfgpjaaGreatDoor
open Go.RowKit

theorem unmade_of {w : World} {m c : Nat} {fs L H P : Nat → Nat} {X : Nat → Nat → Value} (A : Fts w m c fs L H P X) (g cap : Nat) (hm : m ≤ 4096) (hf : ∀ j, j < m → w.cell? ⟨g, j, none⟩ = some (.pointer (some ⟨fs j + 5, 0, none⟩))) (lg : g < w.heap.size) :
    Calls Tryz.prog 16 #[.slice (some ⟨g, 0, none⟩) m cap] w fun e w' => e = .returned (.bool false) ∧ w = w' :=
  unmade_no _ m hm (fun j => .pointer (some ⟨fs j + 5, 0, none⟩)) w ⟨.inr ⟨g, cap, rfl, lg, hf⟩⟩ fun j hj => unmade1_is (fs j + 5) _ w (A.fut j hj).t0

/-- Of two, one or the other. -/
def two {α : Type} (a b : α) : Nat → α := fun j => if j = 0 then a else b

theorem fts_two {w : World} {A la ha pa B lb hb pb : Nat} {x : Nat → Value} {c : Nat} (FA : Ftr w A la ha pa 0 0 .nilIface c c x) (FB : Ftr w B lb hb pb 0 0 .nilIface c c x) (hx : ∀ i, c ≤ i → x i = .pointer none) (h : A + 6 ≤ B) :
    Fts w 2 c (two A B) (two la lb) (two ha hb) (two pa pb) (fun _ => x) := by
  refine ⟨fun j hj => ?_, fun j _ i hi => hx i hi, fun i j hi hj hne => ?_⟩
  · match j, hj with
    | 0, _ => exact FA
    | 1, _ => exact FB
  · match i, hi, j, hj, hne with
    | 0, _, 1, _, _ => exact .inl h
    | 1, _, 0, _, _ => exact .inr h
    | 0, _, 0, _, hne => exact absurd rfl hne
    | 1, _, 1, _, hne => exact absurd rfl hne

theorem own_two {A B b : Nat} (h : Own 2 (two A B) b) : FOwn A b ∨ FOwn B b := by
  obtain ⟨j, hj, hb⟩ := h
  match j, hj, hb with
  | 0, _, hb => exact .inl hb
  | 1, _, hb => exact .inr hb

/-- What stands behind the three calls. -/
structure Three (w W : World) (A la ha pa B lb hb pb G1 l1 h1 p1 V jb bj E be L bl hi1 bf1 s1 G2 l2 h2 p2 bg be2 bl2 bn2 lo2 hi2 bf2 s2 n l3 h3 p3 bf3 s3 : Nat) (xa xb : Nat → Value) : Prop where
  fa : Ftr W A la ha pa 0 0 .nilIface 3 3 xa
  fb : Ftr W B lb hb pb 0 0 .nilIface 3 3 xb
  xa0 : xa 0 = .pointer (some ⟨s1 + 6 * 0 + 5, 0, none⟩) ∧ xa 1 = .pointer (some ⟨s2 + 6 * 0 + 5, 0, none⟩) ∧ xa 2 = .pointer (some ⟨s3 + 6 * 0 + 5, 0, none⟩)
  xb0 : xb 0 = .pointer (some ⟨s1 + 6 * 1 + 5, 0, none⟩) ∧ xb 1 = .pointer (some ⟨s2 + 6 * 1 + 5, 0, none⟩) ∧ xb 2 = .pointer (some ⟨s3 + 6 * 1 + 5, 0, none⟩)
  ea : CE W bf1 s1 0 0 (FA G1 bj be bl) ∧ CE W bf2 s2 1 0 (FN bg be2 bl2 bn2) ∧ CE W bf3 s3 2 0 (FQ n)
  eb : CE W bf1 s1 0 1 (FA G1 bj be bl) ∧ CE W bf2 s2 1 1 (FN bg be2 bl2 bn2) ∧ CE W bf3 s3 2 1 (FQ n)
  ca : CA W G1 l1 h1 p1 V jb bj E be L bl hi1 (fun _ => 0) 2
  cn : CN W G2 l2 h2 p2 bg lo2 hi2 0 0 0
  cq : CQ W n l3 h3 p3 0 0 0 0
  o : A + 6 = B ∧ B + 6 ≤ G1 ∧ hi1 ≤ bf1 ∧ bf1 < s1 ∧ s1 + 12 ≤ lo2 ∧ hi2 ≤ bf2 ∧ bf2 < s2 ∧ s2 + 12 ≤ n ∧ n + 13 ≤ bf3 ∧ bf3 < s3 ∧ s3 + 12 ≤ W.heap.size ∧ G1 ≤ hi1 ∧ lo2 ≤ hi2
  lo : A = w.heap.size
  kept : Kept (fun _ => False) w W

/-- .. when both are completed. -/
theorem three_done {w W : World} {A la ha pa B lb hb pb G1 l1 h1 p1 V jb bj E be L bl hi1 bf1 s1 G2 l2 h2 p2 bg be2 bl2 bn2 lo2 hi2 bf2 s2 n l3 h3 p3 bf3 s3 : Nat} {xa xb : Nat → Value}
    (T : Three w W A la ha pa B lb hb pb G1 l1 h1 p1 V jb bj E be L bl hi1 bf1 s1 G2 l2 h2 p2 bg be2 bl2 bn2 lo2 hi2 bf2 s2 n l3 h3 p3 bf3 s3 xa xb) :
    Calls Tryz.prog 17 #[.pointer (some ⟨B + 5, 0, none⟩), .pointer none, .int .i64 2, .nilIface] W fun r W' => r = .returned (.bool true) ∧
      Calls Tryz.prog 17 #[.pointer (some ⟨A + 5, 0, none⟩), .pointer none, .int .i64 1, .nilIface] W' fun r W2 => r = .returned (.bool true) ∧
        CD W2 G1 l1 h1 p1 V jb bj hi1 (put (put (fun _ => 0) 1 2) 0 1) ∧ CN W2 G2 l2 h2 p2 bg lo2 hi2 2 2 (-1) ∧ Ftr W2 n l3 h3 p3 2 2 .nilIface 0 (-1) (fun _ => .pointer none) ∧ Kept (fun _ => False) w W2 := by
  obtain ⟨o0, o1, o2, o3, o4, o5, o6, o7, o8, o9, o10, o11, o12⟩ := T.o
  have oo : B + 6 ≤ G1 ∧ hi1 ≤ bf1 ∧ bf1 < s1 ∧ s1 + 12 ≤ lo2 ∧ hi2 ≤ bf2 ∧ bf2 < s2 ∧ s2 + 12 ≤ n ∧ n + 13 ≤ bf3 ∧ bf3 < s3 ∧ s3 + 12 ≤ W.heap.size ∧ G1 ≤ hi1 ∧ lo2 ≤ hi2 := ⟨o1, o2, o3, o4, o5, o6, o7, o8, o9, o10, o11, o12⟩
  refine (step_b W T.fb T.xb0.1 T.xb0.2.1 T.xb0.2.2 T.eb.1 T.eb.2.1 T.eb.2.2 T.ca T.cn T.cq oo).mono ?_
  rintro r W' ⟨hr, k, ca, cn, cq⟩
  refine ⟨hr, ?_⟩
  have nw : ∀ b, (FOwn A b ∨ b = bf1 ∨ b = bf2 ∨ b = bf3 ∨ (s1 ≤ b ∧ b < s1 + 6) ∨ (s2 ≤ b ∧ b < s2 + 6) ∨ (s3 ≤ b ∧ b < s3 + 6)) → ¬ Wr B 1 G1 hi1 lo2 hi2 n s1 s2 s3 b := by
    rintro b hb (⟨h1, h2⟩ | h | h)
    · rcases hb with ⟨h3, h4⟩ | h3
      · omega
      · omega
    · rcases hb with ⟨h3, h4⟩ | h3
      · omega
      · omega
    · rcases hb with ⟨h3, h4⟩ | h3
      · omega
      · omega
  have e1 := T.ea.1.kept k (nw _ (by omega)) (fun b h1 h2 => nw _ (by omega))
  have e2 := T.ea.2.1.kept k (nw _ (by omega)) (fun b h1 h2 => nw _ (by omega))
  have e3 := T.ea.2.2.kept k (nw _ (by omega)) (fun b h1 h2 => nw _ (by omega))
  have fa := T.fa.kept k (fun b hb => nw _ (.inl hb))
  have sz := k.size
  refine (step_a W' fa T.xa0.1 T.xa0.2.1 T.xa0.2.2 e1 e2 e3 ca cn cq ⟨by omega, o2, o3, o4, o5, o6, o7, o8, o9, by omega, o11, o12⟩).mono ?_
  rintro r W2 ⟨hr, k2, cd, cn2, f3⟩
  refine ⟨hr, cd, cn2, f3, ?_⟩
  have lo := T.lo
  have all : ∀ j b, A + 6 ≤ G1 → (Wr A j G1 hi1 lo2 hi2 n s1 s2 s3 b ∨ Wr B j G1 hi1 lo2 hi2 n s1 s2 s3 b) → w.heap.size ≤ b := by
    rintro j b _ ((⟨h1, h2⟩ | h | h) | (⟨h1, h2⟩ | h | h)) <;> omega
  exact (T.kept.far k (fun b hb => all 1 b (by omega) (.inr hb))).far k2 (fun b hb => all 0 b (by omega) (.inl hb))

end Go.Proofs.YtfbanlpmkfgpjaaGreatDoor

/-
  For every input the law treadle/treadlelaw10.ClockOrder returns true and leaves its arguments as they were; no condition.
  THE SHELL OF A PROOF OF 'Rows.ClockOrderSaid' ('treadle/treadlelaw10.ClockOrder'), WRITTEN BY PROGRAM (proof-skeleton.mjs) off the guide's own print for that function. Not trusted: Lean checks it.
-/
import Derived.Test.YtmlemofnakfpgaaRows
import Derived.WalkKit
import Derived.ProofKit
import Derived.OpenShut
import Derived.Carry
import Derived.Deep.SlicePairs
import Derived.ChangeSlices
import Derived.Test.YtmlemofnakfpgaaOrder5
namespace Go.Proofs.Ytmlemofnakfpgaa.clockOrder
open Go.ChangeShapes Go.WideShapes Go.ChangeAt Go.RowKit
set_option linter.unusedVariables false      -- a walk need not use every 'w<i>' (that an integer argument fits its kind)

theorem own : ownKnob Try.prog.godebug = none := by kernel_rfl

theorem laidOut : laidOutB Try.prog = true := by kernel_rfl
theorem cells2 : Try.prog.cellsOf 2 = 1 := by kernel_rfl
theorem cells3 : Try.prog.cellsOf 3 = 1 := by kernel_rfl
theorem cells30 : Try.prog.cellsOf 30 = 2 := by kernel_rfl

/-- The integer that a value is. -/
def intIs : Value → Int
  | .int _ x => x
  | _ => 0

theorem add_none (b o j : Nat) : (⟨b, o, none⟩ : Addr).add j = ⟨b, o + j, none⟩ := by unfold Addr.add; split <;> simp_all

/-- What a slice of timers is. -/
theorem open_dues {H : Type} {enc : TypeId × Value → H} {W : World} {fuel : Nat} {ao : Option Addr} {len cap : Nat} {x : DataW H × List MemPlace}
    (h : DataW.trod enc Try.prog W 0 (fun _ => true) true fuel 22 (Value.slice ao len cap).cells.toList = some x) : len ≤ cap ∧ ∃ (sb so : Nat) (At St : Nat → Int), Given W ao sb so len At St := by
  rcases Go.Deep.open_slice_pairs Try.underlying22 Try.underlying30 cells30 rfl rfl cells2 cells3 h with ⟨hc, _⟩ | ⟨a, len', cap', m, k, V0, V1, D0, D1, P0, P1, hc, _, hl, _, hmm, _, hall⟩
  · simp [Value.cells] at hc
    obtain ⟨rfl, rfl, rfl⟩ := hc
    exact ⟨Nat.le_refl _, 0, 0, fun _ => 0, fun _ => 0, ⟨fun i hi => by omega, fun i hi => by omega, fun i hi => by omega⟩⟩
  · simp [Value.cells] at hc
    obtain ⟨rfl, rfl, rfl⟩ := hc
    simp only [if_true] at hmm
    subst hmm
    refine ⟨hl, ?_⟩
    by_cases h0 : 0 < len
    · obtain ⟨sb, so, spot⟩ := a
      have hspot : spot = none := by simpa [Addr.add] using World.cell?_spot (hall 0 (by omega)).1
      subst hspot
      refine ⟨sb, so, fun i => intIs (V0 i), fun i => intIs (V1 i), ⟨fun _ _ => rfl, fun i hi => ?_, fun i hi => ?_⟩⟩
      · obtain ⟨h1, _, h3, _⟩ := hall i (by omega)
        obtain ⟨z, hz, _⟩ := DataW.trod_int Try.underlying2 h3
        simp only [List.cons.injEq, and_true] at hz
        rw [hz, add_none] at h1
        rw [hz]; exact h1
      · obtain ⟨_, h2, _, h4⟩ := hall i (by omega)
        obtain ⟨z, hz, _⟩ := DataW.trod_int Try.underlying3 h4
        simp only [List.cons.injEq, and_true] at hz
        rw [hz, add_none] at h2
        rw [hz, Nat.add_assoc]; exact h2
    · exact ⟨0, 0, fun _ => 0, fun _ => 0, ⟨fun i hi => by omega, fun i hi => by omega, fun i hi => by omega⟩⟩

/-- What a slice of steps is. -/
theorem open_steps {H : Type} {enc : TypeId × Value → H} {W : World} {fuel : Nat} {bo : Option Addr} {len cap : Nat} {x : DataW H × List MemPlace}
    (h : DataW.trod enc Try.prog W 0 (fun _ => true) true fuel 23 (Value.slice bo len cap).cells.toList = some x) : len ≤ cap ∧ ∃ (tb tg : Nat) (Sp : Nat → Int), ∀ i, i < len → bo = some ⟨tb, tg, none⟩ ∧ W.cell? ⟨tb, tg + i, none⟩ = some (.int .i64 (Sp i)) := by
  rcases open_ints Try.underlying23 Try.underlying2 cells2 h with ⟨hc, _⟩ | ⟨a, len', cap', zs, hc, _, hl, _, hz, _, hcell, _⟩
  · simp [Value.cells] at hc
    obtain ⟨rfl, rfl, rfl⟩ := hc
    exact ⟨Nat.le_refl _, 0, 0, fun _ => 0, fun i hi => by omega⟩
  · simp [Value.cells] at hc
    obtain ⟨rfl, rfl, rfl⟩ := hc
    simp only [if_true] at hz
    refine ⟨hl, ?_⟩
    by_cases h0 : 0 < len
    · obtain ⟨tb, tg, spot⟩ := a
      have hspot : spot = none := by simpa [Addr.add] using World.cell?_spot (hcell 0 (by omega))
      subst hspot
      exact ⟨tb, tg, fun i => zs.getD i 0, fun i hi => ⟨rfl, by have := hcell i (by omega); rw [add_none] at this; exact this⟩⟩
    · exact ⟨0, 0, fun _ => 0, fun i hi => by omega⟩

set_option maxRecDepth 100000 in
theorem lifted (os : Os) (started : os.Started) (H : Type) (enc : TypeId × Value → H) :
    ReturnsInHanded {} Try.checked os 3 .any (Rows.clockOrderSpec.pre6 enc Try.prog Try.f3 Rows.clockOrderRow.domain false) (Rows.clockOrderSpec.post enc Try.prog Try.f3 false true false false) := by
  refine returnsInHanded_of_change (C := Try.checked) own started (by kernel_rfl) Try.func3
    (ChangeSpec.witness6 (enc := enc) (C := Try.checked) false ⟨#[], #[.slice none 0 0, .slice none 0 0], []⟩ 8 (by kernel_rfl) (by kernel_rfl) (by kernel_rfl) (by kernel_rfl)) ?_
  intro W base args ds gs before hval0 hW hcnd _
  have hval : ∀ (j : Nat) t v, Try.f3.params[j]? = some t → args[j]? = some v → Value.okWide Try.prog W .any base t v := hval0
  have hW' := hW
  obtain ⟨p, q, hA0, hV, rfl, hfz, hnd⟩ := hW
  have hA : DataW.TrodAll enc Try.prog W 0 (fun _ => true) true Try.f3.params.toList args.toList ds p := hA0
  rw [Try.params3] at hA hval
  obtain ⟨v0, vs0, d0, ds0, p0, q0, hargs, rfl, rfl, h0, r0⟩ := trodAll_cons hA
  obtain ⟨v1, vs1, d1, ds1, p1, q1, rfl, rfl, rfl, h1, r1⟩ := trodAll_cons r0
  obtain ⟨rfl, rfl, rfl⟩ := trodAll_nil r1
  obtain rfl : args = #[v0, v1] := by cases args; simp_all
  obtain ⟨rfl, rfl⟩ := trodVars_none hV
  clear hA0 hval0
  simp only [List.append_nil] at hW'
  have hlt : ∀ x ∈ p0 ++ p1, x.block < W.heap.size := fun x hx => by simpa using hW'.lt x hx
  have ha0 : ∀ (W' : World), Below W.heap.size W W' → DataW.Trod enc Try.prog W' 0 (fun b => decide (b < W.heap.size)) true 22 v0 d0 p0 :=
    fun W' hn => Below.trod laidOut (by kernel_rfl) (of_decide_eq_true (by kernel_rfl)) h0 hn fun x hx => hlt x (List.mem_append_left _ hx)
  have ha1 : ∀ (W' : World), Below W.heap.size W W' → DataW.Trod enc Try.prog W' 0 (fun b => decide (b < W.heap.size)) true 23 v1 d1 p1 :=
    fun W' hn => Below.trod laidOut (by kernel_rfl) (of_decide_eq_true (by kernel_rfl)) h1 hn fun x hx => hlt x (List.mem_append_right _ hx)
  obtain ⟨ao, la, lca, rfl⟩ := okWide_slice Try.underlying22 (hval 0 22 v0 rfl rfl)
  obtain ⟨bo, lb, lcb, rfl⟩ := okWide_slice Try.underlying23 (hval 1 23 v1 rfl rfl)
  obtain ⟨f0, t0⟩ := h0
  obtain ⟨f1, t1⟩ := h1
  obtain ⟨hl, sb, so, At, St, G⟩ := open_dues t0
  obtain ⟨hb, tb, tg, Sp, S⟩ := open_steps t1
  refine (order_walk ao bo la lca lb lcb sb so tb tg At St Sp W hl hb G S).mono fun e W' ⟨he, hg⟩ => ?_
  subst he
  have hA' := trodAll_cons_mk (ha0 W' hg) (trodAll_cons_mk (ha1 W' hg) trodAll_mk0)
  simp only [List.append_nil] at hA'
  exact ⟨_, rfl, _, _, _, [], _, [], hW', trodAll_mk1 (shut_bool Try.underlying4 _), hA', rfl, hg.frame _, fun h => by cases h⟩

theorem over : Rows.clockOrderRow.holds Try.pinned (OpenSpec.ofChange Rows.clockOrderSpec) :=
  OpenClaim.holds_of_wide 3 Try.f3 rfl rfl rfl rfl rfl rfl rfl ⟨rfl, rfl, rfl, rfl, rfl⟩ rfl rfl rfl rfl rfl (by kernel_rfl) Try.func3 (by kernel_rfl)
    (of_decide_eq_true (by kernel_rfl)) (by unfold Func.isWrapper; first | (rw [if_pos (by decide +kernel)]; kernel_rfl) | (rw [if_neg (by decide +kernel)]; exact ⟨rfl, rfl⟩))
    (fun os started H enc _ => lifted os started H enc)

/-- ████ THE STATEMENT ████ -/
theorem proved : Rows.ClockOrderSaid :=
  over
end Go.Proofs.Ytmlemofnakfpgaa.clockOrder
namespace Go.Proofs.Ytmlemofnakfpgaa
/-- The given statement. -/
theorem clockOrder_holds : Rows.ClockOrderSaid := clockOrder.proved
end Go.Proofs.Ytmlemofnakfpgaa

/-
  Package clock, a nil thread: Set.
-/
import Derived.Test.YtkbcpifhbpfhlaaGreatDoorClock6
namespace Go.Proofs.YtkbcpifhbpfhlaaGreatDoor
open Go.RowKit

theorem set_nil (due : Int) (g : Fn) (q1 q2 : Array Value) (w : World) : Calls Tryz.prog 45 #[.pointer none, .pointer none, .int .i64 due, .func g q1 q2] w fun e w' => e = .returned (.tuple #[.agg #[.int .i64 0, .int .i64 0], .int .i64 2]) ∧ Below w.heap.size w w' := by
  go_enter Tryz.func45, Tryz.ntmps45
  go_wp2_with (go_at_call 31; refine (cnone_nil _).mono ?_; rintro e w' ⟨rfl, rfl⟩)
  exact bodyPost_ret (v := .tuple #[.agg #[.int .i64 0, .int .i64 0], .int .i64 2]) (by simp [results, Tryz.results45, go_sem]) rfl ⟨rfl, (Below.refl _ _).alloc (Nat.le_refl _) _⟩

theorem set_bare (b : Nat) (due : Int) (g : Fn) (q1 q2 : Array Value) (w : World) (h : w.cell? ⟨b, 0, none⟩ = some (.pointer none)) (hb : b < w.heap.size) :
    Calls Tryz.prog 45 #[.pointer (some ⟨b, 0, none⟩), .pointer none, .int .i64 due, .func g q1 q2] w fun e w' => e = .returned (.tuple #[.agg #[.int .i64 0, .int .i64 0], .int .i64 2]) ∧ Below w.heap.size w w' := by
  go_enter Tryz.func45, Tryz.ntmps45
  go_wp2_with (go_at_call 31; refine (cnone_bare b _ (by go_simp)).mono ?_; rintro e w' ⟨rfl, rfl⟩)
  exact bodyPost_ret (v := .tuple #[.agg #[.int .i64 0, .int .i64 0], .int .i64 2]) (by simp [results, Tryz.results45, go_sem]) rfl ⟨rfl, (Below.refl _ _).alloc (Nat.le_refl _) _⟩

theorem set_low (n : Nat) (due now busy : Int) (s d : Nat → Int) (f : Nat → Value) (g : Fn) (q1 q2 : Array Value) (hd : due < 0) (w : World) (C : Clk w n now busy s d f) :
    Calls Tryz.prog 45 #[.pointer (some ⟨n + 2, 0, none⟩), .pointer none, .int .i64 due, .func g q1 q2] w fun e w' => e = .returned (.tuple #[.agg #[.int .i64 0, .int .i64 0], .int .i64 1]) ∧ Below w.heap.size w w' := by
  have p0 := C.p0
  have lt : n + 2 < w.heap.size := by have := C.size; omega
  clear C
  go_enter Tryz.func45, Tryz.ntmps45
  go_wp2_with (go_at_call 31; refine (cnone_made (n + 2) ⟨n, 0, none⟩ _ (by go_simp)).mono ?_; rintro e w' ⟨rfl, rfl⟩)
  exact bodyPost_ret (v := .tuple #[.agg #[.int .i64 0, .int .i64 0], .int .i64 1]) (by simp [results, Tryz.results45, go_sem]) rfl ⟨rfl, (Below.refl _ _).alloc (Nat.le_refl _) _⟩

theorem set_high (n : Nat) (due now busy : Int) (s d : Nat → Int) (f : Nat → Value) (g : Fn) (q1 q2 : Array Value) (hd : 4611686018427387904 < due) (w : World) (C : Clk w n now busy s d f) :
    Calls Tryz.prog 45 #[.pointer (some ⟨n + 2, 0, none⟩), .pointer none, .int .i64 due, .func g q1 q2] w fun e w' => e = .returned (.tuple #[.agg #[.int .i64 0, .int .i64 0], .int .i64 1]) ∧ Below w.heap.size w w' := by
  have p0 := C.p0
  have lt : n + 2 < w.heap.size := by have := C.size; omega
  clear C
  have h0 : ¬ due < 0 := by omega
  go_enter Tryz.func45, Tryz.ntmps45
  go_wp2_with (go_at_call 31; refine (cnone_made (n + 2) ⟨n, 0, none⟩ _ (by go_simp)).mono ?_; rintro e w' ⟨rfl, rfl⟩)
  exact bodyPost_ret (v := .tuple #[.agg #[.int .i64 0, .int .i64 0], .int .i64 1]) (by simp [results, Tryz.results45, go_sem]) rfl ⟨rfl, (Below.refl _ _).alloc (Nat.le_refl _) _⟩

set_option maxRecDepth 100000 in
theorem set_none (n : Nat) (due now busy : Int) (s d : Nat → Int) (f : Nat → Value) (h0 : 0 ≤ due) (h1 : due ≤ 4611686018427387904) (w : World) (C : Clk w n now busy s d f) :
    Calls Tryz.prog 45 #[.pointer (some ⟨n + 2, 0, none⟩), .pointer none, .int .i64 due, .nilFunc] w fun e w' => e = .returned (.tuple #[.agg #[.int .i64 0, .int .i64 0], .int .i64 1]) ∧ Below w.heap.size w w' := by
  have p0 := C.p0
  have lt : n + 2 < w.heap.size := by have := C.size; omega
  clear C
  have g0 : ¬ due < 0 := by omega
  have g1 : ¬ 4611686018427387904 < due := by omega
  have g2 : decide (due < 0) = false := by simpa using g0
  have g3 : decide (4611686018427387904 < due) = false := by simpa using g1
  have hnil : ∀ w : World, (binOp BinOp.eql 32 .nilFunc .nilFunc).run Tryz.prog w = .ok (.bool true) w := fun _ => by kernel_rfl
  go_enter Tryz.func45, Tryz.ntmps45
  go_wp2_with (go_at_call 31; refine (cnone_made (n + 2) ⟨n, 0, none⟩ _ (by go_simp)).mono ?_; rintro e w' ⟨rfl, rfl⟩)
  exact bodyPost_ret (v := .tuple #[.agg #[.int .i64 0, .int .i64 0], .int .i64 1]) (by simp [results, Tryz.results45, go_sem]) rfl ⟨rfl, (Below.refl _ _).alloc (Nat.le_refl _) _⟩

theorem run_func_nil (g : Fn) (q1 q2 : Array Value) (w : World) : (binOp BinOp.eql 32 (.func g q1 q2) .nilFunc).run Tryz.prog w = .ok (.bool false) w := by kernel_rfl

/-- What a Set leaves that lays its timer into slot j. -/
def SetPost (w : World) (n j : Nat) (now busy due : Int) (s d : Nat → Int) (f : Nat → Value) (u : Value) : Ending → World → Prop := fun e w' =>
  e = .returned (.tuple #[.agg #[.int .i64 j, .int .i64 (s j + 2)], .int .i64 0]) ∧ Clk w' n now busy (put s j (s j + 2)) (put d j due) (put f j u) ∧ Kept (Own n) w w'

/-- At the head of a round. -/
def SetRel (w : World) (n j : Nat) (now busy : Int) (s d : Nat → Int) (f : Nat → Value) (c : Value) (wr : World) : Prop :=
  ∃ k : Nat, k ≤ j ∧ c = .int .i64 k ∧ Clk wr n now busy s d f ∧ Kept (fun _ => False) (w.alloc (.cells #[.int .i64 0, .int .i64 0] 112)) wr

set_option maxRecDepth 100000 in
set_option maxHeartbeats 800000 in
theorem set_at (n j : Nat) (due now busy : Int) (s d : Nat → Int) (f : Nat → Value) (g : Fn) (q1 q2 : Array Value) (h0 : 0 ≤ due) (h1 : due ≤ 4611686018427387904) (hj : j < 16) (hb : ∀ i, i < j → ¬ (s i).tmod 4 = 0)
    (hf : (s j).tmod 4 = 0) (hs0 : 0 ≤ s j) (hs1 : s j ≤ 4611686018427387904) (w : World) (C : Clk w n now busy s d f) :
    Calls Tryz.prog 45 #[.pointer (some ⟨n + 2, 0, none⟩), .pointer none, .int .i64 due, .func g q1 q2] w (SetPost w n j now busy due s d f (.func g q1 q2)) := by
  have p0 := C.p0
  have sz := C.size
  have lt : n + 2 < w.heap.size := by omega
  have X := Lib.hid C
  have HB := Lib.hid hb
  clear C hb
  have g0 : ¬ due < 0 := by omega
  have g1 : ¬ 4611686018427387904 < due := by omega
  have g2 : decide (due < 0) = false := by simpa using g0
  have g3 : decide (4611686018427387904 < due) = false := by simpa using g1
  have hnil := run_func_nil g q1 q2
  go_enter Tryz.func45, Tryz.ntmps45
  go_wp2_with (go_at_call 31; refine (cnone_made (n + 2) ⟨n, 0, none⟩ _ (by go_simp)).mono ?_; rintro e w' ⟨rfl, rfl⟩)
  go_loopw [27] (fun c wr => SetRel w n j now busy s d f c wr) (fun c _ => j + 1 - (intOf c).toNat)
  case atStart => exact ⟨0, Nat.zero_le _, rfl, X.out.alloc _, Kept.refl _ _⟩
  case round =>
    obtain ⟨k, hk, rfl, Cr, Kr⟩ := hrel
    have hk16 : k < 16 := by omega
    have z1 : 2 + k * 3 = 2 + 3 * k := by omega
    by_cases hlt : k < j
    · have HL := Lib.hid (lay_no n k now busy due s d f (.func g q1 q2) hk16 (HB.out k hlt) wr Cr)
      have KR := Lib.hid Kr
      have CR := Lib.hid Cr
      clear Cr Kr
      go_wp2_with fail
      refine HL.out.mono ?_
      rintro e w2 ⟨rfl, hK⟩
      have K2 := Lib.hid hK
      clear hK
      go_wp2_with fail
      go_roundw
      case rel => exact ⟨k + 1, by omega, by go_num, CR.out.kept K2.out fun _ _ => id, KR.out.trans K2.out⟩
      case measure => simp [intOf]; omega
    · obtain rfl : k = j := by omega
      have HL := Lib.hid (lay_yes n k now busy due s d f g q1 q2 hk16 hs0 hs1 hf wr Cr)
      have e0 : wr.cell? ⟨w.heap.size, 0, none⟩ = some (.int .i64 0) := (Kr.cell (p := ⟨w.heap.size, 0, none⟩) (by simp) id).trans (by simp)
      have e1 : wr.cell? ⟨w.heap.size, 1, none⟩ = some (.int .i64 0) := (Kr.cell (p := ⟨w.heap.size, 1, none⟩) (by simp) id).trans (by simp)
      have e2 : wr.frozen? ⟨w.heap.size, 0, none⟩ = false := (Kr.frozen (p := ⟨w.heap.size, 0, none⟩) (by simp) id).trans (by simp)
      have e3 : wr.frozen? ⟨w.heap.size, 1, none⟩ = false := (Kr.frozen (p := ⟨w.heap.size, 1, none⟩) (by simp) id).trans (by simp)
      have z0 : w.heap.size < wr.heap.size := by have := Kr.size; simp at this; omega
      have KR := Lib.hid Kr
      have ho : ¬ Own n w.heap.size := fun h => by have := h.2; omega
      clear Cr Kr
      go_wp2_with fail
      refine HL.out.mono ?_
      rintro e w2 ⟨rfl, hC, hK⟩
      have d0 : w2.cell? ⟨w.heap.size, 0, none⟩ = some (.int .i64 0) := (hK.cell (p := ⟨w.heap.size, 0, none⟩) z0 ho).trans e0
      have d1 : w2.cell? ⟨w.heap.size, 1, none⟩ = some (.int .i64 0) := (hK.cell (p := ⟨w.heap.size, 1, none⟩) z0 ho).trans e1
      have d2 : w2.frozen? ⟨w.heap.size, 0, none⟩ = false := (hK.frozen (p := ⟨w.heap.size, 0, none⟩) z0 ho).trans e2
      have d3 : w2.frozen? ⟨w.heap.size, 1, none⟩ = false := (hK.frozen (p := ⟨w.heap.size, 1, none⟩) z0 ho).trans e3
      have CC := Lib.hid hC
      have KK := Lib.hid hK
      have HO := Lib.hid ho
      clear hC hK ho e0 e1 e2 e3
      go_wp2_with fail
      refine bodyPost_ret (v := .tuple #[.agg #[.int .i64 k, .int .i64 (s k + 2)], .int .i64 0]) (by simp [results, Tryz.results45, go_sem, d0, d1]) rfl ⟨rfl, (CC.out.far _ _ HO.out).far _ _ HO.out, ?_⟩
      refine Kept.setCell (Kept.setCell (Kept.trans (Kept.trans ((Kept.refl _ _).alloc _) (KR.out.mono fun _ _ h => h.elim)) KK.out) _ (.inr ?_) _) _ (.inr ?_) _
      · exact Nat.le_refl _
      · exact Nat.le_refl _

end Go.Proofs.YtkbcpifhbpfhlaaGreatDoor

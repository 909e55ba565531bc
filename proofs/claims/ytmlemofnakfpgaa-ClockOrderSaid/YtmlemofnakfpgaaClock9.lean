/-
  treadlelaw10.works, walked.
-/
import Derived.Test.YtmlemofnakfpgaaClock8
import Derived.Shelf.Abstract
namespace Go.Proofs.Ytmlemofnakfpgaa
open Go.RowKit

theorem look_one {s d : Nat → Int} {m : Int} {a : Nat} (h1 : ∀ i, i < 16 → i ≠ a → ¬ (s i).tmod 4 = 2) (h2 : (s a).tmod 4 = 2) (h3 : d a ≤ m) : ∀ k, k ≤ 16 → look s d m k = if a < k then some a else none
  | 0, _ => by simp [look]
  | k + 1, hk => by
    have ih := look_one h1 h2 h3 k (by omega)
    by_cases e : k = a
    · subst e
      rw [if_neg (Nat.lt_irrefl _)] at ih
      rw [look_yes h2 (by rw [ih]; show d k < m + 1; omega), if_pos (by omega)]
    · rw [look_no1 (h1 k (by omega) e), ih]
      by_cases h : a < k
      · rw [if_pos h, if_pos (by omega)]
      · rw [if_neg h, if_neg (by omega)]

theorem look_last {s d : Nat → Int} {m : Int} (h1 : ∀ i, i < 16 → (s i).tmod 4 = 2 → m < d i) : ∀ k, k ≤ 16 → look s d m k = none
  | 0, _ => rfl
  | k + 1, hk => by
    have ih := look_last h1 k (by omega)
    by_cases e : (s k).tmod 4 = 2
    · rw [look_no2 (by rw [ih]; have := h1 k (by omega) e; show ¬ d k < m + 1; omega), ih]
    · rw [look_no1 e, ih]

theorem Kept.grow {S : Nat → Prop} {B : Nat} {w0 w w' : World} (h : Below B w0 w) (k : Kept S w w') (hB : B ≤ w.heap.size) (hS : ∀ b, S b → B ≤ b) : Below B w0 w' := h.trans (k.below hB hS)

theorem own_ge {n B : Nat} (h : B ≤ n) : ∀ b, Own n b → B ≤ b := fun _ hb => Nat.le_trans h hb.1

/-- A variable of an integer. -/
structure IntAt (w : World) (b : Nat) (x : Int) : Prop where
  c : w.cell? ⟨b, 0, none⟩ = some (.int .i64 x)
  f : w.frozen? ⟨b, 0, none⟩ = false
  lt : b < w.heap.size

theorem IntAt.kept {S : Nat → Prop} {w w' : World} {b : Nat} {x : Int} (h : IntAt w b x) (k : Kept S w w') (hs : ¬ S b) : IntAt w' b x :=
  ⟨(k.cell (p := ⟨b, 0, none⟩) h.lt hs).trans h.c, (k.frozen (p := ⟨b, 0, none⟩) h.lt hs).trans h.f, Nat.lt_of_lt_of_le h.lt k.size⟩

theorem IntAt.set {w : World} {b : Nat} {x : Int} (h : IntAt w b x) (y : Int) : IntAt (w.setCell ⟨b, 0, none⟩ (.int .i64 y)) b y := by
  have c := h.c
  have f := h.f
  have lt := h.lt
  exact ⟨by go_simp, by go_simp, by go_simp⟩

theorem count_up (b : Nat) (x : Int) (h0 : 0 ≤ x) (h1 : x ≤ 1000) (w : World) (h : IntAt w b x) :
    Calls Try.prog 20 #[.pointer none, .pointer (some ⟨b, 0, none⟩)] w fun e w' => e = .returned (.tuple #[]) ∧ w' = w.setCell ⟨b, 0, none⟩ (.int .i64 (x + 1)) := by
  have c := h.c
  have f := h.f
  clear h
  go_enter Try.func20, Try.ntmps20
  go_wp2
  first | go_end0 | refine bodyPost_ret (results_none rfl _ _ _) rfl ?_
  exact ⟨rfl, rfl⟩

/-- The answer is true; below the heap as it was nothing has turned. -/
def TruePost (w : World) : Ending → World → Prop := fun e w' => e = .returned (.bool true) ∧ Below w.heap.size w w'

def z0 : Nat → Int := fun _ => 0
def f0 : Nat → Value := fun _ => .nilFunc

theorem first_taken (i : Nat) (hi : i < 1) : ¬ (put z0 0 2 i).tmod 4 = 0 := by
  obtain rfl : i = 0 := by omega
  decide

def SetTo (w : World) (n j : Nat) (ji y now busy due : Int) (s d : Nat → Int) (f : Nat → Value) (u : Value) : Ending → World → Prop := fun e w' =>
  e = .returned (.tuple #[.agg #[.int .i64 ji, .int .i64 y], .int .i64 0]) ∧ Clk w' n now busy (put s j y) (put d j due) (put f j u) ∧ Kept (Own n) w w'

theorem set_to (n j : Nat) (ji y due now busy : Int) (s d : Nat → Int) (f : Nat → Value) (g : Fn) (q1 q2 : Array Value) (hji : (j : Int) = ji) (hy : s j + 2 = y) (h0 : 0 ≤ due) (h1 : due ≤ 4611686018427387904) (hj : j < 16) (hb : ∀ i, i < j → ¬ (s i).tmod 4 = 0)
    (hf : (s j).tmod 4 = 0) (hs0 : 0 ≤ s j) (hs1 : s j ≤ 4611686018427387904) (w : World) (C : Clk w n now busy s d f) :
    Calls Try.prog 5 #[.pointer (some ⟨n + 2, 0, none⟩), .pointer none, .int .i64 due, .func g q1 q2] w (SetTo w n j ji y now busy due s d f (.func g q1 q2)) := by
  subst hji hy
  exact (set_at n j due now busy s d f g q1 q2 h0 h1 hj hb hf hs0 hs1 w C).mono fun e w' h => h

def StopTo (w : World) (n j : Nat) (y now busy : Int) (s d : Nat → Int) (f : Nat → Value) : Ending → World → Prop := fun e w' =>
  e = .returned (.bool true) ∧ Clk w' n now busy (put s j y) d f ∧ Kept (Own n) w w'

theorem stop_to (n j : Nat) (ji x y now busy : Int) (s d : Nat → Int) (f : Nat → Value) (hji : (j : Int) = ji) (hx : s j = x) (hy : s j + 2 = y) (hj : j < 16) (hb : (s j).tmod 4 = 2) (h0 : 0 ≤ s j) (h1 : s j ≤ 4611686018427387904) (w : World) (C : Clk w n now busy s d f) :
    Calls Try.prog 7 #[.pointer (some ⟨n + 2, 0, none⟩), .pointer none, .agg #[.int .i64 ji, .int .i64 x]] w (StopTo w n j y now busy s d f) := by
  subst hji hy hx
  exact (stop_hit n j now busy s d f hj hb h0 h1 w C).mono fun e w' h => h

theorem stop_off (n j : Nat) (ji b now busy : Int) (s d : Nat → Int) (f : Nat → Value) (hji : (j : Int) = ji) (hj : j < 16) (hb : b.tmod 4 = 2) (hne : ¬ s j = b) (w : World) (C : Clk w n now busy s d f) :
    Calls Try.prog 7 #[.pointer (some ⟨n + 2, 0, none⟩), .pointer none, .agg #[.int .i64 ji, .int .i64 b]] w fun e w' => e = .returned (.bool false) ∧ Below w.heap.size w w' := by
  subst hji
  exact stop_miss n j b now busy s d f hj hb hne w C

/-- The slots of works ahead of its Advance. -/
def ws : Nat → Int := put (put (put z0 0 2) 1 2) 0 4
def wd : Nat → Int := put (put z0 0 5) 1 3

theorem look_ws : look ws wd 9 16 = some 1 := by decide
theorem look_ws' : look (put ws 1 4) wd 9 16 = none := by decide

/-- works behind r rings. -/
def WorksAt (w0 : World) (R : Nat) (u : Value) (r : Nat) (w : World) : Prop :=
  Below w0.heap.size w0 w ∧ IntAt w R r ∧ w0.heap.size + 35 ≤ R ∧
    (r = 0 → Clk w w0.heap.size 9 1 ws wd (put (put f0 0 u) 1 u)) ∧ (r = 1 → Clk w w0.heap.size 9 1 (put ws 1 4) wd (put (put (put f0 0 u) 1 u) 1 .nilFunc))

theorem works_ring (w0 : World) (R : Nat) (w : World) (H : WorksAt w0 R (.func (.func 20) #[] #[.pointer (some ⟨R, 0, none⟩)]) 0 w) :
    Calls Try.prog 29 #[.pointer (some ⟨w0.heap.size + 2, 2 + 3 * 1, none⟩), .pointer none, .int .i64 (ws 1)] w (OnePost (WorksAt w0 R (.func (.func 20) #[] #[.pointer (some ⟨R, 0, none⟩)])) (0 + 1)) := by
  obtain ⟨hB, hR, hge, hC, _⟩ := H
  have C := hC rfl
  have e22 : ∀ args w, (callFunc 20 args).run Try.prog w = .ok (.enter 20 args) w := enters_of Try.func20 (by kernel_rfl) rfl
  refine (ring_hit (fun w2 => Below w0.heap.size w0 w2 ∧ IntAt w2 R 1 ∧ Clk w2 w0.heap.size 9 1 (put ws 1 3) wd (put (put (put f0 0 (.func (.func 20) #[] #[.pointer (some ⟨R, 0, none⟩)])) 1 (.func (.func 20) #[] #[.pointer (some ⟨R, 0, none⟩)])) 1 .nilFunc)) 20 #[.pointer (some ⟨R, 0, none⟩)] w0.heap.size 1 9 1 ws wd _ e22 (by omega) (by decide) (by decide) rfl w C ?_).mono ?_
  · intro w1 C1 K1
    have hR1 := hR.kept K1 (fun h => by have := h.2; omega)
    refine (count_up R 0 (by omega) (by omega) w1 hR1).mono ?_
    rintro e w2 ⟨rfl, rfl⟩
    have ho : ¬ Own w0.heap.size R := fun h => by have := h.2; omega
    have C2 := C1.far ⟨R, 0, none⟩ (.int .i64 (0 + 1)) ho
    refine C2.callPost (by omega) (by decide) ⟨?_, ?_, ?_⟩
    · exact (hB.trans (K1.below (by have := hB.size; omega) (own_ge (Nat.le_refl _)))).setCell (p := ⟨R, 0, none⟩) (by show _ ≤ R; omega) _
    · exact hR1.set 1
    · exact C2
  · rintro e w' ⟨rfl, w2, ⟨h1, h2, h3⟩, rfl⟩
    refine ⟨rfl, h1.setCell (p := ⟨w0.heap.size + 3 + 2 * 1, 0, none⟩) (by show w0.heap.size ≤ w0.heap.size + 3 + 2 * 1; omega) _, ?_, hge, fun h => by omega, fun _ => ?_⟩
    · exact h2.kept (Kept.one w2 ⟨w0.heap.size + 3 + 2 * 1, 0, none⟩ _) (by show ¬ R = w0.heap.size + 3 + 2 * 1; omega)
    · have := h3.setState 1 (by omega) (ws 1 + 2)
      rw [put_put] at this
      exact this

theorem run_neq_timer (w : World) : (binOp BinOp.neq 32 (.agg #[.int .i64 1, .int .i64 2]) (.agg #[.int .i64 1, .int .i64 2])).run Try.prog w = .ok (.bool false) w := by kernel_rfl

set_option maxRecDepth 100000 in
set_option maxHeartbeats 800000 in
theorem works_any (w : World) : Calls Try.prog 10 #[] w (TruePost w) := by
  have hmf : ∀ (fn : Fn) (first cap : Array Value) (w : World), (Instr.makeFunc fn first cap).run Try.prog w = .ok (.func fn first cap) w := fun _ _ _ _ => rfl
  go_enter Try.func10, Try.ntmps10
  go_wp2_with fail
  refine (new_made _).mono ?_
  rintro e W1 ⟨rfl, hC, hB⟩
  have C1 := Lib.hid hC
  have B1 := Lib.hid hB
  clear hC hB
  go_wp2_with fail
  have s1 : w.heap.size + 35 ≤ W1.heap.size := C1.out.size
  have V1 := Lib.hid (show IntAt (W1.alloc (.cells #[.int .i64 0] 3)) W1.heap.size 0 from ⟨by simp, by simp, by simp⟩)
  refine (set_to w.heap.size 0 0 2 5 0 0 z0 z0 f0 (.func 20) #[] #[.pointer (some ⟨W1.heap.size, 0, none⟩)] rfl rfl (by omega) (by omega) (by omega) (fun i hi => by omega) (by decide) (by decide) (by decide) _ (C1.out.alloc _)).mono ?_
  rintro e W2 ⟨rfl, hC, hK⟩
  have ho : ¬ Own w.heap.size W1.heap.size := fun h => by have := h.2; omega
  have C2 := Lib.hid hC
  have V2 := Lib.hid (V1.out.kept hK ho)
  have B2 := Lib.hid (Kept.grow ((B1.out.alloc (by omega) _)) hK (by simp; omega) (own_ge (Nat.le_refl _)))
  have s2 : W1.heap.size < W2.heap.size := by have := hK.size; simp at this; omega
  clear hC hK V1
  go_wp2_with fail
  refine (set_to w.heap.size 1 1 2 3 0 0 (put z0 0 2) (put z0 0 5) (put f0 0 _) (.func 20) #[] #[.pointer (some ⟨W1.heap.size, 0, none⟩)] rfl (by decide) (by omega) (by omega) (by omega) first_taken (by decide) (by decide) (by decide) _ (C2.out.alloc _)).mono ?_
  rintro e W3 ⟨rfl, hC, hK⟩
  have o2 : ¬ Own w.heap.size W2.heap.size := fun h => by have := h.2; omega
  have C3 := Lib.hid hC
  have V3 := Lib.hid ((V2.out.kept ((Kept.refl (fun _ => False) _).alloc (.cells #[.int .i64 0, .int .i64 2] 32)) id).kept hK ho)
  have B3 := Lib.hid (Kept.grow ((B2.out.alloc (by omega) (.cells #[.int .i64 0, .int .i64 2] 32))) hK (by simp; omega) (own_ge (Nat.le_refl _)))
  have s3 : W2.heap.size < W3.heap.size := by have := hK.size; simp at this; omega
  have a0 : W3.cell? ⟨W2.heap.size, 0, none⟩ = some (.int .i64 0) := (hK.cell (p := ⟨W2.heap.size, 0, none⟩) (by simp) o2).trans (by simp)
  have a1 : W3.cell? ⟨W2.heap.size, 1, none⟩ = some (.int .i64 2) := (hK.cell (p := ⟨W2.heap.size, 1, none⟩) (by simp) o2).trans (by simp)
  have HO := Lib.hid ho
  have HO2 := Lib.hid o2
  clear hC hK V2 ho o2
  go_wp2_with fail
  have b0 : (W3.alloc (.cells #[.int .i64 1, .int .i64 2] 32)).cell? ⟨W3.heap.size, 0, none⟩ = some (.int .i64 1) := by simp
  have b1 : (W3.alloc (.cells #[.int .i64 1, .int .i64 2] 32)).cell? ⟨W3.heap.size, 1, none⟩ = some (.int .i64 2) := by simp
  have a2 : (W3.alloc (.cells #[.int .i64 1, .int .i64 2] 32)).cell? ⟨W2.heap.size, 0, none⟩ = some (.int .i64 0) := by go_simp
  have a3 : (W3.alloc (.cells #[.int .i64 1, .int .i64 2] 32)).cell? ⟨W2.heap.size, 1, none⟩ = some (.int .i64 2) := by go_simp
  refine (stop_to w.heap.size 0 0 2 4 0 0 (put (put z0 0 2) 1 2) wd _ rfl (by decide) (by decide) (by omega) (by decide) (by decide) (by decide) _ (C3.out.alloc _)).mono ?_
  rintro e W4 ⟨rfl, hC, hK⟩
  have o3 : ¬ Own w.heap.size W3.heap.size := fun h => by have := h.2; omega
  have C4 := Lib.hid hC
  have V4 := Lib.hid ((V3.out.kept ((Kept.refl (fun _ => False) _).alloc (.cells #[.int .i64 1, .int .i64 2] 32)) id).kept hK HO.out)
  have B4 := Lib.hid (Kept.grow ((B3.out.alloc (by omega) (.cells #[.int .i64 1, .int .i64 2] 32))) hK (by simp; omega) (own_ge (Nat.le_refl _)))
  have s4 : W3.heap.size < W4.heap.size := by have := hK.size; simp at this; omega
  have a4 : W4.cell? ⟨W2.heap.size, 0, none⟩ = some (.int .i64 0) := (hK.cell (p := ⟨W2.heap.size, 0, none⟩) (by simp; omega) HO2.out).trans a2
  have a5 : W4.cell? ⟨W2.heap.size, 1, none⟩ = some (.int .i64 2) := (hK.cell (p := ⟨W2.heap.size, 1, none⟩) (by simp; omega) HO2.out).trans a3
  have b2 : W4.cell? ⟨W3.heap.size, 0, none⟩ = some (.int .i64 1) := (hK.cell (p := ⟨W3.heap.size, 0, none⟩) (by simp) o3).trans b0
  have b3 : W4.cell? ⟨W3.heap.size, 1, none⟩ = some (.int .i64 2) := (hK.cell (p := ⟨W3.heap.size, 1, none⟩) (by simp) o3).trans b1
  clear hC hK V3 o3 b0 b1 a0 a1 a2 a3
  go_wp2_with fail
  refine (stop_off w.heap.size 0 0 2 0 0 ws wd _ rfl (by omega) (by decide) (by decide) _ C4.out).mono ?_
  rintro e W5 ⟨rfl, hB⟩
  have K5 := Kept.ofBelow hB (Nat.le_refl _) (fun _ => False)
  have C5 := Lib.hid (C4.out.kept K5 fun _ _ => id)
  have V5 := Lib.hid (V4.out.kept K5 id)
  have B5 := Lib.hid (Kept.grow B4.out K5 (by omega) fun _ h => h.elim)
  have s5 : W4.heap.size ≤ W5.heap.size := hB.size
  have b4 : W5.cell? ⟨W3.heap.size, 0, none⟩ = some (.int .i64 1) := (K5.cell (p := ⟨W3.heap.size, 0, none⟩) s4 id).trans b2
  have b5 : W5.cell? ⟨W3.heap.size, 1, none⟩ = some (.int .i64 2) := (K5.cell (p := ⟨W3.heap.size, 1, none⟩) s4 id).trans b3
  clear hB K5 V4 B4 C4 b2 b3 a4 a5
  have hne := run_neq_timer
  go_wp2_with fail
  have HA := adv_made (WorksAt w W1.heap.size (.func (.func 20) #[] #[.pointer (some ⟨W1.heap.size, 0, none⟩)])) w.heap.size 1 0 9 ws wd _ (by omega) (by omega) (by omega) (by omega) _ C5.out
  rw [show later 0 9 = 9 by decide] at HA
  refine (HA ?_ ?_ ?_).mono ?_
  · intro w1 h1 h2
    exact ⟨Kept.grow B5.out h2 (by omega) (own_ge (Nat.le_refl _)), V5.out.kept h2 HO.out, s1, fun _ => h1, fun h => by omega⟩
  · intro r w1 hr H
    obtain rfl : r = 0 := by omega
    exact ⟨ws, wd, _, 1, H.2.2.2.1 rfl, by omega, look_ws, works_ring w W1.heap.size w1 H⟩
  · intro w1 H
    exact ⟨_, _, _, H.2.2.2.2 rfl, .inl look_ws'⟩
  rintro e W6 ⟨rfl, W7, ⟨B7, V7, _, _, hC7⟩, rfl⟩
  have C8 := Lib.hid ((hC7 rfl).setBusy 0)
  have V8 := V7.kept (Kept.one W7 ⟨w.heap.size + 1, 0, none⟩ (.int .i64 0)) (by show ¬ W1.heap.size = w.heap.size + 1; omega)
  have B8 := Lib.hid (B7.setCell (p := ⟨w.heap.size + 1, 0, none⟩) (by show w.heap.size ≤ w.heap.size + 1; omega) (.int .i64 0))
  have r8 := V8.c
  clear hC7 V8 V7 B7 HA
  generalize W7.setCell ⟨w.heap.size + 1, 0, none⟩ (.int .i64 0) = W8 at C8 r8 B8 ⊢
  go_wp2_with fail
  refine (now_made w.heap.size 9 0 _ _ _ _ C8.out).mono ?_
  rintro e w' ⟨rfl, rfl⟩
  go_wp2_with fail
  go_ret
  exact ⟨rfl, B8.out⟩

end Go.Proofs.Ytmlemofnakfpgaa

/-
  treadlelaw17.works, walked.
-/
import Derived.Test.YtkbcpifhbpfhlaaGreatDoorLim7
import Derived.Test.YtkbcpifhbpfhlaaGreatDoorFlt6
namespace Go.Proofs.YtkbcpifhbpfhlaaGreatDoor
open Go.RowKit

theorem own_ids {n : Nat} {I : Ids} (ok : I.Ok) (h : n + 35 ≤ I.nf) : ∀ k, Own n k → ¬ I.Own k := by
  have a1 := ok.f
  rintro k hk (h1 | h1)
  · have := hk.2; omega
  · have := hk.2; omega

theorem own_jds {n : Nat} {J : Jds} (h : n + 35 ≤ J.c) : ∀ k, Own n k → ¬ J.Own k := by
  intro k hk h1
  have := hk.2; have := h1.1; omega

theorem Ids.Ok.le {I : Ids} (ok : I.Ok) : I.nf + 6 ≤ I.ng ∧ I.ng + 6 ≤ I.hi := by
  obtain ⟨a1, a2, a3, a4, a5, a6, a7, a8⟩ := ok; omega

theorem ids_jds {I : Ids} {J : Jds} (ok : I.Ok) (h : I.hi ≤ J.c) : ∀ k, I.Own k → ¬ J.Own k := by
  have := ok.le
  rintro k (h1 | h1) h2
  · have := h2.1; omega
  · have := h2.1; omega

def WorksPost (w : World) : Ending → World → Prop := fun e w' => e = .returned (.bool true) ∧ Kept (fun _ => False) w w'

def z0 : Nat → Int := fun _ => 0

theorem busy0 (i : Nat) (hi : i < 0) (s : Nat → Int) : ¬ (s i).tmod 4 = 0 := by omega
theorem busy1 (x : Int) (hx : ¬ x.tmod 4 = 0) (i : Nat) (hi : i < 1) : ¬ (put z0 0 x i).tmod 4 = 0 := by
  obtain rfl : i = 0 := by omega
  rw [put_same]; exact hx
theorem busy2 (x y : Int) (hx : ¬ x.tmod 4 = 0) (hy : ¬ y.tmod 4 = 0) (i : Nat) (hi : i < 2) : ¬ (put (put z0 0 x) 1 y i).tmod 4 = 0 := by
  rcases (show i = 0 ∨ i = 1 by omega) with rfl | rfl
  · rw [put_other _ _ _ _ (by omega), put_same]; exact hx
  · rw [put_same]; exact hy

def ws0 : Nat → Int := put z0 0 2
def ws1 : Nat → Int := put ws0 1 2
def ws2 : Nat → Int := put ws1 2 2
def ws3 : Nat → Int := put ws2 0 4
def wd2 : Nat → Int := put (put (put z0 0 3) 1 3) 2 4

theorem look_w1 : look ws3 wd2 (later 0 9) 16 = some 1 := by decide
theorem look_w2 : look (put ws3 1 (ws3 1 + 2)) wd2 (later 0 9) 16 = some 2 := by decide
theorem look_w3 : look (put (put ws3 1 (ws3 1 + 2)) 2 (ws3 2 + 2)) wd2 (later 0 9) 16 = none := by decide

set_option maxRecDepth 100000 in
set_option maxHeartbeats 1600000 in
theorem works_any (w : World) (hg : ErrorType w) : Calls Tryz.prog 10 #[] w (WorksPost w) := by
  have HG := Lib.hid hg
  clear hg
  go_enter Tryz.func10, Tryz.ntmps10
  go_wp2_with fail
  refine (new_made _).mono ?_
  rintro e w1 ⟨rfl, C, B⟩
  have C1 := Lib.hid C
  have S1 := Lib.hid C.size
  have K1 := Lib.hid (Kept.ofBelow B (Nat.le_refl _) (fun _ => False))
  clear C B
  go_wp2_with fail
  refine (fnew_any _).mono ?_
  rintro e w2 ⟨la, ha, pa, rfl, z, F, K⟩
  have Z2 := Lib.hid z
  have F2 := Lib.hid F
  have C2 := Lib.hid (C1.out.kept K fun _ _ => id)
  have K2 := Lib.hid (K1.out.trans K)
  clear z F K C1 K1
  go_wp2_with fail
  refine (fnew_any _).mono ?_
  rintro e w3 ⟨lb, hb, pb, rfl, z, F, K⟩
  have Z3 := Lib.hid z
  have A3 := Lib.hid (F2.out.far K)
  have B3 := Lib.hid F
  have C3 := Lib.hid (C2.out.kept K fun _ _ => id)
  have K3 := Lib.hid (K2.out.trans K)
  clear z F K F2 C2 K2
  go_wp2_with fail
  refine (within_made w.heap.size 0 w1.heap.size la ha pa 0 0 z0 z0 (fun _ => .nilFunc) 3 (by omega) (by omega) (by omega) (by omega) (fun i hi => busy0 i hi _) (by decide) (by decide) (by decide) _ C3.out A3.out S1.out).mono ?_
  rintro e w4 ⟨X, rfl, e1, _, _, _, g4, X4, C, K⟩
  have E1 := Lib.hid e1
  have G4 := Lib.hid g4
  have hX4 := Lib.hid X4
  have L4 := Lib.hid X4.lt
  have C4 := Lib.hid C
  have K4 := Lib.hid (K3.out.far K (by rintro i (h | h); exact h.1; have := h.1; have := S1.out; omega))
  have B4 := Lib.hid (B3.out.kept K (by
    rintro c hc (h | h)
    · have := hc.1; have := h.2; have := S1.out; have := Z2.out; omega
    · have := hc.1; have := h.2; have := Z2.out; omega))
  clear e1 g4 X4 C K C3 A3 B3 K3
  go_wp2_with fail
  refine (within_made w.heap.size 1 w2.heap.size lb hb pb 0 0 ws0 (put z0 0 3) _ 3 (by omega) (by omega) (by omega) (by omega) (fun i hi => busy1 2 (by decide) i hi) (by decide) (by decide) (by decide) _ C4.out B4.out (by have := S1.out; have := Z2.out; omega)).mono ?_
  rintro e w5 ⟨Y, rfl, e1, _, _, _, g5, Y5, C, K⟩
  have E2 := Lib.hid e1
  have G5 := Lib.hid g5
  have hY5 := Lib.hid Y5
  have C5 := Lib.hid C
  have K5 := Lib.hid (K4.out.far K (by rintro i (h | h); exact h.1; have := h.1; have := S1.out; have := Z2.out; omega))
  have X5 := Lib.hid (hX4.out.kept K (by
    have z2 := Z2.out
    have z3 := Z3.out
    have s1 := S1.out
    have e1 := E1.out
    have g4 := G4.out
    have ok := hX4.out.ok
    rintro c hc (h | h)
    · exact own_ids ok (by omega) c h hc
    · have h1 := h.1
      have h2 := h.2
      rcases hc with hc | hc
      · omega
      · omega))
  clear e1 g5 Y5 C K C4 B4 K4 hX4
  go_wp2_with fail
  refine (Tk.new_any _).mono ?_
  rintro e w6 ⟨lt, ht, pt, rfl, z, N, K⟩
  have Z6 := Lib.hid z
  have N6 := Lib.hid N
  have C6 := Lib.hid (C5.out.kept K fun _ _ => id)
  have X6 := Lib.hid (X5.out.kept K fun _ _ => id)
  have Y6 := Lib.hid (hY5.out.kept K fun _ _ => id)
  have K6 := Lib.hid (K5.out.trans K)
  have L5 : Hid (X.hi ≤ w5.heap.size ∧ Y.hi ≤ w5.heap.size ∧ w.heap.size + 35 ≤ w5.heap.size) := ⟨X5.out.lt, hY5.out.lt, C5.out.size⟩
  clear z N K C5 X5 hY5 K5
  go_wp2_with fail
  refine (deadline_made w.heap.size 2 (w5.heap.size + 5) w5.heap.size (w5.heap.size + 4) lt ht pt 0 0 ws1 (put (put z0 0 3) 1 3) _ 4 (by omega) (by omega) (by omega) (by omega) (fun i hi => busy2 2 2 (by decide) (by decide) i hi) (by decide) (by decide) (by decide) _ C6.out N6.out.hd N6.out.live
    (fun h => by have := h.2; have := N6.out.sl; have := L5.out; omega) (fun h => by have := h.2; have := N6.out.sh; have := L5.out; omega) (fun h => by have := h.2; have := N6.out.sp; have := L5.out; omega)).mono ?_
  rintro e w7 ⟨J, rfl, g7, D, C, K⟩
  have G7 := Lib.hid g7
  have D7 := Lib.hid D
  have C7 := Lib.hid C
  have hq : ∀ c, c < w5.heap.size → ¬ (c = lt ∨ c = ht ∨ c = pt) := by
    have a1 := N6.out.sl
    have a2 := N6.out.sh
    have a3 := N6.out.sp
    rintro c hc (h | h | h) <;> omega
  have K7 := Lib.hid (K6.out.far K (by
    have a1 := N6.out.sl
    have a2 := N6.out.sh
    have a3 := N6.out.sp
    have := L5.out
    rintro i (h | h | h | h)
    · exact h.1
    · omega
    · omega
    · omega))
  have okx := X6.out.ok
  have oky := Y6.out.ok
  have X7 := Lib.hid (X6.out.kept K (by
    have l5 := L5.out
    have s1 := S1.out
    have e1 := E1.out
    have lx := okx.le
    rintro c hc (h | h)
    · exact own_ids okx (by omega) c h hc
    · exact hq c (by rcases hc with hc | hc <;> omega) h))
  have Y7 := Lib.hid (Y6.out.kept K (by
    have l5 := L5.out
    have s1 := S1.out
    have e2 := E2.out
    have z2 := Z2.out
    have ly := oky.le
    rintro c hc (h | h)
    · exact own_ids oky (by omega) c h hc
    · exact hq c (by rcases hc with hc | hc <;> omega) h))
  have KX := Lib.hid okx
  have KY := Lib.hid oky
  clear g7 D C K C6 X6 Y6 K6 hq okx oky
  go_wp2_with fail
  have DX : Hid (∀ k, Own w.heap.size k → ¬ X.Own k) := own_ids KX.out (by have := E1.out; have := S1.out; omega)
  have DY : Hid (∀ k, Own w.heap.size k → ¬ Y.Own k) := own_ids KY.out (by have := E2.out; have := S1.out; have := Z2.out; omega)
  have DJ : Hid (∀ k, Own w.heap.size k → ¬ J.Own k) := own_jds (by have := L5.out; have := G7.out; have := Z6.out; omega)
  have DXY : Hid (∀ k, X.Own k → ¬ Y.Own k) := by
    have e1 := E1.out
    have e2 := E2.out
    have z2 := Z2.out
    have z3 := Z3.out
    have g4 := G4.out
    have g5 := G5.out
    have lx := KX.out.le
    have ly := KY.out.le
    have l7 := X7.out.lt
    rintro k (h1 | h1) (h2 | h2)
    · omega
    · omega
    · omega
    · have := L4.out; omega
  have HC := Lib.hid (complete_itm w.heap.size 0 X 0 0 (later 0 3) 5 ws2 wd2 _ (by omega) (by decide) (by decide) (by decide) _ C7.out X7.out DX.out)
  rw [E1.out] at HC
  refine HC.out.mono ?_
  rintro e w8 ⟨rfl, _, X8, C, K⟩
  have hX8 := Lib.hid X8
  have C8 := Lib.hid C
  have Y8 := Lib.hid (Y7.out.kept K (by
    rintro c hc (h | h)
    · exact DY.out c h hc
    · exact DXY.out c h hc))
  have DXJ := Lib.hid (ids_jds KX.out (by have := L5.out; have := G7.out; have := Z6.out; omega : X.hi ≤ J.c))
  have DYJ := Lib.hid (ids_jds KY.out (by have := L5.out; have := G7.out; have := Z6.out; omega : Y.hi ≤ J.c))
  have D8 := Lib.hid (D7.out.kept K (by
    rintro c hc (h | h)
    · exact DJ.out c h hc
    · exact DXJ.out c h hc))
  have K8 := Lib.hid (K7.out.far K (by
    have s1 := S1.out
    have e1 := E1.out
    have lx := KX.out.le
    rintro i (h | h | h)
    · exact h.1
    · omega
    · omega))
  clear X8 C K HC C7 X7 Y7 D7 K7
  go_wp2_with fail
  refine (adv_two w.heap.size 1 2 Y J 0 9 (later 0 3) (later 0 4) ws3 wd2 _ (by omega) (by omega) (by omega) (by omega) (by omega) (by omega) (by decide) (by decide) look_w1 look_w2 look_w3 rfl rfl _ C8.out Y8.out D8.out DY.out DJ.out DYJ.out).mono ?_
  rintro e w9 ⟨rfl, T, X9, H9, K⟩
  obtain ⟨y, F⟩ := T
  have F9 := Lib.hid F
  have hX9 := Lib.hid X9
  have hH9 := Lib.hid H9
  have V9 := Lib.hid (hX8.out.kept K (by
    have hin : ∀ c, FOwn X.ng c → X.Own c := fun c hc => .inr ⟨hc.1, by have := hc.2; have := KX.out.le; omega⟩
    rintro c hc (h | h | h)
    · exact DX.out c h (hin c hc)
    · exact DXY.out c (hin c hc) (.inr ⟨h.1, by have := h.2; have := KY.out.le; omega⟩)
    · exact DXJ.out c (hin c hc) h))
  have K9 := Lib.hid (K8.out.far K (by
    have s1 := S1.out
    have e2 := E2.out
    have z2 := Z2.out
    have ly := KY.out.le
    have g7 := G7.out
    have l5 := L5.out
    have z6 := Z6.out
    rintro i (h | h | h)
    · exact h.1
    · omega
    · have := h.1; omega))
  clear F X9 H9 K C8 Y8 D8 K8 hX8
  go_wp2_with fail
  refine (fawait_is (by omega) _ V9.out).mono ?_
  rintro e w10 ⟨rfl, K⟩
  have F10 := Lib.hid (F9.out.far K)
  have X10 := Lib.hid (hX9.out.kept K id)
  have H10 := Lib.hid (hH9.out.kept K id)
  have K10 := Lib.hid (K9.out.trans K)
  clear K F9 V9 hX9 hH9 K9
  go_wp2_with fail
  refine (fawait_is (by omega) _ F10.out).mono ?_
  rintro e w11 ⟨rfl, K⟩
  have X11 := Lib.hid (X10.out.kept K id)
  have H11 := Lib.hid (H10.out.kept K id)
  have K11 := Lib.hid (K10.out.trans K)
  clear K F10 X10 H10 K10
  go_wp2_with fail
  refine (class_late _ _ (HG.out.kept K11.out id)).mono ?_
  rintro e w12 ⟨rfl, K⟩
  have X12 := Lib.hid (X11.out.kept K id)
  have H12 := Lib.hid (H11.out.kept K id)
  have K12 := Lib.hid (K11.out.trans K)
  clear K X11 H11 K11
  go_wp2_with fail
  refine (Tk.reason_is _ _ 1 _ H12.out.k0 X12.out).mono ?_
  rintro e w13 ⟨rfl, hw⟩
  obtain rfl := hw.symm
  go_wp2_with fail
  go_ret
  exact ⟨rfl, K12.out⟩

end Go.Proofs.YtkbcpifhbpfhlaaGreatDoor

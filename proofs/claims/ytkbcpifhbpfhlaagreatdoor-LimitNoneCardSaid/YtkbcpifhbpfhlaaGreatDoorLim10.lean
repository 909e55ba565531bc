/-
  treadlelaw17.LimitNone, walked: a time that is none below 0.
-/
import Derived.Test.YtkbcpifhbpfhlaaGreatDoorLim9
namespace Go.Proofs.YtkbcpifhbpfhlaaGreatDoor
open Go.RowKit

theorem look_from {s d : Nat → Int} {m : Int} (a : Nat) (h : ∀ i, a ≤ i → i < 16 → ¬ (s i).tmod 4 = 2) : ∀ k, a + k ≤ 16 → look s d m (a + k) = look s d m a
  | 0, _ => rfl
  | k + 1, hk => by
    show look s d m (a + k + 1) = _
    rw [look_no1 (h (a + k) (by omega) (by omega)), look_from a h k (by omega)]

def ns : Nat → Int := put (put z0 0 2) 1 2
def nd (x : Int) : Nat → Int := put (put z0 0 x) 1 x

theorem rest_none (i : Nat) (h2 : 2 ≤ i) (a b : Int) : ¬ (put (put z0 0 a) 1 b i).tmod 4 = 2 := by
  rw [put_other _ _ _ _ (by omega), put_other _ _ _ _ (by omega)]; show ¬ (0 : Int).tmod 4 = 2; decide

theorem nd0 (x : Int) : nd x 0 = x := by unfold nd; rw [put_other _ _ _ _ (by omega), put_same]
theorem nd1 (x : Int) : nd x 1 = x := by unfold nd; rw [put_same]

theorem look_n1 (x : Int) : look ns (nd x) x 16 = some 0 := by
  rw [show (16 : Nat) = 2 + 14 from rfl, look_from (s := ns) 2 (fun i h _ => rest_none i h 2 2) 14 (by omega)]
  have e : look ns (nd x) x 1 = some 0 := look_yes (by decide) (by show nd x 0 < x + 1; rw [nd0]; omega)
  rw [look_no2 (by rw [e]; show ¬ nd x 1 < nd x 0; rw [nd0, nd1]; omega), e]

theorem put_ns0 : put ns 0 (ns 0 + 2) = put (put z0 0 4) 1 2 := by
  funext i; simp only [put, ns]; split <;> (try split) <;> simp_all

theorem look_n2 (x : Int) : look (put ns 0 (ns 0 + 2)) (nd x) x 16 = some 1 := by
  rw [put_ns0, show (16 : Nat) = 2 + 14 from rfl, look_from 2 (fun i h _ => rest_none i h 4 2) 14 (by omega)]
  have e : look (put (put z0 0 4) 1 2) (nd x) x 1 = none := look_no1 (by decide)
  rw [look_yes (by decide) (by rw [e]; show nd x 1 < x + 1; rw [nd1]; omega)]

theorem look_n3 (x : Int) : look (put (put ns 0 (ns 0 + 2)) 1 (ns 1 + 2)) (nd x) x 16 = none := by
  have e0 : put (put ns 0 (ns 0 + 2)) 1 (ns 1 + 2) = put (put z0 0 4) 1 4 := by
    rw [put_ns0, put_put]; rfl
  rw [e0, show (16 : Nat) = 2 + 14 from rfl, look_from 2 (fun i h _ => rest_none i h 4 4) 14 (by omega), look_no1 (by decide), look_no1 (by decide)]
  rfl

set_option maxRecDepth 100000 in
set_option maxHeartbeats 1600000 in
theorem none_high (d : Int) (hd : 0 ≤ d) (w : World) (hg : ErrorType w) : Calls Tryz.prog 3 #[.int .i64 d] w (WorksPost w) := by
  have hdl : ¬ d < 0 := by omega
  have HG := Lib.hid hg
  have HD := Lib.hid hd
  clear hg
  go_enter Tryz.func3, Tryz.ntmps3
  go_wp2_with fail
  refine (new_made _).mono ?_
  rintro e w1 ⟨rfl, C, B⟩
  have C1 := Lib.hid C
  have S1 := Lib.hid C.size
  have K1 := Lib.hid (Kept.ofBelow B (Nat.le_refl _) (fun _ => False))
  clear C B
  go_wp2_with fail
  refine (Tk.new_any _).mono ?_
  rintro e w2 ⟨lt, ht, pt, rfl, z, N, K⟩
  have Z2 := Lib.hid z
  have N2 := Lib.hid N
  have C2 := Lib.hid (C1.out.kept K fun _ _ => id)
  have K2 := Lib.hid (K1.out.trans K)
  clear z N K C1 K1
  go_wp2_with fail
  refine (fnew_any _).mono ?_
  rintro e w3 ⟨lf, hf, pf, rfl, z, F, K⟩
  have F3 := Lib.hid F
  have Z3 := Lib.hid z
  have N3 := Lib.hid (N2.out.kept K fun _ _ _ => id)
  have C3 := Lib.hid (C2.out.kept K fun _ _ => id)
  have K3 := Lib.hid (K2.out.trans K)
  clear z F K N2 C2 K2
  go_wp2_with fail
  refine (within_unmade _ _ d _ (unmade_nil _)).mono ?_
  rintro e w4 ⟨rfl, K⟩
  have F4 := Lib.hid (F3.out.far K)
  have N4 := Lib.hid (N3.out.kept K fun _ _ _ => id)
  have C4 := Lib.hid (C3.out.kept K fun _ _ => id)
  have K4 := Lib.hid (K3.out.trans K)
  clear K F3 N3 C3 K3
  go_wp2_with fail
  refine (within_nofuture w.heap.size _ _ _ _ _ d _ C4.out).mono ?_
  rintro e w5 ⟨rfl, K⟩
  have F5 := Lib.hid (F4.out.far K)
  have N5 := Lib.hid (N4.out.kept K fun _ _ _ => id)
  have C5 := Lib.hid (C4.out.kept K fun _ _ => id)
  have K5 := Lib.hid (K4.out.trans K)
  clear K F4 N4 C4 K4
  go_wp2_with fail
  refine (within_unmade _ _ d _ (unmade_bare _ _ (by go_simp) (by simp))).mono ?_
  rintro e w6 ⟨rfl, K⟩
  have KA := (Kept.refl (fun _ => False) w5).alloc (.cells #[.pointer none, .pointer none, .pointer none, .pointer none, .nilFunc, .pointer none, .pointer none, .nilFunc, .pointer none, .pointer none, .nilFunc, .pointer none, .pointer none, .nilFunc, .pointer none, .pointer none, .nilFunc, .pointer none, .pointer none, .nilFunc, .pointer none, .pointer none, .nilFunc, .pointer none, .pointer none, .nilFunc, .pointer none, .pointer none, .nilFunc, .pointer none, .pointer none, .nilFunc, .pointer none, .pointer none, .nilFunc, .pointer none, .pointer none, .nilFunc, .pointer none, .pointer none, .nilFunc, .pointer none, .pointer none, .nilFunc, .pointer none, .pointer none, .nilFunc, .pointer none, .pointer none, .nilFunc] 37) |>.trans K
  have F6 := Lib.hid (F5.out.far KA)
  have N6 := Lib.hid (N5.out.kept KA fun _ _ _ => id)
  have C6 := Lib.hid (C5.out.kept KA fun _ _ => id)
  have K6 := Lib.hid (K5.out.trans KA)
  clear K KA F5 N5 C5 K5
  go_wp2_with fail
  refine (deadline_unmade _ _ d _ (unmade_nil _)).mono ?_
  rintro e w7 ⟨rfl, K⟩
  have F7 := Lib.hid (F6.out.far K)
  have N7 := Lib.hid (N6.out.kept K fun _ _ _ => id)
  have C7 := Lib.hid (C6.out.kept K fun _ _ => id)
  have K7 := Lib.hid (K6.out.trans K)
  clear K F6 N6 C6 K6
  go_wp2_with fail
  have C7' := Lib.hid (C7.out.alloc (.cells #[.pointer none, .pointer none, .int .i64 0] 42))
  refine (deadline_bare w.heap.size w7.heap.size _ _ _ _ _ d _ C7'.out (by go_simp) (by simp)).mono ?_
  rintro e w8 ⟨rfl, K⟩
  have KA := (Kept.refl (fun _ => False) w7).alloc (.cells #[.pointer none, .pointer none, .int .i64 0] 42) |>.trans K
  have F8 := Lib.hid (F7.out.far KA)
  have N8 := Lib.hid (N7.out.kept KA fun _ _ _ => id)
  have C8 := Lib.hid (C7.out.kept KA fun _ _ => id)
  have K8 := Lib.hid (K7.out.trans KA)
  clear K KA F7 N7 C7 K7 C7'
  go_wp2_with fail
  refine (within_made w.heap.size 0 w2.heap.size lf hf pf 0 0 z0 z0 (fun _ => .nilFunc) d hd (by omega) (by omega) (by omega) (fun i hi => busy0 i hi _) (by decide) (by decide) (by decide) _ C8.out F8.out (by have := S1.out; have := Z2.out; omega)).mono ?_
  rintro e w9 ⟨X, rfl, e1, _, _, _, g9, X9, C, K⟩
  have E1 := Lib.hid e1
  have hX9 := Lib.hid X9
  have C9 := Lib.hid C
  have N9 := Lib.hid (N8.out.kept K (by
    have s1 := S1.out
    have z2 := Z2.out
    rintro c h1 h2 (h | h)
    · have := h.2; omega
    · have := h.1; omega))
  have K9 := Lib.hid (K8.out.far K (by rintro i (h | h); exact h.1; have := h.1; have := S1.out; have := Z2.out; omega))
  clear e1 g9 X9 C K C8 F8 N8 K8
  go_wp2_with fail
  refine (deadline_made w.heap.size 1 (w1.heap.size + 5) w1.heap.size (w1.heap.size + 4) lt ht pt 0 0 (put z0 0 2) (put z0 0 (later 0 d)) _ d hd (by omega) (by omega) (by omega) (fun i hi => busy1 2 (by decide) i hi) (by decide) (by decide) (by decide) _ C9.out N9.out.hd N9.out.live
    (fun h => by have := h.2; have := N9.out.sl; have := S1.out; omega) (fun h => by have := h.2; have := N9.out.sh; have := S1.out; omega) (fun h => by have := h.2; have := N9.out.sp; have := S1.out; omega)).mono ?_
  rintro e w10 ⟨J, rfl, g10, D, C, K⟩
  have okx := hX9.out.ok
  have D10 := Lib.hid D
  have C10 := Lib.hid C
  have hz : ∀ c, (c = w1.heap.size ∨ w1.heap.size + 4 ≤ c) → ¬ (Own w.heap.size c ∨ c = lt ∨ c = ht ∨ c = pt) := by
    have a1 := N9.out.sl
    have a2 := N9.out.sh
    have a3 := N9.out.sp
    have s1 := S1.out
    rintro c hc (h | h | h | h)
    · have := h.2; omega
    · omega
    · omega
    · omega
  have X10 := Lib.hid (hX9.out.kept K (by
    have e1 := E1.out
    have z2 := Z2.out
    have lx := okx.le
    intro c hc
    exact hz c (by rcases hc with hc | hc <;> omega)))
  have H10 := Lib.hid (N9.out.hd.kept K (hz _ (by omega)))
  have R10 := Lib.hid (N9.out.r.kept K (hz _ (.inl rfl)))
  have K10 := Lib.hid (K9.out.far K (by
    have a1 := N9.out.sl
    have a2 := N9.out.sh
    have a3 := N9.out.sp
    have s1 := S1.out
    rintro i (h | h | h | h)
    · exact h.1
    · omega
    · omega
    · omega))
  have KX := Lib.hid okx
  have L9 := Lib.hid hX9.out.lt
  have G10 := Lib.hid g10
  clear g10 D C K C9 N9 K9 hX9 hz okx
  go_wp2_with fail
  have DX : Hid (∀ k, Own w.heap.size k → ¬ X.Own k) := own_ids KX.out (by have := E1.out; have := S1.out; have := Z2.out; omega)
  have DJ : Hid (∀ k, Own w.heap.size k → ¬ J.Own k) := own_jds (by have := L9.out; have := G10.out; have := S1.out; have := E1.out; have := Z2.out; have := KX.out.le; omega)
  have DXJ := Lib.hid (ids_jds KX.out (by have := L9.out; have := G10.out; omega : X.hi ≤ J.c))
  refine (adv_two w.heap.size 0 1 X J 0 d (later 0 d) (later 0 d) ns (nd (later 0 d)) _ (by omega) (by omega) hd (by omega) (by omega) (by omega) (by decide) (by decide) (look_n1 _) (look_n2 _) (look_n3 _) rfl rfl _ C10.out X10.out D10.out DX.out DJ.out DXJ.out).mono ?_
  rintro e w11 ⟨rfl, T, X11, H11, K⟩
  obtain ⟨y, F⟩ := T
  have F11 := Lib.hid F
  have hX11 := Lib.hid X11
  have hH11 := Lib.hid H11
  have hz : ∀ c, (w1.heap.size ≤ c ∧ c < w1.heap.size + 6) → ¬ (Own w.heap.size c ∨ (X.ng ≤ c ∧ c < X.ng + 6) ∨ J.Own c) := by
    have e1 := E1.out
    have s1 := S1.out
    have z2 := Z2.out
    have lx := KX.out.le
    have l9 := L9.out
    have g10 := G10.out
    rintro c hc (h | h | h)
    · have := h.2; omega
    · omega
    · have := h.1; omega
  have P11 := Lib.hid (H10.out.kept K (hz _ (by omega)))
  have Q11 := Lib.hid (R10.out.kept K (hz _ (by omega)))
  have K11 := Lib.hid (K10.out.far K (by
    have e1 := E1.out
    have s1 := S1.out
    have z2 := Z2.out
    have lx := KX.out.le
    have l9 := L9.out
    have g10 := G10.out
    rintro i (h | h | h)
    · exact h.1
    · omega
    · have := h.1; omega))
  clear F X11 H11 K C10 X10 D10 K10 H10 R10 hz
  go_wp2_with fail
  refine (fawait_is (by omega) _ F11.out).mono ?_
  rintro e w12 ⟨rfl, K⟩
  have X12 := Lib.hid (hX11.out.kept K id)
  have H12 := Lib.hid (hH11.out.kept K id)
  have P12 := Lib.hid (P11.out.kept K id)
  have Q12 := Lib.hid (Q11.out.kept K id)
  have K12 := Lib.hid (K11.out.trans K)
  clear K F11 hX11 hH11 K11 P11 Q11
  go_wp2_with fail
  refine (class_late _ _ (HG.out.kept K12.out id)).mono ?_
  rintro e w13 ⟨rfl, K⟩
  have X13 := Lib.hid (X12.out.kept K id)
  have H13 := Lib.hid (H12.out.kept K id)
  have P13 := Lib.hid (P12.out.kept K id)
  have Q13 := Lib.hid (Q12.out.kept K id)
  have K13 := Lib.hid (K12.out.trans K)
  clear K X12 H12 K12 P12 Q12
  go_wp2_with fail
  refine (Tk.reason_is _ _ 1 _ H13.out.k0 X13.out).mono ?_
  rintro e w14 ⟨rfl, hw⟩
  obtain rfl := hw.symm
  go_wp2_with fail
  refine (Tk.reason_is _ _ 0 _ P13.out.k0 Q13.out).mono ?_
  rintro e w14 ⟨rfl, hw⟩
  obtain rfl := hw.symm
  go_wp2_with fail
  refine (works_any _ (HG.out.kept K13.out id)).mono ?_
  rintro e w15 ⟨rfl, K⟩
  have K15 := Lib.hid (K13.out.trans K)
  clear K K13
  go_wp2_with fail
  go_ret
  exact ⟨rfl, K15.out⟩

theorem walk_limitNone (d : Int) (w : World) (hg : ErrorType w) : Calls Tryz.prog 3 #[.int .i64 d] w (WorksPost w) := by
  by_cases hd : d < 0
  · exact none_low d hd w hg
  · exact none_high d (by omega) w hg

end Go.Proofs.YtkbcpifhbpfhlaaGreatDoor

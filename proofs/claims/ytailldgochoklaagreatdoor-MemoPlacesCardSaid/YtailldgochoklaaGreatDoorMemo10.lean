/-
  Get of a key that was built, of one that finds no place; Keys; what works() calls.
-/
import Derived.Test.YtailldgochoklaaGreatDoorMemo9
namespace Go.Proofs.YtailldgochoklaaGreatDoor
open Go.RowKit

set_option maxRecDepth 100000 in
set_option maxHeartbeats 1600000 in
theorem get_again (B n k p K : Nat) (caps : Array Value) (hn : IsP n k) (hpn : p < n) (hn2 : n ≤ 2) (key v s hd : Int) (x : Value) (hs : 2 ≤ s) (h0 : 0 ≤ key) (h1 : key < 9223372036854775807) (hp : plc key k = p) (w : World)
    (hz : 1 < w.heap.size) (hBz : B + 9 + 7 * p ≤ w.heap.size) (ht : Tab64 w) (bx : Slot w (B + 1) 0 (.slice (some ⟨B, 0, none⟩) n n)) (P : Plc w B p (key + 1) s v x hd) :
    Calls Tryz.prog 9 #[.pointer (some ⟨B + 1, 0, none⟩), .pointer none, .int .i64 key, .func (.func K) #[] caps] w fun e w' => e = .returned (.tuple #[.int .i64 v, x, .bool false]) ∧ Kept (fun _ => False) w w' := by
  have hnn : ∀ w : World, (binOp BinOp.eql 32 (.func (.func K) #[] caps) .nilFunc).run Tryz.prog w = .ok (.bool false) w := fun _ => by kernel_rfl
  have b0 := bx.c
  have d0 : decide (key < 0) = false := by simpa using h0
  have d1 : (key == 9223372036854775807) = false := by rw [beq_eq_false_iff_ne]; omega
  have HP := Lib.hid P
  have HX := Lib.hid bx
  have HTB := Lib.hid ht
  have HPP := Lib.hid hp
  have HN := Lib.hid hn
  have HS := Lib.hid hs
  clear P bx ht hp hn hs
  go_enter Tryz.func9, Tryz.ntmps9
  go_wp2_with (go_at_call 17; refine (mnone_is (B + 1) _ _ _ _ b0).mono ?_; rintro e w' ⟨rfl, rfl⟩)
  refine (find_hit n k p B HN.out hpn hn2 key h0 h1 HPP.out (fun _ => False) (fun _ => True) _ _ w (fun _ h => h.elim) (fun _ _ _ _ => trivial) hz HTB.out HX.out HP.out.s0 HP.out.s1
    fun W kW => of_same _ _ key h0 h1 W (HP.out.cel.kept kW id)).mono ?_
  rintro e w1 ⟨rfl, K1, _⟩
  obtain ⟨l, h, q, F0⟩ := HP.out.fut
  have A2 : Kept (fun _ => False) w1 (w1.alloc (.cells #[.pointer (some ⟨B + 2 + 7 * p, 0, none⟩), .pointer (some ⟨B + 3 + 7 * p + 5, 0, none⟩)] 49)) := (Kept.refl _ w1).alloc _
  have v1 : Slot (w1.alloc (.cells #[.pointer (some ⟨B + 2 + 7 * p, 0, none⟩), .pointer (some ⟨B + 3 + 7 * p + 5, 0, none⟩)] 49)) w1.heap.size 1 (.pointer (some ⟨B + 3 + 7 * p + 5, 0, none⟩)) := ⟨by go_simp, by go_simp, by simp⟩
  have HF2 := Lib.hid ((F0.far K1).far A2)
  have HK2 := Lib.hid (K1.trans A2)
  have g1 := v1.c
  clear F0 A2 v1 K1
  go_wp2_with fail
  generalize w1.alloc (.cells #[.pointer (some ⟨B + 2 + 7 * p, 0, none⟩), .pointer (some ⟨B + 3 + 7 * p + 5, 0, none⟩)] 49) = w2 at HF2 HK2 g1 ⊢
  refine (fclaim_miss (by have := HS.out; omega) w2 HF2.out).mono ?_
  rintro r w' ⟨rfl, rfl⟩
  go_wp2_with fail
  refine (fawait_is HS.out _ HF2.out).mono ?_
  rintro r w3 ⟨rfl, K3⟩
  have HK3 := Lib.hid (HK2.out.trans K3)
  clear K3
  go_wp2_with fail
  exact bodyPost_ret (v := .tuple #[.int .i64 v, x, .bool false]) (by simp [results, Tryz.results9, go_sem]) rfl ⟨rfl, HK3.out⟩

set_option maxRecDepth 100000 in
set_option maxHeartbeats 1600000 in
theorem get_full (B k K : Nat) (caps : Array Value) (hn : IsP 2 k) (key v0 v1 s0 s1 a0 a1 hd0 hd1 : Int) (x0 x1 : Value) (h0 : 0 ≤ key) (h1 : key < 9223372036854775807) (hp : plc key k = 1) (w : World)
    (hz : 1 < w.heap.size) (ht : Tab64 w) (bx : Slot w (B + 1) 0 (.slice (some ⟨B, 0, none⟩) 2 2)) (P0 : Plc w B 0 v0 s0 a0 x0 hd0) (P1 : Plc w B 1 v1 s1 a1 x1 hd1)
    (n0 : v0 ≠ 0 ∧ v0 ≠ key + 1) (n1 : v1 ≠ 0 ∧ v1 ≠ key + 1) :
    Calls Tryz.prog 9 #[.pointer (some ⟨B + 1, 0, none⟩), .pointer none, .int .i64 key, .func (.func K) #[] caps] w fun e w' => e = .returned (.tuple #[.int .i64 0, .iface 35 (.int .i64 12), .bool false]) ∧ Kept (fun _ => False) w w' := by
  have hnn : ∀ w : World, (binOp BinOp.eql 32 (.func (.func K) #[] caps) .nilFunc).run Tryz.prog w = .ok (.bool false) w := fun _ => by kernel_rfl
  have b0 := bx.c
  have d0 : decide (key < 0) = false := by simpa using h0
  have d1 : (key == 9223372036854775807) = false := by rw [beq_eq_false_iff_ne]; omega
  have H := Lib.hid (find_miss k B hn key h0 h1 hp _ _ _ _ w hz ht bx P0.s0 P0.s1 P1.s0 P1.s1
    (fun W kW => of_other _ _ key v0 h0 h1 n0.1 n0.2 W (P0.cel.kept kW id)) (fun W kW => of_other _ _ key v1 h0 h1 n1.1 n1.2 W (P1.cel.kept kW id)))
  clear P0 P1 bx ht hp hn n0 n1
  go_enter Tryz.func9, Tryz.ntmps9
  go_wp2_with (go_at_call 17; refine (mnone_is (B + 1) _ _ _ _ b0).mono ?_; rintro e w' ⟨rfl, rfl⟩)
  refine H.out.mono ?_
  rintro e w1 ⟨rfl, K1⟩
  have HK1 := Lib.hid K1
  clear K1
  go_wp2_with fail
  exact bodyPost_ret (v := .tuple #[.int .i64 0, .iface 35 (.int .i64 12), .bool false]) (by simp [results, Tryz.results9, go_sem]) rfl ⟨rfl, HK1.out.alloc _⟩

theorem keys_nil (w : World) : Calls Tryz.prog 11 #[.pointer none, .pointer none] w fun e w' => e = .returned (.slice none 0 0) ∧ w = w' := by
  go_enter Tryz.func11, Tryz.ntmps11
  go_wp2_with (go_at_call 17; refine (mnone_nil _).mono ?_; rintro e w' ⟨rfl, rfl⟩)
  go_ret
  exact ⟨rfl, rfl⟩

theorem keys_bare (x : Nat) (w : World) (h : w.cell? ⟨x, 0, none⟩ = some (.slice none 0 0)) : Calls Tryz.prog 11 #[.pointer (some ⟨x, 0, none⟩), .pointer none] w fun e w' => e = .returned (.slice none 0 0) ∧ w = w' := by
  go_enter Tryz.func11, Tryz.ntmps11
  go_wp2_with (go_at_call 17; refine (mnone_bare x _ h).mono ?_; rintro e w' ⟨rfl, rfl⟩)
  go_ret
  exact ⟨rfl, rfl⟩

/-- The closure that works() builds with. -/
theorem w11_is (bv kb eb : Nat) (c key : Int) (x : Value) (hc : 0 ≤ c ∧ c ≤ 100) (hk : 0 ≤ key ∧ key ≤ 100) (w : World) (C : Slot w bv 0 (.int .i64 c)) (Kb : Slot w kb 0 (.int .i64 key)) (Eb : Slot w eb 0 x) (n1 : kb ≠ bv) (n2 : eb ≠ bv) :
    Calls Tryz.prog 26 (#[.pointer none] ++ #[.pointer (some ⟨bv, 0, none⟩), .pointer (some ⟨kb, 0, none⟩), .pointer (some ⟨eb, 0, none⟩)]) w (Ans (10 * key) x fun X => Kept (fun k => k = bv) w X ∧ Slot X bv 0 (.int .i64 (c + 1))) := by
  have ea : (#[.pointer none] ++ #[.pointer (some ⟨bv, 0, none⟩), .pointer (some ⟨kb, 0, none⟩), .pointer (some ⟨eb, 0, none⟩)] : Array Value) = #[.pointer none, .pointer (some ⟨bv, 0, none⟩), .pointer (some ⟨kb, 0, none⟩), .pointer (some ⟨eb, 0, none⟩)] := by simp
  rw [ea]
  have c0 := C.c
  have c1 := C.fr
  have c2 := C.lt
  have k0 := Kb.c
  have e0 := Eb.c
  obtain ⟨h1, h2⟩ := hc
  obtain ⟨h3, h4⟩ := hk
  have HC := Lib.hid C
  clear C Kb Eb
  go_enter Tryz.func26, Tryz.ntmps26
  go_wp2
  go_region
  all_goals
    go_wp2
    go_ret2
    exact ⟨rfl, ((Kept.refl (fun k => k = bv) w).setCell ⟨bv, 0, none⟩ (.inl rfl) _).drew, (HC.out.set _).kept (S := fun _ => False) ((Kept.refl _ _).drew) id⟩

end Go.Proofs.YtailldgochoklaaGreatDoor

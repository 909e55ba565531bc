/-
  Get.
-/
import Derived.Test.YtailldgochoklaaGreatDoorMemo8
namespace Go.Proofs.YtailldgochoklaaGreatDoor
open Go.RowKit

set_option maxRecDepth 100000 in
theorem get_neg (B n : Nat) (key : Int) (f : Value) (h : key < 0) (w : World) (bx : Slot w (B + 1) 0 (.slice (some ⟨B, 0, none⟩) n n)) :
    Calls Tryz.prog 9 #[.pointer (some ⟨B + 1, 0, none⟩), .pointer none, .int .i64 key, f] w fun e w' => e = .returned (.tuple #[.int .i64 0, .iface 35 (.int .i64 1), .bool false]) ∧ w = w' := by
  have b0 := bx.c
  have d0 : decide (key < 0) = true := by simpa using h
  clear bx
  go_enter Tryz.func9, Tryz.ntmps9
  go_wp2_with (go_at_call 17; refine (mnone_is (B + 1) _ _ _ _ b0).mono ?_; rintro e w' ⟨rfl, rfl⟩)
  exact bodyPost_ret (v := .tuple #[.int .i64 0, .iface 35 (.int .i64 1), .bool false]) (by simp [results, Tryz.results9, go_sem]) rfl ⟨rfl, rfl⟩

set_option maxRecDepth 100000 in
theorem get_max (B n : Nat) (f : Value) (w : World) (bx : Slot w (B + 1) 0 (.slice (some ⟨B, 0, none⟩) n n)) :
    Calls Tryz.prog 9 #[.pointer (some ⟨B + 1, 0, none⟩), .pointer none, .int .i64 9223372036854775807, f] w fun e w' => e = .returned (.tuple #[.int .i64 0, .iface 35 (.int .i64 1), .bool false]) ∧ w = w' := by
  have b0 := bx.c
  clear bx
  go_enter Tryz.func9, Tryz.ntmps9
  go_wp2_with (go_at_call 17; refine (mnone_is (B + 1) _ _ _ _ b0).mono ?_; rintro e w' ⟨rfl, rfl⟩)
  exact bodyPost_ret (v := .tuple #[.int .i64 0, .iface 35 (.int .i64 1), .bool false]) (by simp [results, Tryz.results9, go_sem]) rfl ⟨rfl, rfl⟩

set_option maxRecDepth 100000 in
theorem get_none (B n : Nat) (w : World) (bx : Slot w (B + 1) 0 (.slice (some ⟨B, 0, none⟩) n n)) :
    Calls Tryz.prog 9 #[.pointer (some ⟨B + 1, 0, none⟩), .pointer none, .int .i64 1, .nilFunc] w fun e w' => e = .returned (.tuple #[.int .i64 0, .iface 35 (.int .i64 1), .bool false]) ∧ w = w' := by
  have b0 := bx.c
  have hnil : ∀ w : World, (binOp BinOp.eql 32 .nilFunc .nilFunc).run Tryz.prog w = .ok (.bool true) w := fun _ => by kernel_rfl
  clear bx
  go_enter Tryz.func9, Tryz.ntmps9
  go_wp2_with (go_at_call 17; refine (mnone_is (B + 1) _ _ _ _ b0).mono ?_; rintro e w' ⟨rfl, rfl⟩)
  exact bodyPost_ret (v := .tuple #[.int .i64 0, .iface 35 (.int .i64 1), .bool false]) (by simp [results, Tryz.results9, go_sem]) rfl ⟨rfl, rfl⟩

/-- What a Get leaves that has built: the place filled. -/
def Got (B p : Nat) (key v s : Int) (x : Value) (S : Nat → Prop) (T : World → Prop) (w : World) : Ending → World → Prop := fun e w' =>
  e = .returned (.tuple #[.int .i64 v, x, .bool true]) ∧ Plc w' B p (key + 1) s v x (-1) ∧ Kept (fun c => (B + 2 + 7 * p ≤ c ∧ c < B + 9 + 7 * p) ∨ S c) w w' ∧ T w'

set_option maxRecDepth 100000 in
set_option maxHeartbeats 1600000 in
theorem get_new (B n k p K : Nat) (caps : Array Value) (hn : IsP n k) (hpn : p < n) (hn2 : n ≤ 2) (key v s : Int) (x : Value) (h0 : 0 ≤ key) (h1 : key < 9223372036854775807) (hp : plc key k = p) (S : Nat → Prop) (T : World → Prop) (w : World)
    (hS : ∀ c, S c → c < w.heap.size ∧ ¬ (B ≤ c ∧ c < B + 9 + 7 * p)) (hT : ∀ a b, Kept (fun c => (B ≤ c ∧ c < B + 9 + 7 * p) ∨ w.heap.size ≤ c) a b → T a → T b) (hz : 1 < w.heap.size) (hB : 1 < B) (hBz : B + 9 + 7 * p ≤ w.heap.size)
    (ht : Tab64 w) (bx : Slot w (B + 1) 0 (.slice (some ⟨B, 0, none⟩) n n)) (P : Plc w B p 0 0 0 .nilIface 0)
    (hb : ∀ W, Kept (fun c => B ≤ c ∧ c < B + 9 + 7 * p) w W → Calls Tryz.prog 21 #[.pointer none, .int .i64 key, .func (.func K) #[] caps] W (Built v x S T W))
    (hf : ∀ (l h q b : Nat) (W : World), Ftr W (B + 3 + 7 * p) l h q 1 0 .nilIface 0 0 (.pointer none) (.pointer none) → Slot W b 0 (.pointer (some ⟨B + 3 + 7 * p + 5, 0, none⟩)) → ¬ FOwn (B + 3 + 7 * p) b →
      Calls Tryz.prog 22 #[.pointer (some ⟨b, 0, none⟩), .pointer none, .int .i64 v, x] W (FFilled W b (B + 3 + 7 * p) l h q s v x 0 (.pointer none) (.pointer none))) :
    Calls Tryz.prog 9 #[.pointer (some ⟨B + 1, 0, none⟩), .pointer none, .int .i64 key, .func (.func K) #[] caps] w (Got B p key v s x S T w) := by
  have hnn : ∀ w : World, (binOp BinOp.eql 32 (.func (.func K) #[] caps) .nilFunc).run Tryz.prog w = .ok (.bool false) w := fun _ => by kernel_rfl
  have b0 := bx.c
  have d0 : decide (key < 0) = false := by simpa using h0
  have d1 : (key == 9223372036854775807) = false := by rw [beq_eq_false_iff_ne]; omega
  have HS := Lib.hid hS
  have HT := Lib.hid hT
  have HBL := Lib.hid hb
  have HFI := Lib.hid hf
  have HP := Lib.hid P
  have HX := Lib.hid bx
  have HTB := Lib.hid ht
  have HPP := Lib.hid hp
  have HN := Lib.hid hn
  clear hS hT hb hf P bx ht hp hn
  go_enter Tryz.func9, Tryz.ntmps9
  go_wp2_with (go_at_call 17; refine (mnone_is (B + 1) _ _ _ _ b0).mono ?_; rintro e w' ⟨rfl, rfl⟩)
  refine (find_hit n k p B HN.out hpn hn2 key h0 h1 HPP.out (fun c => c = B + 2 + 7 * p) (fun W => Cel W (B + 2 + 7 * p) (key + 1)) _ _ w (by rintro c rfl; omega) (fun a b kk C => C.kept kk (by omega)) hz HTB.out HX.out HP.out.s0 HP.out.s1
    fun W kW => of_zero _ _ key h0 h1 W (HP.out.cel.kept kW id)).mono ?_
  rintro e w1 ⟨rfl, K1, C1⟩
  obtain ⟨l, h, q, F0⟩ := HP.out.fut
  have s1 := K1.size
  have A2 : Kept (fun _ => False) w1 (w1.alloc (.cells #[.pointer (some ⟨B + 2 + 7 * p, 0, none⟩), .pointer (some ⟨B + 3 + 7 * p + 5, 0, none⟩)] 49)) := (Kept.refl _ w1).alloc _
  have v1 : Slot (w1.alloc (.cells #[.pointer (some ⟨B + 2 + 7 * p, 0, none⟩), .pointer (some ⟨B + 3 + 7 * p + 5, 0, none⟩)] 49)) w1.heap.size 1 (.pointer (some ⟨B + 3 + 7 * p + 5, 0, none⟩)) := ⟨by go_simp, by go_simp, by simp⟩
  have HF2 := Lib.hid ((F0.kept K1 (fun c hc e => by have := hc.1; omega)).far A2)
  have HC2 := Lib.hid (C1.kept A2 id)
  have HK2 := Lib.hid (K1.trans (A2.mono fun _ _ h => h.elim))
  have g1 := v1.c
  have HV := Lib.hid v1
  clear F0 A2 v1 K1 C1
  go_wp2_with fail
  generalize w1.alloc (.cells #[.pointer (some ⟨B + 2 + 7 * p, 0, none⟩), .pointer (some ⟨B + 3 + 7 * p + 5, 0, none⟩)] 49) = w2 at HF2 HC2 HK2 HV g1 ⊢
  refine (fclaim_hit w2 HF2.out).mono ?_
  rintro r w3 ⟨rfl, s3, F3, P3, K3⟩
  have KK3 : Kept (fun c => B ≤ c ∧ c < B + 9 + 7 * p) w w3 := (HK2.out.mono fun c _ e => by subst e; constructor <;> omega).trans (K3.mono fun c _ e => by subst e; constructor <;> omega)
  have C3 := HC2.out.kept K3 (by omega)
  have S3 := Lib.hid s3
  have HF3 := Lib.hid F3
  have HP3 := Lib.hid P3
  have HK3 := Lib.hid KK3
  have HC3 := Lib.hid C3
  have HK3' := Lib.hid (HK2.out.mono (T := fun c => B + 2 + 7 * p ≤ c ∧ c < B + 9 + 7 * p) (fun c _ e => by subst e; constructor <;> omega) |>.trans (K3.mono fun c _ e => by subst e; constructor <;> omega))
  have z2 := HK2.out.size
  clear s3 F3 P3 K3 KK3 C3
  go_wp2_with fail
  refine (HBL.out w3 HK3.out).mono ?_
  rintro e w4 ⟨rfl, K4, T4⟩
  have HF4 := Lib.hid (HF3.out.kept K4 fun c hc h => (HS.out c h).2 ⟨by have := hc.1; omega, by have := hc.2; omega⟩)
  have HP4 := Lib.hid (HP3.out.kept K4 fun h => by have := (HS.out _ h).1; omega)
  have HC4 := Lib.hid (HC3.out.kept K4 fun h => (HS.out _ h).2 ⟨by omega, by omega⟩)
  have HK4 := Lib.hid ((HK3'.out.mono (T := fun c => (B + 2 + 7 * p ≤ c ∧ c < B + 9 + 7 * p) ∨ S c) fun _ _ h => .inl h).trans (K4.mono fun _ _ h => .inr h))
  have HT4 := Lib.hid T4
  have z4 := K4.size
  clear K4 T4
  go_wp2_with fail
  refine (HFI.out l h q _ w4 HF4.out HP4.out (by rintro ⟨_, h2⟩; omega)).mono ?_
  rintro r w5 ⟨rfl, F5, _, K5⟩
  have HF5 := Lib.hid F5
  have s0 := (HP.out.s0)
  have PL : Plc w5 B p (key + 1) s v x (-1) := by
    have KA := HK4.out.via K5 (by
      rintro i (⟨h1, h2⟩ | rfl)
      · exact .inl (.inl ⟨by omega, by omega⟩)
      · exact .inr (by omega))
    have nB : ¬ ((B + 2 + 7 * p ≤ B ∧ B < B + 9 + 7 * p) ∨ S B) := by
      rintro (⟨h1, _⟩ | h1)
      · omega
      · exact (HS.out _ h1).2 ⟨by omega, by omega⟩
    exact ⟨HP.out.s0.kept KA nB, HP.out.s1.kept KA nB, HC4.out.kept K5 (by rintro (⟨h1, h2⟩ | h1) <;> omega), l, h, q, F5⟩
  have KF := HK4.out.via K5 (by
    rintro i (⟨h1, h2⟩ | rfl)
    · exact .inl (.inl ⟨by omega, by omega⟩)
    · exact .inr (by omega))
  have TF := HT.out _ _ (K5.mono (T := fun c => (B ≤ c ∧ c < B + 9 + 7 * p) ∨ w.heap.size ≤ c) (by
    rintro i _ (⟨h1, h2⟩ | rfl)
    · exact .inl ⟨by omega, by omega⟩
    · exact .inr (by omega))) HT4.out
  have HPL := Lib.hid PL
  have HKF := Lib.hid KF
  have HTF := Lib.hid TF
  clear PL KF TF F5 K5 s0
  go_wp2_with fail
  exact bodyPost_ret (v := .tuple #[.int .i64 v, x, .bool true]) (by simp [results, Tryz.results9, go_sem]) rfl ⟨rfl, HPL.out, HKF.out, HTF.out⟩

end Go.Proofs.YtailldgochoklaaGreatDoor

/-
  Package future, a nil thread: Then and Map.
-/
import Derived.Test.YtkbcpifhbpfhlaaGreatDoorFut3
import Derived.Test.YtkbcpifhbpfhlaaGreatDoorFlt4
namespace Go.Proofs.YtkbcpifhbpfhlaaGreatDoor
open Go.RowKit

theorem fthen_nil (f : Value) (w : World) : Calls Tryz.prog 22 #[.pointer none, .pointer none, f] w fun r w' => r = .returned (.int .i64 2) ∧ w = w' := by
  go_enter Tryz.func22, Tryz.ntmps22
  go_wp2_with (go_at_call 36; refine (fnone_nil _).mono ?_; rintro e w' ⟨rfl, rfl⟩)
  go_ret
  exact ⟨rfl, rfl⟩

theorem fthen_bare (x : Nat) (f : Value) (w : World) (h : w.cell? ⟨x, 0, none⟩ = some (.pointer none)) : Calls Tryz.prog 22 #[.pointer (some ⟨x, 0, none⟩), .pointer none, f] w fun r w' => r = .returned (.int .i64 2) ∧ w = w' := by
  go_enter Tryz.func22, Tryz.ntmps22
  go_wp2_with (go_at_call 36; refine (fnone_bare x _ h).mono ?_; rintro e w' ⟨rfl, rfl⟩)
  go_ret
  exact ⟨rfl, rfl⟩

theorem fthen_arg (x : Nat) (a : Addr) (w : World) (h : w.cell? ⟨x, 0, none⟩ = some (.pointer (some a))) : Calls Tryz.prog 22 #[.pointer (some ⟨x, 0, none⟩), .pointer none, .nilFunc] w fun r w' => r = .returned (.int .i64 1) ∧ w = w' := by
  have hnil : ∀ w : World, (binOp BinOp.eql 80 .nilFunc .nilFunc).run Tryz.prog w = .ok (.bool true) w := fun _ => by kernel_rfl
  go_enter Tryz.func22, Tryz.ntmps22
  go_wp2_with (go_at_call 36; refine (fnone_is x _ _ h).mono ?_; rintro e w' ⟨rfl, rfl⟩)
  go_ret
  exact ⟨rfl, rfl⟩

/-- What a Then leaves of a future that was without functions: one. -/
def FHung (w : World) (n l h p : Nat) (s v : Int) (e f x1 : Value) : Ending → World → Prop := fun r w' =>
  r = .returned (.int .i64 0) ∧ ∃ q0 u : Nat, w.heap.size ≤ q0 ∧ w.heap.size ≤ u ∧ Ftr w' n l h p s v e 1 1 (.pointer (some ⟨q0, 0, none⟩)) x1 ∧ Two w' q0 (.pointer (some ⟨u, 0, none⟩)) (.int .i64 0) ∧ Slot w' u 0 f ∧ Kept (FOwn n) w w'

theorem fthen_open {n l h p : Nat} {s v : Int} {e x1 : Value} (K : Nat) (caps : Array Value) (w : World) (F : Ftr w n l h p s v e 0 0 (.pointer none) x1) :
    Calls Tryz.prog 22 #[.pointer (some ⟨n + 5, 0, none⟩), .pointer none, .func (.func K) #[] caps] w (FHung w n l h p s v e (.func (.func K) #[] caps) x1) := by
  have hnn : ∀ w : World, (binOp BinOp.eql 80 (.func (.func K) #[] caps) .nilFunc).run Tryz.prog w = .ok (.bool false) w := fun _ => by kernel_rfl
  have t0 := F.t0
  have t1 := F.t1
  have sz := F.size
  have sl := F.sl
  have sh := F.sh
  have sp := F.sp
  have K0 : Kept (fun _ => False) w (w.alloc (.cells #[.func (.func K) #[] caps] 117)) := (Kept.refl _ w).alloc _
  have F0 := F.far K0
  have U0 : Slot (w.alloc (.cells #[.func (.func K) #[] caps] 117)) w.heap.size 0 (.func (.func K) #[] caps) := ⟨by go_simp, by go_simp, by simp⟩
  have HA := Lib.hid (add_1 _ _ _ _ _ w.heap.size _ F0.live)
  have HF := Lib.hid F0
  have HU := Lib.hid U0
  have HK := Lib.hid K0
  clear F F0 U0 K0
  go_enter Tryz.func22, Tryz.ntmps22
  go_wp2_with fail
  refine (fnone_is (n + 5) _ _ t0).mono ?_
  rintro e w' ⟨rfl, rfl⟩
  go_wp2_with fail
  refine HA.out.mono ?_
  rintro r w1 ⟨rfl, g1, L1, T1, K1⟩
  have F1 := HF.out.list K1 L1
  have U1 := HU.out.kept K1 (by omega)
  have K2 : Kept (FOwn n) w w1 := (HK.out.mono fun _ _ h => h.elim).trans (K1.mono fun k _ e => by rcases e with rfl | rfl | rfl <;> exact ⟨by omega, by omega⟩)
  have HF1 := Lib.hid F1
  have HU1 := Lib.hid U1
  have HK2 := Lib.hid K2
  have HT1 := Lib.hid T1
  clear F1 U1 K2 K1 L1 T1 g1
  go_wp2_with fail
  go_ret
  exact ⟨rfl, _, _, by simp; omega, Nat.le_refl _, HF1.out, HT1.out, HU1.out, HK2.out⟩

/-- What a Then leaves of a filled future: what its function leaves. -/
def FCalled (S : Nat → Prop) (T : World → Prop) (w : World) : Ending → World → Prop := fun r w' =>
  r = .returned (.int .i64 0) ∧ Kept S w w' ∧ T w'

set_option maxRecDepth 100000 in
set_option maxHeartbeats 1000000 in
theorem fthen_shut {n l h p : Nat} {s v m : Int} {e x0 x1 : Value} (K : Nat) (caps : Array Value) (S : Nat → Prop) (T : World → Prop) (hent : ∀ args w, (callFunc K args).run Tryz.prog w = .ok (.enter K args) w) (w : World)
    (F : Ftr w n l h p s v e m (-1) x0 x1) (hc : ∀ W, Kept (fun _ => False) w W → Calls Tryz.prog K (#[.pointer none, .int .i64 v, e] ++ caps) W (FDoes S T W)) :
    Calls Tryz.prog 22 #[.pointer (some ⟨n + 5, 0, none⟩), .pointer none, .func (.func K) #[] caps] w (FCalled S T w) := by
  have hnn : ∀ w : World, (binOp BinOp.eql 80 (.func (.func K) #[] caps) .nilFunc).run Tryz.prog w = .ok (.bool false) w := fun _ => by kernel_rfl
  have t0 := F.t0
  have t1 := F.t1
  have sz := F.size
  have K0 : Kept (fun _ => False) w (w.alloc (.cells #[.func (.func K) #[] caps] 117)) := (Kept.refl _ w).alloc _
  have F0 := F.far K0
  have HA := Lib.hid (add_shut _ _ _ _ _ w.heap.size _ _ _ F0.live)
  have F1 := F0.far (Kept.refl (fun _ => False) _).drew
  have HK := Lib.hid K0.drew
  have HC := Lib.hid hc
  have Hent := Lib.hid hent
  have HF1 := Lib.hid F1
  clear F F0 K0 F1 hc hent
  go_enter Tryz.func22, Tryz.ntmps22
  go_wp2_with fail
  refine (fnone_is (n + 5) _ _ t0).mono ?_
  rintro e w' ⟨rfl, rfl⟩
  go_wp2_with fail
  refine HA.out.mono ?_
  rintro r w1 ⟨rfl, rfl⟩
  go_wp2_with fail
  have x2 := HF1.out.t2
  have x3 := HF1.out.t3
  have hent := Hent.out
  refine wp_region_still_tail 10 (by kernel_rfl) (by kernel_rfl) ?_
  simp only [List.take_succ_cons, List.take_zero, List.drop_succ_cons, List.drop_zero]
  rw [show ∀ W : World, ({ heap := W.heap, tape := W.tape, drawn := W.drawn + 1, os := W.os, output := W.output } : World) = W.drew from fun _ => rfl]
  generalize (w.alloc (.cells #[.func (.func K) #[] caps] 117)).drew = W2 at x2 x3 HF1 HK ⊢
  repeat still_step
  refine wpStill_nil ?_
  go_wp2_with fail
  refine (HC.out _ HK.out).mono ?_
  rintro r w3 ⟨rfl, k3, tt⟩
  have HK3 := Lib.hid ((HK.out.mono fun _ _ h => h.elim).trans k3)
  have HT3 := Lib.hid tt
  clear k3 tt
  go_wp2_with fail
  go_ret
  exact ⟨rfl, HK3.out, HT3.out⟩

/-- What a Map's function leaves: its future is completed. -/
def FMapDone (n l h p : Nat) (v : Int) (W : World) : Prop := Ftr W n l h p 2 v .nilIface 0 (-1) (.pointer none) (.pointer none)

end Go.Proofs.YtkbcpifhbpfhlaaGreatDoor

/-
  builds, Get.
-/
import Derived.Test.YtailldgochoklaaGreatDoorMemo7
namespace Go.Proofs.YtailldgochoklaaGreatDoor
open Go.RowKit

/-- What builds leaves. -/
def Built (v : Int) (x : Value) (S : Nat → Prop) (T : World → Prop) (w : World) : Ending → World → Prop := fun e w' =>
  e = .returned (.tuple #[.int .i64 v, x]) ∧ Kept S w w' ∧ T w'

set_option maxRecDepth 100000 in
set_option maxHeartbeats 800000 in
theorem builds_any (K : Nat) (caps : Array Value) (hent : ∀ args w, (callFunc K args).run Tryz.prog w = .ok (.enter K args) w) (key v v' : Int) (x : Value) (S : Nat → Prop) (T : World → Prop) (w : World)
    (hS : ∀ c, S c → c < w.heap.size) (hT : ∀ a b, Kept (fun c => w.heap.size ≤ c) a b → T a → T b)
    (hc : ∀ W, Kept (fun _ => False) w W → Calls Tryz.prog K (#[.pointer none] ++ caps) W (Ans v x fun X => Kept S W X ∧ T X))
    (hcatch : ∀ (g : Array Value) (R : World → Prop) (W : World), Calls Tryz.prog 37 g ((W.alloc (.cells #[.int .i64 0] 2)).alloc (.cells #[.nilIface] 31)) (Ans v x R) → (∀ w1, R w1 → Fresh W.heap.size w1) →
      Calls Tryz.prog 36 #[.func (.func 37) #[] g] W (Caught W.heap.size v' x R)) :
    Calls Tryz.prog 21 #[.pointer none, .int .i64 key, .func (.func K) #[] caps] w (Built v' x S T w) := by
  have hmf : ∀ (fn : Fn) (first cap : Array Value) (w : World), (Instr.makeFunc fn first cap).run Tryz.prog w = .ok (.func fn first cap) w := fun _ _ _ _ => rfl
  have HS := Lib.hid hS
  have HT := Lib.hid hT
  have HC := Lib.hid hc
  have HCA := Lib.hid hcatch
  have K0 : Kept (fun _ => False) w ((w.alloc (.cells #[.pointer none] 29)).alloc (.cells #[.func (.func K) #[] caps] 32)) := ((Kept.refl _ w).alloc _).alloc _
  have T0 : Slot ((w.alloc (.cells #[.pointer none] 29)).alloc (.cells #[.func (.func K) #[] caps] 32)) w.heap.size 0 (.pointer none) := ⟨by go_simp, by go_simp, by simp; omega⟩
  have B0 : Slot ((w.alloc (.cells #[.pointer none] 29)).alloc (.cells #[.func (.func K) #[] caps] 32)) (w.heap.size + 1) 0 (.func (.func K) #[] caps) := ⟨by go_simp, by go_simp, by simp⟩
  have t0 := T0.c
  have HK := Lib.hid K0
  have HT0 := Lib.hid T0
  have HB0 := Lib.hid B0
  clear hS hT hc hcatch K0 T0 B0
  go_enter Tryz.func21, Tryz.ntmps21
  go_wp2_with fail
  generalize (w.alloc (.cells #[.pointer none] 29)).alloc (.cells #[.func (.func K) #[] caps] 32) = W at t0 HK HT0 HB0 ⊢
  refine (mark_nil key 5 _).mono ?_
  rintro e w' ⟨rfl, rfl⟩
  go_wp2_with fail
  have KW : Kept (fun _ => False) W ((W.alloc (.cells #[.int .i64 0] 2)).alloc (.cells #[.nilIface] 31)) := ((Kept.refl _ W).alloc _).alloc _
  have F0 : Fresh W.heap.size ((W.alloc (.cells #[.int .i64 0] 2)).alloc (.cells #[.nilIface] 31)) := ⟨⟨by go_simp, by go_simp, by simp; omega⟩, ⟨by go_simp, by go_simp, by simp⟩⟩
  have lW := HK.out.size
  refine (HCA.out _ (fun X => Kept S ((W.alloc (.cells #[.int .i64 0] 2)).alloc (.cells #[.nilIface] 31)) X ∧ T X) W ?_ ?_).mono ?_
  · exact build1 (w.heap.size + 1) w.heap.size K caps hent _ (fun _ _ => True) (HB0.out.kept KW id) (HT0.out.kept KW id) v x _ (HC.out _ (HK.out.trans KW))
  · rintro w1 ⟨hk, _⟩
    exact ⟨F0.1.kept hk (fun h => by have := HS.out _ h; omega), F0.2.kept hk (fun h => by have := HS.out _ h; omega)⟩
  rintro e w2 ⟨rfl, w1, ⟨k1, t1⟩, k2⟩
  have nS : ∀ c, w.heap.size ≤ c → ¬ S c := fun c hc h => by have := HS.out _ h; omega
  have l0 := HT0.out.lt
  have z0 := (((HT0.out.kept KW id).kept k1 (nS _ (Nat.le_refl _))).kept k2 (by omega)).c
  have KF : Kept S w w2 := (((HK.out.mono fun _ _ h => h.elim).trans (KW.mono fun _ _ h => h.elim)).trans k1).far k2 (by rintro i (rfl | rfl) <;> omega)
  have TF : T w2 := HT.out _ _ (k2.mono fun c _ h => by rcases h with h | h <;> omega) t1
  have HKF := Lib.hid KF
  have HTF := Lib.hid TF
  clear KF TF k1 t1 k2 nS KW F0 t0
  go_wp2_with (go_at_call 35; refine (mark_nil key 6 _).mono ?_; rintro e w' ⟨rfl, rfl⟩)
  go_ret2
  exact ⟨rfl, HKF.out, HTF.out⟩

theorem builds_ok (K : Nat) (caps : Array Value) (hent : ∀ args w, (callFunc K args).run Tryz.prog w = .ok (.enter K args) w) (key v : Int) (S : Nat → Prop) (T : World → Prop) (w : World)
    (hS : ∀ c, S c → c < w.heap.size) (hT : ∀ a b, Kept (fun c => w.heap.size ≤ c) a b → T a → T b)
    (hc : ∀ W, Kept (fun _ => False) w W → Calls Tryz.prog K (#[.pointer none] ++ caps) W (Ans v .nilIface fun X => Kept S W X ∧ T X)) :
    Calls Tryz.prog 21 #[.pointer none, .int .i64 key, .func (.func K) #[] caps] w (Built v .nilIface S T w) :=
  builds_any K caps hent key v v .nilIface S T w hS hT hc fun g R W h1 h2 => catch_calm 37 g (enters_of Tryz.func37 (by kernel_rfl) rfl) v R W h1 h2

theorem builds_err (K : Nat) (caps : Array Value) (hent : ∀ args w, (callFunc K args).run Tryz.prog w = .ok (.enter K args) w) (key v : Int) (u : Nat) (y : Value) (S : Nat → Prop) (T : World → Prop) (w : World)
    (hS : ∀ c, S c → c < w.heap.size) (hT : ∀ a b, Kept (fun c => w.heap.size ≤ c) a b → T a → T b)
    (hc : ∀ W, Kept (fun _ => False) w W → Calls Tryz.prog K (#[.pointer none] ++ caps) W (Ans v (.iface u y) fun X => Kept S W X ∧ T X)) :
    Calls Tryz.prog 21 #[.pointer none, .int .i64 key, .func (.func K) #[] caps] w (Built 0 (.iface u y) S T w) :=
  builds_any K caps hent key v 0 (.iface u y) S T w hS hT hc fun g R W h1 h2 => catch_err 37 g (enters_of Tryz.func37 (by kernel_rfl) rfl) v u y R W h1 h2

theorem get_nil (key : Int) (f : Value) (w : World) : Calls Tryz.prog 9 #[.pointer none, .pointer none, .int .i64 key, f] w fun e w' => e = .returned (.tuple #[.int .i64 0, .iface 35 (.int .i64 2), .bool false]) ∧ w = w' := by
  go_enter Tryz.func9, Tryz.ntmps9
  go_wp2_with (go_at_call 17; refine (mnone_nil _).mono ?_; rintro e w' ⟨rfl, rfl⟩)
  exact bodyPost_ret (v := .tuple #[.int .i64 0, .iface 35 (.int .i64 2), .bool false]) (by simp [results, Tryz.results9, go_sem]) rfl ⟨rfl, rfl⟩

theorem get_bare (x : Nat) (key : Int) (f : Value) (w : World) (h : w.cell? ⟨x, 0, none⟩ = some (.slice none 0 0)) : Calls Tryz.prog 9 #[.pointer (some ⟨x, 0, none⟩), .pointer none, .int .i64 key, f] w fun e w' => e = .returned (.tuple #[.int .i64 0, .iface 35 (.int .i64 2), .bool false]) ∧ w = w' := by
  go_enter Tryz.func9, Tryz.ntmps9
  go_wp2_with (go_at_call 17; refine (mnone_bare x _ h).mono ?_; rintro e w' ⟨rfl, rfl⟩)
  exact bodyPost_ret (v := .tuple #[.int .i64 0, .iface 35 (.int .i64 2), .bool false]) (by simp [results, Tryz.results9, go_sem]) rfl ⟨rfl, rfl⟩

end Go.Proofs.YtailldgochoklaaGreatDoor

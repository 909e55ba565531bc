/-
  Package task, a nil thread: Run.
-/
import Derived.Test.YtbpaomanfgmlcaaGreatDoorTask2
import Derived.Shelf.Abstract
import Derived.Deep.QuietTactic
import Derived.BigQuiet
namespace Go.Proofs.YtbpaomanfgmlcaaGreatDoor
open Go.RowKit

theorem Kept.drewN {S : Nat → Prop} {a w : World} (h : Kept S a w) (n : Nat) : Kept S a (w.drewN n) := ⟨h.os, h.tape, h.output, h.size, h.block⟩

theorem mark_same (n k : Int) (w : World) : Calls Tryz.prog 19 #[.pointer none, .int .i64 n, .int .i64 k] w fun e w' => e = .returned (.tuple #[]) ∧ w' = w :=
  (mark_nil n k w).mono fun _ _ h => ⟨h.1, h.2.symm⟩

theorem run_no (x : Value) (w : World) (hc : Calls Tryz.prog 16 #[x, .pointer none] (w.alloc (.cells #[.pointer none] 40)) fun r w' => r = .returned (.tuple #[.agg #[.pointer none, .nilFunc], .bool false]) ∧ Kept (fun _ => False) (w.alloc (.cells #[.pointer none] 40)) w') :
    Calls Tryz.prog 5 #[x, .pointer none] w fun e w' => e = .returned (.bool false) ∧ Kept (fun _ => False) w w' := by
  have HC := Lib.hid hc
  clear hc
  go_enter Tryz.func5, Tryz.ntmps5
  go_wp2_with fail
  have h0 : (w.alloc (.cells #[.pointer none] 40)).cell? ⟨w.heap.size, 0, none⟩ = some (.pointer none) := by go_simp
  go_wp2_with fail
  refine HC.out.mono ?_
  rintro e w1 ⟨rfl, hK⟩
  have HK := Lib.hid hK
  clear hK
  go_wp2_with fail
  go_ret
  exact ⟨rfl, (((Kept.refl _ w).alloc _).trans HK.out).alloc _⟩

theorem run1_is (K : Nat) (p : Addr) (hent : ∀ args w, (callFunc K args).run Tryz.prog w = .ok (.enter K args) w) (b a : Nat) (v : Int) (e : Value) (R : World → Prop) (w : World)
    (hb : w.cell? ⟨b, 1, none⟩ = some (.func (.func K) #[] #[.pointer (some p)])) (ha : w.cell? ⟨a, 0, none⟩ = some (.pointer none)) (hc : Calls Tryz.prog K #[.pointer none, .pointer (some p)] w (Ans v e R)) :
    Calls Tryz.prog 21 #[.pointer (some ⟨b, 0, none⟩), .pointer (some ⟨a, 0, none⟩)] w (Ans v e R) := by
  have HC := Lib.hid hc
  clear hc
  go_enter Tryz.func21, Tryz.ntmps21
  go_wp2_with fail
  refine HC.out.mono ?_
  rintro r w1 ⟨rfl, hR⟩
  have HR := Lib.hid hR
  clear hR
  go_wp2_with fail
  go_ret2
  exact ⟨rfl, HR.out⟩

theorem run1_pan (K : Nat) (p : Addr) (hent : ∀ args w, (callFunc K args).run Tryz.prog w = .ok (.enter K args) w) (b a : Nat) (u : Nat) (y : Value) (R : World → Prop) (w : World)
    (hb : w.cell? ⟨b, 1, none⟩ = some (.func (.func K) #[] #[.pointer (some p)])) (ha : w.cell? ⟨a, 0, none⟩ = some (.pointer none)) (hc : Calls Tryz.prog K #[.pointer none, .pointer (some p)] w (Pan u y R)) :
    Calls Tryz.prog 21 #[.pointer (some ⟨b, 0, none⟩), .pointer (some ⟨a, 0, none⟩)] w (Pan u y R) := by
  have HC := Lib.hid hc
  clear hc
  go_enter Tryz.func21, Tryz.ntmps21
  go_wp2_with fail
  refine HC.out.mono ?_
  rintro r w1 ⟨rfl, hR⟩
  have HR := Lib.hid hR
  clear hR
  go_wp2_with fail
  exact ⟨rfl, rfl, HR.out⟩

/-- What the function of a task may leave: but for the blocks of S all as it was; and T. -/
def Does (S : Nat → Prop) (T : World → Prop) (W : World) : World → Prop := fun W' => Kept S W W' ∧ T W'

set_option maxHeartbeats 1000000 in
theorem run_calm (x c : Nat) (n v v0 : Int) (K : Nat) (p : Addr) (hent : ∀ args w, (callFunc K args).run Tryz.prog w = .ok (.enter K args) w) (S : Nat → Prop) (T : World → Prop) (w : World)
    (h : Tsk w x c n (.pointer none) (.func (.func K) #[] #[.pointer (some p)]) v0 .nilIface) (C : Cel w c 0) (hS : ∀ k, S k → k < w.heap.size ∧ ¬ Both x c k)
    (hc : ∀ W, Kept (Both x c) w W → Calls Tryz.prog K #[.pointer none, .pointer (some p)] W (Ans v .nilIface (Does S T W)))
    (hT : ∀ a b, Kept (fun k => Both x c k ∨ w.heap.size ≤ k) a b → T a → T b) :
    Calls Tryz.prog 5 #[.pointer (some ⟨x, 0, none⟩), .pointer none] w (Done true S T w x c n 2 v Well) := by
  have hent21 := enters_of Tryz.func21 (by kernel_rfl) rfl
  have hmf : ∀ (fn : Fn) (first cap : Array Value) (w : World), (Instr.makeFunc fn first cap).run Tryz.prog w = .ok (.func fn first cap) w := fun _ _ _ _ => rfl
  have s0 : ∀ a m w, (store a (.func (.func K) #[] #[.pointer (some p)]) m).run Tryz.prog w = stored Tryz.prog w a (.func (.func K) #[] #[.pointer (some p)]) m := fun a m w => run_store Tryz.prog w a _ m rfl
  have hent' := Lib.hid hent
  have HH := Lib.hid (h.kept ((Kept.refl (fun _ => False) w).alloc (.cells #[.pointer none] 40)) id)
  have HC := Lib.hid (C.kept ((Kept.refl (fun _ => False) w).alloc (.cells #[.pointer none] 40)) id)
  have HS := Lib.hid hS
  have Hc := Lib.hid hc
  have HT := Lib.hid hT
  have lx := h.lt
  have lc := C.lt
  have xc := h.ne
  clear h C hS hc hT hent
  go_enter Tryz.func5, Tryz.ntmps5
  have h0 : (w.alloc (.cells #[.pointer none] 40)).cell? ⟨w.heap.size, 0, none⟩ = some (.pointer none) := by go_simp
  go_wp2_with fail
  refine (claim_hit x c n v0 _ _ rfl _ HH.out HC.out).mono ?_
  rintro e w1 ⟨rfl, a, b, d⟩
  have KA : Kept (Both x c) (w.alloc (.cells #[.pointer none] 40)) (w1.alloc (.cells #[.pointer none, .func (.func K) #[] #[.pointer (some p)]] 27)) := a.alloc _
  have l1 : w.heap.size < w1.heap.size := by have := a.size; simp at this; omega
  have a0 : w1.cell? ⟨w.heap.size, 0, none⟩ = some (.pointer none) := (a.cell (p := ⟨w.heap.size, 0, none⟩) (by simp) (by simp [Both]; omega)).trans h0
  have HA := Lib.hid KA
  have HB := Lib.hid (b.kept ((Kept.refl (fun _ => False) w1).alloc (.cells #[.pointer none, .func (.func K) #[] #[.pointer (some p)]] 27)) id)
  have HD := Lib.hid (d.kept ((Kept.refl (fun _ => False) w1).alloc (.cells #[.pointer none, .func (.func K) #[] #[.pointer (some p)]] 27)) id)
  have t0 := b.t0
  have tl := b.lt
  clear a b d KA h0
  go_wp2_with fail
  refine (kreason_nil _).mono ?_
  rintro e w' ⟨rfl, rfl⟩
  go_wp2_with fail
  go_quiet ((go_at_call 19; exact Calls.quiet_of_same (mark_same _ _ _)))
  have q1 : ((w1.alloc (.cells #[.pointer none, .func (.func K) #[] #[.pointer (some p)]] 27)).drewN nq).cell? ⟨w1.heap.size, 1, none⟩ = some (.func (.func K) #[] #[.pointer (some p)]) := by
    have g : (w1.alloc (.cells #[.pointer none, .func (.func K) #[] #[.pointer (some p)]] 27)).cell? ⟨w1.heap.size, 1, none⟩ = some (.func (.func K) #[] #[.pointer (some p)]) := by go_simp
    exact g
  have q0 : ((w1.alloc (.cells #[.pointer none, .func (.func K) #[] #[.pointer (some p)]] 27)).drewN nq).cell? ⟨w.heap.size, 0, none⟩ = some (.pointer none) := by
    have g : (w1.alloc (.cells #[.pointer none, .func (.func K) #[] #[.pointer (some p)]] 27)).cell? ⟨w.heap.size, 0, none⟩ = some (.pointer none) := by go_simp
    exact g
  have KD := (Kept.refl (fun _ => False) (w1.alloc (.cells #[.pointer none, .func (.func K) #[] #[.pointer (some p)]] 27))).drewN nq
  have sz : ((w1.alloc (.cells #[.pointer none, .func (.func K) #[] #[.pointer (some p)]] 27)).drewN nq).heap.size = w1.heap.size + 1 := by
    have g : (w1.alloc (.cells #[.pointer none, .func (.func K) #[] #[.pointer (some p)]] 27)).heap.size = w1.heap.size + 1 := by simp
    exact g
  generalize (w1.alloc (.cells #[.pointer none, .func (.func K) #[] #[.pointer (some p)]] 27)).drewN nq = W1 at q1 q0 KD sz ⊢
  have HA1 := Lib.hid (HA.out.trans (KD.mono (T := Both x c) fun _ _ h => h.elim))
  have HB1 := Lib.hid (HB.out.kept KD id)
  have HD1 := Lib.hid (HD.out.kept KD id)
  have SZ := Lib.hid sz
  clear HA HB HD KD sz t0 a0
  have Q0 := Lib.hid q0
  have lq0 : w.heap.size < W1.heap.size := by have := SZ.out; omega
  have lq1 : w1.heap.size < W1.heap.size := by have := SZ.out; omega
  go_wp2_with fail
  refine (catch_calm 21 _ hent21 v (Does S T ((W1.alloc (.cells #[.int .i64 0] 2)).alloc (.cells #[.nilIface] 29))) W1 (run1_is K p hent'.out w1.heap.size w.heap.size v .nilIface _ _ (by go_simp) (by go_simp) (Hc.out _ ?_)) ?_).mono ?_
  · exact ((((((Kept.refl (Both x c) w).alloc _).trans HA1.out).alloc _).alloc _))
  · rintro wq ⟨hK, _⟩
    refine ⟨Slot.kept ⟨by go_simp, by go_simp, by simp; omega⟩ hK ?_, Slot.kept ⟨by go_simp, by go_simp, by simp⟩ hK ?_⟩
    · intro hs; have := (HS.out _ hs).1; omega
    · intro hs; have := (HS.out _ hs).1; omega
  rintro e W2 ⟨rfl, wq, ⟨hK, hq⟩, hK2⟩
  have nx : ¬ S x := fun hs => (HS.out x hs).2 (.inl rfl)
  have nc : ¬ S c := fun hs => (HS.out c hs).2 (.inr rfl)
  have nw : ¬ S w.heap.size := fun hs => by have := (HS.out _ hs).1; omega
  have K2 : Kept S W1 W2 := ((((Kept.refl S W1).alloc _).alloc _).trans hK).far hK2 (by rintro i (rfl | rfl) <;> omega)
  have HB2 := Lib.hid (HB1.out.kept K2 nx)
  have HD2 := Lib.hid (HD1.out.kept K2 nc)
  have q2 := (K2.cell (p := ⟨w.heap.size, 0, none⟩) lq0 nw).trans Q0.out
  have HT2 := Lib.hid (HT.out wq W2 (hK2.mono fun k _ hk => .inr (by rcases hk with rfl | rfl <;> omega)) hq)
  have HA2 : Hid (Kept (fun k => Both x c k ∨ S k) w W2) := Lib.hid (((((Kept.refl (fun k => Both x c k ∨ S k) w).alloc (.cells #[.pointer none] 40)).trans (HA1.out.mono fun _ _ h => .inl h))).trans (K2.mono fun _ _ h => .inr h))
  have t0 := HB2.out.t0
  have tl := HB2.out.lt
  have lw2 : w.heap.size ≤ W2.heap.size := HA2.out.size
  clear hK hK2 hq K2 nx nc nw HA1 HB1 HD1 Q0 q0 q1 SZ lq0 lq1
  go_wp2_with fail
  go_quiet ((go_at_call 19; exact Calls.quiet_of_same (mark_same _ _ _)))
  have KD := (Kept.refl (fun _ => False) W2).drewN nq
  have q3 : (W2.drewN nq).cell? ⟨w.heap.size, 0, none⟩ = some (.pointer none) := q2
  generalize W2.drewN nq = W3 at KD q3 ⊢
  have HB3 := Lib.hid (HB2.out.kept KD id)
  have HD3 := Lib.hid (HD2.out.kept KD id)
  have HK3 := Lib.hid KD
  clear KD HB2 HD2 q2 t0 tl
  go_wp2_with fail
  refine (settle_ok x c n v v0 1 _ _ HB3.out HD3.out).mono ?_
  rintro e W4 ⟨rfl, a, b, d⟩
  have GA := Lib.hid a
  have GB := Lib.hid b
  have GD := Lib.hid d
  clear a b d
  go_wp2_with fail
  go_ret
  have z1 := HK3.out.mono (T := fun k => Both x c k ∨ S k) fun _ _ h => h.elim
  have z2 := GA.out.mono (T := fun k => Both x c k ∨ S k) fun _ _ h => .inl h
  refine ⟨rfl, (HA2.out.trans z1).trans z2, ⟨_, rfl, GB.out⟩, GD.out, HT.out W2 W4 ((HK3.out.mono fun _ _ h => h.elim).trans (GA.out.mono fun _ _ h => .inl h)) HT2.out⟩

set_option maxHeartbeats 1000000 in
theorem run_panic (x c : Nat) (n v0 : Int) (u : Nat) (y : Value) (hu : u ≠ 112) (K : Nat) (p : Addr) (hent : ∀ args w, (callFunc K args).run Tryz.prog w = .ok (.enter K args) w) (S : Nat → Prop) (T : World → Prop) (w : World)
    (h : Tsk w x c n (.pointer none) (.func (.func K) #[] #[.pointer (some p)]) v0 .nilIface) (C : Cel w c 0) (hS : ∀ k, S k → k < w.heap.size ∧ ¬ Both x c k)
    (hc : ∀ W, Kept (Both x c) w W → Calls Tryz.prog K #[.pointer none, .pointer (some p)] W (Pan u y (Does S T W)))
    (hT : ∀ a b, Kept (fun k => Both x c k ∨ w.heap.size ≤ k) a b → T a → T b) :
    Calls Tryz.prog 5 #[.pointer (some ⟨x, 0, none⟩), .pointer none] w (Done true S T w x c n 3 0 Pand) := by
  have hent21 := enters_of Tryz.func21 (by kernel_rfl) rfl
  have hmf : ∀ (fn : Fn) (first cap : Array Value) (w : World), (Instr.makeFunc fn first cap).run Tryz.prog w = .ok (.func fn first cap) w := fun _ _ _ _ => rfl
  have s0 : ∀ a m w, (store a (.func (.func K) #[] #[.pointer (some p)]) m).run Tryz.prog w = stored Tryz.prog w a (.func (.func K) #[] #[.pointer (some p)]) m := fun a m w => run_store Tryz.prog w a _ m rfl
  have hent' := Lib.hid hent
  have HH := Lib.hid (h.kept ((Kept.refl (fun _ => False) w).alloc (.cells #[.pointer none] 40)) id)
  have HC := Lib.hid (C.kept ((Kept.refl (fun _ => False) w).alloc (.cells #[.pointer none] 40)) id)
  have HS := Lib.hid hS
  have Hc := Lib.hid hc
  have HT := Lib.hid hT
  have lx := h.lt
  have lc := C.lt
  have xc := h.ne
  clear h C hS hc hT hent
  go_enter Tryz.func5, Tryz.ntmps5
  have h0 : (w.alloc (.cells #[.pointer none] 40)).cell? ⟨w.heap.size, 0, none⟩ = some (.pointer none) := by go_simp
  go_wp2_with fail
  refine (claim_hit x c n v0 _ _ rfl _ HH.out HC.out).mono ?_
  rintro e w1 ⟨rfl, a, b, d⟩
  have KA : Kept (Both x c) (w.alloc (.cells #[.pointer none] 40)) (w1.alloc (.cells #[.pointer none, .func (.func K) #[] #[.pointer (some p)]] 27)) := a.alloc _
  have l1 : w.heap.size < w1.heap.size := by have := a.size; simp at this; omega
  have a0 : w1.cell? ⟨w.heap.size, 0, none⟩ = some (.pointer none) := (a.cell (p := ⟨w.heap.size, 0, none⟩) (by simp) (by simp [Both]; omega)).trans h0
  have HA := Lib.hid KA
  have HB := Lib.hid (b.kept ((Kept.refl (fun _ => False) w1).alloc (.cells #[.pointer none, .func (.func K) #[] #[.pointer (some p)]] 27)) id)
  have HD := Lib.hid (d.kept ((Kept.refl (fun _ => False) w1).alloc (.cells #[.pointer none, .func (.func K) #[] #[.pointer (some p)]] 27)) id)
  have t0 := b.t0
  have tl := b.lt
  clear a b d KA h0
  go_wp2_with fail
  refine (kreason_nil _).mono ?_
  rintro e w' ⟨rfl, rfl⟩
  go_wp2_with fail
  go_quiet ((go_at_call 19; exact Calls.quiet_of_same (mark_same _ _ _)))
  have q1 : ((w1.alloc (.cells #[.pointer none, .func (.func K) #[] #[.pointer (some p)]] 27)).drewN nq).cell? ⟨w1.heap.size, 1, none⟩ = some (.func (.func K) #[] #[.pointer (some p)]) := by
    have g : (w1.alloc (.cells #[.pointer none, .func (.func K) #[] #[.pointer (some p)]] 27)).cell? ⟨w1.heap.size, 1, none⟩ = some (.func (.func K) #[] #[.pointer (some p)]) := by go_simp
    exact g
  have q0 : ((w1.alloc (.cells #[.pointer none, .func (.func K) #[] #[.pointer (some p)]] 27)).drewN nq).cell? ⟨w.heap.size, 0, none⟩ = some (.pointer none) := by
    have g : (w1.alloc (.cells #[.pointer none, .func (.func K) #[] #[.pointer (some p)]] 27)).cell? ⟨w.heap.size, 0, none⟩ = some (.pointer none) := by go_simp
    exact g
  have KD := (Kept.refl (fun _ => False) (w1.alloc (.cells #[.pointer none, .func (.func K) #[] #[.pointer (some p)]] 27))).drewN nq
  have sz : ((w1.alloc (.cells #[.pointer none, .func (.func K) #[] #[.pointer (some p)]] 27)).drewN nq).heap.size = w1.heap.size + 1 := by
    have g : (w1.alloc (.cells #[.pointer none, .func (.func K) #[] #[.pointer (some p)]] 27)).heap.size = w1.heap.size + 1 := by simp
    exact g
  generalize (w1.alloc (.cells #[.pointer none, .func (.func K) #[] #[.pointer (some p)]] 27)).drewN nq = W1 at q1 q0 KD sz ⊢
  have HA1 := Lib.hid (HA.out.trans (KD.mono (T := Both x c) fun _ _ h => h.elim))
  have HB1 := Lib.hid (HB.out.kept KD id)
  have HD1 := Lib.hid (HD.out.kept KD id)
  have SZ := Lib.hid sz
  clear HA HB HD KD sz t0 a0
  have Q0 := Lib.hid q0
  have lq0 : w.heap.size < W1.heap.size := by have := SZ.out; omega
  have lq1 : w1.heap.size < W1.heap.size := by have := SZ.out; omega
  go_wp2_with fail
  refine (catch_panic 21 _ hent21 u y hu (Does S T ((W1.alloc (.cells #[.int .i64 0] 2)).alloc (.cells #[.nilIface] 29))) W1 (run1_pan K p hent'.out w1.heap.size w.heap.size u y _ _ (by go_simp) (by go_simp) (Hc.out _ ?_)) ?_).mono ?_
  · exact ((((((Kept.refl (Both x c) w).alloc _).trans HA1.out).alloc _).alloc _))
  · rintro wq ⟨hK, _⟩
    refine ⟨Slot.kept ⟨by go_simp, by go_simp, by simp; omega⟩ hK ?_, Slot.kept ⟨by go_simp, by go_simp, by simp⟩ hK ?_⟩
    · intro hs; have := (HS.out _ hs).1; omega
    · intro hs; have := (HS.out _ hs).1; omega
  rintro e W2 ⟨wq, ⟨hK, hq⟩, rfl, hK2, _⟩
  have nx : ¬ S x := fun hs => (HS.out x hs).2 (.inl rfl)
  have nc : ¬ S c := fun hs => (HS.out c hs).2 (.inr rfl)
  have nw : ¬ S w.heap.size := fun hs => by have := (HS.out _ hs).1; omega
  have K2 : Kept S W1 W2 := ((((Kept.refl S W1).alloc _).alloc _).trans hK).far hK2 (by rintro i (rfl | rfl) <;> omega)
  have HB2 := Lib.hid (HB1.out.kept K2 nx)
  have HD2 := Lib.hid (HD1.out.kept K2 nc)
  have q2 := (K2.cell (p := ⟨w.heap.size, 0, none⟩) lq0 nw).trans Q0.out
  have HT2 := Lib.hid (HT.out wq W2 (hK2.mono fun k _ hk => .inr (by rcases hk with rfl | rfl <;> omega)) hq)
  have HA2 : Hid (Kept (fun k => Both x c k ∨ S k) w W2) := Lib.hid (((((Kept.refl (fun k => Both x c k ∨ S k) w).alloc (.cells #[.pointer none] 40)).trans (HA1.out.mono fun _ _ h => .inl h))).trans (K2.mono fun _ _ h => .inr h))
  have t0 := HB2.out.t0
  have tl := HB2.out.lt
  have lw2 : w.heap.size ≤ W2.heap.size := HA2.out.size
  clear hK hK2 hq K2 nx nc nw HA1 HB1 HD1 Q0 q0 q1 SZ lq0 lq1
  go_wp2_with fail
  go_quiet ((go_at_call 19; exact Calls.quiet_of_same (mark_same _ _ _)))
  have KD := (Kept.refl (fun _ => False) W2).drewN nq
  have q3 : (W2.drewN nq).cell? ⟨w.heap.size, 0, none⟩ = some (.pointer none) := q2
  generalize W2.drewN nq = W3 at KD q3 ⊢
  have HB3 := Lib.hid (HB2.out.kept KD id)
  have HD3 := Lib.hid (HD2.out.kept KD id)
  have HK3 := Lib.hid KD
  clear KD HB2 HD2 q2 t0 tl
  go_wp2_with fail
  refine (settle_err x c n 0 v0 1 _ 113 _ _ HB3.out HD3.out).mono ?_
  rintro e W4 ⟨rfl, a, b, d⟩
  have GA := Lib.hid a
  have GB := Lib.hid b
  have GD := Lib.hid d
  clear a b d
  go_wp2_with fail
  go_ret
  have z1 := HK3.out.mono (T := fun k => Both x c k ∨ S k) fun _ _ h => h.elim
  have z2 := GA.out.mono (T := fun k => Both x c k ∨ S k) fun _ _ h => .inl h
  refine ⟨rfl, (HA2.out.trans z1).trans z2, ⟨_, ⟨_, rfl⟩, GB.out⟩, GD.out, HT.out W2 W4 ((HK3.out.mono fun _ _ h => h.elim).trans (GA.out.mono fun _ _ h => .inl h)) HT2.out⟩

end Go.Proofs.YtbpaomanfgmlcaaGreatDoor

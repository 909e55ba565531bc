/-
  Package future, a nil thread: a future with one function; Fill, Complete, Then.
-/
import Derived.Test.YtkbcpifhbpfhlaaGreatDoorFut2
namespace Go.Proofs.YtkbcpifhbpfhlaaGreatDoor
open Go.RowKit

theorem Live.shut {w w' : World} {b l h p : Nat} {n hd m : Int} {x0 x1 : Value} (L : Live w b l h p n hd x0 x1) (k : Kept (fun c => c = h) w w') (C : Cel w' h m) : Live w' b l h p n m x0 x1 := by
  obtain ⟨n1, n2, n3, n4, n5, n6⟩ := L.ne
  exact ⟨Nat.lt_of_lt_of_le L.lt k.size, L.ne, (k.cell (p := ⟨b, 0, none⟩) L.lt n2).trans L.b0, (k.cell (p := ⟨b, 1, none⟩) L.lt n2).trans L.b1, (k.cell (p := ⟨b, 2, none⟩) L.lt n2).trans L.b2,
    L.l.kept k n4, C, L.s0.kept k (fun e => n6 e.symm), L.s1.kept k (fun e => n6 e.symm)⟩

/-- What a function of a future does: but for the blocks of S all is as it was; and T. -/
def FDoes (S : Nat → Prop) (T : World → Prop) (W : World) : Ending → World → Prop := fun r W' =>
  r = .returned (.tuple #[]) ∧ Kept S W W' ∧ T W'

/-- What is left when a future's list of one function was closed. -/
def FToldOne (S : Nat → Prop) (T : World → Prop) (w : World) (n l h p u : Nat) (s v : Int) (e : Value) (m : Int) (x0 x1 : Value) : Ending → World → Prop := fun r w' =>
  r = .returned (.tuple #[]) ∧ Ftr w' n l h p s v e m (-1) x0 x1 ∧ Kept (fun k => FOwn n k ∨ k = u ∨ S k) w w' ∧ T w'

set_option maxRecDepth 100000 in
set_option maxHeartbeats 1000000 in
theorem ftell_one {n l h p q0 u K : Nat} {s v m : Int} {e x1 : Value} {caps : Array Value} (S : Nat → Prop) (T : World → Prop) (hent : ∀ args w, (callFunc K args).run Tryz.prog w = .ok (.enter K args) w) (w : World)
    (F : Ftr w n l h p s v e m 1 (.pointer (some ⟨q0, 0, none⟩)) x1) (Q0 : Two w q0 (.pointer (some ⟨u, 0, none⟩)) (.int .i64 0)) (U : Slot w u 0 (.func (.func K) #[] caps)) (hq : ¬ FOwn n q0) (hu : ¬ FOwn n u) (hS : ∀ k, FOwn n k → ¬ S k)
    (hc : ∀ W, Kept (fun k => FOwn n k ∨ k = u) w W → Ftr W n l h p s v e m (-1) (.pointer (some ⟨q0, 0, none⟩)) x1 → Calls Tryz.prog K (#[.pointer none, .int .i64 v, e] ++ caps) W (FDoes S T W)) :
    Calls Tryz.prog 71 #[.pointer (some ⟨n + 5, 0, none⟩), .pointer none] w (FToldOne S T w n l h p u s v e m (.pointer (some ⟨q0, 0, none⟩)) x1) := by
  have t1 := F.t1
  have sh := F.sh
  have sz := F.size
  have HS := Lib.hid hS
  have Hc := Lib.hid hc
  have HC := Lib.hid (close_one w _ _ _ _ q0 u _ _ F.live Q0 (fun e => hq (e ▸ ⟨by omega, by omega⟩)))
  have HF := Lib.hid F
  have HU := Lib.hid U
  have Hent := Lib.hid hent
  clear F U Q0 hc hS hent
  go_enter Tryz.func71, Tryz.ntmps71
  go_wp2_with fail
  refine HC.out.mono ?_
  rintro r w1 ⟨g, cap, rfl, g1, g2, g3, k1, C1⟩
  have kk : Kept (fun c => c = l ∨ c = h ∨ c = p) w w1 := k1.mono fun _ _ e => .inr (.inl e)
  have hne : u ≠ h := fun e => hu (e ▸ ⟨by omega, by omega⟩)
  have F1 := HF.out.list kk (HF.out.live.shut k1 C1)
  have U1 := HU.out.kept k1 hne
  have gu : g ≠ u := by have := HU.out.lt; omega
  have K1 : Kept (fun k => FOwn n k ∨ k = u) w w1 := k1.mono fun k _ e => .inl (e ▸ ⟨by omega, by omega⟩)
  have HF1 := Lib.hid F1
  have HK1 := Lib.hid K1
  have HT := Lib.hid (ftaken_one g cap u K caps w1 g2 g3 U1 gu)
  clear kk F1 U1 K1 k1 C1 gu g2 g3
  go_wp2_with fail
  refine HT.out.mono ?_
  rintro r w2 ⟨rfl, k2, R2⟩
  have F2 := HF1.out.kept k2 (fun c hc e => hu (e ▸ hc))
  have K2 := HK1.out.trans (k2.mono fun _ _ e => .inr e)
  have r0 := R2.c
  have t2 := F2.t2
  have t3 := F2.t3
  have HR := Lib.hid R2
  have HF2 := Lib.hid F2
  have HK2 := Lib.hid K2
  have hent := Hent.out
  clear k2 R2 F2 K2
  go_wp2_with fail
  refine wp_loop_rounds 2 ?_
  rw [rounds_succ]
  go_wp2_with fail
  have K3 := (Kept.refl (fun _ => False) w2).drew
  have F3 := HF2.out.far K3
  have HK3 := Lib.hid (HK2.out.trans (K3.mono (T := fun k => FOwn n k ∨ k = u) fun _ _ h => h.elim))
  have x2 := F3.t2
  have x3 := F3.t3
  have HF3 := Lib.hid F3
  clear t2 t3 HF2 HK2 F3 K3
  refine wp_region_still_tail 10 (by kernel_rfl) (by kernel_rfl) ?_
  simp only [List.take_succ_cons, List.take_zero, List.drop_succ_cons, List.drop_zero]
  rw [show ∀ W : World, ({ heap := W.heap, tape := W.tape, drawn := W.drawn + 1, os := W.os, output := W.output } : World) = W.drew from fun _ => rfl]
  generalize w2.drew = W2 at x2 x3 HF3 HK3 ⊢
  repeat still_step
  refine wpStill_nil ?_
  go_wp2_with fail
  refine (Hc.out _ HK3.out HF3.out).mono ?_
  rintro r w3 ⟨rfl, k3, tt⟩
  have F4 := HF3.out.kept k3 HS.out
  have K4 : Kept (fun k => FOwn n k ∨ k = u ∨ S k) w w3 := (HK3.out.mono fun _ _ e => e.elim .inl fun e => .inr (.inl e)).trans (k3.mono fun _ _ e => .inr (.inr e))
  have HF4 := Lib.hid F4
  have HK4 := Lib.hid K4
  have HT4 := Lib.hid tt
  clear k3 tt F4 K4
  go_wp2_with fail
  rw [rounds_succ]
  go_wp2_with fail
  go_end0
  exact ⟨rfl, HF4.out, HK4.out, HT4.out⟩

theorem Kept.via {S U : Nat → Prop} {a b c : World} (h : Kept S a b) (k : Kept U b c) (hU : ∀ i, U i → S i ∨ a.heap.size ≤ i) : Kept S a c :=
  ⟨k.os.trans h.os, k.tape.trans h.tape, k.output.trans h.output, Nat.le_trans h.size k.size, fun i hi hs => (k.block i (Nat.lt_of_lt_of_le hi h.size) (fun u => (hU i u).elim hs (fun g => by omega))).trans (h.block i hi hs)⟩

/-- What a Fill leaves of a future and its promise. -/
def FFilled (w : World) (b n l h p : Nat) (s v : Int) (e : Value) (m : Int) (x0 x1 : Value) : Ending → World → Prop := fun r w' =>
  r = .returned (.bool true) ∧ Ftr w' n l h p s v e m (-1) x0 x1 ∧ Slot w' b 0 (.pointer none) ∧ Kept (fun k => FOwn n k ∨ k = b) w w'

theorem ffill_nil (v : Int) (e : Value) (w : World) : Calls Tryz.prog 42 #[.pointer none, .pointer none, .int .i64 v, e] w fun r w' => r = .returned (.bool false) ∧ w = w' := by
  go_enter Tryz.func42, Tryz.ntmps42
  go_wp2
  go_ret
  exact ⟨rfl, rfl⟩

theorem ffill_bare (b : Nat) (v : Int) (e : Value) (w : World) (h : w.cell? ⟨b, 0, none⟩ = some (.pointer none)) : Calls Tryz.prog 42 #[.pointer (some ⟨b, 0, none⟩), .pointer none, .int .i64 v, e] w fun r w' => r = .returned (.bool false) ∧ w = w' := by
  go_enter Tryz.func42, Tryz.ntmps42
  go_wp2
  go_ret
  exact ⟨rfl, rfl⟩

theorem ffill_any {b n l h p : Nat} {s' v v' m hd : Int} {e e' x0 x1 : Value} (w : World) (Q : World → Prop) (B : Slot w b 0 (.pointer (some ⟨n + 5, 0, none⟩)))
    (hc : Calls Tryz.prog 70 #[.pointer (some ⟨b, 0, none⟩), .pointer none, .int .i64 v, e] w (FSpent w b n l h p s' v' e' m hd x0 x1))
    (ht : ∀ w1, Ftr w1 n l h p s' v' e' m hd x0 x1 → Slot w1 b 0 (.pointer none) → Kept (fun k => FOwn n k ∨ k = b) w w1 → Calls Tryz.prog 71 #[.pointer (some ⟨n + 5, 0, none⟩), .pointer none] w1 fun r w' => r = .returned (.tuple #[]) ∧ Q w') :
    Calls Tryz.prog 42 #[.pointer (some ⟨b, 0, none⟩), .pointer none, .int .i64 v, e] w fun r w' => r = .returned (.bool true) ∧ Q w' := by
  have b0 := B.c
  have HC := Lib.hid hc
  have HT := Lib.hid ht
  clear B hc ht
  go_enter Tryz.func42, Tryz.ntmps42
  go_wp2_with fail
  refine HC.out.mono ?_
  rintro r w1 ⟨rfl, F1, B1, K1⟩
  have HT1 := Lib.hid (HT.out w1 F1 B1 K1)
  clear F1 B1 K1
  go_wp2_with fail
  refine HT1.out.mono ?_
  rintro r w2 ⟨rfl, q⟩
  have HQ := Lib.hid q
  clear q
  go_wp2_with fail
  go_ret
  exact ⟨rfl, HQ.out⟩

/-- .. an empty one, an error. -/
theorem ffill_err {b n l h p : Nat} {s v0 m : Int} {e0 x0 x1 : Value} (v : Int) (u : Nat) (y : Value) (w : World) (F : Ftr w n l h p s v0 e0 m 0 x0 x1) (B : Slot w b 0 (.pointer (some ⟨n + 5, 0, none⟩))) (hb : ¬ FOwn n b) :
    Calls Tryz.prog 42 #[.pointer (some ⟨b, 0, none⟩), .pointer none, .int .i64 v, .iface u y] w (FFilled w b n l h p 3 0 (.iface u y) m x0 x1) :=
  ffill_any w (fun w' => Ftr w' n l h p 3 0 (.iface u y) m (-1) x0 x1 ∧ Slot w' b 0 (.pointer none) ∧ Kept (fun k => FOwn n k ∨ k = b) w w') B (fspend_err v u y w F B hb) fun w1 F1 B1 K1 =>
    (ftell_none w1 F1).mono fun _ _ hh => ⟨hh.1, hh.2.1, B1.kept hh.2.2 hb, K1.trans (hh.2.2.mono fun _ _ h => .inl h)⟩

/-- .. an empty one, a value. -/
theorem ffill_ok {b n l h p : Nat} {s v0 m : Int} {e0 x0 x1 : Value} (v : Int) (w : World) (F : Ftr w n l h p s v0 e0 m 0 x0 x1) (B : Slot w b 0 (.pointer (some ⟨n + 5, 0, none⟩))) (hb : ¬ FOwn n b) :
    Calls Tryz.prog 42 #[.pointer (some ⟨b, 0, none⟩), .pointer none, .int .i64 v, .nilIface] w (FFilled w b n l h p 2 v .nilIface m x0 x1) :=
  ffill_any w (fun w' => Ftr w' n l h p 2 v .nilIface m (-1) x0 x1 ∧ Slot w' b 0 (.pointer none) ∧ Kept (fun k => FOwn n k ∨ k = b) w w') B (fspend_ok v w F B hb) fun w1 F1 B1 K1 =>
    (ftell_none w1 F1).mono fun _ _ hh => ⟨hh.1, hh.2.1, B1.kept hh.2.2 hb, K1.trans (hh.2.2.mono fun _ _ h => .inl h)⟩

theorem fcomplete_no (x : Value) (v : Int) (e : Value) (w : World) (hc : Calls Tryz.prog 41 #[x, .pointer none] w fun r w' => r = .returned (.pointer none) ∧ w = w') :
    Calls Tryz.prog 16 #[x, .pointer none, .int .i64 v, e] w fun r w' => r = .returned (.bool false) ∧ w = w' := by
  have HC := Lib.hid hc
  clear hc
  go_enter Tryz.func16, Tryz.ntmps16
  go_wp2_with fail
  refine HC.out.mono ?_
  rintro r w' ⟨rfl, rfl⟩
  go_wp2_with fail
  refine (ffill_nil _ _ _).mono ?_
  rintro r w' ⟨rfl, rfl⟩
  go_wp2_with fail
  go_ret
  exact ⟨rfl, rfl⟩

theorem fcomplete_any {n l h p : Nat} {v v0 m hd : Int} {e e0 x0 x1 : Value} (w : World) (Q : World → Prop) (F : Ftr w n l h p 0 v0 e0 m hd x0 x1)
    (hf : ∀ w1, Ftr w1 n l h p 1 v0 e0 m hd x0 x1 → Slot w1 w.heap.size 0 (.pointer (some ⟨n + 5, 0, none⟩)) → Kept (fun k => k = n) w w1 → Calls Tryz.prog 42 #[.pointer (some ⟨w.heap.size, 0, none⟩), .pointer none, .int .i64 v, e] w1 fun r w' => r = .returned (.bool true) ∧ Q w') :
    Calls Tryz.prog 16 #[.pointer (some ⟨n + 5, 0, none⟩), .pointer none, .int .i64 v, e] w fun r w' => r = .returned (.bool true) ∧ Q w' := by
  have HC := Lib.hid (fclaim_hit w F)
  have HH := Lib.hid hf
  clear F hf
  go_enter Tryz.func16, Tryz.ntmps16
  go_wp2_with fail
  refine HC.out.mono ?_
  rintro r w1 ⟨rfl, _, F1, B1, K1⟩
  have HH1 := Lib.hid (HH.out w1 F1 B1 K1)
  clear F1 B1 K1
  go_wp2_with fail
  refine HH1.out.mono ?_
  rintro r w2 ⟨rfl, q⟩
  have HQ := Lib.hid q
  clear q
  go_wp2_with fail
  go_ret
  exact ⟨rfl, HQ.out⟩

/-- What a Complete leaves of a future. -/
def FCompl (w : World) (n l h p : Nat) (s v : Int) (e : Value) (m : Int) (x0 x1 : Value) : Ending → World → Prop := fun r w' =>
  r = .returned (.bool true) ∧ Ftr w' n l h p s v e m (-1) x0 x1 ∧ Kept (FOwn n) w w'

theorem fcomplete_ok {n l h p : Nat} {v0 m : Int} {e0 x0 x1 : Value} (v : Int) (w : World) (F : Ftr w n l h p 0 v0 e0 m 0 x0 x1) :
    Calls Tryz.prog 16 #[.pointer (some ⟨n + 5, 0, none⟩), .pointer none, .int .i64 v, .nilIface] w (FCompl w n l h p 2 v .nilIface m x0 x1) := by
  have sz := F.size
  refine fcomplete_any w (fun w' => Ftr w' n l h p 2 v .nilIface m (-1) x0 x1 ∧ Kept (FOwn n) w w') F fun w1 F1 B1 K1 => ?_
  refine (ffill_ok v w1 F1 B1 (by rintro ⟨_, h2⟩; omega)).mono ?_
  rintro r w' ⟨hr, F2, _, K2⟩
  refine ⟨hr, F2, (K1.mono fun k _ e => e ▸ ⟨Nat.le_refl _, by omega⟩).via K2 ?_⟩
  rintro k (h1 | h1)
  · exact .inl h1
  · exact .inr (by omega)

theorem fcomplete_err {n l h p : Nat} {v0 m : Int} {e0 x0 x1 : Value} (v : Int) (u : Nat) (y : Value) (w : World) (F : Ftr w n l h p 0 v0 e0 m 0 x0 x1) :
    Calls Tryz.prog 16 #[.pointer (some ⟨n + 5, 0, none⟩), .pointer none, .int .i64 v, .iface u y] w (FCompl w n l h p 3 0 (.iface u y) m x0 x1) := by
  have sz := F.size
  refine fcomplete_any w (fun w' => Ftr w' n l h p 3 0 (.iface u y) m (-1) x0 x1 ∧ Kept (FOwn n) w w') F fun w1 F1 B1 K1 => ?_
  refine (ffill_err v u y w1 F1 B1 (by rintro ⟨_, h2⟩; omega)).mono ?_
  rintro r w' ⟨hr, F2, _, K2⟩
  refine ⟨hr, F2, (K1.mono fun k _ e => e ▸ ⟨Nat.le_refl _, by omega⟩).via K2 ?_⟩
  rintro k (h1 | h1)
  · exact .inl h1
  · exact .inr (by omega)

/-- What a Complete leaves of a future with one function. -/
def FComplOne (S : Nat → Prop) (T : World → Prop) (w : World) (n l h p u : Nat) (s v : Int) (e : Value) (m : Int) (x0 x1 : Value) : Ending → World → Prop := fun r w' =>
  r = .returned (.bool true) ∧ Ftr w' n l h p s v e m (-1) x0 x1 ∧ Kept (fun k => FOwn n k ∨ k = u ∨ S k) w w' ∧ T w'

theorem fcomplete_one {n l h p q0 u K : Nat} {v0 m : Int} {e0 x1 : Value} {caps : Array Value} (v : Int) (S : Nat → Prop) (T : World → Prop) (hent : ∀ args w, (callFunc K args).run Tryz.prog w = .ok (.enter K args) w) (w : World)
    (F : Ftr w n l h p 0 v0 e0 m 1 (.pointer (some ⟨q0, 0, none⟩)) x1) (Q0 : Two w q0 (.pointer (some ⟨u, 0, none⟩)) (.int .i64 0)) (U : Slot w u 0 (.func (.func K) #[] caps)) (hq : ¬ FOwn n q0) (hu : ¬ FOwn n u) (hS : ∀ k, FOwn n k → ¬ S k) (hS' : ∀ k, S k → k < w.heap.size)
    (hc : ∀ W, Kept (fun k => FOwn n k ∨ k = u) w W → Calls Tryz.prog K (#[.pointer none, .int .i64 v, .nilIface] ++ caps) W (FDoes S T W)) :
    Calls Tryz.prog 16 #[.pointer (some ⟨n + 5, 0, none⟩), .pointer none, .int .i64 v, .nilIface] w (FComplOne S T w n l h p u 2 v .nilIface m (.pointer (some ⟨q0, 0, none⟩)) x1) := by
  have sz := F.size
  refine fcomplete_any w (fun w' => Ftr w' n l h p 2 v .nilIface m (-1) (.pointer (some ⟨q0, 0, none⟩)) x1 ∧ Kept (fun k => FOwn n k ∨ k = u ∨ S k) w w' ∧ T w') F fun w1 F1 B1 K1 => ?_
  have hb : ¬ FOwn n w.heap.size := by rintro ⟨_, h2⟩; omega
  have a1 : ∀ k, k = n → FOwn n k := fun k e => e ▸ ⟨Nat.le_refl _, by omega⟩
  refine ffill_any w1 _ B1 (fspend_ok v w1 F1 B1 hb) fun w2 F2 B2 K2 => ?_
  have K12 : Kept (FOwn n) w w2 := (K1.mono fun k _ e => a1 k e).via K2 (by rintro k (h1 | h1); exact .inl h1; exact .inr (by omega))
  have nu : ¬ n = u := fun e => hu (a1 u e.symm)
  have nq : ¬ n = q0 := fun e => hq (a1 q0 e.symm)
  refine (ftell_one S T hent w2 F2 (Q0.kept K12 hq) (U.kept K12 hu) hq hu hS fun W k _ => hc W ((K12.mono fun _ _ h => .inl h).trans k)).mono ?_
  rintro r w3 ⟨hr, F3, K3, t3⟩
  exact ⟨hr, F3, (K12.mono fun _ _ h => .inl h).trans K3, t3⟩

end Go.Proofs.YtkbcpifhbpfhlaaGreatDoor

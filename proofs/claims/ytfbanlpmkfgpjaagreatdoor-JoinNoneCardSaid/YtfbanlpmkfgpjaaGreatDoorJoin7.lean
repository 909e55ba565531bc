/-
  Package future, a nil thread: a future with three functions is completed.
-/
import Derived.Test.YtfbanlpmkfgpjaaGreatDoorJoin6
namespace Go.Proofs.YtfbanlpmkfgpjaaGreatDoor
open Go.RowKit

/-- What a function that a future calls does: but for the blocks of S all is as it was; and R. -/
def FDid (S : Nat → Prop) (R : World → Prop) (W : World) : Ending → World → Prop := fun r W' => r = .returned (.tuple #[]) ∧ Kept S W W' ∧ R W'

/-- What is left when a future's list of three functions was closed. -/
def FTold3 (S : Nat → Prop) (R : World → Prop) (w : World) (n l h p u0 u1 u2 : Nat) (s v : Int) (e : Value) (m : Int) (x : Nat → Value) : Ending → World → Prop := fun r w' =>
  r = .returned (.tuple #[]) ∧ Ftr w' n l h p s v e m (-1) x ∧ Kept (fun k => FOwn n k ∨ (k = u0 ∨ k = u1 ∨ k = u2) ∨ S k) w w' ∧ R w'

set_option maxRecDepth 100000 in
set_option maxHeartbeats 1600000 in
theorem ftell_three {n l h p q0 q1 q2 u0 u1 u2 K : Nat} {s v m : Int} {e : Value} {x : Nat → Value} (caps : Nat → Array Value) (S : Nat → Prop) (P : Nat → World → Prop) (hent : ∀ args w, (callFunc K args).run Tryz.prog w = .ok (.enter K args) w) (w : World)
    (F : Ftr w n l h p s v e m 3 x) (x0 : x 0 = .pointer (some ⟨q0, 0, none⟩)) (x1 : x 1 = .pointer (some ⟨q1, 0, none⟩)) (x2 : x 2 = .pointer (some ⟨q2, 0, none⟩))
    (Q0 : Two w q0 (.pointer (some ⟨u0, 0, none⟩)) (.int .i64 0)) (Q1 : Two w q1 (.pointer (some ⟨u1, 0, none⟩)) (.int .i64 1)) (Q2 : Two w q2 (.pointer (some ⟨u2, 0, none⟩)) (.int .i64 2))
    (U0 : Slot w u0 0 (.func (.func K) #[] (caps 0))) (U1 : Slot w u1 0 (.func (.func K) #[] (caps 1))) (U2 : Slot w u2 0 (.func (.func K) #[] (caps 2)))
    (hq0 : ¬ FOwn n q0) (hq1 : ¬ FOwn n q1) (hq2 : ¬ FOwn n q2) (hu0 : ¬ FOwn n u0) (hu1 : ¬ FOwn n u1) (hu2 : ¬ FOwn n u2) (n01 : u0 ≠ u1) (n02 : u0 ≠ u2) (n12 : u1 ≠ u2)
    (hS : ∀ k, FOwn n k → ¬ S k) (hS' : ∀ k, S k → k < w.heap.size) (hP : ∀ i W W', P i W → Kept (fun _ => False) W W' → P i W') (h0 : ∀ W, Kept (fun k => FOwn n k ∨ k = u0 ∨ k = u1 ∨ k = u2) w W → P 0 W)
    (hc : ∀ i, i < 3 → ∀ W, P i W → Calls Tryz.prog K (#[.pointer none, .int .i64 v, e] ++ caps i) W (FDid S (P (i + 1)) W)) :
    Calls Tryz.prog 55 #[.pointer (some ⟨n + 5, 0, none⟩), .pointer none] w (FTold3 S (P 3) w n l h p u0 u1 u2 s v e m x) := by
  have t1 := F.t1
  have sh := F.sh
  have sz := F.size
  have HS := Lib.hid hS
  have HS' := Lib.hid hS'
  have HP := Lib.hid hP
  have H0 := Lib.hid h0
  have Hc := Lib.hid hc
  have nh : ∀ q, ¬ FOwn n q → q ≠ h := fun q hq e => hq (e ▸ ⟨by omega, by omega⟩)
  have HC := Lib.hid (close_three w _ _ _ _ q0 q1 q2 u0 u1 u2 _ x F.live x0 x1 x2 Q0 Q1 Q2 (nh _ hq0) (nh _ hq1) (nh _ hq2))
  have HF := Lib.hid F
  have HU := Lib.hid (And.intro U0 (And.intro U1 U2))
  have Hent := Lib.hid hent
  have Hn := Lib.hid (And.intro (nh _ hu0) (And.intro (nh _ hu1) (nh _ hu2)))
  clear F U0 U1 U2 Q0 Q1 Q2 hc hS hS' hent hP h0 nh x0 x1 x2
  go_enter Tryz.func55, Tryz.ntmps55
  go_wp2_with fail
  refine HC.out.mono ?_
  rintro r w1 ⟨g, cap, rfl, g1, c0, c1, c2, g3, k1, C1⟩
  have kk : Kept (fun c => c = l ∨ c = h ∨ c = p) w w1 := k1.mono fun _ _ e => .inr (.inl e)
  have F1 := HF.out.list kk (HF.out.live.shut k1 C1)
  have V0 := HU.out.1.kept k1 Hn.out.1
  have V1 := HU.out.2.1.kept k1 Hn.out.2.1
  have V2 := HU.out.2.2.kept k1 Hn.out.2.2
  have gu0 : g ≠ u0 := by have := HU.out.1.lt; omega
  have gu1 : g ≠ u1 := by have := HU.out.2.1.lt; omega
  have gu2 : g ≠ u2 := by have := HU.out.2.2.lt; omega
  have K1 : Kept (fun k => FOwn n k ∨ k = u0 ∨ k = u1 ∨ k = u2) w w1 := k1.mono fun k _ e => .inl (e ▸ ⟨by omega, by omega⟩)
  have HF1 := Lib.hid F1
  have HK1 := Lib.hid K1
  have HT := Lib.hid (ftaken_three g cap u0 u1 u2 K (caps 0) (caps 1) (caps 2) w1 c0 c1 c2 g3 V0 V1 V2 gu0 gu1 gu2 n01 n02 n12)
  clear kk F1 V0 V1 V2 K1 k1 C1 gu0 gu1 gu2 c0 c1 c2 g3
  go_wp2_with fail
  refine HT.out.mono ?_
  rintro r w2 ⟨rfl, k2, R0, R1, R2⟩
  have F2 := HF1.out.kept k2 (fun c hc e => by rcases e with e | e | e <;> subst e <;> contradiction)
  have K2 := HK1.out.trans (k2.mono fun _ _ e => .inr e)
  have szr : w.heap.size ≤ w1.heap.size := HK1.out.size
  have HR0 := Lib.hid R0
  have HR1 := Lib.hid R1
  have HR2 := Lib.hid R2
  have HF2 := Lib.hid F2
  have HP0 := Lib.hid (H0.out w2 K2)
  have HK2 : Hid (Kept (fun k => FOwn n k ∨ (k = u0 ∨ k = u1 ∨ k = u2) ∨ S k) w w2) := Lib.hid (K2.mono fun _ _ e => e.elim .inl fun e => .inr (.inl e))
  have hent := Hent.out
  clear k2 R0 R1 R2 F2 K2
  go_wp2_with fail
  refine wp_loop_rounds 4 ?_
  have r0 := HR0.out.c
  have t2 := HF2.out.t2
  have t3 := HF2.out.t3
  rw [rounds_succ]
  go_wp2_with fail
  have K3 := (Kept.refl (fun _ => False) w2).drew
  have F3 := HF2.out.far K3
  have HK3 := Lib.hid (HK2.out.trans (K3.mono fun _ _ h => h.elim))
  have HP3 := Lib.hid (HP.out 0 _ _ HP0.out K3)
  have HQ1 := Lib.hid (HR1.out.kept K3 id)
  have HQ2 := Lib.hid (HR2.out.kept K3 id)
  have x2 := F3.t2
  have x3 := F3.t3
  have HF3 := Lib.hid F3
  clear t2 t3 HF2 HK2 F3 K3 r0 HP0 HR0 HR1 HR2
  refine wp_region_still_tail 10 (by kernel_rfl) (by kernel_rfl) ?_
  simp only [List.take_succ_cons, List.take_zero, List.drop_succ_cons, List.drop_zero]
  rw [show ∀ W : World, ({ heap := W.heap, tape := W.tape, drawn := W.drawn + 1, os := W.os, output := W.output } : World) = W.drew from fun _ => rfl]
  generalize w2.drew = W0 at x2 x3 HF3 HK3 HP3 HQ1 HQ2 ⊢
  repeat still_step
  refine wpStill_nil ?_
  go_wp2_with fail
  refine (Hc.out 0 (by decide) W0 HP3.out).mono ?_
  rintro r wn0 ⟨rfl, k3, tt⟩
  have F4 := HF3.out.kept k3 HS.out
  have K4 := HK3.out.trans (k3.mono (T := fun k => FOwn n k ∨ (k = u0 ∨ k = u1 ∨ k = u2) ∨ S k) fun _ _ e => .inr (.inr e))
  have nr : ¬ S w1.heap.size := fun hs => by have := HS'.out _ hs; omega
  have HR1 := Lib.hid (HQ1.out.kept k3 nr)
  have HR2 := Lib.hid (HQ2.out.kept k3 nr)
  have HF2 := Lib.hid F4
  have HK2 := Lib.hid K4
  have HP0 := Lib.hid tt
  clear k3 tt F4 K4 x2 x3 HF3 HK3 HP3 nr HQ1 HQ2
  go_wp2_with fail
  have r0 := HR1.out.c
  have t2 := HF2.out.t2
  have t3 := HF2.out.t3
  rw [rounds_succ]
  go_wp2_with fail
  have K3 := (Kept.refl (fun _ => False) wn0).drew
  have F3 := HF2.out.far K3
  have HK3 := Lib.hid (HK2.out.trans (K3.mono fun _ _ h => h.elim))
  have HP3 := Lib.hid (HP.out 1 _ _ HP0.out K3)
  have HQ2 := Lib.hid (HR2.out.kept K3 id)
  have x2 := F3.t2
  have x3 := F3.t3
  have HF3 := Lib.hid F3
  clear t2 t3 HF2 HK2 F3 K3 r0 HP0 HR1 HR2
  refine wp_region_still_tail 10 (by kernel_rfl) (by kernel_rfl) ?_
  simp only [List.take_succ_cons, List.take_zero, List.drop_succ_cons, List.drop_zero]
  rw [show ∀ W : World, ({ heap := W.heap, tape := W.tape, drawn := W.drawn + 1, os := W.os, output := W.output } : World) = W.drew from fun _ => rfl]
  generalize wn0.drew = W1 at x2 x3 HF3 HK3 HP3 HQ2 ⊢
  repeat still_step
  refine wpStill_nil ?_
  go_wp2_with fail
  refine (Hc.out 1 (by decide) W1 HP3.out).mono ?_
  rintro r wn1 ⟨rfl, k3, tt⟩
  have F4 := HF3.out.kept k3 HS.out
  have K4 := HK3.out.trans (k3.mono (T := fun k => FOwn n k ∨ (k = u0 ∨ k = u1 ∨ k = u2) ∨ S k) fun _ _ e => .inr (.inr e))
  have nr : ¬ S w1.heap.size := fun hs => by have := HS'.out _ hs; omega
  have HR2 := Lib.hid (HQ2.out.kept k3 nr)
  have HF2 := Lib.hid F4
  have HK2 := Lib.hid K4
  have HP0 := Lib.hid tt
  clear k3 tt F4 K4 x2 x3 HF3 HK3 HP3 nr HQ2
  go_wp2_with fail
  have r0 := HR2.out.c
  have t2 := HF2.out.t2
  have t3 := HF2.out.t3
  rw [rounds_succ]
  go_wp2_with fail
  have K3 := (Kept.refl (fun _ => False) wn1).drew
  have F3 := HF2.out.far K3
  have HK3 := Lib.hid (HK2.out.trans (K3.mono fun _ _ h => h.elim))
  have HP3 := Lib.hid (HP.out 2 _ _ HP0.out K3)
  have x2 := F3.t2
  have x3 := F3.t3
  have HF3 := Lib.hid F3
  clear t2 t3 HF2 HK2 F3 K3 r0 HP0 HR2
  refine wp_region_still_tail 10 (by kernel_rfl) (by kernel_rfl) ?_
  simp only [List.take_succ_cons, List.take_zero, List.drop_succ_cons, List.drop_zero]
  rw [show ∀ W : World, ({ heap := W.heap, tape := W.tape, drawn := W.drawn + 1, os := W.os, output := W.output } : World) = W.drew from fun _ => rfl]
  generalize wn1.drew = W2 at x2 x3 HF3 HK3 HP3  ⊢
  repeat still_step
  refine wpStill_nil ?_
  go_wp2_with fail
  refine (Hc.out 2 (by decide) W2 HP3.out).mono ?_
  rintro r wn2 ⟨rfl, k3, tt⟩
  have F4 := HF3.out.kept k3 HS.out
  have K4 := HK3.out.trans (k3.mono (T := fun k => FOwn n k ∨ (k = u0 ∨ k = u1 ∨ k = u2) ∨ S k) fun _ _ e => .inr (.inr e))
  have nr : ¬ S w1.heap.size := fun hs => by have := HS'.out _ hs; omega
  have HF2 := Lib.hid F4
  have HK2 := Lib.hid K4
  have HP0 := Lib.hid tt
  clear k3 tt F4 K4 x2 x3 HF3 HK3 HP3 nr 
  go_wp2_with fail
  rw [rounds_succ]
  go_wp2_with fail
  go_end0
  exact ⟨rfl, HF2.out, HK2.out, HP0.out⟩

theorem fcomplete_three {n l h p q0 q1 q2 u0 u1 u2 K : Nat} {v0 m : Int} {e0 : Value} {x : Nat → Value} (v : Int) (caps : Nat → Array Value) (S : Nat → Prop) (P : Nat → World → Prop) (hent : ∀ args w, (callFunc K args).run Tryz.prog w = .ok (.enter K args) w) (w : World)
    (F : Ftr w n l h p 0 v0 e0 m 3 x) (x0 : x 0 = .pointer (some ⟨q0, 0, none⟩)) (x1 : x 1 = .pointer (some ⟨q1, 0, none⟩)) (x2 : x 2 = .pointer (some ⟨q2, 0, none⟩))
    (Q0 : Two w q0 (.pointer (some ⟨u0, 0, none⟩)) (.int .i64 0)) (Q1 : Two w q1 (.pointer (some ⟨u1, 0, none⟩)) (.int .i64 1)) (Q2 : Two w q2 (.pointer (some ⟨u2, 0, none⟩)) (.int .i64 2))
    (U0 : Slot w u0 0 (.func (.func K) #[] (caps 0))) (U1 : Slot w u1 0 (.func (.func K) #[] (caps 1))) (U2 : Slot w u2 0 (.func (.func K) #[] (caps 2)))
    (hq0 : ¬ FOwn n q0) (hq1 : ¬ FOwn n q1) (hq2 : ¬ FOwn n q2) (hu0 : ¬ FOwn n u0) (hu1 : ¬ FOwn n u1) (hu2 : ¬ FOwn n u2) (n01 : u0 ≠ u1) (n02 : u0 ≠ u2) (n12 : u1 ≠ u2)
    (hS : ∀ k, FOwn n k → ¬ S k) (hS' : ∀ k, S k → k < w.heap.size) (hP : ∀ i W W', P i W → Kept (fun _ => False) W W' → P i W') (h0 : ∀ W, Kept (fun k => FOwn n k ∨ k = u0 ∨ k = u1 ∨ k = u2) w W → P 0 W)
    (hc : ∀ i, i < 3 → ∀ W, P i W → Calls Tryz.prog K (#[.pointer none, .int .i64 v, .nilIface] ++ caps i) W (FDid S (P (i + 1)) W)) :
    Calls Tryz.prog 17 #[.pointer (some ⟨n + 5, 0, none⟩), .pointer none, .int .i64 v, .nilIface] w fun r w' => r = .returned (.bool true) ∧ Ftr w' n l h p 2 v .nilIface m (-1) x ∧ Kept (fun k => FOwn n k ∨ (k = u0 ∨ k = u1 ∨ k = u2) ∨ S k) w w' ∧ P 3 w' := by
  have sz := F.size
  refine fcomplete_any w (fun w' => Ftr w' n l h p 2 v .nilIface m (-1) x ∧ Kept (fun k => FOwn n k ∨ (k = u0 ∨ k = u1 ∨ k = u2) ∨ S k) w w' ∧ P 3 w') F fun w1 F1 B1 K1 => ?_
  have hb : ¬ FOwn n w.heap.size := by rintro ⟨_, h2⟩; omega
  have a1 : ∀ k, k = n → FOwn n k := fun k e => e ▸ ⟨Nat.le_refl _, by omega⟩
  refine ffill_any w1 _ B1 (fspend_ok v w1 F1 B1 hb) fun w2 F2 B2 K2 => ?_
  have K12 : Kept (FOwn n) w w2 := (K1.mono fun k _ e => a1 k e).via K2 (by rintro k (h1 | h1); exact .inl h1; exact .inr (by omega))
  refine (ftell_three caps S P hent w2 F2 x0 x1 x2 (Q0.kept K12 hq0) (Q1.kept K12 hq1) (Q2.kept K12 hq2) (U0.kept K12 hu0) (U1.kept K12 hu1) (U2.kept K12 hu2) hq0 hq1 hq2 hu0 hu1 hu2 n01 n02 n12 hS (fun k hk => Nat.lt_of_lt_of_le (hS' k hk) K12.size) hP
    (fun W k => h0 W ((K12.mono fun _ _ h => .inl h).trans k)) hc).mono ?_
  rintro r w3 ⟨hr, F3, K3, t3⟩
  exact ⟨hr, F3, (K12.mono fun _ _ h => .inl h).trans K3, t3⟩

end Go.Proofs.YtfbanlpmkfgpjaaGreatDoor

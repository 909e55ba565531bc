/-
  treadlelaw10.forever and ClockNone, walked.
-/
import Derived.Test.YtpdchhdelndjiaaClock10
namespace Go.Proofs.Ytpdchhdelndjiaa
open Go.RowKit

/-- forever in an Advance, behind k rings, where t0 had rung ahead of it. -/
def EverAt (w0 : World) (c b r a : Nat) (now : Int) (t0 k : Nat) (w : World) : Prop :=
  Below w0.heap.size w0 w ∧ Clk w w0.heap.size now 1 (es (t0 + k)) z0 (ef (ever c b r a) (t0 + k)) ∧ Vars w w0.heap.size c b r a (t0 + k)

theorem ever_ring (w0 : World) (c b r a : Nat) (now : Int) (t0 k : Nat) (ht : t0 + k ≤ 127) (w : World) (H : EverAt w0 c b r a now t0 k w) :
    Calls Try.prog 30 #[.pointer (some ⟨w0.heap.size + 2, 2 + 3 * ((t0 + k) % 2), none⟩), .pointer none, .int .i64 (es (t0 + k) ((t0 + k) % 2))] w (OnePost (EverAt w0 c b r a now t0) (k + 1)) := by
  obtain ⟨hB, C, V⟩ := H
  have e21 : ∀ args w, (callFunc 21 args).run Try.prog w = .ok (.enter 21 args) w := enters_of Try.func21 (by kernel_rfl) rfl
  have ho := es_own (t := t0 + k) (by omega)
  refine (ring_hit (fun w2 => Below w0.heap.size w0 w2 ∧ Clk w2 w0.heap.size now 1 (put (put (es (t0 + k)) ((t0 + k) % 2) (es (t0 + k) ((t0 + k) % 2) + 1)) (1 - (t0 + k) % 2) (es (t0 + k) (1 - (t0 + k) % 2) + 2)) z0 (ef (ever c b r a) (t0 + k + 1)) ∧ Vars w2 w0.heap.size c b r a (t0 + k + 1))
    21 #[.pointer (some ⟨r, 0, none⟩), .pointer (some ⟨c, 0, none⟩), .pointer (some ⟨a, 0, none⟩), .pointer (some ⟨b, 0, none⟩)] w0.heap.size ((t0 + k) % 2) now 1 (es (t0 + k)) z0 (ef (ever c b r a) (t0 + k)) e21 (by omega) ho.2.1 ho.2.2 (put_same _ _ _) w C ?_).mono ?_
  · intro w1 C1 K1
    refine (ever_call w0.heap.size c b r a (t0 + k) now ht w1 C1 (V.kept K1 fun x hx => not_own hx)).mono ?_
    rintro e w2 ⟨rfl, C2, V2, K2⟩
    refine C2.callPost (by omega) ?_ ⟨?_, C2, V2⟩
    · rw [put_other _ _ _ _ (by omega), put_same]
    · have B1 := hB.trans (K1.below (by have := hB.size; omega) (own_ge (Nat.le_refl _)))
      exact B1.trans (K2.below (by have := B1.size; omega) fun _ h => h)
  · rintro e w' ⟨rfl, w2, ⟨h1, h2, h3⟩, rfl⟩
    refine ⟨rfl, h1.setCell (p := ⟨w0.heap.size + 3 + 2 * ((t0 + k) % 2), 0, none⟩) (by show w0.heap.size ≤ w0.heap.size + 3 + 2 * ((t0 + k) % 2); omega) _, ?_, ?_⟩
    · have := h2.setState ((t0 + k) % 2) (by omega) (es (t0 + k) ((t0 + k) % 2) + 2)
      rw [es_step] at this
      exact this
    · exact h3.kept (Kept.one w2 ⟨w0.heap.size + 3 + 2 * ((t0 + k) % 2), 0, none⟩ _) fun x hx => by show ¬ x = w0.heap.size + 3 + 2 * ((t0 + k) % 2); omega

theorem es_zero : put z0 0 2 = es 0 := by
  funext i
  by_cases h0 : i = 0
  · subst h0; decide
  · by_cases h1 : i = 1
    · subst h1; decide
    · simp [put, es, z0, h0, h1]

theorem ever_adv (w0 : World) (c b r a : Nat) (now dt m : Int) (t0 : Nat) (h0 : 0 ≤ now) (h1 : now ≤ 4611686018427387904) (h2 : 0 ≤ dt) (hm : later now dt = m) (hm0 : 0 ≤ m) (ht : t0 + 64 ≤ 128) (w : World) (hB : Below w0.heap.size w0 w)
    (C : Clk w w0.heap.size now 0 (es t0) z0 (ef (ever c b r a) t0)) (V : Vars w w0.heap.size c b r a t0) :
    Calls Try.prog 6 #[.pointer (some ⟨w0.heap.size + 2, 0, none⟩), .pointer none, .int .i64 dt] w (AdvPost (EverAt w0 c b r a m t0) w0.heap.size 64) := by
  have HA := adv_made (EverAt w0 c b r a m t0) w0.heap.size 64 now dt (es t0) z0 _ h0 h1 h2 (by omega) w C
  rw [hm] at HA
  refine HA ?_ ?_ ?_
  · intro w1 C1 K1
    exact ⟨hB.trans (K1.below (by have := hB.size; omega) (own_ge (Nat.le_refl _))), C1, V.kept K1 fun x hx => not_own hx⟩
  · intro k w1 hk H
    exact ⟨_, _, _, _, H.2.1, by omega, look_es (by omega) m hm0, ever_ring w0 c b r a m t0 k (by omega) w1 H⟩
  · intro w1 H
    exact ⟨_, _, _, H.2.1, .inr rfl⟩

theorem vars_start (W1 : World) (n : Nat) (hn : n + 35 ≤ W1.heap.size) :
    Vars ((((W1.alloc (.cells #[.pointer (some ⟨n + 2, 0, none⟩)] 22)).alloc (.cells #[.int .i64 0] 3)).alloc (.cells #[.int .i64 0] 3)).alloc (.cells #[ever W1.heap.size (W1.heap.size + 1) (W1.heap.size + 1 + 1) (W1.heap.size + 1 + 1 + 1)] 24))
      n W1.heap.size (W1.heap.size + 1) (W1.heap.size + 1 + 1) (W1.heap.size + 1 + 1 + 1) 0 :=
  ⟨⟨by omega, by omega, by omega, by omega⟩, by omega, ⟨by go_simp, by simp; omega⟩, ⟨by go_simp, by simp⟩, ⟨by go_simp, by go_simp, by simp⟩, ⟨by go_simp, by go_simp, by simp⟩⟩

set_option maxRecDepth 100000 in
set_option maxHeartbeats 800000 in
theorem forever_any (w : World) : Calls Try.prog 10 #[] w (TruePost w) := by
  have hmf : ∀ (fn : Fn) (first cap : Array Value) (w : World), (Instr.makeFunc fn first cap).run Try.prog w = .ok (.func fn first cap) w := fun _ _ _ _ => rfl
  go_enter Try.func10, Try.ntmps10
  go_wp2_with fail
  refine (new_made _).mono ?_
  rintro e W1 ⟨rfl, hC, hB⟩
  have C1 := Lib.hid hC
  have B1 := Lib.hid hB
  clear hC hB
  go_wp2_with fail
  have s1 : w.heap.size + 35 ≤ W1.heap.size := C1.out.size
  have V1 := Lib.hid (vars_start W1 w.heap.size s1)
  have B2 := Lib.hid (((((B1.out.alloc (by omega) (.cells #[.pointer (some ⟨w.heap.size + 2, 0, none⟩)] 22)).alloc (by simp; omega) (.cells #[.int .i64 0] 3)).alloc (by simp; omega) (.cells #[.int .i64 0] 3)).alloc (by simp; omega) (.cells #[ever W1.heap.size (W1.heap.size + 1) (W1.heap.size + 1 + 1) (W1.heap.size + 1 + 1 + 1)] 24)))
  refine (set_to w.heap.size 0 0 2 0 0 0 z0 z0 f0 (.func 21) #[] _ rfl rfl (by omega) (by omega) (by omega) (fun i hi => by omega) (by decide) (by decide) (by decide) _ ((((C1.out.alloc _).alloc _).alloc _).alloc _)).mono ?_
  rintro e W2 ⟨rfl, hC, hK⟩
  change Clk W2 w.heap.size 0 0 (put z0 0 2) (put z0 0 0) (ef (ever W1.heap.size (W1.heap.size + 1) (W1.heap.size + 1 + 1) (W1.heap.size + 1 + 1 + 1)) 0) at hC
  rw [es_zero, z0_step] at hC
  have C2 := Lib.hid hC
  have V2 := Lib.hid (V1.out.kept hK fun x hx => not_own hx)
  have B3 := Lib.hid (Kept.grow B2.out hK (by simp; omega) (own_ge (Nat.le_refl _)))
  have v2 := V2.out.vc.c
  clear hC hK V1 B2
  go_wp2_with fail
  refine (ever_adv w _ _ _ _ 0 0 0 0 (by omega) (by omega) (by omega) (by decide) (by omega) (by omega) W2 B3.out C2.out V2.out).mono ?_
  rintro e W4 ⟨rfl, W3, ⟨b3, c3, v3⟩, rfl⟩
  have C4 := Lib.hid (c3.setBusy 0)
  have V4 := Lib.hid (v3.kept (Kept.one W3 ⟨w.heap.size + 1, 0, none⟩ (.int .i64 0)) fun x hx => by show ¬ x = w.heap.size + 1; omega)
  have B4 := Lib.hid (b3.setCell (p := ⟨w.heap.size + 1, 0, none⟩) (by show w.heap.size ≤ w.heap.size + 1; omega) (.int .i64 0))
  have v4 := V4.out.vc.c
  clear b3 c3 v3 v2 V2 C2 B3
  generalize W3.setCell ⟨w.heap.size + 1, 0, none⟩ (.int .i64 0) = W5 at C4 V4 B4 v4 ⊢
  go_wp2_with fail
  refine (ever_adv w _ _ _ _ 0 3 3 64 (by omega) (by omega) (by omega) (by decide) (by omega) (by omega) W5 B4.out C4.out V4.out).mono ?_
  rintro e W7 ⟨rfl, W6, ⟨b6, c6, v6⟩, rfl⟩
  have C7 := Lib.hid (c6.setBusy 0)
  have V7 := v6.kept (Kept.one W6 ⟨w.heap.size + 1, 0, none⟩ (.int .i64 0)) fun x hx => by show ¬ x = w.heap.size + 1; omega
  have B7 := Lib.hid (b6.setCell (p := ⟨w.heap.size + 1, 0, none⟩) (by show w.heap.size ≤ w.heap.size + 1; omega) (.int .i64 0))
  have v7 := V7.vc.c
  have r7 : (W6.setCell ⟨w.heap.size + 1, 0, none⟩ (.int .i64 0)).cell? ⟨W1.heap.size + 1 + 1, 0, none⟩ = some (.int .i64 128) := V7.vr.c
  have b7 : (W6.setCell ⟨w.heap.size + 1, 0, none⟩ (.int .i64 0)).cell? ⟨W1.heap.size + 1, 0, none⟩ = some (.int .i64 128) := V7.vb.c
  clear b6 c6 v6 V7 v4 V4 C4 B4
  generalize W6.setCell ⟨w.heap.size + 1, 0, none⟩ (.int .i64 0) = W8 at C7 B7 v7 r7 b7 ⊢
  go_wp2_with fail
  refine (now_made w.heap.size 3 0 _ _ _ _ C7.out).mono ?_
  rintro e w' ⟨rfl, rfl⟩
  go_wp2_with fail
  go_ret
  exact ⟨rfl, B7.out⟩

end Go.Proofs.Ytpdchhdelndjiaa

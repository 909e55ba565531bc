/-
  treadlelaw10.forever, walked: two slots take turns.
-/
import Derived.Test.YtpdchhdelndjiaaClock9
namespace Go.Proofs.Ytpdchhdelndjiaa
open Go.RowKit

/-- The slots' states behind t rings: of slots 0 and 1 the one with t's parity is set. -/
def es (t : Nat) : Nat → Int := fun i =>
  if i = 0 then 4 * (((t + 1) / 2 : Nat) : Int) + (if t % 2 = 0 then 2 else 0) else if i = 1 then 4 * ((t / 2 : Nat) : Int) + (if t % 2 = 1 then 2 else 0) else 0

def ef (u : Value) (t : Nat) : Nat → Value := put f0 (t % 2) u

theorem es_own {t : Nat} (ht : t ≤ 1000) : (es t (t % 2)).tmod 4 = 2 ∧ 0 ≤ es t (t % 2) ∧ es t (t % 2) ≤ 4611686018427387904 := by
  rcases Nat.mod_two_eq_zero_or_one t with h | h
  · have e : es t (t % 2) = 4 * (((t + 1) / 2 : Nat) : Int) + 2 := by simp [es, h]
    have h0 : 0 ≤ es t (t % 2) := by rw [e]; omega
    rw [Int.tmod_eq_emod_of_nonneg h0, e]; omega
  · have e : es t (t % 2) = 4 * ((t / 2 : Nat) : Int) + 2 := by simp [es, h]
    have h0 : 0 ≤ es t (t % 2) := by rw [e]; omega
    rw [Int.tmod_eq_emod_of_nonneg h0, e]; omega

theorem es_other {t : Nat} (ht : t ≤ 1000) : (es t (1 - t % 2)).tmod 4 = 0 ∧ 0 ≤ es t (1 - t % 2) ∧ es t (1 - t % 2) ≤ 4611686018427387904 := by
  rcases Nat.mod_two_eq_zero_or_one t with h | h
  · have e : es t (1 - t % 2) = 4 * ((t / 2 : Nat) : Int) := by simp [es, h]
    have h0 : 0 ≤ es t (1 - t % 2) := by rw [e]; omega
    rw [Int.tmod_eq_emod_of_nonneg h0, e]; omega
  · have e : es t (1 - t % 2) = 4 * (((t + 1) / 2 : Nat) : Int) := by simp [es, h]
    have h0 : 0 ≤ es t (1 - t % 2) := by rw [e]; omega
    rw [Int.tmod_eq_emod_of_nonneg h0, e]; omega

theorem es_none {t i : Nat} (hi : i ≠ t % 2) (ht : t ≤ 1000) : ¬ (es t i).tmod 4 = 2 := by
  rcases Nat.mod_two_eq_zero_or_one t with h | h
  · by_cases h1 : i = 1
    · have := (es_other ht).1
      rw [h] at this; subst h1; rw [this]; decide
    · have e : es t i = 0 := by rw [h] at hi; simp [es, h1, hi]
      rw [e]; decide
  · by_cases h1 : i = 0
    · have := (es_other ht).1
      rw [h] at this; subst h1; rw [this]; decide
    · have e : es t i = 0 := by rw [h] at hi; simp [es, h1, hi]
      rw [e]; decide

theorem look_es {t : Nat} (ht : t ≤ 1000) (m : Int) (hm : 0 ≤ m) : look (es t) z0 m 16 = some (t % 2) := by
  rw [look_one (a := t % 2) (fun i _ hi => es_none hi ht) (es_own ht).1 hm 16 (Nat.le_refl _), if_pos (by omega)]

theorem es_step (t : Nat) : put (put (put (es t) (t % 2) (es t (t % 2) + 1)) (1 - t % 2) (es t (1 - t % 2) + 2)) (t % 2) (es t (t % 2) + 2) = es (t + 1) := by
  funext i
  rcases Nat.mod_two_eq_zero_or_one t with h | h
  · have h' : (t + 1) % 2 = 1 := by omega
    by_cases h0 : i = 0
    · subst h0; simp [put, es, h, h']; omega
    · by_cases h1 : i = 1
      · subst h1; simp [put, es, h, h']; omega
      · simp [put, es, h, h0, h1]
  · have h' : (t + 1) % 2 = 0 := by omega
    by_cases h0 : i = 0
    · subst h0; simp [put, es, h, h']; omega
    · by_cases h1 : i = 1
      · subst h1; simp [put, es, h, h']; omega
      · simp [put, es, h, h0, h1]

theorem ef_step (u : Value) (t : Nat) : put (put (ef u t) (t % 2) .nilFunc) (1 - t % 2) u = ef u (t + 1) := by
  funext i
  have e : (t + 1) % 2 = 1 - t % 2 := by omega
  simp only [put, ef, f0, e]
  by_cases h : i = 1 - t % 2
  · simp [h]
  · simp [h]
    intro h1 h2
    exact absurd h2 h1

theorem z0_step (j : Nat) : put z0 j 0 = z0 := by
  funext i; simp [put, z0]

theorem es_free {t : Nat} (ht : t ≤ 1000) : ∀ i, i < 1 - t % 2 → ¬ (put (es t) (t % 2) (es t (t % 2) + 1) i).tmod 4 = 0 := by
  intro i hi
  rcases Nat.mod_two_eq_zero_or_one t with h | h
  · obtain rfl : i = 0 := by omega
    rw [h, put_same]
    have h1 := es_own ht
    rw [h] at h1
    have := h1.1
    rw [Int.tmod_eq_emod_of_nonneg h1.2.1] at this
    rw [Int.tmod_eq_emod_of_nonneg (by omega)]
    omega
  · omega

/-- A variable of any value. -/
structure ValAt (w : World) (b : Nat) (x : Value) : Prop where
  c : w.cell? ⟨b, 0, none⟩ = some x
  lt : b < w.heap.size

theorem ValAt.kept {S : Nat → Prop} {w w' : World} {b : Nat} {x : Value} (h : ValAt w b x) (k : Kept S w w') (hs : ¬ S b) : ValAt w' b x :=
  ⟨(k.cell (p := ⟨b, 0, none⟩) h.lt hs).trans h.c, Nat.lt_of_lt_of_le h.lt k.size⟩

/-- The function that forever sets. -/
def ever (c b r a : Nat) : Value := .func (.func 21) #[] #[.pointer (some ⟨r, 0, none⟩), .pointer (some ⟨c, 0, none⟩), .pointer (some ⟨a, 0, none⟩), .pointer (some ⟨b, 0, none⟩)]

/-- The variables of forever: where they lie, and what they hold behind t calls of its function. -/
structure Vars (w : World) (n c b r a : Nat) (t : Nat) : Prop where
  ge : n + 35 ≤ c ∧ n + 35 ≤ b ∧ n + 35 ≤ r ∧ n + 35 ≤ a
  ne : r ≠ b
  vc : ValAt w c (.pointer (some ⟨n + 2, 0, none⟩))
  va : ValAt w a (ever c b r a)
  vr : IntAt w r t
  vb : IntAt w b t

theorem Vars.kept {S : Nat → Prop} {w w' : World} {n c b r a t : Nat} (h : Vars w n c b r a t) (k : Kept S w w') (hs : ∀ x, n + 35 ≤ x → ¬ S x) : Vars w' n c b r a t :=
  ⟨h.ge, h.ne, h.vc.kept k (hs _ h.ge.1), h.va.kept k (hs _ h.ge.2.2.2), h.vr.kept k (hs _ h.ge.2.2.1), h.vb.kept k (hs _ h.ge.2.1)⟩

theorem not_own {n x : Nat} (h : n + 35 ≤ x) : ¬ Own n x := fun k => by have := k.2; omega

/-- What a call of forever's function leaves. -/
def EverPost (w1 : World) (n c b r a t : Nat) (now : Int) : Ending → World → Prop := fun e w2 =>
  e = .returned (.tuple #[]) ∧ Clk w2 n now 1 (put (put (es t) (t % 2) (es t (t % 2) + 1)) (1 - t % 2) (es t (1 - t % 2) + 2)) z0 (ef (ever c b r a) (t + 1)) ∧ Vars w2 n c b r a (t + 1) ∧ Kept (fun k => n ≤ k) w1 w2

set_option maxRecDepth 100000 in
set_option maxHeartbeats 800000 in
theorem ever_call (n c b r a t : Nat) (now : Int) (ht : t ≤ 127) (w : World) (C : Clk w n now 1 (put (es t) (t % 2) (es t (t % 2) + 1)) z0 (put (ef (ever c b r a) t) (t % 2) .nilFunc)) (V : Vars w n c b r a t) :
    Calls Try.prog 21 #[.pointer none, .pointer (some ⟨r, 0, none⟩), .pointer (some ⟨c, 0, none⟩), .pointer (some ⟨a, 0, none⟩), .pointer (some ⟨b, 0, none⟩)] w (EverPost w n c b r a t now) := by
  have r0 := V.vr.c
  have r1 := V.vr.f
  have rl := V.vr.lt
  have c0 := V.vc.c
  have a0 := V.va.c
  unfold ever at a0
  have b0 := V.vb.c
  have b1 := V.vb.f
  have ne := V.ne
  have hge := Lib.hid V.ge
  have hc : c ≠ r := by
    rintro rfl; rw [c0] at r0; cases r0
  have ha : a ≠ r := by
    rintro rfl; rw [a0] at r0; cases r0
  have hcb : c ≠ b := by
    rintro rfl; rw [c0] at b0; cases b0
  have hab : a ≠ b := by
    rintro rfl; rw [a0] at b0; cases b0
  have hb : b ≠ r := fun e => ne e.symm
  have C1 := Lib.hid (C.far ⟨r, 0, none⟩ (.int .i64 (t + 1)) (not_own V.ge.2.2.1))
  have X := Lib.hid V
  clear V C
  go_enter Try.func21, Try.ntmps21
  go_wp2_with fail
  have hfree := es_free (t := t) (by omega)
  have h4 := es_other (t := t) (by omega)
  have e4 : put (es t) (t % 2) (es t (t % 2) + 1) (1 - t % 2) = es t (1 - t % 2) := put_other _ _ _ _ (by omega)
  refine (set_at n (1 - t % 2) 0 now 1 _ z0 _ (.func 21) _ _ (by omega) (by omega) (by omega) hfree (by rw [e4]; exact h4.1) (by rw [e4]; exact h4.2.1) (by rw [e4]; exact h4.2.2) _ C1.out).mono ?_
  rintro e w2 ⟨rfl, hC, hK⟩
  change Clk w2 n now 1 _ _ (put (put (ef (ever c b r a) t) (t % 2) .nilFunc) (1 - t % 2) (ever c b r a)) at hC
  rw [e4, z0_step, ef_step] at hC
  have C2 := Lib.hid hC
  have vc := Lib.hid ((X.out.vc.kept (Kept.one w ⟨r, 0, none⟩ (.int .i64 (t + 1))) hc).kept hK (not_own hge.out.1))
  have va := Lib.hid ((X.out.va.kept (Kept.one w ⟨r, 0, none⟩ (.int .i64 (t + 1))) ha).kept hK (not_own hge.out.2.2.2))
  have vb := Lib.hid ((X.out.vb.kept (Kept.one w ⟨r, 0, none⟩ (.int .i64 (t + 1))) hb).kept hK (not_own hge.out.2.1))
  have vr := Lib.hid ((X.out.vr.set (t + 1)).kept hK (not_own hge.out.2.2.1))
  have K2 := Lib.hid hK
  have c2 := vc.out.c
  have b2 := vb.out.c
  have b3 := vb.out.f
  clear hC hK C1 e4 h4 hfree r0 r1 c0 a0 b0 b1
  go_wp2_with fail
  refine (adv_busy n now 1 _ _ _ (by omega) _ C2.out).mono ?_
  rintro e w' ⟨rfl, rfl⟩
  go_wp2_with fail
  first | go_end0 | refine bodyPost_ret (results_none rfl _ _ _) rfl ?_
  have ob : ¬ Own n b := not_own hge.out.2.1
  refine ⟨rfl, C2.out.far _ _ ob, ⟨X.out.ge, X.out.ne, vc.out.kept (Kept.one w2 ⟨b, 0, none⟩ _) hcb, va.out.kept (Kept.one w2 ⟨b, 0, none⟩ _) hab, ?_, ?_⟩, ?_⟩
  · have := vr.out.kept (Kept.one w2 ⟨b, 0, none⟩ (.int .i64 (t + 1))) ne
    simpa using this
  · have := vb.out.set (t + 1)
    simpa using this
  · refine Kept.setCell (S := fun k => n ≤ k) (Kept.trans (Kept.setCell (S := fun k => n ≤ k) (Kept.refl _ w) ⟨r, 0, none⟩ (.inl ?_) (.int .i64 (t + 1))) (K2.out.mono fun k _ h => h.1)) ⟨b, 0, none⟩ (.inl ?_) _
    · have := hge.out.2.2.1; show n ≤ r; omega
    · have := hge.out.2.1; show n ≤ b; omega

end Go.Proofs.Ytpdchhdelndjiaa

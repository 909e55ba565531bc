/-
  Package join, a nil thread: hang.
-/
import Derived.Test.YtfbanlpmkfgpjaaGreatDoorJoin2
namespace Go.Proofs.YtfbanlpmkfgpjaaGreatDoor
open Go.RowKit

/-- m futures with c functions each. -/
structure Fts (w : World) (m c : Nat) (fs L H P : Nat → Nat) (X : Nat → Nat → Value) : Prop where
  fut : ∀ j, j < m → Ftr w (fs j) (L j) (H j) (P j) 0 0 .nilIface c c (X j)
  nil : ∀ j, j < m → ∀ i, c ≤ i → X j i = .pointer none
  apart : ∀ i j, i < m → j < m → i ≠ j → fs i + 6 ≤ fs j ∨ fs j + 6 ≤ fs i

theorem Fts.kept {S : Nat → Prop} {w w' : World} {m c : Nat} {fs L H P : Nat → Nat} {X : Nat → Nat → Value} (F : Fts w m c fs L H P X) (k : Kept S w w') (hs : ∀ j, j < m → ∀ b, FOwn (fs j) b → ¬ S b) : Fts w' m c fs L H P X :=
  ⟨fun j hj => (F.fut j hj).kept k (hs j hj), F.nil, F.apart⟩

/-- The blocks of m futures. -/
def Own (m : Nat) (fs : Nat → Nat) : Nat → Prop := fun b => ∃ j, j < m ∧ FOwn (fs j) b

/-- k of m futures have a function more; from block s on what that took; the function that it calls: F in block bf. -/
structure Hung (w w' : World) (m c k : Nat) (fs L H P : Nat → Nat) (X : Nat → Nat → Value) (bf s : Nat) (F : Value) : Prop where
  done : ∀ j, j < k → Ftr w' (fs j) (L j) (H j) (P j) 0 0 .nilIface ((c + 1 : Nat) : Int) ((c + 1 : Nat) : Int) (put (X j) c (.pointer (some ⟨s + 6 * j + 5, 0, none⟩)))
  todo : ∀ j, k ≤ j → j < m → Ftr w' (fs j) (L j) (H j) (P j) 0 0 .nilIface c c (X j)
  two : ∀ j, j < k → Two w' (s + 6 * j + 5) (.pointer (some ⟨s + 6 * j + 1, 0, none⟩)) (.int .i64 c)
  fn : ∀ j, j < k → Slot w' (s + 6 * j + 1) 0 (.func (.func 39) #[] #[.pointer (some ⟨bf, 0, none⟩), .pointer (some ⟨s + 6 * j, 0, none⟩)])
  box : ∀ j, j < k → Slot w' (s + 6 * j) 0 (.int .i64 j)
  f : Slot w' bf 0 F
  lo : w.heap.size ≤ bf ∧ bf < s
  size : w'.heap.size = s + 6 * k
  kept : Kept (Own m fs) w w'

theorem Hung.drew {w w' : World} {m c k : Nat} {fs L H P : Nat → Nat} {X : Nat → Nat → Value} {bf s : Nat} {F : Value} (G : Hung w w' m c k fs L H P X bf s F) : Hung w w'.drew m c k fs L H P X bf s F := by
  have K : Kept (fun _ => False) w' w'.drew := (Kept.refl _ w').drew
  exact ⟨fun j h => (G.done j h).far K, fun j h1 h2 => (G.todo j h1 h2).far K, fun j h => (G.two j h).kept K id, fun j h => (G.fn j h).kept K id, fun j h => (G.box j h).kept K id, G.f.kept K id, G.lo, G.size, G.kept.trans (K.mono fun _ _ h => h.elim)⟩

/-- One more: a box for its number, then its Then. -/
theorem Hung.step {w w1 w1' w2 : World} {r : Ending} {m c k : Nat} {fs L H P : Nat → Nat} {X : Nat → Nat → Value} {bf s : Nat} {F : Value} (G : Hung w w1 m c k fs L H P X bf s F) (A : Fts w m c fs L H P X) (hk : k < m)
    (B : Slot w1' (s + 6 * k) 0 (.int .i64 k)) (KB : Kept (fun _ => False) w1 w1') (es : w1'.heap.size = s + 6 * k + 1)
    (hh : FHung w1' (fs k) (L k) (H k) (P k) 0 0 .nilIface (.func (.func 39) #[] #[.pointer (some ⟨bf, 0, none⟩), .pointer (some ⟨s + 6 * k, 0, none⟩)]) c (X k) r w2) : Hung w w2 m c (k + 1) fs L H P X bf s F := by
  obtain ⟨_, e2, F2, T2, U2, K2⟩ := hh
  rw [es] at e2 F2 T2 U2
  have e5 : s + 6 * k + 1 + 4 = s + 6 * k + 5 := by omega
  rw [e5] at F2 T2
  have K3 : Kept (FOwn (fs k)) w1 w2 := (KB.mono fun _ _ h => h.elim).trans K2
  have sz := (G.todo k (Nat.le_refl _) hk).size
  have s0 : ∀ j, j < m → fs j + 6 ≤ w.heap.size := fun j hj => (A.fut j hj).size
  have nf : ∀ j, j < m → j ≠ k → ∀ b, FOwn (fs j) b → ¬ FOwn (fs k) b := by
    rintro j hj ne b ⟨h1, h2⟩ ⟨h3, h4⟩
    rcases A.apart j k hj hk ne with h | h <;> omega
  have old : ∀ b, s ≤ b → ¬ FOwn (fs k) b := by
    rintro b hb ⟨h1, h2⟩
    have := s0 k hk; have := G.lo; omega
  refine ⟨fun j hj => ?_, fun j h1 h2 => (G.todo j (by omega) h2).kept K3 (nf j h2 (by omega)), fun j hj => ?_, fun j hj => ?_, fun j hj => ?_, G.f.kept K3 ?_, G.lo, by omega, G.kept.trans (K3.mono fun b _ h => ⟨k, hk, h⟩)⟩
  · by_cases e : j = k
    · subst e; exact F2
    · exact (G.done j (by omega)).kept K3 (nf j (by omega) e)
  · by_cases e : j = k
    · subst e; exact T2
    · exact (G.two j (by omega)).kept K3 (old _ (by omega))
  · by_cases e : j = k
    · subst e; exact U2
    · exact (G.fn j (by omega)).kept K3 (old _ (by omega))
  · by_cases e : j = k
    · subst e; exact B.kept K2 (old _ (by omega))
    · exact (G.box j (by omega)).kept K3 (old _ (by omega))
  · rintro ⟨h1, h2⟩
    have := s0 k hk; have := G.lo; omega

def HangRel (w : World) (m c : Nat) (fs L H P : Nat → Nat) (X : Nat → Nat → Value) (F : Value) (s r : Nat) (v : Value) (wr : World) : Prop :=
  ∃ k : Nat, k ≤ m ∧ v = .int .i64 k ∧ Hung w wr m c k fs L H P X w.heap.size s F ∧ r < s ∧ w.heap.size ≤ r ∧ ∀ j, j < m → wr.cell? ⟨r, j, none⟩ = some (.pointer (some ⟨fs j + 5, 0, none⟩))

/-- What hang leaves. -/
def HangPost (w : World) (m c : Nat) (fs L H P : Nat → Nat) (X : Nat → Nat → Value) (F : Value) : Ending → World → Prop := fun r w' =>
  r = .returned (.int .i64 0) ∧ ∃ s : Nat, Hung w w' m c m fs L H P X w.heap.size s F

set_option maxRecDepth 100000 in
set_option maxHeartbeats 1600000 in
theorem hang_open (g cap m c K : Nat) (caps : Array Value) (hm : 0 < m) (hm2 : m ≤ 4096) (hc : c < 3) (fs L H P : Nat → Nat) (X : Nat → Nat → Value) (w : World) (A : Fts w m c fs L H P X)
    (hf : ∀ j, j < m → w.cell? ⟨g, j, none⟩ = some (.pointer (some ⟨fs j + 5, 0, none⟩))) (lg : g < w.heap.size) :
    Calls Tryz.prog 18 #[.pointer none, .slice (some ⟨g, 0, none⟩) m cap, .func (.func K) #[] caps] w (HangPost w m c fs L H P X (.func (.func K) #[] caps)) := by
  have hmf : ∀ (fn : Fn) (first cap : Array Value) (w : World), (Instr.makeFunc fn first cap).run Tryz.prog w = .ok (.func fn first cap) w := fun _ _ _ _ => rfl
  have HA := Lib.hid A
  have K0 : Kept (fun _ => False) w (w.alloc (.cells #[.func (.func K) #[] caps] 68)) := (Kept.refl _ w).alloc _
  have HC := Lib.hid (clone_is g cap m hm hm2 (fun j => ⟨fs j + 5, 0, none⟩) (w.alloc (.cells #[.func (.func K) #[] caps] 68)) (fun j hj => (K0.cell (p := ⟨g, j, none⟩) lg id).trans (hf j hj)) (by simp; omega))
  have HK := Lib.hid K0
  have HB := Lib.hid (show Slot (w.alloc (.cells #[.func (.func K) #[] caps] 68)) w.heap.size 0 (.func (.func K) #[] caps) from ⟨by go_simp, by go_simp, by simp⟩)
  clear A hf K0
  go_enter Tryz.func18, Tryz.ntmps18
  go_wp2_with fail
  refine HC.out.mono ?_
  rintro e w1 ⟨r, cap', rfl, r1, r2, r3, k1⟩
  have hs : w.heap.size + 1 ≤ w1.heap.size := by have := k1.size; simpa using this
  have HR : Hid (HangRel w m c fs L H P X (.func (.func K) #[] caps) w1.heap.size r (.int .i64 (0 : Nat)) w1) := by
    refine ⟨0, Nat.zero_le _, rfl, ⟨fun j h => by omega, fun j _ hj => ((HA.out.fut j hj).far HK.out).far k1, fun j h => by omega, fun j h => by omega, fun j h => by omega, HB.out.kept k1 id, ⟨Nat.le_refl _, by omega⟩, by omega, (HK.out.trans k1).mono fun _ _ h => h.elim⟩, r2, by simp at r1; omega, r3⟩
  clear r1 r3 k1 hs HB HC HK
  go_wp2_with fail
  go_loopw [13] (fun v wr => HangRel w m c fs L H P X (.func (.func K) #[] caps) w1.heap.size r v wr) (fun v _ => m - (intOf v).toNat)
  case atStart => exact HR.out
  case round =>
    obtain ⟨k, hk, rfl, hu, h1, h2, h3⟩ := hrel
    by_cases hlt : k < m
    · have i1 : (k : Int) < m := by omega
      have i2 : (0 : Int) ≤ (k : Int) := by omega
      have c0 := h3 k hlt
      have cr : r < wr.heap.size := by have := hu.size; omega
      have hsz := Lib.hid hu.size
      have KB : Kept (fun _ => False) wr (wr.alloc (.cells #[.int .i64 k] 3)) := (Kept.refl _ wr).alloc _
      have HT := Lib.hid (fthen_open c hc (HA.out.nil k hlt c (Nat.le_refl _)) 39 #[.pointer (some ⟨w.heap.size, 0, none⟩), .pointer (some ⟨wr.heap.size, 0, none⟩)] (wr.alloc (.cells #[.int .i64 k] 3)) ((hu.todo k (Nat.le_refl _) hlt).far KB))
      have HU := Lib.hid hu
      have H3 := Lib.hid h3
      have HKB := Lib.hid KB
      have HS : Hid (Slot (wr.alloc (.cells #[.int .i64 k] 3)) wr.heap.size 0 (.int .i64 k)) := ⟨by go_simp, by go_simp, by simp⟩
      clear hu h3 KB
      go_wp2_with fail
      refine HT.out.mono ?_
      rintro e w2 hh
      obtain rfl := hh.1
      have es : (wr.alloc (.cells #[.int .i64 k] 3)).heap.size = w1.heap.size + 6 * k + 1 := by simp; exact hsz.out
      have K2 : Kept (FOwn (fs k)) wr w2 := (HKB.out.mono fun _ _ h => h.elim).trans hh.2.2.2.2.2
      have hn := HU.out.step HA.out hlt (by rw [← hsz.out]; exact HS.out) HKB.out es (by rw [← hsz.out]; exact hh)
      have hr : ∀ j, j < m → w2.cell? ⟨r, j, none⟩ = some (.pointer (some ⟨fs j + 5, 0, none⟩)) := by
        intro j hj
        refine (K2.cell (p := ⟨r, j, none⟩) cr ?_).trans (H3.out j hj)
        rintro ⟨h4, h5⟩
        have := (HA.out.fut k hlt).size
        simp at h4 h5
        omega
      have HN := Lib.hid hn
      have HR2 := Lib.hid hr
      clear hh es K2 hn hr
      go_wp2_with fail
      go_roundw
      case rel => exact ⟨k + 1, by omega, by go_num, HN.out, h1, h2, HR2.out⟩
      case measure => simp [intOf]; omega
    · obtain rfl : k = m := by omega
      have HU := Lib.hid hu
      clear hu h3
      go_wp2_with fail
      go_ret
      exact ⟨rfl, _, HU.out⟩

end Go.Proofs.YtfbanlpmkfgpjaaGreatDoor

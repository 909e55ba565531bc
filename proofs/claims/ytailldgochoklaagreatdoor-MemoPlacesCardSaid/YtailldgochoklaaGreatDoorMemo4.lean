/-
  New.
-/
import Derived.Test.YtailldgochoklaaGreatDoorMemo3
import Derived.Test.YtailldgochoklaaGreatDoorFut3
import Derived.Deep.RegionHeld3
namespace Go.Proofs.YtailldgochoklaaGreatDoor
open Go.RowKit

theorem new_no (s : Int) (h : powB s = false) (w : World) : Calls Tryz.prog 6 #[.int .i64 s] w fun e w' => e = .returned (.pointer none) ∧ w = w' := by
  go_enter Tryz.func6, Tryz.ntmps6
  go_wp2_with (go_at_call 13; refine (isSize_any s _).mono ?_; rintro e w' ⟨rfl, rfl⟩)
  go_ret
  exact ⟨rfl, rfl⟩

/-- What make lays for n places. -/
def pls (n : Nat) : Array Value := madeCells #[.pointer none, .pointer none] (n * 2)

theorem pls_get (n k : Nat) (h : k < n * 2) : (pls n)[k]? = some (.pointer none) := by
  unfold pls madeCells
  have e : k % 2 = 0 ∨ k % 2 = 1 := by omega
  rcases e with e | e <;> simp [h, e]

theorem info49 : (Tryz.prog.info? 49).map (fun i => (i.zero, i.size, i.bytes)) = some (some (.agg #[.pointer none, .pointer none]), 2, 16) := by kernel_rfl

theorem run_mk (n : Nat) (h1 : 1 ≤ n) (h2 : n ≤ 4096) (W : World) : (Instr.makeSlice 26 (.int .i64 n) (.int .i64 n)).run Tryz.prog W = .ok (.slice (some ⟨W.heap.size, 0, none⟩) n n) (W.alloc (.cells (pls n) 49)) := by
  obtain ⟨i0, hi, hz0, hz1, hz2⟩ := info_parts info49
  have h := run_make (P := Tryz.prog) W 26 49 i0 _ Tryz.underlying26 hi hz0 .i64 .i64 n n (by omega) (by omega) (by rw [hz2]; omega) (by omega)
  rw [h]
  simp only [Int.toNat_natCast, hz1]
  rfl

/-- What a new cell is. -/
def CMade (v : Int) (w : World) : Ending → World → Prop := fun e w' => e = .returned (.pointer (some ⟨w.heap.size, 0, none⟩)) ∧ w'.heap.size = w.heap.size + 1 ∧ Cel w' w.heap.size v ∧ Kept (fun _ => False) w w'

theorem cnew_made (v : Int) (w : World) : Calls Tryz.prog 15 #[.int .i64 v] w (CMade v w) := by
  refine (new_cell v w).mono ?_
  rintro e w' ⟨rfl, rfl⟩
  exact ⟨rfl, by simp, ⟨by go_simp, by go_simp, by go_simp, by go_simp, by simp⟩, (Kept.refl _ _).alloc _⟩

/-- Place i of a memo whose places lie in block B: its cell, its future. -/
structure Plc (w : World) (B i : Nat) (v : Int) (s x : Int) (e : Value) (hd : Int) : Prop where
  s0 : Slot w B (i * 2) (.pointer (some ⟨B + 2 + 7 * i, 0, none⟩))
  s1 : Slot w B (i * 2 + 1) (.pointer (some ⟨B + 3 + 7 * i + 5, 0, none⟩))
  cel : Cel w (B + 2 + 7 * i) v
  fut : ∃ l h p, Ftr w (B + 3 + 7 * i) l h p s x e 0 hd (.pointer none) (.pointer none)

theorem Plc.kept {S : Nat → Prop} {w w' : World} {B i : Nat} {v s x hd : Int} {e : Value} (P : Plc w B i v s x e hd) (k : Kept S w w') (h0 : ¬ S B) (h1 : ∀ c, B + 2 + 7 * i ≤ c → c < B + 9 + 7 * i → ¬ S c) : Plc w' B i v s x e hd := by
  obtain ⟨l, h, p, F⟩ := P.fut
  exact ⟨P.s0.kept k h0, P.s1.kept k h0, P.cel.kept k (h1 _ (by omega) (by omega)), l, h, p, F.kept k fun c hc => h1 c (by have := hc.1; omega) (by have := hc.2; omega)⟩

/-- k of n places are laid. -/
structure NewAt (w wr : World) (B n k : Nat) : Prop where
  hB : B = w.heap.size
  size : wr.heap.size = B + 2 + 7 * k
  kept : Kept (fun _ => False) w wr
  box : Slot wr (B + 1) 0 (.slice (some ⟨B, 0, none⟩) n n)
  done : ∀ i, i < k → Plc wr B i 0 0 0 .nilIface 0
  todo : ∀ j, k * 2 ≤ j → j < n * 2 → Slot wr B j (.pointer none)

theorem newAt_step {w wr w1 w2 : World} {B n k : Nat} {l h p : Nat} (H : NewAt w wr B n k) (hk : k < n) (hs1 : w1.heap.size = wr.heap.size + 1) (C1 : Cel w1 wr.heap.size 0) (K1 : Kept (fun _ => False) wr w1)
    (hs2 : w2.heap.size = w1.heap.size + 6) (F2 : Ftr w2 w1.heap.size l h p 0 0 .nilIface 0 0 (.pointer none) (.pointer none)) (K2 : Kept (fun _ => False) w1 w2) :
    NewAt w ((w2.setCell ⟨B, k * 2, none⟩ (.pointer (some ⟨wr.heap.size, 0, none⟩))).setCell ⟨B, k * 2 + 1, none⟩ (.pointer (some ⟨w1.heap.size + 5, 0, none⟩))) B n (k + 1) := by
  have sz := H.size
  have K12 : Kept (fun _ => False) wr w2 := K1.trans K2
  have KB : Kept (fun k => k = B) w2 ((w2.setCell ⟨B, k * 2, none⟩ (.pointer (some ⟨wr.heap.size, 0, none⟩))).setCell ⟨B, k * 2 + 1, none⟩ (.pointer (some ⟨w1.heap.size + 5, 0, none⟩))) :=
    ((Kept.refl (fun k => k = B) w2).setCell ⟨B, k * 2, none⟩ (.inl rfl) _).setCell ⟨B, k * 2 + 1, none⟩ (.inl rfl) _
  have T0 := (H.todo (k * 2) (Nat.le_refl _) (by omega)).kept K12 id
  have T1 := (H.todo (k * 2 + 1) (by omega) (by omega)).kept K12 id
  have hw : w.heap.size = B := H.hB.symm
  refine ⟨H.hB, ?_, ?_, ?_, ?_, ?_⟩
  · simp; omega
  · exact (H.kept.trans K12).far KB (by rintro i rfl; omega)
  · exact (H.box.kept K12 id).kept KB (by omega)
  · intro i hi
    by_cases e : i = k
    · subst e
      refine ⟨?_, ?_, ?_, l, h, p, ?_⟩
      · have := (T0.set (.pointer (some ⟨wr.heap.size, 0, none⟩))).beside (t := i * 2 + 1) (.pointer (some ⟨w1.heap.size + 5, 0, none⟩)) (by omega)
        rw [sz] at this ⊢; exact this
      · have := (T1.beside (t := i * 2) (.pointer (some ⟨wr.heap.size, 0, none⟩)) (by omega)).set (.pointer (some ⟨w1.heap.size + 5, 0, none⟩))
        rw [hs1, sz] at this ⊢
        rw [show B + 2 + 7 * i + 1 + 5 = B + 3 + 7 * i + 5 by omega] at this
        rw [show B + 2 + 7 * i + 1 + 5 = B + 3 + 7 * i + 5 by omega]
        exact this
      · have := (C1.kept K2 id).kept KB (by omega)
        rw [sz] at this ⊢; exact this
      · have := F2.kept KB (fun c hc e => by have := hc.1; omega)
        rw [hs1, sz] at this ⊢
        rw [show B + 2 + 7 * i + 1 = B + 3 + 7 * i by omega] at this
        rw [show B + 2 + 7 * i + 1 + 5 = B + 3 + 7 * i + 5 by omega]
        rw [show B + 3 + 7 * i + 5 = B + 3 + 7 * i + 5 by omega] at this
        exact this
    · have P := ((H.done i (by omega)).kept K12 id (fun _ _ _ => id))
      obtain ⟨l', h', p', F⟩ := P.fut
      refine ⟨?_, ?_, P.cel.kept KB (by omega), l', h', p', F.kept KB (fun c hc e => by have := hc.1; omega)⟩
      · exact (P.s0.beside _ (by omega)).beside _ (by omega)
      · exact (P.s1.beside _ (by omega)).beside _ (by omega)
  · intro j h1 h2
    exact (((H.todo j (by omega) h2).kept K12 id).beside _ (by omega)).beside _ (by omega)

theorem NewAt.drew {w wr : World} {B n k : Nat} (H : NewAt w wr B n k) : NewAt w wr.drew B n k := by
  have K : Kept (fun _ => False) wr wr.drew := (Kept.refl _ wr).drew
  exact ⟨H.hB, H.size, H.kept.drew, H.box.kept K id, fun i hi => (H.done i hi).kept K id (fun _ _ _ => id), fun j h1 h2 => (H.todo j h1 h2).kept K id⟩

def NewRel (w : World) (n : Nat) (c : Value) (wr : World) : Prop := ∃ k : Nat, k ≤ n ∧ c = .int .i64 k ∧ NewAt w wr w.heap.size n k

/-- What New leaves. -/
def NewPost (w : World) (n : Nat) : Ending → World → Prop := fun e w' => e = .returned (.pointer (some ⟨w.heap.size + 1, 0, none⟩)) ∧ NewAt w w' w.heap.size n n

set_option maxRecDepth 100000 in
set_option maxHeartbeats 800000 in
theorem new_yes (n : Nat) (h : powB n = true) (h1 : 1 ≤ n) (h2 : n ≤ 4096) (w : World) : Calls Tryz.prog 6 #[.int .i64 n] w (NewPost w n) := by
  have hmk := run_mk n h1 h2
  go_enter Tryz.func6, Tryz.ntmps6
  go_wp2_with (go_at_call 13; refine (isSize_any n _).mono ?_; rintro e w' ⟨rfl, rfl⟩)
  clear hmk
  go_loopw [17] (fun c wr => NewRel w n c wr) (fun c _ => n - (intOf c).toNat)
  case atStart =>
    refine ⟨0, Nat.zero_le _, rfl, ⟨rfl, by simp, ((Kept.refl _ w).alloc _).alloc _, ⟨by go_simp, by go_simp, by simp⟩, fun i hi => by omega, fun j _ hj => ?_⟩⟩
    have e := pls_get n j (by omega)
    refine ⟨?_, by go_simp, by simp; omega⟩
    go_simp
  case round =>
    obtain ⟨k, hk, rfl, H⟩ := hrel
    by_cases hlt : k < n
    · have T0 := H.todo (k * 2) (Nat.le_refl _) (by omega)
      have T1 := H.todo (k * 2 + 1) (by omega) (by omega)
      have bx := H.box.c
      have i1 : (k : Int) < n := by omega
      have i2 : (0 : Int) ≤ (k : Int) := by omega
      have X := Lib.hid H
      have HT0 := Lib.hid T0
      have HT1 := Lib.hid T1
      clear H T0 T1
      go_wp2_with fail
      go_region_with (first
        | (go_at_call 15; refine (cnew_made 0 _).mono ?_; rintro e W1 ⟨rfl, s1, C1, K1⟩; have b1 := (K1.cell (p := ⟨w.heap.size + 1, 0, none⟩) X.out.drew.box.lt id).trans X.out.drew.box.c; have HS1 := Lib.hid s1; have HC1 := Lib.hid C1; have HK1 := Lib.hid K1; clear s1 C1 K1)
        | (go_at_call 16; refine (fnew_any _).mono ?_; rintro e W2 ⟨l, h, p, rfl, s2, F2, K2⟩; have b2 := (K2.cell (p := ⟨w.heap.size + 1, 0, none⟩) (Nat.lt_of_lt_of_le X.out.drew.box.lt HK1.out.size) id).trans b1; have T2 := (HT0.out.kept ((Kept.refl _ wr).drew.trans HK1.out) id).kept K2 id; have T3 := (HT1.out.kept ((Kept.refl _ wr).drew.trans HK1.out) id).kept K2 id; have a0 := T2.c; have a1 := T2.fr; have a2 := T2.lt; have a3 := T3.c; have a4 := T3.fr; have HS2 := Lib.hid s2; have HF2 := Lib.hid F2; have HK2 := Lib.hid K2; clear s2 F2 K2 T2 T3))
      all_goals
        go_wp2_with fail
        go_roundw
        case rel => exact ⟨k + 1, by omega, by go_num, newAt_step (wr := wr.drew) X.out.drew hlt HS1.out HC1.out HK1.out HS2.out HF2.out HK2.out⟩
        case measure => simp [intOf]; omega
    · obtain rfl : k = n := by omega
      have X := Lib.hid H
      clear H
      go_wp2_with fail
      go_ret
      exact ⟨rfl, X.out⟩

end Go.Proofs.YtailldgochoklaaGreatDoor

/-
  newLevel.
-/
import Derived.Test.YthkakojkffgmbaaPrio7
import Derived.Deep.RegionHeld3
namespace Go.Proofs.Ythkakojkffgmbaa
open Go.RowKit

/-- What make lays for n places. -/
def pls (n : Nat) : Array Value := madeCells #[.pointer none, .pointer none, .pointer none] (n * 3)

theorem pls_get (n k : Nat) (h : k < n * 3) : (pls n)[k]? = some (.pointer none) := by
  unfold pls madeCells
  have e : k % 3 = 0 ∨ k % 3 = 1 ∨ k % 3 = 2 := by omega
  rcases e with e | e | e <;> simp [h, e]

theorem infoPlace : (Try.prog.info? 73).map (fun i => (i.zero, i.size, i.bytes)) = some (some (.agg #[.pointer none, .pointer none, .pointer none]), 3, 24) := by kernel_rfl

theorem run_mkp (n : Nat) (h1 : 1 ≤ n) (h2 : n ≤ 4096) (W : World) : (Instr.makeSlice 38 (.int .i64 n) (.int .i64 n)).run Try.prog W = .ok (.slice (some ⟨W.heap.size, 0, none⟩) n n) (W.alloc (.cells (pls n) 73)) := by
  obtain ⟨i0, hi, hz0, hz1, hz2⟩ := info_parts infoPlace
  have h := run_make (P := Try.prog) W 38 73 i0 _ Try.underlying38 hi hz0 .i64 .i64 n n (by omega) (by omega) (by rw [hz2]; omega) (by omega)
  rw [h]
  simp only [Int.toNat_natCast, hz1]
  rfl

/-- A level but for what its own struct says. -/
structure Bod (w : World) (R : Nat) (d : Ids) (S : LS) : Prop where
  ok : Ok d R
  ci : Cel w d.bi S.a
  co : Cel w d.bo S.b
  q0 : ∀ i, i < R → Slot w d.bp (i * 3) (.pointer (some ⟨d.s + 3 * i, 0, none⟩))
  q1 : ∀ i, i < R → Slot w d.bp (i * 3 + 1) (.pointer (some ⟨d.s + 3 * i + 1, 0, none⟩))
  q2 : ∀ i, i < R → Slot w d.bp (i * 3 + 2) (.pointer (some ⟨d.s + 3 * i + 2, 0, none⟩))
  ct : ∀ i, i < R → Cel w (d.s + 3 * i) (S.tu i)
  ck : ∀ i, i < R → Cel w (d.s + 3 * i + 1) (S.ti i)
  cs : ∀ i, i < R → Cel w (d.s + 3 * i + 2) (S.sl i)

theorem Bod.lvl {X : Nat → Prop} {w w' : World} {B n R : Nat} {d : Ids} {S : LS} (h : Bod w R d S) (k : Kept X w w') (hX : ∀ b, d.lo ≤ b → b < d.hi → ¬ X b) (p0 : Slot w' B (n * 3) (.pointer (some ⟨d.bi, 0, none⟩)))
    (p1 : Slot w' B (n * 3 + 1) (.pointer (some ⟨d.bo, 0, none⟩))) (p2 : Slot w' B (n * 3 + 2) (.slice (some ⟨d.bp, 0, none⟩) R R)) : Lvl w' B n R d S := by
  have o := h.ok
  have o1 := o.i0; have o2 := o.i1; have o3 := o.o0; have o4 := o.o1; have o5 := o.p0; have o6 := o.p1; have o7 := o.h
  exact ⟨o, p0, p1, p2, h.ci.kept k (hX _ o1 (by omega)), h.co.kept k (hX _ o3 (by omega)),
    fun i hi => (h.q0 i hi).kept k (hX _ o5 (by omega)), fun i hi => (h.q1 i hi).kept k (hX _ o5 (by omega)), fun i hi => (h.q2 i hi).kept k (hX _ o5 (by omega)),
    fun i hi => (h.ct i hi).kept k (hX _ (by omega) (by omega)), fun i hi => (h.ck i hi).kept k (hX _ (by omega) (by omega)), fun i hi => (h.cs i hi).kept k (hX _ (by omega) (by omega))⟩

/-- A new level's state. -/
def S0 : LS := ⟨0, 0, fun i => i, fun _ => 0, fun _ => 0⟩

/-- What a cell is when it is new. -/
def nc (v : Int) : Obj := .cells #[.int .i64 v, .bool true, .int .i64 0, .int .i32 0, .int .u32 0, .chan none] 70

/-- The blocks of a new level, once its ends and its row are made. -/
structure Lay0 (w : World) (R bi bo bp bl : Nat) (W : World) : Prop where
  k : Kept (fun _ => False) w W
  size : W.heap.size = w.heap.size + 4
  i0 : w.heap.size ≤ bi ∧ bi < w.heap.size + 4
  o0 : w.heap.size ≤ bo ∧ bo < w.heap.size + 4
  p0 : w.heap.size ≤ bp ∧ bp < w.heap.size + 4
  l0 : w.heap.size ≤ bl ∧ bl < w.heap.size + 4
  ne : bi ≠ bo ∧ bi ≠ bp ∧ bi ≠ bl ∧ bo ≠ bp ∧ bo ≠ bl ∧ bp ≠ bl
  ci : Cel W bi 0
  co : Cel W bo 0
  row : ∀ j, j < R * 3 → Slot W bp j (.pointer none)
  s0 : Slot W bl 0 (.pointer (some ⟨bi, 0, none⟩))
  s1 : Slot W bl 1 (.pointer (some ⟨bo, 0, none⟩))
  s2 : Slot W bl 2 (.slice (some ⟨bp, 0, none⟩) R R)

theorem three_kept (w : World) (bp i j l : Nat) (u v x : Value) : Kept (fun b => b = bp) w (((w.setCell ⟨bp, i, none⟩ u).setCell ⟨bp, j, none⟩ v).setCell ⟨bp, l, none⟩ x) :=
  (((Kept.refl (fun b => b = bp) w).setCell ⟨bp, i, none⟩ (.inl rfl) _).setCell ⟨bp, j, none⟩ (.inl rfl) _).setCell ⟨bp, l, none⟩ (.inl rfl) _

/-- What a new cell is. -/
def CMade (v : Int) (w : World) : Ending → World → Prop := fun e w' => e = .returned (.pointer (some ⟨w.heap.size, 0, none⟩)) ∧ w'.heap.size = w.heap.size + 1 ∧ Cel w' w.heap.size v ∧ Kept (fun _ => False) w w'

theorem cnew_made (v : Int) (w : World) : Calls Try.prog 9 #[.int .i64 v] w (CMade v w) := by
  refine (new_cell v w).mono ?_
  rintro e w' ⟨rfl, rfl⟩
  exact ⟨rfl, by simp, ⟨by go_simp, by go_simp, by go_simp, by go_simp, by simp⟩, (Kept.refl _ _).alloc _⟩

/-- k of R places are laid. -/
structure NL (W : World) (R bp k : Nat) (wr : World) : Prop where
  size : wr.heap.size = W.heap.size + 3 * k
  kept : Kept (fun b => b = bp) W wr
  done : ∀ i, i < k → (Slot wr bp (i * 3) (.pointer (some ⟨W.heap.size + 3 * i, 0, none⟩)) ∧ Slot wr bp (i * 3 + 1) (.pointer (some ⟨W.heap.size + 3 * i + 1, 0, none⟩)) ∧ Slot wr bp (i * 3 + 2) (.pointer (some ⟨W.heap.size + 3 * i + 2, 0, none⟩))) ∧
    Cel wr (W.heap.size + 3 * i) i ∧ Cel wr (W.heap.size + 3 * i + 1) 0 ∧ Cel wr (W.heap.size + 3 * i + 2) 0
  todo : ∀ j, k * 3 ≤ j → j < R * 3 → Slot wr bp j (.pointer none)

theorem nl_step {W wr W1 W2 W3 : World} {R bp k : Nat} (H : NL W R bp k wr) (hk : k < R) (hbp : bp < W.heap.size) (s1 : W1.heap.size = wr.drew.heap.size + 1) (C1 : Cel W1 wr.drew.heap.size k) (K1 : Kept (fun _ => False) wr.drew W1)
    (s2 : W2.heap.size = W1.heap.size + 1) (C2 : Cel W2 W1.heap.size 0) (K2 : Kept (fun _ => False) W1 W2) (s3 : W3.heap.size = W2.heap.size + 1) (C3 : Cel W3 W2.heap.size 0) (K3 : Kept (fun _ => False) W2 W3) :
    NL W R bp (k + 1) (((W3.setCell ⟨bp, k * 3, none⟩ (.pointer (some ⟨wr.drew.heap.size, 0, none⟩))).setCell ⟨bp, k * 3 + 1, none⟩ (.pointer (some ⟨W1.heap.size, 0, none⟩))).setCell ⟨bp, k * 3 + 2, none⟩ (.pointer (some ⟨W2.heap.size, 0, none⟩))) := by
  have sz : wr.drew.heap.size = W.heap.size + 3 * k := H.size
  have KK : Kept (fun _ => False) wr W3 := (((Kept.refl (fun _ => False) wr).drew.trans K1).trans K2).trans K3
  generalize wr.drew.heap.size = n0 at *
  have e1 : W1.heap.size = W.heap.size + 3 * k + 1 := by omega
  have e2 : W2.heap.size = W.heap.size + 3 * k + 2 := by omega
  have e3 : W3.heap.size = W.heap.size + 3 * k + 3 := by omega
  have KB := three_kept W3 bp (k * 3) (k * 3 + 1) (k * 3 + 2) (.pointer (some ⟨n0, 0, none⟩)) (.pointer (some ⟨W1.heap.size, 0, none⟩)) (.pointer (some ⟨W2.heap.size, 0, none⟩))
  have T0 := (H.todo (k * 3) (by omega) (by omega)).kept KK (fun e => e)
  have T1 := (H.todo (k * 3 + 1) (by omega) (by omega)).kept KK (fun e => e)
  have T2 := (H.todo (k * 3 + 2) (by omega) (by omega)).kept KK (fun e => e)
  have U0 := ((T0.set (.pointer (some ⟨n0, 0, none⟩))).beside (t := k * 3 + 1) (.pointer (some ⟨W1.heap.size, 0, none⟩)) (by omega)).beside (t := k * 3 + 2) (.pointer (some ⟨W2.heap.size, 0, none⟩)) (by omega)
  have U1 := ((T1.beside (t := k * 3) (.pointer (some ⟨n0, 0, none⟩)) (by omega)).set (.pointer (some ⟨W1.heap.size, 0, none⟩))).beside (t := k * 3 + 2) (.pointer (some ⟨W2.heap.size, 0, none⟩)) (by omega)
  have U2 := ((T2.beside (t := k * 3) (.pointer (some ⟨n0, 0, none⟩)) (by omega)).beside (t := k * 3 + 1) (.pointer (some ⟨W1.heap.size, 0, none⟩)) (by omega)).set (.pointer (some ⟨W2.heap.size, 0, none⟩))
  refine ⟨?_, ?_, ?_, ?_⟩
  · simp; omega
  · exact (H.kept.trans (keptNo KK)).trans KB
  · intro i hi
    by_cases e : i = k
    · subst e
      refine ⟨⟨?_, ?_, ?_⟩, ?_, ?_, ?_⟩
      · rw [sz] at U0 ⊢; exact U0
      · rw [e1] at U1 ⊢; exact U1
      · rw [e2] at U2 ⊢; exact U2
      · rw [sz] at C1; exact (((C1.kept K2 (fun e => e)).kept K3 (fun e => e)).kept KB (by omega))
      · rw [e1] at C2; exact ((C2.kept K3 (fun e => e)).kept KB (by omega))
      · rw [e2] at C3; exact (C3.kept KB (by omega))
    · obtain ⟨⟨p0, p1, p2⟩, q0, q1, q2⟩ := H.done i (by omega)
      have nf : ¬ (fun _ : Nat => False) bp := fun e => e
      refine ⟨⟨?_, ?_, ?_⟩, (q0.kept KK (fun e => e)).kept KB (by omega), (q1.kept KK (fun e => e)).kept KB (by omega), (q2.kept KK (fun e => e)).kept KB (by omega)⟩
      · exact (((p0.kept KK nf).beside _ (by omega)).beside _ (by omega)).beside _ (by omega)
      · exact (((p1.kept KK nf).beside _ (by omega)).beside _ (by omega)).beside _ (by omega)
      · exact (((p2.kept KK nf).beside _ (by omega)).beside _ (by omega)).beside _ (by omega)
  · intro j h1 h2
    exact ((((H.todo j (by omega) h2).kept KK (fun e => e)).beside _ (by omega)).beside _ (by omega)).beside _ (by omega)

/-- A statement of an exit where no panic is let. -/
def Calm (Q : Exit → Act → World → Prop) : Exit → Act → World → Prop
  | .panic _, _, _ => False
  | e, a, w => Q e a w

theorem calm_le {Q : Exit → Act → World → Prop} (e : Exit) (a : Act) (w : World) (h : Calm Q e a w) : Q e a w := by
  cases e <;> first | exact False.elim h | exact h

/-- What newLevel's first region leaves, in whatever order. -/
def RegQ (W0 : World) (R r : Nat) (x : Exit) (a : Act) (W : World) : Prop := x = Exit.normal ∧ ∃ bi bo bp bl : Nat, a = ⟨#[.int .i64 R, undef, .pointer (some ⟨r, 0, none⟩), .pointer (some ⟨bl, 0, none⟩), undef, .pointer (some ⟨bi, 0, none⟩), .pointer (some ⟨bo, 0, none⟩), .agg #[.pointer (some ⟨bi, 0, none⟩), .pointer (some ⟨bo, 0, none⟩)], .int .i64 R, .slice (some ⟨bp, 0, none⟩) R R, .agg #[.pointer (some ⟨bi, 0, none⟩), .pointer (some ⟨bo, 0, none⟩), .slice (some ⟨bp, 0, none⟩) R R], undef, undef, undef, undef, undef, undef, undef, undef, undef, undef, undef, undef, undef, undef, undef, undef, undef], []⟩ ∧ Lay0 W0 R bi bo bp bl W

set_option maxRecDepth 100000 in
set_option maxHeartbeats 800000 in
theorem newLevel_any {R : Nat} (hR : Pw R) (w : World) :
    Calls Try.prog 10 #[.int .i64 R] w fun e w' => ∃ d : Ids, e = .returned (.agg #[.pointer (some ⟨d.bi, 0, none⟩), .pointer (some ⟨d.bo, 0, none⟩), .slice (some ⟨d.bp, 0, none⟩) R R]) ∧
      d.lo = w.heap.size ∧ d.hi ≤ w'.heap.size ∧ Bod w' R d S0 ∧ Kept (fun _ => False) w w' := by
  have r1 : 1 ≤ R := by rcases hR with rfl | rfl <;> decide
  have r2 : R ≤ 4096 := by rcases hR with rfl | rfl <;> decide
  have hmk := run_mkp R r1 r2
  go_enter Try.func10, Try.ntmps10
  go_wp2_with fail
  have KA : Kept (fun _ => False) w (w.alloc (.cells #[.pointer none, .pointer none, .slice none 0 0] 40)) := (Kept.refl _ _).alloc _
  have zA : (w.alloc (.cells #[.pointer none, .pointer none, .slice none 0 0] 40)).heap.size = w.heap.size + 1 := by simp
  have R0 : Slot (w.alloc (.cells #[.pointer none, .pointer none, .slice none 0 0] 40)) w.heap.size 0 (.pointer none) := slotOf (block_last _ _ _ rfl) rfl
  have R1 : Slot (w.alloc (.cells #[.pointer none, .pointer none, .slice none 0 0] 40)) w.heap.size 1 (.pointer none) := slotOf (block_last _ _ _ rfl) rfl
  have R2 : Slot (w.alloc (.cells #[.pointer none, .pointer none, .slice none 0 0] 40)) w.heap.size 2 (.slice none 0 0) := slotOf (block_last _ _ _ rfl) rfl
  generalize hW0 : w.alloc (.cells #[.pointer none, .pointer none, .slice none 0 0] 40) = W0 at KA zA R0 R1 R2 ⊢
  clear hW0
  obtain ⟨r, hr⟩ : ∃ r, r = w.heap.size := ⟨_, rfl⟩
  rw [← hr] at zA R0 R1 R2 ⊢
  have HA := Lib.hid KA
  have HZ := Lib.hid zA
  have HR0 := Lib.hid R0
  have HR1 := Lib.hid R1
  have HR2 := Lib.hid R2
  have Hr := Lib.hid hr
  have HR := Lib.hid hR
  clear KA zA R0 R1 R2 hr hR
  refine Code.wp_mono (Q := Calm (RegQ W0 R r)) ?_ ?_
  · intro x a W hq
    obtain ⟨rfl, bi, bo, bp, bl, rfl, L0⟩ := calm_le _ _ _ hq
    clear hq hmk
    have b2 := L0.s2.c
    have HL := Lib.hid L0
    have HBP : Hid (bp < W.heap.size) := Lib.hid (by have := L0.p0; have := L0.size; omega)
    clear L0
    go_wp2_with fail
    clear b2
    go_loopw [14] (fun c wr => ∃ k : Nat, k ≤ R ∧ c = .int .i64 k ∧ NL W R bp k wr) (fun c _ => R - (intOf c).toNat)
    case atStart => exact ⟨0, by omega, rfl, by simp, Kept.refl _ _, fun i hi => by omega, fun j _ hj => HL.out.row j hj⟩
    case round =>
      obtain ⟨k, hk, rfl, H⟩ := hrel
      have hbl : ¬ bl = bp := fun e => HL.out.ne.2.2.2.2.2 e.symm
      have S2 := HL.out.s2.kept H.kept hbl
      have b2 := S2.c
      have l2 := S2.lt
      by_cases hlt : k < R
      · have i1 : (k : Int) < R := by omega
        have i2 : (0 : Int) ≤ (k : Int) := by omega
        have T0 := H.todo (k * 3) (by omega) (by omega)
        have T1 := H.todo (k * 3 + 1) (by omega) (by omega)
        have T2 := H.todo (k * 3 + 2) (by omega) (by omega)
        have X := Lib.hid H
        have HT0 := Lib.hid T0
        have HT1 := Lib.hid T1
        have HT2 := Lib.hid T2
        have HBL := Lib.hid hbl
        clear H T0 T1 T2 hbl l2
        have HS := Lib.hid S2
        clear S2
        go_wp2_with fail
        have HKL : Hid (∀ w1 w2, (w1.cell? ⟨bl, 2, none⟩ = some (.slice (some ⟨bp, 0, none⟩) R R) ∧ Kept (fun b => b = bp) wr w1) → Kept (fun b => b = bp) w1 w2 → (w2.cell? ⟨bl, 2, none⟩ = some (.slice (some ⟨bp, 0, none⟩) R R) ∧ Kept (fun b => b = bp) wr w2)) :=
          fun w1 w2 h k => ⟨(HS.out.kept (h.2.trans k) HBL.out).c, h.2.trans k⟩
        go_region_held3 (fun w' => w'.cell? ⟨bl, 2, none⟩ = some (.slice (some ⟨bp, 0, none⟩) R R) ∧ Kept (fun b => b = bp) wr w') (first | assumption | exact HKL.out _ _ (by assumption) (keptNo (by assumption)) | exact HKL.out _ _ (by assumption) (three_kept _ _ _ _ _ _ _ _) | exact ⟨b2, (Kept.refl _ _).drew⟩)
          (first
          | (go_at_call 9; have zz := HC2.out; clear zz; refine (cnew_made 0 _).mono ?_; rintro e W3 ⟨rfl, s3, C3, K3⟩; have HS3 := Lib.hid s3; have HC3 := Lib.hid C3; clear s3 C3; have HK3 := Lib.hid (HK2.out.trans K3); have T0 := HT0.out.kept HK3.out (fun e => e); have T1 := HT1.out.kept HK3.out (fun e => e); have T2 := HT2.out.kept HK3.out (fun e => e); have a0 := T0.c; have a1 := T1.c; have a2 := T2.c; have a3 := T0.fr; have a4 := T1.fr; have a5 := T2.fr; have a6 := T0.lt; clear T0 T1 T2)
          | (go_at_call 9; have zz := HC1.out; clear zz; refine (cnew_made 0 _).mono ?_; rintro e W2 ⟨rfl, s2, C2, K2⟩; have HS2 := Lib.hid s2; have HC2 := Lib.hid C2; clear s2 C2; have HK2 := Lib.hid (HK1.out.trans K2))
          | (go_at_call 9; refine (cnew_made k _).mono ?_; rintro e W1 ⟨rfl, s1, C1, K1⟩; have HS1 := Lib.hid s1; have HC1 := Lib.hid C1; clear s1 C1; have HK1 := Lib.hid ((Kept.refl (fun _ => False) wr).drew.trans K1)))
        have HK1' := Lib.hid K1
        have HK2' := Lib.hid K2
        have HK3' := Lib.hid K3
        clear K1 K2 K3
        go_wp2_with fail
        go_roundw
        case rel => exact ⟨k + 1, by omega, by go_num, nl_step X.out hlt HBP.out HS1.out HC1.out HK1'.out HS2.out HC2.out HK2'.out HS3.out HC3.out HK3'.out⟩
        case measure => simp [intOf]; omega
      · obtain rfl : k = R := by omega
        have X := Lib.hid H
        have KR : Hid (Kept (fun b => b = bp) W wr) := Lib.hid H.kept
        have hrbp : ¬ r = bp := by have := HL.out.p0.1; have := HZ.out; omega
        have s0 := (HL.out.s0.kept H.kept hbl).c
        have s1 := (HL.out.s1.kept H.kept hbl).c
        have r0 := ((HR0.out.kept HL.out.k (fun e => e)).kept H.kept hrbp)
        have r1' := ((HR1.out.kept HL.out.k (fun e => e)).kept H.kept hrbp)
        have r2' := ((HR2.out.kept HL.out.k (fun e => e)).kept H.kept hrbp)
        have f0 := r0.fr
        have f1 := r1'.fr
        have f2 := r2'.fr
        have g0 := r0.c
        have g1 := r1'.c
        have g2 := r2'.c
        have l0 := r0.lt
        clear H S2 hrbp r0 r1' r2'
        go_wp2_with fail
        refine bodyPost_ret (v := .agg #[.pointer (some ⟨bi, 0, none⟩), .pointer (some ⟨bo, 0, none⟩), .slice (some ⟨bp, 0, none⟩) k k]) (by simp [results, Try.results10, go_sem, g0, g1, g2, f0, f1, f2, l0]) rfl ?_
        have KB := three_kept wr r 0 1 2 (.pointer (some ⟨bi, 0, none⟩)) (.pointer (some ⟨bo, 0, none⟩)) (.slice (some ⟨bp, 0, none⟩) k k)
        generalize ((wr.setCell ⟨r, 0, none⟩ (.pointer (some ⟨bi, 0, none⟩))).setCell ⟨r, 1, none⟩ (.pointer (some ⟨bo, 0, none⟩))).setCell ⟨r, 2, none⟩ (.slice (some ⟨bp, 0, none⟩) k k) = WE at KB ⊢
        have a1 := HL.out.i0
        have a2 := HL.out.o0
        have a3 := HL.out.p0
        have a4 := HL.out.size
        have a5 := HZ.out
        have a6 := Hr.out
        have a7 := HL.out.ne
        have a8 := X.out.size
        have a9 := KB.size
        refine ⟨⟨r, bi, bo, bp, W.heap.size, W.heap.size + 3 * k⟩, rfl, a6, by show W.heap.size + 3 * k ≤ _; omega, ?_, ?_⟩
        · refine ⟨⟨by show r ≤ bi; omega, by show bi < W.heap.size; omega, by show r ≤ bo; omega, by show bo < W.heap.size; omega, by show r ≤ bp; omega, by show bp < W.heap.size; omega, a7.1, a7.2.1, a7.2.2.2.1, Nat.le_refl _⟩, ?_, ?_, ?_, ?_, ?_, ?_, ?_, ?_⟩
          · exact (HL.out.ci.kept KR.out a7.2.1 |>.kept KB (by omega))
          · exact (HL.out.co.kept KR.out a7.2.2.2.1 |>.kept KB (by omega))
          · exact fun i hi => (X.out.done i hi).1.1.kept KB (by omega)
          · exact fun i hi => (X.out.done i hi).1.2.1.kept KB (by omega)
          · exact fun i hi => (X.out.done i hi).1.2.2.kept KB (by omega)
          · exact fun i hi => (X.out.done i hi).2.1.kept KB (by omega)
          · exact fun i hi => (X.out.done i hi).2.2.1.kept KB (by omega)
          · exact fun i hi => (X.out.done i hi).2.2.2.kept KB (by omega)
        · exact (((HA.out.trans HL.out.k).far KR.out (by rintro i rfl; omega)).far KB (by rintro i rfl; omega))
  · go_region_with (go_at_call 9; refine (new_cell 0 _).mono ?_; rintro e w' ⟨rfl, rfl⟩)
    all_goals
      refine (show RegQ W0 R r Exit.normal _ _ from ⟨rfl, _, _, _, _, rfl, ?_⟩)
      have hp := pls_get R
      generalize pls R = A at hp ⊢
      refine ⟨(((((Kept.refl _ W0).alloc _).alloc _).alloc _).alloc _).drew, by simp, ⟨by omega, by omega⟩, ⟨by omega, by omega⟩, ⟨by omega, by omega⟩, ⟨by omega, by omega⟩, by omega,
        ⟨by go_simp, by go_simp, by go_simp, by go_simp, by simp <;> omega⟩, ⟨by go_simp, by go_simp, by go_simp, by go_simp, by simp <;> omega⟩, fun j hj => ⟨by have := hp j hj; go_simp, by go_simp, by simp <;> omega⟩,
        ⟨by go_simp, by go_simp, by simp <;> omega⟩, ⟨by go_simp, by go_simp, by simp <;> omega⟩, ⟨by go_simp, by go_simp, by simp <;> omega⟩⟩

end Go.Proofs.Ythkakojkffgmbaa

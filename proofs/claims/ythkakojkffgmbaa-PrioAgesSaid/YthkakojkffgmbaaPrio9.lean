/-
  New.
-/
import Derived.Test.YthkakojkffgmbaaPrio8
namespace Go.Proofs.Ythkakojkffgmbaa
open Go.RowKit

/-- What make lays for n levels. -/
def lvls (n : Nat) : Array Value := madeCells #[.pointer none, .pointer none, .slice none 0 0] (n * 3)

theorem lvls_some (n k : Nat) (h : k < n * 3) : ∃ v, (lvls n)[k]? = some v := by
  unfold lvls madeCells
  have e : k % 3 = 0 ∨ k % 3 = 1 ∨ k % 3 = 2 := by omega
  rcases e with e | e | e <;> simp [h, e]

theorem infoLevel : (Try.prog.info? 40).map (fun i => (i.zero, i.size, i.bytes)) = some (some (.agg #[.pointer none, .pointer none, .slice none 0 0]), 3, 40) := by kernel_rfl

theorem run_mkl (n : Nat) (h1 : 1 ≤ n) (h2 : n ≤ 8) (W : World) : (Instr.makeSlice 34 (.int .i64 n) (.int .i64 n)).run Try.prog W = .ok (.slice (some ⟨W.heap.size, 0, none⟩) n n) (W.alloc (.cells (lvls n) 40)) := by
  obtain ⟨i0, hi, hz0, hz1, hz2⟩ := info_parts infoLevel
  have h := run_make (P := Try.prog) W 34 40 i0 _ Try.underlying34 hi hz0 .i64 .i64 n n (by omega) (by omega) (by rw [hz2]; omega) (by omega)
  rw [h]
  simp only [Int.toNat_natCast, hz1]
  rfl

theorem bits_less (R : Nat) (h : Pw R) : bits BinOp.and IntKind.i64 (R : Int) (wrap64 ((R : Int) - 1)) = 0 := by
  rcases h with rfl | rfl <;> decide +kernel

/-- The blocks of a new Prio, once its cell, its row and its own block are made. -/
structure Lay1 (w : World) (L bk B P : Nat) (W : World) : Prop where
  k : Kept (fun _ => False) w W
  size : W.heap.size = w.heap.size + 3
  k0 : w.heap.size ≤ bk ∧ bk < w.heap.size + 3
  B0 : w.heap.size ≤ B ∧ B < w.heap.size + 3
  P0 : w.heap.size ≤ P ∧ P < w.heap.size + 3
  ne : bk ≠ B ∧ bk ≠ P ∧ B ≠ P
  ck : Cel W bk 0
  row : ∀ j, j < L * 3 → ∃ v, Slot W B j v
  s0 : Slot W P 0 (.pointer (some ⟨bk, 0, none⟩))
  s1 : Slot W P 1 (.slice (some ⟨B, 0, none⟩) L L)

/-- k of L levels are made. -/
structure NP (W : World) (L R B k : Nat) (id : Nat → Ids) (wr : World) : Prop where
  kept : Kept (fun b => b = B) W wr
  lv : ∀ n, n < k → Lvl wr B n R (id n) S0
  dj : ∀ n m, n < m → m < k → (id n).hi ≤ (id m).lo
  up : ∀ n, n < k → W.heap.size ≤ (id n).lo ∧ (id n).hi ≤ wr.heap.size
  todo : ∀ j, k * 3 ≤ j → j < L * 3 → ∃ v, Slot wr B j v

theorem np_step {W wr W1 : World} {L R B k : Nat} {id : Nat → Ids} {d : Ids} (H : NP W L R B k id wr) (hk : k < L) (hB : B < W.heap.size) (dlo : d.lo = wr.drew.heap.size) (dhi : d.hi ≤ W1.heap.size) (Bd : Bod W1 R d S0) (K1 : Kept (fun _ => False) wr.drew W1) :
    NP W L R B (k + 1) (put id k d) (((W1.setCell ⟨B, k * 3, none⟩ (.pointer (some ⟨d.bi, 0, none⟩))).setCell ⟨B, k * 3 + 1, none⟩ (.pointer (some ⟨d.bo, 0, none⟩))).setCell ⟨B, k * 3 + 2, none⟩ (.slice (some ⟨d.bp, 0, none⟩) R R)) := by
  have sz : wr.drew.heap.size = wr.heap.size := rfl
  have KK : Kept (fun _ => False) wr W1 := (Kept.refl (fun _ => False) wr).drew.trans K1
  have hwr := H.kept.size
  have hw1 := KK.size
  have KB := three_kept W1 B (k * 3) (k * 3 + 1) (k * 3 + 2) (.pointer (some ⟨d.bi, 0, none⟩)) (.pointer (some ⟨d.bo, 0, none⟩)) (.slice (some ⟨d.bp, 0, none⟩) R R)
  obtain ⟨v0, t0⟩ := H.todo (k * 3) (by omega) (by omega)
  obtain ⟨v1, t1⟩ := H.todo (k * 3 + 1) (by omega) (by omega)
  obtain ⟨v2, t2⟩ := H.todo (k * 3 + 2) (by omega) (by omega)
  have nf : ¬ (fun _ : Nat => False) B := fun e => e
  have T0 := t0.kept KK nf
  have T1 := t1.kept KK nf
  have T2 := t2.kept KK nf
  have U0 := ((T0.set (.pointer (some ⟨d.bi, 0, none⟩))).beside (t := k * 3 + 1) (.pointer (some ⟨d.bo, 0, none⟩)) (by omega)).beside (t := k * 3 + 2) (.slice (some ⟨d.bp, 0, none⟩) R R) (by omega)
  have U1 := ((T1.beside (t := k * 3) (.pointer (some ⟨d.bi, 0, none⟩)) (by omega)).set (.pointer (some ⟨d.bo, 0, none⟩))).beside (t := k * 3 + 2) (.slice (some ⟨d.bp, 0, none⟩) R R) (by omega)
  have U2 := ((T2.beside (t := k * 3) (.pointer (some ⟨d.bi, 0, none⟩)) (by omega)).beside (t := k * 3 + 1) (.pointer (some ⟨d.bo, 0, none⟩)) (by omega)).set (.slice (some ⟨d.bp, 0, none⟩) R R)
  have zz := KB.size
  refine ⟨(H.kept.trans (keptNo KK)).trans KB, ?_, ?_, ?_, ?_⟩
  · intro n hn
    by_cases e : n = k
    · subst e
      rw [put_same]
      exact Bd.lvl KB (fun b h1 _ e => by omega) U0 U1 U2
    · rw [put_other _ _ _ _ e]
      have l := H.lv n (by omega)
      have u := H.up n (by omega)
      have l2 := l.kept KK nf (fun _ _ _ e => e)
      exact ⟨l2.ok, ((l2.p0.beside _ (by omega)).beside _ (by omega)).beside _ (by omega), ((l2.p1.beside _ (by omega)).beside _ (by omega)).beside _ (by omega), ((l2.p2.beside _ (by omega)).beside _ (by omega)).beside _ (by omega),
        l2.ci.kept KB (by have := l.ok.i0; omega), l2.co.kept KB (by have := l.ok.o0; omega),
        fun i hi => (l2.q0 i hi).kept KB (by have := l.ok.p0; omega), fun i hi => (l2.q1 i hi).kept KB (by have := l.ok.p0; omega), fun i hi => (l2.q2 i hi).kept KB (by have := l.ok.p0; omega),
        fun i hi => (l2.ct i hi).kept KB (by have := l.ok.i0; have := l.ok.i1; omega), fun i hi => (l2.ck i hi).kept KB (by have := l.ok.i0; have := l.ok.i1; omega), fun i hi => (l2.cs i hi).kept KB (by have := l.ok.i0; have := l.ok.i1; omega)⟩
  · intro n m hnm hm
    by_cases e : m = k
    · subst e
      rw [put_same, put_other _ _ _ _ (by omega)]
      have u := H.up n (by omega)
      omega
    · rw [put_other _ _ _ _ e, put_other _ _ _ _ (by omega)]
      exact H.dj n m hnm (by omega)
  · intro n hn
    by_cases e : n = k
    · subst e; rw [put_same]; exact ⟨by omega, by omega⟩
    · rw [put_other _ _ _ _ e]
      have u := H.up n (by omega)
      exact ⟨by omega, by omega⟩
  · intro j h1 h2
    obtain ⟨v, t⟩ := H.todo j (by omega) h2
    exact ⟨v, (((t.kept KK nf).beside _ (by omega)).beside _ (by omega)).beside _ (by omega)⟩

/-- What New's first region leaves, in whatever order. -/
def RegP (w : World) (L R : Nat) (x : Exit) (a : Act) (W : World) : Prop := x = Exit.normal ∧ ∃ bk B P : Nat, a = ⟨#[.int .i64 L, .int .i64 R, undef, undef, .pointer none, .int .i64 0, .pointer (some ⟨P, 0, none⟩), undef, .int .i64 L, .bool false, .bool false, .int .i64 L, .bool false, .bool false, .bool false, .int .i64 R, .bool false, .bool false, .bool false, .int .i64 R, .bool false, .bool false, .bool false, .int .i64 R, .int .i64 R, .int .i64 (wrap64 ((R : Int) - 1)), .int .i64 0, .bool false, .bool false, .pointer (some ⟨bk, 0, none⟩), .int .i64 L, .slice (some ⟨B, 0, none⟩) L L, .agg #[.pointer (some ⟨bk, 0, none⟩), .slice (some ⟨B, 0, none⟩) L L], .pointer (some ⟨P, 0, none⟩), undef, undef, undef, undef, undef, undef, undef, undef, undef, undef, undef, undef, undef, undef, undef, undef, undef, undef], []⟩ ∧ Lay1 w L bk B P W

set_option maxRecDepth 100000 in
set_option maxHeartbeats 800000 in
theorem new_any {L R : Nat} (hR : Pw R) (h1 : 1 ≤ L) (h8 : L ≤ 8) (w : World) :
    Calls Try.prog 6 #[.int .i64 L, .int .i64 R] w fun e w' => ∃ (hi P bk B : Nat) (id : Nat → Ids), e = .returned (.tuple #[.pointer (some ⟨P, 0, none⟩), .int .i64 0]) ∧
      Prs w' w.heap.size hi P bk B L R id 0 (fun _ => S0) ∧ hi ≤ w'.heap.size ∧ Kept (fun _ => False) w w' := by
  have hmk := run_mkl L h1 h8
  have z0 : decide ((L : Int) < 1) = false := by simp; omega
  have z1 : decide (8 < (L : Int)) = false := by simp; omega
  have z2 : decide ((R : Int) < 2) = false := by rcases hR with rfl | rfl <;> decide
  have z3 : decide (4096 < (R : Int)) = false := by rcases hR with rfl | rfl <;> decide
  have z4 := bits_less R hR
  go_enter Try.func6, Try.ntmps6
  go_wp2_with fail
  have Hw : Hid (Pw R) := Lib.hid hR
  clear z0 z1 z2 z3 z4 hR
  refine Code.wp_mono (Q := Calm (RegP w L R)) ?_ ?_
  · intro x a W hq
    obtain ⟨rfl, bk, B, P, rfl, L1⟩ := calm_le _ _ _ hq
    clear hq hmk
    have b1 := L1.s1.c
    have HL := Lib.hid L1
    clear L1
    have HBW : Hid (B < W.heap.size) := Lib.hid (by have := HL.out.B0; have := HL.out.size; omega)
    go_wp2_with fail
    clear b1
    go_loopw [39] (fun c wr => ∃ (k : Nat) (id : Nat → Ids), k ≤ L ∧ c = .int .i64 k ∧ NP W L R B k id wr) (fun c _ => L - (intOf c).toNat)
    case atStart => exact ⟨0, fun _ => ⟨0, 0, 0, 0, 0, 0⟩, by omega, rfl, Kept.refl _ _, fun n hn => by omega, fun n m _ hm => by omega, fun n hn => by omega, fun j _ hj => HL.out.row j hj⟩
    case round =>
      obtain ⟨k, id, hk, rfl, H⟩ := hrel
      have hPB : ¬ P = B := fun e => HL.out.ne.2.2 e.symm
      have S2 := HL.out.s1.kept H.kept hPB
      have b1 := S2.c
      by_cases hlt : k < L
      · have i1 : (k : Int) < L := by omega
        have i2 : (0 : Int) ≤ (k : Int) := by omega
        have X := Lib.hid H
        have HPB := Lib.hid hPB
        have HS := Lib.hid S2
        have HKL : Hid (∀ w1 w2, (w1.cell? ⟨P, 1, none⟩ = some (.slice (some ⟨B, 0, none⟩) L L) ∧ Kept (fun b => b = B) wr w1) → Kept (fun b => b = B) w1 w2 → (w2.cell? ⟨P, 1, none⟩ = some (.slice (some ⟨B, 0, none⟩) L L) ∧ Kept (fun b => b = B) wr w2)) :=
          fun w1 w2 h k => ⟨(HS.out.kept (h.2.trans k) HPB.out).c, h.2.trans k⟩
        clear H S2 hPB
        go_wp2_with fail
        go_region_held3 (fun w' => w'.cell? ⟨P, 1, none⟩ = some (.slice (some ⟨B, 0, none⟩) L L) ∧ Kept (fun b => b = B) wr w') (first | assumption | exact HKL.out _ _ (by assumption) (keptNo (by assumption)) | exact HKL.out _ _ (by assumption) (three_kept _ _ _ _ _ _ _ _) | exact ⟨b1, (Kept.refl _ _).drew⟩)
          (first
          | (go_at_call 10; refine (newLevel_any Hw.out _).mono ?_; rintro e W1 ⟨d, rfl, dlo, dhi, Bd, K1⟩; have KK := (Kept.refl (fun _ => False) wr).drew.trans K1; have T0 := X.out.todo (k * 3) (by omega) (by omega); have T1 := X.out.todo (k * 3 + 1) (by omega) (by omega); have T2 := X.out.todo (k * 3 + 2) (by omega) (by omega); obtain ⟨v0, T0⟩ := T0; obtain ⟨v1, T1⟩ := T1; obtain ⟨v2, T2⟩ := T2; have T0 := T0.kept KK (fun e => e); have T1 := T1.kept KK (fun e => e); have T2 := T2.kept KK (fun e => e); have a0 := T0.c; have a1 := T1.c; have a2 := T2.c; have a3 := T0.fr; have a4 := T1.fr; have a5 := T2.fr; have a6 := T0.lt; have HD1 := Lib.hid dlo; have HD2 := Lib.hid dhi; have HBd := Lib.hid Bd; clear T0 T1 T2 KK dlo dhi Bd))
        have HK1 := Lib.hid K1
        clear K1
        go_wp2_with fail
        go_roundw
        case rel => exact ⟨k + 1, put id k d, by omega, by go_num, np_step X.out hlt HBW.out HD1.out HD2.out HBd.out HK1.out⟩
        case measure => simp [intOf]; omega
      · obtain rfl : k = L := by omega
        have X := Lib.hid H
        clear H S2 hPB
        go_wp2_with fail
        go_ret2
        have a1 := HL.out.k0
        have a2 := HL.out.B0
        have a3 := HL.out.P0
        have a4 := HL.out.size
        have a7 := HL.out.ne
        have a9 := X.out.kept.size
        refine ⟨wr.heap.size, P, bk, B, id, rfl, ⟨HL.out.s0.kept X.out.kept (by omega), HL.out.s1.kept X.out.kept (by omega), HL.out.ck.kept X.out.kept (by omega), X.out.lv, X.out.dj, fun n hn => ?_, ⟨by omega, by omega⟩, ⟨by omega, by omega⟩, ⟨by omega, by omega⟩, a7.2.1, a7.1, by omega⟩, Nat.le_refl _, ?_⟩
        · have u := X.out.up n hn
          exact ⟨by omega, by omega, by omega, u.2⟩
        · exact HL.out.k.far X.out.kept (by rintro i rfl; omega)
  · go_region_with (go_at_call 9; refine (new_cell 0 _).mono ?_; rintro e w' ⟨rfl, rfl⟩)
    all_goals
      refine (show RegP w L R Exit.normal _ _ from ⟨rfl, _, _, _, rfl, ?_⟩)
      have hp := lvls_some L
      generalize lvls L = A at hp ⊢
      refine ⟨((((Kept.refl _ w).alloc _).alloc _).alloc _).drew, by simp, ⟨by omega, by omega⟩, ⟨by omega, by omega⟩, ⟨by omega, by omega⟩, by omega,
        ⟨by go_simp, by go_simp, by go_simp, by go_simp, by simp <;> omega⟩, fun j hj => (by obtain ⟨v, hv⟩ := hp j hj; exact ⟨v, by go_simp, by go_simp, by simp <;> omega⟩),
        ⟨by go_simp, by go_simp, by simp <;> omega⟩, ⟨by go_simp, by go_simp, by simp <;> omega⟩⟩

end Go.Proofs.Ythkakojkffgmbaa

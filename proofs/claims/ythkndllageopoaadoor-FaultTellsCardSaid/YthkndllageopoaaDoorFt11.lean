/-
  FaultTells: Told.
-/
import Derived.Test.YthkndllageopoaaDoorFt10
import Derived.Deep.AppendLies
import Derived.Deep.RegionLaw
namespace Go.Proofs.YthkndllageopoaaDoor
open Go.RowKit Go.Shelf Go.Extern Go.Extern.Stop Go.Stop

theorem Tryd.asFailedFailed (v : Value) (xT : TypeId) (w : World) : (Instr.typeAssert (.iface 40 v) xT 40 true).run Tryd.prog w = .ok (.tuple #[v, .bool true]) w := by kernel_rfl
theorem Tryd.asFailedCancelled (v : Value) (xT : TypeId) (w : World) : (Instr.typeAssert (.iface 40 v) xT 41 true).run Tryd.prog w = .ok (.tuple #[.pointer none, .bool false]) w := by kernel_rfl
theorem Tryd.asFailedLate (v : Value) (xT : TypeId) (w : World) : (Instr.typeAssert (.iface 40 v) xT 42 true).run Tryd.prog w = .ok (.tuple #[.pointer none, .bool false]) w := by kernel_rfl
theorem Tryd.asFailedPanicked (v : Value) (xT : TypeId) (w : World) : (Instr.typeAssert (.iface 40 v) xT 43 true).run Tryd.prog w = .ok (.tuple #[.pointer none, .bool false]) w := by kernel_rfl
theorem Tryd.asFailedNumber (v : Value) (xT : TypeId) (w : World) : (Instr.typeAssert (.iface 40 v) xT 29 true).run Tryd.prog w = .ok (.tuple #[.int .i64 0, .bool false]) w := by kernel_rfl
theorem Tryd.asCancelledFailed (v : Value) (xT : TypeId) (w : World) : (Instr.typeAssert (.iface 41 v) xT 40 true).run Tryd.prog w = .ok (.tuple #[.pointer none, .bool false]) w := by kernel_rfl
theorem Tryd.asCancelledCancelled (v : Value) (xT : TypeId) (w : World) : (Instr.typeAssert (.iface 41 v) xT 41 true).run Tryd.prog w = .ok (.tuple #[v, .bool true]) w := by kernel_rfl
theorem Tryd.asCancelledLate (v : Value) (xT : TypeId) (w : World) : (Instr.typeAssert (.iface 41 v) xT 42 true).run Tryd.prog w = .ok (.tuple #[.pointer none, .bool false]) w := by kernel_rfl
theorem Tryd.asCancelledPanicked (v : Value) (xT : TypeId) (w : World) : (Instr.typeAssert (.iface 41 v) xT 43 true).run Tryd.prog w = .ok (.tuple #[.pointer none, .bool false]) w := by kernel_rfl
theorem Tryd.asCancelledNumber (v : Value) (xT : TypeId) (w : World) : (Instr.typeAssert (.iface 41 v) xT 29 true).run Tryd.prog w = .ok (.tuple #[.int .i64 0, .bool false]) w := by kernel_rfl
theorem Tryd.asLateFailed (v : Value) (xT : TypeId) (w : World) : (Instr.typeAssert (.iface 42 v) xT 40 true).run Tryd.prog w = .ok (.tuple #[.pointer none, .bool false]) w := by kernel_rfl
theorem Tryd.asLateCancelled (v : Value) (xT : TypeId) (w : World) : (Instr.typeAssert (.iface 42 v) xT 41 true).run Tryd.prog w = .ok (.tuple #[.pointer none, .bool false]) w := by kernel_rfl
theorem Tryd.asLateLate (v : Value) (xT : TypeId) (w : World) : (Instr.typeAssert (.iface 42 v) xT 42 true).run Tryd.prog w = .ok (.tuple #[v, .bool true]) w := by kernel_rfl
theorem Tryd.asLatePanicked (v : Value) (xT : TypeId) (w : World) : (Instr.typeAssert (.iface 42 v) xT 43 true).run Tryd.prog w = .ok (.tuple #[.pointer none, .bool false]) w := by kernel_rfl
theorem Tryd.asLateNumber (v : Value) (xT : TypeId) (w : World) : (Instr.typeAssert (.iface 42 v) xT 29 true).run Tryd.prog w = .ok (.tuple #[.int .i64 0, .bool false]) w := by kernel_rfl
theorem Tryd.asPanickedFailed (v : Value) (xT : TypeId) (w : World) : (Instr.typeAssert (.iface 43 v) xT 40 true).run Tryd.prog w = .ok (.tuple #[.pointer none, .bool false]) w := by kernel_rfl
theorem Tryd.asPanickedCancelled (v : Value) (xT : TypeId) (w : World) : (Instr.typeAssert (.iface 43 v) xT 41 true).run Tryd.prog w = .ok (.tuple #[.pointer none, .bool false]) w := by kernel_rfl
theorem Tryd.asPanickedLate (v : Value) (xT : TypeId) (w : World) : (Instr.typeAssert (.iface 43 v) xT 42 true).run Tryd.prog w = .ok (.tuple #[.pointer none, .bool false]) w := by kernel_rfl
theorem Tryd.asPanickedPanicked (v : Value) (xT : TypeId) (w : World) : (Instr.typeAssert (.iface 43 v) xT 43 true).run Tryd.prog w = .ok (.tuple #[v, .bool true]) w := by kernel_rfl
theorem Tryd.asPanickedNumber (v : Value) (xT : TypeId) (w : World) : (Instr.typeAssert (.iface 43 v) xT 29 true).run Tryd.prog w = .ok (.tuple #[.int .i64 0, .bool false]) w := by kernel_rfl
theorem Tryd.asPlainFailed (v : Value) (xT : TypeId) (w : World) : (Instr.typeAssert (.iface 120 v) xT 40 true).run Tryd.prog w = .ok (.tuple #[.pointer none, .bool false]) w := by kernel_rfl
theorem Tryd.asPlainCancelled (v : Value) (xT : TypeId) (w : World) : (Instr.typeAssert (.iface 120 v) xT 41 true).run Tryd.prog w = .ok (.tuple #[.pointer none, .bool false]) w := by kernel_rfl
theorem Tryd.asPlainLate (v : Value) (xT : TypeId) (w : World) : (Instr.typeAssert (.iface 120 v) xT 42 true).run Tryd.prog w = .ok (.tuple #[.pointer none, .bool false]) w := by kernel_rfl
theorem Tryd.asPlainPanicked (v : Value) (xT : TypeId) (w : World) : (Instr.typeAssert (.iface 120 v) xT 43 true).run Tryd.prog w = .ok (.tuple #[.pointer none, .bool false]) w := by kernel_rfl
theorem Tryd.asPlainNumber (v : Value) (xT : TypeId) (w : World) : (Instr.typeAssert (.iface 120 v) xT 29 true).run Tryd.prog w = .ok (.tuple #[.int .i64 0, .bool false]) w := by kernel_rfl
theorem Tryd.asNumberFailed (v : Value) (xT : TypeId) (w : World) : (Instr.typeAssert (.iface 29 v) xT 40 true).run Tryd.prog w = .ok (.tuple #[.pointer none, .bool false]) w := by kernel_rfl
theorem Tryd.asNumberCancelled (v : Value) (xT : TypeId) (w : World) : (Instr.typeAssert (.iface 29 v) xT 41 true).run Tryd.prog w = .ok (.tuple #[.pointer none, .bool false]) w := by kernel_rfl
theorem Tryd.asNumberLate (v : Value) (xT : TypeId) (w : World) : (Instr.typeAssert (.iface 29 v) xT 42 true).run Tryd.prog w = .ok (.tuple #[.pointer none, .bool false]) w := by kernel_rfl
theorem Tryd.asNumberPanicked (v : Value) (xT : TypeId) (w : World) : (Instr.typeAssert (.iface 29 v) xT 43 true).run Tryd.prog w = .ok (.tuple #[.pointer none, .bool false]) w := by kernel_rfl
theorem Tryd.asNumberNumber (v : Value) (xT : TypeId) (w : World) : (Instr.typeAssert (.iface 29 v) xT 29 true).run Tryd.prog w = .ok (.tuple #[v, .bool true]) w := by kernel_rfl
theorem Tryd.asInt64 (v : Value) (xT : TypeId) (w : World) : (Instr.typeAssert (.iface 2 v) xT 2 true).run Tryd.prog w = .ok (.tuple #[v, .bool true]) w := by kernel_rfl

/-- An *At, or none. -/
theorem chain_split {w : World} {k x : Int} {v : Value} {l : List Int} (H : Chain w k x v l) (hk : ¬ k = 0) :
    (∃ a, v = .iface 44 (.pointer (some ⟨a, 0, none⟩))) ∨ (l = [] ∧ Base w v k x ∧ Flat k ∧ ∃ t u, v = .iface t u) := by
  cases H with
  | base v h =>
    obtain ⟨t, u, rfl⟩ := h.iface hk
    by_cases h6 : k = 6
    · subst h6
      cases h with
      | bare a x h h1 => exact .inl ⟨a, rfl⟩
    · exact .inr ⟨rfl, h, ⟨hk, h6⟩, t, u, rfl⟩
  | at_ a n t v l h0 h1 h => exact .inl ⟨a, rfl⟩

theorem at_split {w : World} {k x : Int} {a : Nat} {l : List Int} (H : Chain w k x (.iface 44 (.pointer (some ⟨a, 0, none⟩))) l) :
    ∃ n ev, w.cell? ⟨a, 0, none⟩ = some (.int .i64 n) ∧ w.cell? ⟨a, 1, none⟩ = some ev ∧
      ((∃ t u l2, ev = .iface t u ∧ Chain w k x ev l2 ∧ l = n :: l2) ∨ (ev = .nilIface ∧ l = [] ∧ k = 6 ∧ n = x)) := by
  cases H with
  | base v h => cases h with | bare a x h h1 => exact ⟨x, _, h, h1, .inr ⟨rfl, rfl, rfl, rfl⟩⟩
  | at_ a n t v l h0 h1 h => exact ⟨n, _, h0, h1, .inl ⟨t, v, l, rfl, h, rfl⟩⟩

/-- An answer of Told. -/
def GotErr (w : World) (k x : Int) (l : List Int) : Ending → World → Prop := fun e w' => ∃ sl, e = .returned (.agg #[.int .i64 k, .int .i64 x, sl]) ∧ Reads w' sl l ∧ Kept (fun _ => False) w w'

theorem told_nil (w : World) : Calls Tryd.prog 14 #[.nilIface] w (GotErr w 0 0 []) := by
  go_enter Tryd.func14, Tryd.ntmps14
  go_wp2_with fail
  refine wp_loop_rounds 1 ?_
  rw [rounds_succ]
  go_wp2_with fail
  exact bodyPost_ret (v := .agg #[.int .i64 0, .int .i64 0, .slice none 0 0]) (by simp [results, Tryd.results14, go_sem]) rfl ⟨_, rfl, ⟨none, 0, 0, 0, rfl, fun _ => ⟨rfl, rfl⟩, fun i hi => by simp at hi⟩, ((Kept.refl _ w).alloc _).alloc _⟩

/-- What Told has made so far. -/
def ToldAt (w wr : World) (done : List Int) : Prop :=
  ∃ sl, Slot wr w.heap.size 0 (.int .i64 0) ∧ Slot wr w.heap.size 1 (.int .i64 0) ∧ Slot wr w.heap.size 2 (.slice none 0 0) ∧
    Slot wr (w.heap.size + 1) 0 (.int .i64 0) ∧ Slot wr (w.heap.size + 1) 1 (.int .i64 0) ∧ Slot wr (w.heap.size + 1) 2 sl ∧
    IntsRow wr (w.heap.size + 2) sl done ∧ Kept (fun _ => False) w wr

theorem row_apart {w : World} {B : Nat} {v : Value} {l : List Int} (H : IntsRow w B v l) {k : Nat} (hk : k < B) : ¬ v.ownBlock = some k := fun e => by have := (World.ownsRow.lt H k e).1; omega

/-- Where Told's loop stands. -/
def ToldRel (w wr : World) (k x : Int) (ats : List Int) (g : Nat) (ev nv : Value) : Prop :=
  ∃ done rest : List Int, done ++ rest = ats ∧ g = rest.length ∧ nv = .int .i64 (done.length : Nat) ∧ Chain w k x ev rest ∧ ToldAt w wr done

set_option maxRecDepth 100000 in
set_option maxHeartbeats 3200000 in
theorem told_any (k x : Int) (ats : List Int) (hlen : ats.length ≤ 2000) (t : TypeId) (u : Value) (w : World) (hk : ¬ k = 0) (H : Chain w k x (.iface t u) ats) : Calls Tryd.prog 14 #[.iface t u] w (GotErr w k x ats) := by
  obtain ⟨i0, hi, hz0, hz1, hz2⟩ := info_parts Tryd.infoInt
  have nn : ∀ (w : World) (t : TypeId) (u : Value), (binOp .neq 27 (.iface t u) .nilIface).run Tryd.prog w = .ok (.bool true) w := fun w t u => run_neq_iface_nil w 27 (by kernel_rfl) t u
  have ne : ∀ (w : World) (t : TypeId) (u : Value), (binOp .eql 27 (.iface t u) .nilIface).run Tryd.prog w = .ok (.bool false) w := fun w t u => run_eql_iface_nil w 27 (by kernel_rfl) t u
  have isAt := Tryd.isAt
  have HH := Lib.hid H
  clear H
  go_enter Tryd.func14, Tryd.ntmps14
  go_wp2_with fail
  go_loopg [0, 4] ats.length (fun g ev nv wr => ToldRel w wr k x ats g ev nv)
  case atStart =>
    have hz : w.heap.size < w.heap.size + 1 + 1 := by omega
    refine ⟨[], ats, rfl, rfl, rfl, HH.out, .slice none 0 0, ⟨by go_simp, by go_simp, by simpa using hz⟩, ⟨by go_simp, by go_simp, by simpa using hz⟩, ⟨by go_simp, by go_simp, by simpa using hz⟩, ⟨by go_simp, by go_simp, by simp⟩, ⟨by go_simp, by go_simp, by simp⟩, ⟨by go_simp, by go_simp, by simp⟩, World.ownsRow_nil _ _ _ _, ((Kept.refl _ _).alloc _).alloc _⟩
  case round =>
    obtain ⟨done, rest, hd, hg, rfl, hC, sl, s0, s1, s2, d0, d1, d2, hown, hK⟩ := hrel
    obtain ⟨sa, sc, rfl⟩ := hown.shape
    have HOW := Lib.hid hown
    clear hown
    have HK := Lib.hid hK
    have HD := Lib.hid hd
    have HG := Lib.hid hg
    have hdl : done.length ≤ 2000 := by have := congrArg List.length hd; simp at this; omega
    have i1 : (done.length : Int) < 4096 := by omega
    clear hK hd hg HH
    have S0 := Lib.hid s0
    have S1 := Lib.hid s1
    have S2 := Lib.hid s2
    have D0 := Lib.hid d0
    have D1 := Lib.hid d1
    have D2 := Lib.hid d2
    have hmz := d2.lt
    obtain ⟨c0, f0, l0⟩ := s0
    obtain ⟨c1, f1, l1⟩ := s1
    obtain ⟨c2, f2, l2⟩ := s2
    obtain ⟨e0, g0, m0⟩ := d0
    obtain ⟨e1, g1, m1⟩ := d1
    obtain ⟨e2, g2, m2⟩ := d2
    rcases chain_split hC hk with ⟨a, rfl⟩ | ⟨rfl, hB, hF, t1, u1, rfl⟩
    · obtain ⟨n, ev, b0, b1, hor⟩ := at_split hC
      have a0 := still_cell HK.out b0
      have a1 := still_cell HK.out b1
      have ha : a < w.heap.size := World.block_lt_of_cell? w _ b0
      have n1 : ¬ a = w.heap.size + 1 := by omega
      have n2 : ¬ w.heap.size + 1 = a := by omega
      have n3 : ¬ a = w.heap.size := by omega
      have n4 : ¬ w.heap.size = a := by omega
      clear ha
      rcases hor with ⟨t2, u2, r2, rfl, hC2, rfl⟩ | ⟨rfl, rfl, rfl, rfl⟩
      · have HC2 := Lib.hid hC2
        have B1 := Lib.hid b1
        clear hC hC2 b0 b1
        go_upto_region 12 with fail
        go_cut [41] (fun _ wx => ToldAt w wx (done ++ [n]))
        case first =>
          go_wp2_with fail
          go_region_law (refine step_append_lies _ rfl _ _ 22 rfl (w.heap.size + 2) 3 i0 (.int .i64 0) 1 8 Tryd.underlying22 hi hz0 hz1 hz2 rfl (by decide) _ _ _ rfl (own_kept HOW.out (((Kept.refl (fun _ => False) wr).alloc _).drew) fun _ _ => id) ⟨wr.heap.size, 0, none⟩ 1 1 [.int .i64 n] rfl rfl (by intro j u hj; match j, hj with | 0, hj => simp at hj; subst hj; simp [Addr.add]) (by intro u hu; simp at hu; subst hu; rfl) (by decide) (by unfold maxLen; omega) (by omega) (by simp; omega) _ rfl ?_; intro g cap w4 own4 grown4 _ _
                         have KA : Kept (fun i => (Value.slice sa done.length sc).ownBlock = some i) wr w4 := (((Kept.refl _ wr).alloc _).drew).trans (kept_grown grown4)
                         have HS0 := Lib.hid (S0.out.kept KA (row_apart HOW.out (by omega)))
                         have HS1 := Lib.hid (S1.out.kept KA (row_apart HOW.out (by omega)))
                         have HS2 := Lib.hid (S2.out.kept KA (row_apart HOW.out (by omega)))
                         have HD0 := Lib.hid (D0.out.kept KA (row_apart HOW.out (by omega)))
                         have HD1 := Lib.hid (D1.out.kept KA (row_apart HOW.out (by omega)))
                         have HD2 := Lib.hid (D2.out.kept KA (row_apart HOW.out (by omega)))
                         have HK4 := Lib.hid (HK.out.far KA fun i h => by have := (World.ownsRow.lt HOW.out i h).1; omega) 
                         have HO4 := Lib.hid own4
                         have x0 := HD2.out.c
                         have x1 := HD2.out.fr
                         have x2 := HD2.out.lt
                         clear own4 grown4 KA)
          all_goals
            try go_wp2_with fail
            go_meet
            refine ⟨.slice (some ⟨g, 0, none⟩) (done.length + 1) cap, HS0.out.far ⟨w.heap.size + 1, 2, none⟩ _ (by simp), HS1.out.far ⟨w.heap.size + 1, 2, none⟩ _ (by simp), HS2.out.far ⟨w.heap.size + 1, 2, none⟩ _ (by simp), HD0.out.beside _ (by decide), HD1.out.beside _ (by decide), HD2.out.set _, ?_, HK4.out.setCell ⟨w.heap.size + 1, 2, none⟩ (.inr (by simp)) _⟩
            have ho := own_kept HO4.out (Kept.one w4 ⟨w.heap.size + 1, 2, none⟩ (.slice (some ⟨g, 0, none⟩) (done.length + 1) cap)) fun k hk e => by
              have := (World.ownsRow.lt HO4.out k hk).1
              simp at e
              omega
            unfold IntsRow
            rw [intsOf_append, List.length_append]
            exact ho
        case rest =>
          have a1 := still_cell (by obtain ⟨sl, _, _, _, _, _, _, _, hK⟩ := hcut; exact hK) B1.out
          have HCUT := Lib.hid hcut
          clear hcut
          go_wp2_with fail
          go_roundg (gk - 1)
          case measure => have := HG.out; simp at this; omega
          case rel => exact ⟨done ++ [n], r2, by rw [← HD.out]; simp, by have := HG.out; simp at this; omega, by simp, HC2.out, HCUT.out⟩
      · clear hC b0 b1
        go_wp2_with fail
        have KF : Kept (fun _ => False) w (((((wr.setCell ⟨w.heap.size + 1, 0, none⟩ (.int .i64 6)).setCell ⟨w.heap.size + 1, 1, none⟩ (.int .i64 n)).setCell ⟨w.heap.size, 0, none⟩ (.int .i64 6)).setCell ⟨w.heap.size, 1, none⟩ (.int .i64 n)).setCell ⟨w.heap.size, 2, none⟩ (.slice sa done.length sc)) := by
          refine Kept.setCell (Kept.setCell (Kept.setCell (Kept.setCell (Kept.setCell HK.out _ (.inr ?_) _) _ (.inr ?_) _) _ (.inr ?_) _) _ (.inr ?_) _) _ (.inr ?_) _ <;> simp
        have KO := (((((Kept.refl (fun i => i = w.heap.size ∨ i = w.heap.size + 1) wr).setCell ⟨w.heap.size + 1, 0, none⟩ (.inl (.inr rfl)) (.int .i64 6)).setCell ⟨w.heap.size + 1, 1, none⟩ (.inl (.inr rfl)) (.int .i64 n)).setCell ⟨w.heap.size, 0, none⟩ (.inl (.inl rfl)) (.int .i64 6)).setCell ⟨w.heap.size, 1, none⟩ (.inl (.inl rfl)) (.int .i64 n)).setCell ⟨w.heap.size, 2, none⟩ (.inl (.inl rfl)) (.slice sa done.length sc)
        have RO := (IntsRow.kept HOW.out KO fun i hi _ h => by rcases h with h | h <;> omega).reads
        have hda : done = ats := by rw [← HD.out]; simp
        exact bodyPost_ret (v := .agg #[.int .i64 6, .int .i64 n, .slice sa done.length sc]) (by simp [results, Tryd.results14, go_sem, c0, c1, c2, l0, f0]) rfl ⟨_, rfl, by rw [← hda]; exact RO, KF⟩
    · have hna := notAt_flat k x t1 u1 w hB hF
      clear hC
      have hda : done = ats := by rw [← HD.out]; simp
      subst hda
      cases hB with
      | bare => exact absurd rfl hF.2
      | failed a x h0 =>
        have h := still_cell HK.out h0
        have ha : a < w.heap.size := World.block_lt_of_cell? w _ h0
        have n1 : ¬ a = w.heap.size + 1 := by omega
        have n2 : ¬ w.heap.size + 1 = a := by omega
        clear ha h0
        have q0 := Tryd.asFailedFailed
        have q1 := Tryd.asFailedCancelled
        have q2 := Tryd.asFailedLate
        have q3 := Tryd.asFailedPanicked
        have q4 := Tryd.asFailedNumber
        go_wp2_with fail
        have KF : Kept (fun _ => False) w (((((wr.setCell ⟨w.heap.size + 1, 0, none⟩ (.int .i64 1)).setCell ⟨w.heap.size + 1, 1, none⟩ (.int .i64 x)).setCell ⟨w.heap.size, 0, none⟩ (.int .i64 1)).setCell ⟨w.heap.size, 1, none⟩ (.int .i64 x)).setCell ⟨w.heap.size, 2, none⟩ (.slice sa done.length sc)) := by
          refine Kept.setCell (Kept.setCell (Kept.setCell (Kept.setCell (Kept.setCell HK.out _ (.inr ?_) _) _ (.inr ?_) _) _ (.inr ?_) _) _ (.inr ?_) _) _ (.inr ?_) _ <;> simp
        have KO := (((((Kept.refl (fun i => i = w.heap.size ∨ i = w.heap.size + 1) wr).setCell ⟨w.heap.size + 1, 0, none⟩ (.inl (.inr rfl)) (.int .i64 1)).setCell ⟨w.heap.size + 1, 1, none⟩ (.inl (.inr rfl)) (.int .i64 x)).setCell ⟨w.heap.size, 0, none⟩ (.inl (.inl rfl)) (.int .i64 1)).setCell ⟨w.heap.size, 1, none⟩ (.inl (.inl rfl)) (.int .i64 x)).setCell ⟨w.heap.size, 2, none⟩ (.inl (.inl rfl)) (.slice sa done.length sc)
        have RO := (IntsRow.kept HOW.out KO fun i hi _ h => by rcases h with h | h <;> omega).reads
        exact bodyPost_ret (v := .agg #[.int .i64 1, .int .i64 x, .slice sa done.length sc]) (by simp [results, Tryd.results14, go_sem, c0, c1, c2, l0, f0]) rfl ⟨_, rfl, RO, KF⟩
      | cancelled a x h0 =>
        have h := still_cell HK.out h0
        have ha : a < w.heap.size := World.block_lt_of_cell? w _ h0
        have n1 : ¬ a = w.heap.size + 1 := by omega
        have n2 : ¬ w.heap.size + 1 = a := by omega
        clear ha h0
        have q0 := Tryd.asCancelledFailed
        have q1 := Tryd.asCancelledCancelled
        have q2 := Tryd.asCancelledLate
        have q3 := Tryd.asCancelledPanicked
        have q4 := Tryd.asCancelledNumber
        go_wp2_with fail
        have KF : Kept (fun _ => False) w (((((wr.setCell ⟨w.heap.size + 1, 0, none⟩ (.int .i64 2)).setCell ⟨w.heap.size + 1, 1, none⟩ (.int .i64 x)).setCell ⟨w.heap.size, 0, none⟩ (.int .i64 2)).setCell ⟨w.heap.size, 1, none⟩ (.int .i64 x)).setCell ⟨w.heap.size, 2, none⟩ (.slice sa done.length sc)) := by
          refine Kept.setCell (Kept.setCell (Kept.setCell (Kept.setCell (Kept.setCell HK.out _ (.inr ?_) _) _ (.inr ?_) _) _ (.inr ?_) _) _ (.inr ?_) _) _ (.inr ?_) _ <;> simp
        have KO := (((((Kept.refl (fun i => i = w.heap.size ∨ i = w.heap.size + 1) wr).setCell ⟨w.heap.size + 1, 0, none⟩ (.inl (.inr rfl)) (.int .i64 2)).setCell ⟨w.heap.size + 1, 1, none⟩ (.inl (.inr rfl)) (.int .i64 x)).setCell ⟨w.heap.size, 0, none⟩ (.inl (.inl rfl)) (.int .i64 2)).setCell ⟨w.heap.size, 1, none⟩ (.inl (.inl rfl)) (.int .i64 x)).setCell ⟨w.heap.size, 2, none⟩ (.inl (.inl rfl)) (.slice sa done.length sc)
        have RO := (IntsRow.kept HOW.out KO fun i hi _ h => by rcases h with h | h <;> omega).reads
        exact bodyPost_ret (v := .agg #[.int .i64 2, .int .i64 x, .slice sa done.length sc]) (by simp [results, Tryd.results14, go_sem, c0, c1, c2, l0, f0]) rfl ⟨_, rfl, RO, KF⟩
      | late a x h0 =>
        have h := still_cell HK.out h0
        have ha : a < w.heap.size := World.block_lt_of_cell? w _ h0
        have n1 : ¬ a = w.heap.size + 1 := by omega
        have n2 : ¬ w.heap.size + 1 = a := by omega
        clear ha h0
        have q0 := Tryd.asLateFailed
        have q1 := Tryd.asLateCancelled
        have q2 := Tryd.asLateLate
        have q3 := Tryd.asLatePanicked
        have q4 := Tryd.asLateNumber
        go_wp2_with fail
        have KF : Kept (fun _ => False) w (((((wr.setCell ⟨w.heap.size + 1, 0, none⟩ (.int .i64 3)).setCell ⟨w.heap.size + 1, 1, none⟩ (.int .i64 x)).setCell ⟨w.heap.size, 0, none⟩ (.int .i64 3)).setCell ⟨w.heap.size, 1, none⟩ (.int .i64 x)).setCell ⟨w.heap.size, 2, none⟩ (.slice sa done.length sc)) := by
          refine Kept.setCell (Kept.setCell (Kept.setCell (Kept.setCell (Kept.setCell HK.out _ (.inr ?_) _) _ (.inr ?_) _) _ (.inr ?_) _) _ (.inr ?_) _) _ (.inr ?_) _ <;> simp
        have KO := (((((Kept.refl (fun i => i = w.heap.size ∨ i = w.heap.size + 1) wr).setCell ⟨w.heap.size + 1, 0, none⟩ (.inl (.inr rfl)) (.int .i64 3)).setCell ⟨w.heap.size + 1, 1, none⟩ (.inl (.inr rfl)) (.int .i64 x)).setCell ⟨w.heap.size, 0, none⟩ (.inl (.inl rfl)) (.int .i64 3)).setCell ⟨w.heap.size, 1, none⟩ (.inl (.inl rfl)) (.int .i64 x)).setCell ⟨w.heap.size, 2, none⟩ (.inl (.inl rfl)) (.slice sa done.length sc)
        have RO := (IntsRow.kept HOW.out KO fun i hi _ h => by rcases h with h | h <;> omega).reads
        exact bodyPost_ret (v := .agg #[.int .i64 3, .int .i64 x, .slice sa done.length sc]) (by simp [results, Tryd.results14, go_sem, c0, c1, c2, l0, f0]) rfl ⟨_, rfl, RO, KF⟩
      | panicked a x h0 =>
        have h := still_cell HK.out h0
        have ha : a < w.heap.size := World.block_lt_of_cell? w _ h0
        have n1 : ¬ a = w.heap.size + 1 := by omega
        have n2 : ¬ w.heap.size + 1 = a := by omega
        clear ha h0
        have q0 := Tryd.asPanickedFailed
        have q1 := Tryd.asPanickedCancelled
        have q2 := Tryd.asPanickedLate
        have q3 := Tryd.asPanickedPanicked
        have q4 := Tryd.asPanickedNumber
        have q9 := Tryd.asInt64
        go_wp2_with fail
        have KF : Kept (fun _ => False) w (((((wr.setCell ⟨w.heap.size + 1, 0, none⟩ (.int .i64 4)).setCell ⟨w.heap.size + 1, 1, none⟩ (.int .i64 x)).setCell ⟨w.heap.size, 0, none⟩ (.int .i64 4)).setCell ⟨w.heap.size, 1, none⟩ (.int .i64 x)).setCell ⟨w.heap.size, 2, none⟩ (.slice sa done.length sc)) := by
          refine Kept.setCell (Kept.setCell (Kept.setCell (Kept.setCell (Kept.setCell HK.out _ (.inr ?_) _) _ (.inr ?_) _) _ (.inr ?_) _) _ (.inr ?_) _) _ (.inr ?_) _ <;> simp
        have KO := (((((Kept.refl (fun i => i = w.heap.size ∨ i = w.heap.size + 1) wr).setCell ⟨w.heap.size + 1, 0, none⟩ (.inl (.inr rfl)) (.int .i64 4)).setCell ⟨w.heap.size + 1, 1, none⟩ (.inl (.inr rfl)) (.int .i64 x)).setCell ⟨w.heap.size, 0, none⟩ (.inl (.inl rfl)) (.int .i64 4)).setCell ⟨w.heap.size, 1, none⟩ (.inl (.inl rfl)) (.int .i64 x)).setCell ⟨w.heap.size, 2, none⟩ (.inl (.inl rfl)) (.slice sa done.length sc)
        have RO := (IntsRow.kept HOW.out KO fun i hi _ h => by rcases h with h | h <;> omega).reads
        exact bodyPost_ret (v := .agg #[.int .i64 4, .int .i64 x, .slice sa done.length sc]) (by simp [results, Tryd.results14, go_sem, c0, c1, c2, l0, f0]) rfl ⟨_, rfl, RO, KF⟩
      | plain a o h0 =>
        clear h0
        have q0 := Tryd.asPlainFailed
        have q1 := Tryd.asPlainCancelled
        have q2 := Tryd.asPlainLate
        have q3 := Tryd.asPlainPanicked
        have q4 := Tryd.asPlainNumber
        go_wp2_with fail
        have KF : Kept (fun _ => False) w ((((wr.setCell ⟨w.heap.size + 1, 0, none⟩ (.int .i64 5)).setCell ⟨w.heap.size, 0, none⟩ (.int .i64 5)).setCell ⟨w.heap.size, 1, none⟩ (.int .i64 0)).setCell ⟨w.heap.size, 2, none⟩ (.slice sa done.length sc)) := by
          refine Kept.setCell (Kept.setCell (Kept.setCell (Kept.setCell HK.out _ (.inr ?_) _) _ (.inr ?_) _) _ (.inr ?_) _) _ (.inr ?_) _ <;> simp
        have KO := ((((Kept.refl (fun i => i = w.heap.size ∨ i = w.heap.size + 1) wr).setCell ⟨w.heap.size + 1, 0, none⟩ (.inl (.inr rfl)) (.int .i64 5)).setCell ⟨w.heap.size, 0, none⟩ (.inl (.inl rfl)) (.int .i64 5)).setCell ⟨w.heap.size, 1, none⟩ (.inl (.inl rfl)) (.int .i64 0)).setCell ⟨w.heap.size, 2, none⟩ (.inl (.inl rfl)) (.slice sa done.length sc)
        have RO := (IntsRow.kept HOW.out KO fun i hi _ h => by rcases h with h | h <;> omega).reads
        exact bodyPost_ret (v := .agg #[.int .i64 5, .int .i64 0, .slice sa done.length sc]) (by simp [results, Tryd.results14, go_sem, c0, c1, c2, l0, f0]) rfl ⟨_, rfl, RO, KF⟩
      | number x =>
        have q0 := Tryd.asNumberFailed
        have q1 := Tryd.asNumberCancelled
        have q2 := Tryd.asNumberLate
        have q3 := Tryd.asNumberPanicked
        have q4 := Tryd.asNumberNumber
        go_wp2_with fail
        have KF : Kept (fun _ => False) w (((((wr.setCell ⟨w.heap.size + 1, 0, none⟩ (.int .i64 7)).setCell ⟨w.heap.size + 1, 1, none⟩ (.int .i64 x)).setCell ⟨w.heap.size, 0, none⟩ (.int .i64 7)).setCell ⟨w.heap.size, 1, none⟩ (.int .i64 x)).setCell ⟨w.heap.size, 2, none⟩ (.slice sa done.length sc)) := by
          refine Kept.setCell (Kept.setCell (Kept.setCell (Kept.setCell (Kept.setCell HK.out _ (.inr ?_) _) _ (.inr ?_) _) _ (.inr ?_) _) _ (.inr ?_) _) _ (.inr ?_) _ <;> simp
        have KO := (((((Kept.refl (fun i => i = w.heap.size ∨ i = w.heap.size + 1) wr).setCell ⟨w.heap.size + 1, 0, none⟩ (.inl (.inr rfl)) (.int .i64 7)).setCell ⟨w.heap.size + 1, 1, none⟩ (.inl (.inr rfl)) (.int .i64 x)).setCell ⟨w.heap.size, 0, none⟩ (.inl (.inl rfl)) (.int .i64 7)).setCell ⟨w.heap.size, 1, none⟩ (.inl (.inl rfl)) (.int .i64 x)).setCell ⟨w.heap.size, 2, none⟩ (.inl (.inl rfl)) (.slice sa done.length sc)
        have RO := (IntsRow.kept HOW.out KO fun i hi _ h => by rcases h with h | h <;> omega).reads
        exact bodyPost_ret (v := .agg #[.int .i64 7, .int .i64 x, .slice sa done.length sc]) (by simp [results, Tryd.results14, go_sem, c0, c1, c2, l0, f0]) rfl ⟨_, rfl, RO, KF⟩

end Go.Proofs.YthkndllageopoaaDoor

/-
  treadlelaw10.ClockOrder, walked.
-/
import Derived.Test.YtmlemofnakfpgaaOrder4
import Derived.Deep.CutBlock
import Derived.Deep.DeepCutAuto
import Derived.Deep.LoopGhost
import Derived.Deep.OwnRows
import Derived.OwnWalk
namespace Go.Proofs.Ytmlemofnakfpgaa
open Go.RowKit

theorem Try.info4 : (Try.prog.info? 4).map (fun i => (i.zero, i.size, i.bytes)) = some (some (.bool false), 1, 1) := by kernel_rfl
theorem Try.info32 : (Try.prog.info? 32).map (fun i => (i.zero, i.size, i.bytes)) = some (some (.agg #[.int .i64 0, .int .i64 0]), 2, 16) := by kernel_rfl

theorem sts_free (i : Nat) : (∀ k, k < i → ¬ (sts i (fun _ => false) k).tmod 4 = 0) ∧ sts i (fun _ => false) i = 0 := by
  refine ⟨fun k hk => ?_, ?_⟩
  · rw [sts_two hk rfl]; decide
  · unfold sts; rw [if_neg (by omega)]

/-- The timers as they are handed in. -/
structure Given (w : World) (ao : Option Addr) (sb so la : Nat) (At St : Nat → Int) : Prop where
  a : ∀ i, i < la → ao = some ⟨sb, so, none⟩
  at_ : ∀ i, i < la → w.cell? ⟨sb, so + i * 2, none⟩ = some (.int .i64 (At i))
  st : ∀ i, i < la → w.cell? ⟨sb, so + i * 2 + 1, none⟩ = some (.int .i64 (St i))

theorem Given.kept {w w' : World} {ao : Option Addr} {sb so la : Nat} {At St : Nat → Int} (G : Given w ao sb so la At St) (k : Kept (fun _ => False) w w') : Given w' ao sb so la At St :=
  ⟨G.a, fun i hi => (k.cell (p := ⟨sb, so + i * 2, none⟩) (World.block_lt_of_cell? w _ (G.at_ i hi)) id).trans (G.at_ i hi), fun i hi => (k.cell (p := ⟨sb, so + i * 2 + 1, none⟩) (World.block_lt_of_cell? w _ (G.st i hi)) id).trans (G.st i hi)⟩

def LayRel (w0 wr : World) (n rB oB m k : Nat) (At : Nat → Int) (tv fv : Value) : Prop :=
  ∃ i vb fb, i + k = m ∧ fv = .pointer (some ⟨fb, 0, none⟩) ∧ Lay w0 wr n rB oB m i i vb At fb i tv

theorem wrap_neg {x k : Int} (hk : 0 < k ∧ k ≤ 1000) (h : x.tmod k < 0) : wrap64 (-x.tmod k) = -x.tmod k := by
  have := tmod_range x k hk.1
  unfold wrap64; omega

theorem due_neg {x : Int} (h : x.tmod 1000 < 0) : dueOf x = -x.tmod 1000 := by unfold dueOf; rw [if_pos h]
theorem due_pos {x : Int} (h : ¬ x.tmod 1000 < 0) : dueOf x = x.tmod 1000 := by unfold dueOf; rw [if_neg h]

/-- Where the loop over the steps stands, with k to come. -/
def StepRel (w0 wr : World) (n rB oB tB m p k : Nat) (vb : Nat → Nat) (d : Nat → Int) (a13 a14 : Value) : Prop :=
  ∃ s now ov, s + k = p ∧ a14 = .int .i64 (s : Nat) ∧ a13 = .int .i64 now ∧ 0 ≤ now ∧ now ≤ 300 * (s : Int) ∧ Rest w0 wr n rB oB tB m vb ov ∧ Cl wr n rB m vb now d ov

/-- Where the loop of the Stops stands. -/
def StopRel (w0 wr : World) (n rB oB tB m k : Nat) (vb : Nat → Nat) (now : Int) (d : Nat → Int) (a15 : Value) : Prop :=
  ∃ i ov, i + k = m ∧ a15 = .int .i64 (i : Nat) ∧ Rest w0 wr n rB oB tB m vb ov ∧ Cl wr n rB m vb now d ov

theorem Cl.drew {w : World} {n rB m : Nat} {vb : Nat → Nat} {now : Int} {d : Nat → Int} {ov : Nat → Bool} (X : Cl w n rB m vb now d ov) : Cl w.drew n rB m vb now d ov :=
  X.carry (S := fun _ => False) (Kept.refl _ _).drew fun _ f => f.elim

theorem Slot.drew {w : World} {p s : Nat} {v : Value} (h : Slot w p s v) : Slot w.drew p s v := ⟨h.c, h.fr, h.lt⟩

theorem cl_stop {w : World} {n rB m j : Nat} {vb : Nat → Nat} {now : Int} {d : Nat → Int} {f : Nat → Value} {ov : Nat → Bool} (hj : j < m) (C : Clk w n now 0 (put (sts m ov) j 4) d f) (hf : ∀ k, k < m → ov k = false → f k = teller rB (vb k)) : Cl w n rB m vb now d (put ov j true) := by
  rw [sts_put hj] at C
  refine ⟨f, C, fun k hk hv => hf k hk ?_⟩
  by_cases e : k = j
  · subst e; rw [put_same] at hv; cases hv
  · rw [put_other _ _ _ _ e] at hv; exact hv

/-- How far a step goes. -/
def stepOf (x : Int) : Int := if x.tmod 300 < 0 then -x.tmod 300 else x.tmod 300

theorem step_range (x : Int) : 0 ≤ stepOf x ∧ stepOf x < 300 := by
  have := tmod_range x 300 (by decide)
  unfold stepOf; split <;> omega

theorem step_neg {x : Int} (h : x.tmod 300 < 0) : stepOf x = -x.tmod 300 := by unfold stepOf; rw [if_pos h]
theorem step_pos {x : Int} (h : ¬ x.tmod 300 < 0) : stepOf x = x.tmod 300 := by unfold stepOf; rw [if_neg h]

theorem later_add {now dt : Int} (h1 : now ≤ 12000) (h2 : dt < 300) : later now dt = now + dt := by
  unfold later; omega

theorem own_shape {w : World} {base : Nat} {e : TypeId} {size : Nat} {v : Value} {n : Nat} {xs : List Value} (h : w.ownsRow base e size v n xs) : ∃ a c, v = .slice a n c := by
  rcases h.2 with ⟨rfl, rfl⟩ | ⟨g, cap, _, rfl, _⟩
  · exact ⟨_, _, rfl⟩
  · exact ⟨_, _, rfl⟩

/-- Where the loop over what rang stands. -/
def TellRel (w0 wr : World) (n rB oB tB m N B k : Nat) (vb : Nat → Nat) (t : Int) (d : Nat → Int) (f3 : Nat → Value) (ov2 ov3 : Nat → Bool) (R : Nat → Nat) (ga : Option Addr) (gc : Nat) (a19 a20 a21 : Value) : Prop :=
  ∃ q ovq lst pls, q + k = N ∧ a21 = .int .i64 (q : Nat) ∧ a19 = .int .i64 lst ∧ a20 = .int .i64 pls ∧ Rest w0 wr n rB oB tB m vb ovq ∧ (∀ x, ovq x = true ↔ ov2 x = true ∨ ∃ a, a < q ∧ R a = x) ∧
    Clk wr n t 0 (sts m ov3) d f3 ∧ Holds wr B rB N (.slice ga N gc) (rowR R N) ∧ (q = 0 ∧ lst = -1 ∧ pls = -1 ∨ ∃ q', q = q' + 1 ∧ lst = d (R q') ∧ pls = (R q' : Nat))

/-- Where the last loop stands. -/
def LastRel (w0 wr : World) (n rB oB tB m k : Nat) (vb : Nat → Nat) (t : Int) (d : Nat → Int) (ov3 : Nat → Bool) (a24 : Value) : Prop :=
  ∃ y, y + k = m ∧ a24 = .int .i64 (y : Nat) ∧ Rest w0 wr n rB oB tB m vb ov3 ∧ Cl wr n rB m vb t d ov3

theorem bool_ext {a b : Bool} (h : a = true ↔ b = true) : a = b := by cases a <;> cases b <;> simp_all

theorem row_at {w : World} {B N q : Nat} {R : Nat → Nat} {ga : Option Addr} {gc : Nat} (h : w.ownsRow B 3 1 (.slice ga N gc) N (rowR R N)) (hq : q < N) : ∃ g, ga = some ⟨g, 0, none⟩ ∧ w.cell? ⟨g, q, none⟩ = some (.int .i64 (R q)) := by
  rcases h.2 with ⟨_, h0⟩ | ⟨g, cap, cur, hv, _⟩
  · omega
  · simp only [Value.slice.injEq] at hv
    obtain ⟨rfl, _, rfl⟩ := hv
    exact ⟨g, rfl, (h.cellAt q (by omega)).trans (rowR_at R N q hq)⟩

theorem tell_ok {m : Nat} {d : Nat → Int} {t lst pls : Int} {ov2 ov3 ovq : Nat → Bool} {N q : Nat} {R : Nat → Nat} (X : Rang m d t ov2 ov3 N R) (hov : ∀ x, ovq x = true ↔ ov2 x = true ∨ ∃ a, a < q ∧ R a = x) (hq : q < N)
    (hlp : q = 0 ∧ lst = -1 ∧ pls = -1 ∨ ∃ q', q = q' + 1 ∧ lst = d (R q') ∧ pls = (R q' : Nat)) (hd : 0 ≤ d (R q)) : ovq (R q) = false ∧ ¬ d (R q) < lst ∧ (d (R q) = lst → ¬ ((R q : Nat) : Int) < pls) := by
  refine ⟨?_, ?_⟩
  · cases h : ovq (R q)
    · rfl
    · rcases (hov _).1 h with h | ⟨a, ha, hR⟩
      · rw [(X.inn q hq).2.1] at h; cases h
      · have := X.ord a q ha hq
        rw [hR] at this
        rcases this with h | h <;> omega
  · rcases hlp with ⟨rfl, rfl, rfl⟩ | ⟨q', rfl, rfl, rfl⟩
    · exact ⟨by omega, fun _ => by omega⟩
    · rcases X.ord q' (q' + 1) (by omega) hq with h | ⟨h1, h2⟩
      · exact ⟨by omega, fun e => by omega⟩
      · exact ⟨by omega, fun _ => by omega⟩

theorem tell_next {w0 wr : World} {n rB oB tB m N B k q x : Nat} {vb : Nat → Nat} {t : Int} {d : Nat → Int} {f3 : Nat → Value} {ov2 ov3 ovq : Nat → Bool} {R : Nat → Nat} {ga : Option Addr} {gc : Nat}
    (hR : Rest w0 wr n rB oB tB m vb ovq) (hov : ∀ x, ovq x = true ↔ ov2 x = true ∨ ∃ a, a < q ∧ R a = x) (hC : Clk wr n t 0 (sts m ov3) d f3) (hH : Holds wr B rB N (.slice ga N gc) (rowR R N)) (hx : R q = x) (hxm : x < m) (hqk : q + k = N) (hq : q < N) (oz : oB < B) :
    TellRel w0 (wr.setCell ⟨oB, x, none⟩ (.bool true)) n rB oB tB m N B (k - 1) vb t d f3 ov2 ov3 R ga gc (.int .i64 (d x)) (.int .i64 (x : Nat)) (.int .i64 ((q : Int) + 1)) := by
  obtain ⟨r1, r2, r3, r4, r5, r6⟩ := hR.rn
  have kk : Kept (fun b => b = oB) wr (wr.setCell ⟨oB, x, none⟩ (.bool true)) := Kept.one wr ⟨oB, x, none⟩ _
  refine ⟨q + 1, put ovq x true, d x, (x : Nat), by omega, by go_num, rfl, rfl, hR.tell x hxm, fun y => ?_, hC.kept kk fun b hb e => by have := hb.2; omega, hH.kept kk r4 (fun g hg e => by omega), .inr ⟨q, rfl, by rw [hx], by rw [hx]⟩⟩
  by_cases e : y = x
  · subst e; rw [put_same]; exact ⟨fun _ => .inr ⟨q, by omega, hx⟩, fun _ => rfl⟩
  · rw [put_other _ _ _ _ e]
    constructor
    · intro h
      rcases (hov y).1 h with h | ⟨a, ha, hRa⟩
      · exact .inl h
      · exact .inr ⟨a, by omega, hRa⟩
    · intro h
      rcases h with h | ⟨a, ha, hRa⟩
      · exact (hov y).2 (.inl h)
      · by_cases ea : a = q
        · subst ea; exact absurd (hRa.symm.trans hx) e
        · exact (hov y).2 (.inr ⟨a, by omega, hRa⟩)

theorem own_in {n : Nat} : ∀ b, Own n b → n ≤ b ∧ b < n + 35 := fun _ h => h

theorem put_true {ov : Nat → Bool} {i : Nat} (h : ov i = true) : put ov i true = ov := by
  funext k
  by_cases e : k = i
  · subst e; rw [put_same, h]
  · rw [put_other _ _ _ _ e]

set_option maxRecDepth 100000 in
set_option maxHeartbeats 1600000 in
theorem order_walk (ao bo : Option Addr) (la lca lb lcb sb so tb tg : Nat) (At St Sp : Nat → Int) (w : World)
    (hl : la ≤ lca) (hb : lb ≤ lcb) (ha : Given w ao sb so la At St)
    (hs : ∀ i, i < lb → bo = some ⟨tb, tg, none⟩ ∧ w.cell? ⟨tb, tg + i, none⟩ = some (.int .i64 (Sp i))) :
    Calls Try.prog 3 #[.slice ao la lca, .slice bo lb lcb] w fun e w' => e = .returned (.bool true) ∧ Below w.heap.size w w' := by
  have hmf : ∀ (fn : Fn) (first cap : Array Value) (w : World), (Instr.makeFunc fn first cap).run Try.prog w = .ok (.func fn first cap) w := fun _ _ _ _ => rfl
  obtain ⟨i0, hi, hz0, hz1, hz2⟩ := info_parts Try.info32
  have HA := Lib.hid ha
  have HS := Lib.hid hs
  clear ha hs
  go_enter Try.func3, Try.ntmps3
  go_upto_if 28 with fail
  go_cut [0] (fun v wx => wx = w ∧ ∃ m, v = .slice ao m lca ∧ m ≤ 16 ∧ m ≤ la)
  case first =>
    by_cases h : 16 < la
    · obtain rfl := HA.out.a 0 (by omega)
      have h16 : 16 ≤ lca := by omega
      go_wp2_with fail
      go_meet
      exact ⟨rfl, 16, rfl, Nat.le_refl _, by omega⟩
    · go_wp2_with fail
      go_meet
      exact ⟨rfl, la, rfl, by omega, Nat.le_refl _⟩
  case rest =>
    obtain ⟨rfl, m, rfl, hm16, hma⟩ := hcut
    go_upto_if 33 with fail
    go_cut [1] (fun v wx => wx = wc ∧ ∃ p, v = .slice bo p lcb ∧ p ≤ 40 ∧ p ≤ lb)
    case first =>
      by_cases h : 40 < lb
      · obtain ⟨rfl, _⟩ := HS.out 0 (by omega)
        have h40 : 40 ≤ lcb := by omega
        go_wp2_with fail
        go_meet
        exact ⟨rfl, 40, rfl, Nat.le_refl _, by omega⟩
      · go_wp2_with fail
        go_meet
        exact ⟨rfl, lb, rfl, by omega, Nat.le_refl _⟩
    case rest =>
      obtain ⟨rfl, p, rfl, hp40, hpb⟩ := hcut
      obtain ⟨w0, rfl⟩ : ∃ w0 : World, w0 = wc := ⟨_, rfl⟩
      obtain ⟨n, hn⟩ : ∃ n : Nat, Hid (w0.heap.size = n) := ⟨_, rfl⟩
      have hmk := fun w => run_make_row' (P := Try.prog) 28 4 (.bool false) 1 Try.underlying28 Try.info4 rfl .i64 .i64 m (by omega) (by omega) w
      go_wp2_with fail
      refine (new_made w0).mono ?_
      rintro e w1 ⟨rfl, hC, hB⟩
      rw [hn.out] at hC hB ⊢
      have X1 := Lib.hid (lay_start (m := m) (vb := fun _ => 0) (At := At) hn.out hC hB)
      clear hC hB
      go_wp2_with fail
      go_loopg [7, 9] m (fun k tv fv wr => LayRel w0 wr n w1.heap.size (w1.heap.size + 1) m k At tv fv)
      case atStart => exact ⟨0, _, _, by omega, rfl, X1.out⟩
      case round =>
        obtain ⟨i, vb, fb, hik, rfl, L⟩ := hrel
        have HL := Lib.hid L
        have f0 := L.cur.c
        have fz := L.cur.lt
        clear L
        by_cases hlt : i < m
        · have c1 := (HA.out.kept HL.out.kept).at_ i (by omega)
          obtain rfl := HA.out.a 0 (by omega)
          go_upto_if 55 with fail
          go_cut [10] (fun v wx => wx = wr ∧ v = .int .i64 (dueOf (At i)))
          case first =>
            by_cases hneg : (At i).tmod 1000 < 0
            · have hd := Lib.hid (due_neg hneg)
              go_wp2_with fail
              go_meet
              exact ⟨rfl, by rw [hd.out, wrap_neg (by decide) hneg]⟩
            · have hd := Lib.hid (due_pos hneg)
              go_wp2_with fail
              go_meet
              exact ⟨rfl, by rw [hd.out]⟩
          case rest =>
            obtain ⟨hw, rfl⟩ := hcut
            obtain rfl := hw
            obtain ⟨d, f, C, hd1, hd2⟩ := HL.out.clk
            have HC := Lib.hid C
            have D1 := Lib.hid hd1
            have D2 := Lib.hid hd2
            have hdr := due_range (At i)
            clear C hd1 hd2
            go_wp2_with fail
            refine (set_to n i i 2 (dueOf (At i)) 0 0 (sts i fun _ => false) d f (.func 6) #[] #[.pointer (some ⟨w1.heap.size, 0, none⟩), .pointer (some ⟨fb, 0, none⟩)] rfl (by rw [(sts_free i).2]; rfl) hdr.1 (by omega) (by omega) (sts_free i).1 (by rw [(sts_free i).2]; rfl) (by rw [(sts_free i).2]; decide) (by rw [(sts_free i).2]; decide) _ HC.out).mono ?_
            rintro e w2 ⟨rfl, C2, K2⟩
            have X2 := Lib.hid ((lay_set HL.out C2 D1.out D2.out K2).alloc (.cells #[.int .i64 i, .int .i64 2] 32))
            have Z2 : Hid (n + 35 ≤ w2.heap.size) := C2.size
            clear C2 K2 f0 fz c1
            go_wp2_with (at_builtin; go_loud (refine wpList_append_lies _ rfl _ _ 27 rfl n 32 i0 (.agg #[.int .i64 0, .int .i64 0]) 2 16 Try.underlying27 hi hz0 hz1 hz2 rfl (by decide) _ _ _ rfl (X2.out.own.alloc _) ⟨w2.heap.size + 1, 0, none⟩ 1 1 [.int .i64 i, .int .i64 2] rfl rfl ?c1 ?c2 ?c3 ?c4 ?c5 ?c6 _ rfl ?_))
            case c1 =>
              intro j u hj
              match j, hj with
              | 0, hj => simp at hj; subst hj; simp [Addr.add]
              | 1, hj => simp at hj; subst hj; simp [Addr.add]
            case c2 => intro u hu; simp at hu; rcases hu with rfl | rfl <;> rfl
            case c3 => decide
            case c4 => first | (simp only [maxLen]; omega) | (simp [maxLen]; omega)
            case c5 => first | omega | (simp; omega)
            case c6 =>
              have := Z2.out
              simp; omega
            intro g cap w3 own3 grown3 lies3 _
            have X3 := Lib.hid (lay_app X2.out (by have := Z2.out; simp; omega) own3 grown3 (by simpa using lies3))
            have f3 := X3.out.cur.c
            have fz3 := X3.out.cur.lt
            clear own3 grown3 lies3
            go_wp2_with fail
            go_roundg (gk - 1)
            case measure => omega
            case rel => exact ⟨i + 1, _, _, by omega, rfl, lay_next X3.out (i + 1) _ (by simp)⟩
        · obtain rfl : i = m := by omega
          obtain ⟨tB, d, ht, hR, hC, hd⟩ := lay_end HL.out
          have HT := Lib.hid ht
          have XR := Lib.hid hR
          have XC := Lib.hid hC
          have HD := Lib.hid hd
          clear ht hR hC hd
          go_wp2_with fail
          go_loopg [13, 14] p (fun k a13 a14 wr => StepRel w0 wr n w1.heap.size (w1.heap.size + 1) tB i p k vb d a13 a14)
          case atStart => exact ⟨0, 0, _, by omega, rfl, rfl, Int.le_refl _, by omega, XR.out, XC.out⟩
          case round =>
            obtain ⟨s, now, ov, hsk, rfl, rfl, hn0, hn1, hR, hC⟩ := hrel
            have YR := Lib.hid hR
            have YC := Lib.hid hC
            clear hR hC
            by_cases hsp : s < p
            · go_wp2_with fail
              go_loopg [15] i (fun k a15 wr2 => StopRel w0 wr2 n w1.heap.size (w1.heap.size + 1) tB i k vb now d a15)
              case atStart => exact ⟨0, _, by omega, rfl, YR.out, YC.out⟩
              case round =>
                obtain ⟨j, ov2, hjk, rfl, hR, hC⟩ := hrel
                have ZR := Lib.hid hR
                have ZC := Lib.hid hC
                clear hR hC
                by_cases hji : j < i
                · have c2 := (HA.out.kept ZR.out.kept).st j (by omega)
                  obtain rfl := HA.out.a 0 (by omega)
                  by_cases hst : St j = (s : Int)
                  · obtain ⟨cap, rfl⟩ := HT.out (by omega)
                    have o1 := (ZR.out.over j hji).c
                    have t0 := (ZR.out.tim j hji).1.c
                    have t1 := (ZR.out.tim j hji).2.c
                    have j0 : (j : Int) < i := by omega
                    have j1 : (0 : Int) ≤ (j : Int) := by omega
                    go_upto_region 31 with fail
                    go_cut [101] (fun v wx => v = .bool false ∧ Rest w0 wx n w1.heap.size (w1.heap.size + 1) tB i vb ov2 ∧ Cl wx n w1.heap.size i vb now d (put ov2 j true))
                    case first =>
                      cases hov : ov2 j with
                      | false =>
                        rw [hov] at o1
                        have HO := Lib.hid hov
                        have ZO := Lib.hid (ZR.out.over j hji)
                        have NO : Hid (¬ Own n (w1.heap.size + 1)) := fun h => by have := ZR.out.rn.2.1; have := h.2; omega
                        rw [hov] at ZO
                        obtain ⟨f, C, hf⟩ := ZC.out
                        have HC := Lib.hid C
                        have HF := Lib.hid hf
                        clear C hf hov
                        go_region_with (go_at_call 7; refine (stop_to n j j 2 4 now 0 (sts i ov2) d f rfl (sts_two hji HO.out) (by rw [sts_two hji HO.out]; rfl) (by omega) (by rw [sts_two hji HO.out]; rfl) (by rw [sts_two hji HO.out]; decide) (by rw [sts_two hji HO.out]; decide) _ (by first | exact HC.out | exact HC.out.drew)).mono ?_; rintro e w' ⟨rfl, hC, hK⟩; have o2 := (Slot.kept (by first | exact ZO.out | exact ZO.out.drew) hK NO.out).c; have KK := Lib.hid hK; have CC := Lib.hid hC; clear hC hK)
                        all_goals
                          go_wp2_with fail
                          go_meet
                          exact ⟨rfl, by first | exact ZR.out.carry KK.out own_in | exact ZR.out.drew.carry KK.out own_in, cl_stop hji CC.out HF.out⟩
                      | true =>
                        rw [hov] at o1
                        have HO := Lib.hid hov
                        have ZO := Lib.hid (ZR.out.over j hji)
                        rw [hov] at ZO
                        obtain ⟨f, C, hf⟩ := ZC.out
                        have HC := Lib.hid C
                        clear C hf hov
                        go_region_with (go_at_call 7; refine (stop_off n j j 2 now 0 (sts i ov2) d f rfl (by omega) (by decide) (by rw [sts_four hji HO.out]; decide) _ (by first | exact HC.out | exact HC.out.drew)).mono ?_; rintro e w' ⟨rfl, hB⟩; have KK := Lib.hid (Kept.ofBelow hB (Nat.le_refl _) (fun _ => False)); have o2 := (Slot.kept (by first | exact ZO.out | exact ZO.out.drew) KK.out id).c; clear hB)
                        all_goals
                          go_wp2_with fail
                          go_meet
                          exact ⟨rfl, by first | exact ZR.out.carry KK.out (fun _ f => f.elim) | exact ZR.out.drew.carry KK.out (fun _ f => f.elim), by rw [put_true HO.out]; first | exact ZC.out.carry KK.out (fun _ f => f.elim) | exact ZC.out.drew.carry KK.out (fun _ f => f.elim)⟩
                    case rest =>
                      obtain ⟨rfl, hR, hC⟩ := hcut
                      have TR := Lib.hid hR
                      have TC := Lib.hid hC
                      clear hR hC o1 t0 t1 c2
                      have o3 := (TR.out.over j hji).c
                      have o4 := (TR.out.over j hji).fr
                      go_wp2_with fail
                      go_roundg (gk - 1)
                      case measure => omega
                      case rel => exact ⟨j + 1, _, by omega, by go_num, TR.out.tell j hji, TC.out.carry (Kept.one _ ⟨w1.heap.size + 1, j, none⟩ _) fun b hb => by have := TR.out.rn.2.1; rw [hb]; exact this⟩
                  · go_wp2_with fail
                    go_roundg (gk - 1)
                    case measure => omega
                    case rel => exact ⟨j + 1, ov2, by omega, by go_num, ZR.out, ZC.out⟩
                · obtain rfl : i = j := by omega
                  obtain ⟨hbo, hcs⟩ := HS.out s (by omega)
                  obtain rfl := hbo
                  have c3 := (ZR.out.kept.cell (p := ⟨tb, tg + s, none⟩) (World.block_lt_of_cell? _ _ hcs) id).trans hcs
                  have s0 : (s : Int) < p := by omega
                  have s1 : (0 : Int) ≤ (s : Int) := by omega
                  clear hcs
                  go_upto_if 111 with fail
                  go_cut [16] (fun v wx => wx = wr ∧ v = .int .i64 (stepOf (Sp s)))
                  case first =>
                    by_cases hneg : (Sp s).tmod 300 < 0
                    · have hd := Lib.hid (step_neg hneg)
                      go_wp2_with fail
                      go_meet
                      exact ⟨rfl, by rw [hd.out, wrap_neg (by decide) hneg]⟩
                    · have hd := Lib.hid (step_pos hneg)
                      go_wp2_with fail
                      go_meet
                      exact ⟨rfl, by rw [hd.out]⟩
                  case rest =>
                    obtain ⟨hw, rfl⟩ := hcut
                    obtain rfl := hw
                    have hsr := step_range (Sp s)
                    obtain ⟨u0, hu0⟩ := ZR.out.rb
                    have b0 := hu0.c
                    have b1 := hu0.fr
                    clear hu0 c3
                    go_wp2_with fail
                    obtain ⟨f, C, hf⟩ := ZC.out.carry (S := fun b => b = w1.heap.size) (Kept.one wc ⟨w1.heap.size, 0, none⟩ (.slice none 0 0)) fun b hb => by have := ZR.out.rn.1; omega
                    have XW := Lib.hid (ZR.out.clear (.slice none 0 0))
                    refine (adv_order (wc.setCell ⟨w1.heap.size, 0, none⟩ (.slice none 0 0)) n i w1.heap.size vb now (stepOf (Sp s)) (now + stepOf (Sp s)) d f ov2 hm16 C.size (fun h => by have := ZR.out.rn.1; have := h.2; omega) (fun y hy => by
                      obtain ⟨a, b, c, e, _⟩ := XW.out.1.vars y hy
                      exact ⟨a, b, fun h => by have := h.2; omega, e⟩) hn0 (by omega) hsr.1 (later_add (by omega) hsr.2) C hf ⟨XW.out.2.c, XW.out.2.fr, XW.out.2.lt, World.ownsRow_nil _ _ _ _⟩).mono ?_
                    rintro e w2 ⟨N, ov3, R, f3, v, rfl, hN, hRang, hClk, hf3, hnone, hHold, hK⟩
                    obtain ⟨ga, gc, rfl⟩ := own_shape hHold.own
                    have AR := Lib.hid (XW.out.1.rung hK hHold)
                    have AG := Lib.hid hRang
                    have AC := Lib.hid hClk
                    have AF := Lib.hid hf3
                    have AN := Lib.hid hnone
                    have AH := Lib.hid hHold
                    have a0 := hHold.c
                    clear hRang hClk hf3 hnone hHold hK b0 b1 C hf
                    go_wp2_with fail
                    refine (now_made n _ 0 _ d f3 w2 AC.out).mono ?_
                    rintro e w' ⟨rfl, hw⟩
                    obtain rfl := hw.symm
                    go_wp2_with fail
                    go_loopg [19, 20, 21] N (fun k a19 a20 a21 wr => TellRel w0 wr n w1.heap.size (w1.heap.size + 1) tB i N (wc.setCell ⟨w1.heap.size, 0, none⟩ (.slice none 0 0)).heap.size k vb (now + stepOf (Sp s)) d f3 ov2 ov3 R ga gc a19 a20 a21)
                    case atStart => exact ⟨0, ov2, -1, -1, by omega, rfl, rfl, rfl, AR.out, fun x => ⟨.inl, fun h => h.elim id fun ⟨a, ha, _⟩ => by omega⟩, AC.out, AH.out, .inl ⟨rfl, rfl, rfl⟩⟩
                    case round =>
                      obtain ⟨q, ovq, lst, pls, hqk, rfl, rfl, rfl, hR, hov, hC, hH, hlp⟩ := hrel
                      have QR := Lib.hid hR
                      have QV := Lib.hid hov
                      have QC := Lib.hid hC
                      have QH := Lib.hid hH
                      have QP := Lib.hid hlp
                      have a1 := hH.c
                      clear hR hov hC hH hlp
                      by_cases hq : q < N
                      · --[C
                        obtain ⟨hin1, hin2, hin3⟩ := AG.out.inn q hq
                        obtain ⟨g0, hga, hg⟩ := row_at QH.out.own hq
                        obtain rfl := hga
                        obtain ⟨hv, hl1, hl2⟩ := tell_ok AG.out QV.out hq QP.out (by rw [HD.out _ hin1]; exact (due_range _).1)
                        obtain ⟨x, hx⟩ : ∃ x : Nat, Hid (R q = x) := ⟨_, rfl⟩
                        rw [hx.out] at hin1 hin2 hin3 hg hv hl1 hl2
                        have c1 := (HA.out.kept QR.out.kept).at_ x (by omega)
                        have q0 : (q : Int) < N := by omega
                        have q1 : (0 : Int) ≤ (q : Int) := by omega
                        have x0 : (x : Int) < i := by omega
                        have x1 : (0 : Int) ≤ (x : Int) := by omega
                        have oz := Lib.hid (XW.out.1.over x hin1).lt
                        obtain rfl := HA.out.a 0 (by omega)
                        go_upto_if 154 with fail
                        go_cut [23] (fun v wx => wx = wr ∧ v = .int .i64 (d x))
                        case first =>
                          by_cases hneg : (At x).tmod 1000 < 0
                          · have hd := Lib.hid (due_neg hneg)
                            go_wp2_with fail
                            go_meet
                            exact ⟨rfl, by rw [HD.out x hin1, hd.out, wrap_neg (by decide) hneg]⟩
                          · have hd := Lib.hid (due_pos hneg)
                            go_wp2_with fail
                            go_meet
                            exact ⟨rfl, by rw [HD.out x hin1, hd.out]⟩
                        case rest =>
                          obtain ⟨hw, rfl⟩ := hcut
                          obtain rfl := hw
                          have o1 := (QR.out.over x hin1).c
                          have o2 := (QR.out.over x hin1).fr
                          rw [hv] at o1
                          have g1 : decide (now + stepOf (Sp s) < d x) = false := by simp; omega
                          have g2 : decide (d x < lst) = false := by simp; omega
                          clear hg c1 a1
                          by_cases heq : d x = lst
                          · have g3 : (d x == lst) = true := by simp [heq]
                            have g4 : decide ((x : Int) < pls) = false := by have := hl2 heq; simp; omega
                            have HE := Lib.hid heq
                            clear heq hl1 hl2
                            go_wp2_with fail
                            go_roundg (gk - 1)
                            case measure => omega
                            case rel => exact tell_next QR.out QV.out QC.out QH.out hx.out hin1 hqk hq oz.out
                          · have g3 : (d x == lst) = false := by simp [heq]
                            have HE := Lib.hid heq
                            clear heq hl1 hl2
                            go_wp2_with fail
                            go_roundg (gk - 1)
                            case measure => omega
                            case rel => exact tell_next QR.out QV.out QC.out QH.out hx.out hin1 hqk hq oz.out
                      · obtain rfl : q = N := by omega
                        have LR := Lib.hid (QR.out.congr (ovr' := ov3) fun x _ => by
                          have h1 := QV.out x
                          have h2 := AG.out.iff x
                          exact bool_ext (h1.trans h2.symm))
                        have LC : Hid (Cl wr n w1.heap.size i vb (now + stepOf (Sp s)) d ov3) := ⟨f3, QC.out, AF.out⟩
                        go_wp2_with fail
                        go_loopg [24] i (fun k a24 wr => LastRel w0 wr n w1.heap.size (w1.heap.size + 1) tB i k vb (now + stepOf (Sp s)) d ov3 a24)
                        case atStart => exact ⟨0, by omega, rfl, LR.out, LC.out⟩
                        case round =>
                          obtain ⟨y, hyk, rfl, hR, hC⟩ := hrel
                          have VR := Lib.hid hR
                          have VC := Lib.hid hC
                          clear hR hC
                          by_cases hy : y < i
                          · have c1 := (HA.out.kept VR.out.kept).at_ y (by omega)
                            have y0 : (y : Int) < i := by omega
                            have y1 : (0 : Int) ≤ (y : Int) := by omega
                            obtain rfl := HA.out.a 0 (by omega)
                            go_upto_if 199 with fail
                            go_cut [25] (fun v wx => wx = wr ∧ v = .int .i64 (d y))
                            case first =>
                              by_cases hneg : (At y).tmod 1000 < 0
                              · have hd := Lib.hid (due_neg hneg)
                                go_wp2_with fail
                                go_meet
                                exact ⟨rfl, by rw [HD.out y hy, hd.out, wrap_neg (by decide) hneg]⟩
                              · have hd := Lib.hid (due_pos hneg)
                                go_wp2_with fail
                                go_meet
                                exact ⟨rfl, by rw [HD.out y hy, hd.out]⟩
                            case rest =>
                              obtain ⟨hw, rfl⟩ := hcut
                              obtain rfl := hw
                              have o1 := (VR.out.over y hy).c
                              cases hov : ov3 y with
                              | true =>
                                rw [hov] at o1
                                clear c1 hov
                                go_wp2_with fail
                                go_roundg (gk - 1)
                                case measure => omega
                                case rel => exact ⟨y + 1, by omega, by go_num, VR.out, VC.out⟩
                              | false =>
                                rw [hov] at o1
                                have hnd := AN.out y hy hov
                                have g1 : decide (d y ≤ now + stepOf (Sp s)) = false := by simp; omega
                                clear c1 hov
                                go_wp2_with fail
                                go_roundg (gk - 1)
                                case measure => omega
                                case rel => exact ⟨y + 1, by omega, by go_num, VR.out, VC.out⟩
                          · obtain rfl : i = y := by omega
                            go_wp2_with fail
                            go_roundg (p - (s + 1))
                            case measure => omega
                            case rel => exact ⟨s + 1, now + stepOf (Sp s), ov3, by omega, by go_num, rfl, by omega, by omega, VR.out, VC.out⟩
            · obtain rfl : s = p := by omega
              go_wp2_with fail
              refine (works_any _).mono ?_
              rintro e w2 ⟨rfl, H⟩
              have HW := Lib.hid H
              clear H
              go_wp2_with fail
              go_ret
              exact ⟨rfl, (YR.out.kept.below (Nat.le_refl _) fun _ f => f.elim).trans (HW.out.mono YR.out.kept.size)⟩
end Go.Proofs.Ytmlemofnakfpgaa

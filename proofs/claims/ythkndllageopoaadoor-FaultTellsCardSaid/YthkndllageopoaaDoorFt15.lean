/-
  FaultTells: Numbers of an *At that is nil; the law's first two calls.
-/
import Derived.Test.YthkndllageopoaaDoorFt14
import Derived.Deep.RegionHeld3
namespace Go.Proofs.YthkndllageopoaaDoor
open Go.RowKit Go.Shelf Go.Extern Go.Extern.Stop Go.Stop

set_option maxRecDepth 100000 in
set_option maxHeartbeats 1600000 in
theorem numbers_nilAt (w : World) (hg : ErrorType w) : Calls Tryd.prog 9 #[.iface 44 (.pointer none)] w fun e w' => e = .returned (.slice none 0 0) ∧ Kept (fun _ => False) w w' := by
  have HG := Lib.hid hg
  clear hg
  go_enter Tryd.func9, Tryd.ntmps9
  go_wp2_with fail
  refine wp_loop_rounds 1 ?_
  rw [rounds_succ]
  have T0 : Slot (w.alloc (.cells #[.pointer none] 44)) w.heap.size 0 (.pointer none) := ⟨by simp, by simp, by simp⟩
  have HT := Lib.hid T0
  have KA := Lib.hid ((Kept.refl (fun _ => False) w).alloc (.cells #[.pointer none] 44))
  clear T0
  go_wp2_with fail
  refine (findsA_at none w.heap.size _ _ HT.out (HG.out.kept KA.out fun h => h)).mono ?_
  rintro e w3 ⟨rfl, K3, T3⟩
  have t3 := T3.c
  have kk := Lib.hid (KA.out.far K3 (by rintro i rfl; exact Nat.le_refl _))
  clear K3 T3
  go_wp2_with fail
  go_ret
  exact ⟨rfl, kk.out⟩

/-- What both halves of the law hand on: the error once more wrapped, and its description. -/
def Mid (w0 wx : World) (wv mv : Value) : Prop :=
  ∃ (k x : Int) (l : List Int) (mb : Nat) (sl : Value), Chain wx k x wv l ∧ mv = .pointer (some ⟨mb, 0, none⟩) ∧ wx.cell? ⟨mb, 0, none⟩ = some (.int .i64 k) ∧ wx.cell? ⟨mb, 1, none⟩ = some (.int .i64 x) ∧ wx.cell? ⟨mb, 2, none⟩ = some sl ∧
    (∃ ao m c, sl = .slice ao m c) ∧ Reads wx sl l ∧ (k = 0 → l = []) ∧ l.length ≤ 1001 ∧ Kept (fun _ => False) w0 wx

theorem desc_ints {w : World} {ao : Option Addr} {sb so la lca : Nat} {At : Nat → Int} {k x : Int} {bo : Option Addr} {m c : Nat} (D : Desc ao la lca k x bo m c) (G : Ints w ao sb so la At) : Ints w bo sb so m At := by
  intro i hi
  by_cases hk : k = 0
  · have := (D.none hk).2.1; omega
  · obtain ⟨rfl, hm, -⟩ := D.some hk
    exact G i (by omega)

theorem from_len (At : Nat → Int) (m : Nat) : (from_ At 0 m).length = m := by simp [from_]
theorem from_at (At : Nat → Int) (m i : Nat) (h : i < (from_ At 0 m).length) : (from_ At 0 m)[i] = At i := by simp [from_]

theorem desc_reads {w : World} {ao : Option Addr} {sb so la lca : Nat} {At : Nat → Int} {k x : Int} {bo : Option Addr} {m c : Nat} (D : Desc ao la lca k x bo m c) (G : Ints w ao sb so la At) (hno : ao = none → la = 0 ∧ lca = 0) : Reads w (.slice bo m c) (from_ At 0 m) := by
  refine ⟨bo, sb, so, c, by rw [from_len], ?_, ?_⟩
  · intro hb
    by_cases hk : k = 0
    · obtain ⟨-, rfl, rfl⟩ := D.none hk
      exact ⟨by simp [from_], rfl⟩
    · obtain ⟨rfl, hm, rfl⟩ := D.some hk
      obtain ⟨rfl, rfl⟩ := hno hb
      obtain rfl : m = 0 := by omega
      exact ⟨by simp [from_], rfl⟩
  · intro i hi
    rw [from_at]
    rw [from_len] at hi
    exact desc_ints D G i hi

theorem from_all {At : Nat → Int} {m : Nat} (h : ∀ i, i < m → I64 (At i)) : ∀ n ∈ from_ At 0 m, I64 n := by
  intro n hn
  unfold from_ at hn
  obtain ⟨j, hj, rfl⟩ := List.mem_map.1 hn
  rw [List.mem_range] at hj
  exact h _ (by omega)

/-- None, or an error. -/
theorem chain_nil {w : World} {k x : Int} {v : Value} {l : List Int} (H : Chain w k x v l) (h0 : k = 0 → l = []) : (v = .nilIface ∧ k = 0 ∧ x = 0 ∧ l = []) ∨ (¬ k = 0 ∧ ∃ t u, v = .iface t u) := by
  by_cases hk : k = 0
  · left
    obtain rfl := h0 hk
    subst hk
    cases H with
    | base v h => cases h; exact ⟨rfl, rfl, rfl, rfl⟩
  · exact .inr ⟨hk, H.iface hk⟩

/-- A row of one number, just made. -/
theorem lit_own (w : World) (B : Nat) (hB : B ≤ w.heap.size) (n : Int) : (w.alloc (.cells #[.int .i64 n] 3)).ownsRow B 3 1 (.slice (some ⟨w.heap.size, 0, none⟩) 1 1) 1 [.int .i64 n] :=
  ⟨rfl, .inr ⟨w.heap.size, 1, _, rfl, hB, heap_alloc_new w _, Nat.le_refl _, by unfold maxLen; omega, by simp, by simp⟩⟩

/-- Where the law's loop stands. -/
def LoopRel (w0 wr : World) (na : Option Addr) (L nc : Nat) (g : Nat) (iv : Value) : Prop := ∃ (i : Nat) (xs : List Value), i + g = L ∧ iv = .int .i64 (i : Nat) ∧ wr.ownsRow w0.heap.size 3 1 (.slice na L nc) L xs ∧ Kept (fun _ => False) w0 wr

/-- What Wrap answers. -/
def Wrapped (w : World) (k x n : Int) (l : List Int) : Ending → World → Prop := fun e w' =>
  ∃ wv lw, e = .returned wv ∧ Chain w' k x wv lw ∧ (k = 0 → wv = .nilIface ∧ lw = []) ∧ (¬ k = 0 → lw = n :: l) ∧ Kept (fun _ => False) w w'

theorem wrap_all (k x n : Int) (v : Value) (l : List Int) (w : World) (H : Chain w k x v l) (key : (v = .nilIface ∧ k = 0 ∧ x = 0 ∧ l = []) ∨ (¬ k = 0 ∧ ∃ t u, v = .iface t u)) : Calls Tryd.prog 12 #[.int .i64 n, v] w (Wrapped w k x n l) := by
  rcases key with ⟨rfl, rfl, rfl, rfl⟩ | ⟨hk, t, u, rfl⟩
  · refine (wrap_nil n w).mono ?_
    rintro e w' ⟨rfl, K⟩
    exact ⟨_, [], rfl, .base _ .nil, fun _ => ⟨rfl, rfl⟩, fun h => absurd rfl h, K⟩
  · refine (wrap_any k x n t u l w H).mono ?_
    rintro e w' ⟨a, rfl, C, K⟩
    exact ⟨_, _, rfl, C, fun h => absurd h hk, fun _ => rfl, K⟩

/-- Four facts on a world that a region reads. -/
theorem keep4 {W w w' : World} {p q r : Addr} {x y z : Value} (h : w.cell? p = some x ∧ w.cell? q = some y ∧ w.cell? r = some z ∧ Kept (fun _ => False) W w) (K : Kept (fun _ => False) w w') :
    w'.cell? p = some x ∧ w'.cell? q = some y ∧ w'.cell? r = some z ∧ Kept (fun _ => False) W w' := ⟨still_cell K h.1, still_cell K h.2.1, still_cell K h.2.2.1, h.2.2.2.trans K⟩

theorem keep4r {W w : World} {p q r : Addr} {x y z : Value} (h : w.cell? p = some x ∧ w.cell? q = some y ∧ w.cell? r = some z ∧ Kept (fun _ => False) W w) : Kept (fun _ => False) W w := h.2.2.2

/-- Seven facts on a world that a region reads. -/
theorem keep7 {W w w' : World} {p q r p2 q2 r2 : Addr} {x y z x2 y2 z2 : Value} (h : w.cell? p = some x ∧ w.cell? q = some y ∧ w.cell? r = some z ∧ w.cell? p2 = some x2 ∧ w.cell? q2 = some y2 ∧ w.cell? r2 = some z2 ∧ Kept (fun _ => False) W w) (K : Kept (fun _ => False) w w') :
    w'.cell? p = some x ∧ w'.cell? q = some y ∧ w'.cell? r = some z ∧ w'.cell? p2 = some x2 ∧ w'.cell? q2 = some y2 ∧ w'.cell? r2 = some z2 ∧ Kept (fun _ => False) W w' :=
  ⟨still_cell K h.1, still_cell K h.2.1, still_cell K h.2.2.1, still_cell K h.2.2.2.1, still_cell K h.2.2.2.2.1, still_cell K h.2.2.2.2.2.1, h.2.2.2.2.2.2.trans K⟩
theorem keep7r {W w : World} {p q r p2 q2 r2 : Addr} {x y z x2 y2 z2 : Value} (h : w.cell? p = some x ∧ w.cell? q = some y ∧ w.cell? r = some z ∧ w.cell? p2 = some x2 ∧ w.cell? q2 = some y2 ∧ w.cell? r2 = some z2 ∧ Kept (fun _ => False) W w) : Kept (fun _ => False) W w := h.2.2.2.2.2.2

theorem keep7s {W w : World} {p q r p2 q2 r2 : Addr} {x y z x2 y2 z2 : Value} (h : w.cell? p = some x ∧ w.cell? q = some y ∧ w.cell? r = some z ∧ w.cell? p2 = some x2 ∧ w.cell? q2 = some y2 ∧ w.cell? r2 = some z2 ∧ Kept (fun _ => False) W w) : w.cell? p2 = some x2 ∧ w.cell? q2 = some y2 ∧ w.cell? r2 = some z2 ∧ Kept (fun _ => False) W w := h.2.2.2

theorem nums_len (k x : Int) (l : List Int) : (numsOf k x l).length ≤ l.length + 1 := by unfold numsOf; rw [List.length_append]; split <;> simp

set_option maxRecDepth 100000 in
set_option maxHeartbeats 6400000 in
theorem law_any (K N n : Int) (hN : I64 N) (hn : I64 n) (ao : Option Addr) (la lca sb so p o : Nat) (At : Nat → Int) (hl : la ≤ lca) (hno : ao = none → la = 0 ∧ lca = 0) (w : World) (G : Ints w ao sb so la At) (hAt : ∀ i, i < la → I64 (At i)) (P : PlainVar w p o) (hg : ErrorType w) (T : Tab w) :
    Calls Tryd.prog 3 #[.agg #[.int .i64 K, .int .i64 N, .slice ao la lca], .int .i64 n] w fun e w' => e = .returned (.bool true) ∧ Kept (fun _ => False) w w' := by
  have nn : ∀ (w : World) (t : TypeId) (u : Value), (binOp .neq 27 (.iface t u) .nilIface).run Tryd.prog w = .ok (.bool true) w := fun w t u => run_neq_iface_nil w 27 (by kernel_rfl) t u
  have HG := Lib.hid G
  have HP := Lib.hid P
  have HE := Lib.hid hg
  have HT := Lib.hid T
  have HN := Lib.hid hN
  have Hn := Lib.hid hn
  have HA := Lib.hid hAt
  clear G P hg T hN hn hAt
  go_enter Tryd.func3, Tryd.ntmps3
  go_wp2_with fail
  have KB : Kept (fun _ => False) w (w.alloc (.cells #[.int .i64 K, .int .i64 N, .slice ao la lca] 24)) := (Kept.refl _ _).alloc _
  have S0 : Slot (w.alloc (.cells #[.int .i64 K, .int .i64 N, .slice ao la lca] 24)) w.heap.size 0 (.int .i64 K) := ⟨by go_simp, by go_simp, by simp⟩
  have S1 : Slot (w.alloc (.cells #[.int .i64 K, .int .i64 N, .slice ao la lca] 24)) w.heap.size 1 (.int .i64 N) := ⟨by go_simp, by go_simp, by simp⟩
  have S2 : Slot (w.alloc (.cells #[.int .i64 K, .int .i64 N, .slice ao la lca] 24)) w.heap.size 2 (.slice ao la lca) := ⟨by go_simp, by go_simp, by simp⟩
  refine (brought_any K N ao la lca sb so At _ hl (HG.out.kept KB)).mono ?_
  rintro e w1 ⟨k, x, bo, m, c, rfl, hD, hxe, K1⟩
  obtain ⟨c0, f0, l0⟩ := S0.kept K1 id
  obtain ⟨c1, f1, l1⟩ := S1.kept K1 id
  obtain ⟨c2, f2, l2⟩ := S2.kept K1 id
  have HK1 := Lib.hid (KB.trans K1)
  have HD := Lib.hid hD
  have HX := Lib.hid hxe
  clear KB S0 S1 S2 K1 hD hxe
  go_wp2_with fail
  have K2 : Kept (fun _ => False) w (((w1.setCell ⟨w.heap.size, 0, none⟩ (.int .i64 k)).setCell ⟨w.heap.size, 1, none⟩ (.int .i64 x)).setCell ⟨w.heap.size, 2, none⟩ (.slice bo m c)) := ((HK1.out.setCell ⟨w.heap.size, 0, none⟩ (.inr (Nat.le_refl _)) _).setCell ⟨w.heap.size, 1, none⟩ (.inr (Nat.le_refl _)) _).setCell ⟨w.heap.size, 2, none⟩ (.inr (Nat.le_refl _)) _
  have b0 : (((w1.setCell ⟨w.heap.size, 0, none⟩ (.int .i64 k)).setCell ⟨w.heap.size, 1, none⟩ (.int .i64 x)).setCell ⟨w.heap.size, 2, none⟩ (.slice bo m c)).cell? ⟨w.heap.size, 0, none⟩ = some (.int .i64 k) := by go_simp
  have b1 : (((w1.setCell ⟨w.heap.size, 0, none⟩ (.int .i64 k)).setCell ⟨w.heap.size, 1, none⟩ (.int .i64 x)).setCell ⟨w.heap.size, 2, none⟩ (.slice bo m c)).cell? ⟨w.heap.size, 1, none⟩ = some (.int .i64 x) := by go_simp
  have b2 : (((w1.setCell ⟨w.heap.size, 0, none⟩ (.int .i64 k)).setCell ⟨w.heap.size, 1, none⟩ (.int .i64 x)).setCell ⟨w.heap.size, 2, none⟩ (.slice bo m c)).cell? ⟨w.heap.size, 2, none⟩ = some (.slice bo m c) := by go_simp
  refine (make_any k x ao la lca sb so p o bo m c At _ HD.out ((desc_ints HD.out HG.out).kept K2) (HP.out.kept K2)).mono ?_
  rintro e w3 ⟨v, rfl, hC, K3⟩
  have HC := Lib.hid hC
  have q0 := still_cell K3 b0
  have q1 := still_cell K3 b1
  have q2 := still_cell K3 b2
  have HK3 := Lib.hid (K2.trans K3)
  have HRD := Lib.hid (((desc_reads HD.out HG.out hno).kept K2).kept K3)
  have HL := Lib.hid (show (from_ At 0 m).length ≤ 1000 by rw [from_len]; exact HD.out.most)
  have HAL := Lib.hid (from_all (At := At) (m := m) fun i hi => by
    by_cases hk : k = 0
    · have := (HD.out.none hk).2.1; omega
    · exact HA.out i (by have := (HD.out.some hk).2.1; omega))
  have H0 : Hid (k = 0 → from_ At 0 m = []) := by
    show _ → _
    intro hk
    rw [(HD.out.none hk).2.1]; simp [from_]
  have HX2 : Hid (I64 x) := by
    show I64 x
    rcases HX.out with h | h
    · rw [h]; exact HN.out
    · rw [h]; unfold I64; omega
  obtain ⟨l, hlq⟩ : ∃ l, from_ At 0 m = l := ⟨_, rfl⟩
  rw [hlq] at HC HRD HL HAL H0
  have KLO := Lib.hid HD.out.lo
  have KHI := Lib.hid HD.out.hi
  clear K2 K3 b0 b1 b2 hC HX hlq f0 f1 f2 l0 l1 l2 c0 c1 c2 HK1
  go_upto_region 3 with fail
  have key : (v = .nilIface ∧ k = 0 ∧ x = 0 ∧ l = []) ∨ (¬ k = 0 ∧ ∃ t u, v = .iface t u) := chain_nil HC.out H0.out
  have HKEY := Lib.hid key
  clear key
  go_cut [43] (fun r wx => r = .bool false ∧ wx.cell? ⟨w.heap.size, 0, none⟩ = some (.int .i64 k) ∧ wx.cell? ⟨w.heap.size, 1, none⟩ = some (.int .i64 x) ∧ wx.cell? ⟨w.heap.size, 2, none⟩ = some (.slice bo m c) ∧ Kept (fun _ => False) w3 wx)
  case first =>
    rcases HKEY.out with ⟨hv, -⟩ | ⟨hk, t, u, rfl⟩
    · have n0 : ∀ w : World, (binOp .neq 27 v .nilIface).run Tryd.prog w = .ok (.bool false) w := fun w => by rw [hv]; kernel_rfl
      have g0 : ∀ w : World, (eqGuard .neq 27 (.tmp 34) (.const .nilIface) v .nilIface).run Tryd.prog w = .ok () w := fun w => by rw [hv]; kernel_rfl
      clear hv
      refine wp_region_held_drew (S := (fun w' => w'.cell? ⟨w.heap.size, 0, none⟩ = some (.int .i64 k) ∧ w'.cell? ⟨w.heap.size, 1, none⟩ = some (.int .i64 x) ∧ w'.cell? ⟨w.heap.size, 2, none⟩ = some (.slice bo m c) ∧ Kept (fun _ => False) w3 w')) (by kernel_rfl) ?_ (fun hHeld => ?_)
      · exact ⟨q0, q1, q2, (Kept.refl _ _).drew⟩
      refine wpAnyH_take (i := 0) (oi := { dst := some 20, op := Op.move (Operand.tmp 5), type := 27, pos := "law.go:120", after := #[], guard := none }) (v := ?_) rfl (by kernel_rfl) (by kernel_rfl) (by kernel_rfl) (fun _ _ _ h => h) (Or.inl ⟨by rfl, ?_⟩) hHeld ?_
      rotate_left
      · (intro w' hSw; (try dsimp only at hSw); go_simp) <;> with_reducible rfl
      try simp only [Act.put, List.setIfInBounds_toArray, List.set_cons_zero, List.set_cons_succ]
      refine wpAnyH_take (i := 2) (oi := { dst := some 22, op := Op.load 24 (Operand.tmp 2), type := 24, pos := "law.go:120", after := #[], guard := none }) (v := ?_) rfl (by kernel_rfl) (by kernel_rfl) (by kernel_rfl) (fun _ _ _ h => h) (Or.inl ⟨by rfl, ?_⟩) hHeld ?_
      rotate_left
      · (intro w' hSw; (try dsimp only at hSw); go_simp) <;> with_reducible rfl
      try simp only [Act.put, List.setIfInBounds_toArray, List.set_cons_zero, List.set_cons_succ]
      refine wpAnyH_ready (rs := [1]) (by kernel_rfl) (by simp) ?_
      refine AllReadyH.cons (o := { dst := some 21, op := Op.call { callee := Callee.value (Operand.func 6), args := #[Operand.tmp 20], argTypes := #[27] }, type := 29, pos := "law.go:120", after := #[{ on := 0, ground := Ground.data }], guard := none }) rfl (fun KK hKK => ?_) AllReadyH.nil
      go_simp
      refine (class_chain k x l v _ (HC.out.kept hHeld.2.2.2) (HE.out.kept (HK3.out.trans hHeld.2.2.2) id)).mono ?_
      rintro e w' ⟨rfl, K⟩
      go_wp2_with fail
      refine hKK.out _ _ ?_ (fun hHeld2 => ?_)
      · exact keep4 hHeld K
      clear hKK KK hHeld K
      have hHeld := hHeld2
      clear hHeld2
      try simp only [Act.put, List.setIfInBounds_toArray, List.set_cons_zero, List.set_cons_succ]
      refine wpAnyH_ready (rs := [3]) (by kernel_rfl) (by simp) ?_
      refine AllReadyH.cons (o := { dst := some 23, op := Op.call { callee := Callee.value (Operand.func 7), args := #[Operand.tmp 22], argTypes := #[24] }, type := 29, pos := "law.go:120", after := #[{ on := 2, ground := Ground.data }, { on := 1, ground := Ground.chain }], guard := none }) rfl (fun KK hKK => ?_) AllReadyH.nil
      go_simp
      refine (rclass_any k x _ bo m c rfl KLO.out KHI.out _).mono ?_
      rintro e w' ⟨rfl, K⟩
      go_wp2_with fail
      refine hKK.out _ _ ?_ (fun hHeld2 => ?_)
      · exact keep4 hHeld K
      clear hKK KK hHeld K
      have hHeld := hHeld2
      clear hHeld2
      try simp only [Act.put, List.setIfInBounds_toArray, List.set_cons_zero, List.set_cons_succ]
      refine wpAnyH_take (i := 4) (oi := { dst := some 24, op := Op.binOp BinOp.neq 29 (Operand.tmp 21) (Operand.tmp 23) 29, type := 4, pos := "law.go:120", after := #[{ on := 1, ground := Ground.data }, { on := 3, ground := Ground.data }], guard := none }) (v := ?_) rfl (by kernel_rfl) (by kernel_rfl) (by kernel_rfl) (fun _ _ _ h => h) (Or.inl ⟨by rfl, ?_⟩) hHeld ?_
      rotate_left
      · (intro w' hSw; (try dsimp only at hSw); go_simp) <;> with_reducible rfl
      try simp only [Act.put, List.setIfInBounds_toArray, List.set_cons_zero, List.set_cons_succ]
      refine wpAnyH_take (i := 5) (oi := { dst := some 25, op := Op.move (Operand.tmp 24), type := 4, pos := "law.go:120", after := #[{ on := 4, ground := Ground.data }, { on := 3, ground := Ground.chain }], guard := none }) (v := ?_) rfl (by kernel_rfl) (by kernel_rfl) (by kernel_rfl) (fun _ _ _ h => h) (Or.inl ⟨by rfl, ?_⟩) hHeld ?_
      rotate_left
      · (intro w' hSw; (try dsimp only at hSw); go_simp) <;> with_reducible rfl
      try simp only [Act.put, List.setIfInBounds_toArray, List.set_cons_zero, List.set_cons_succ]
      refine wpAnyH_take (i := 6) (oi := { dst := some 26, op := Op.move (Operand.tmp 5), type := 27, pos := "law.go:120", after := #[{ on := 5, ground := Ground.guard }], guard := some (5, false) }) (v := ?_) rfl (by kernel_rfl) (by kernel_rfl) (by kernel_rfl) (fun _ _ _ h => h) (Or.inl ⟨by rfl, ?_⟩) hHeld ?_
      rotate_left
      · (intro w' hSw; (try dsimp only at hSw); go_simp) <;> with_reducible rfl
      try simp only [Act.put, List.setIfInBounds_toArray, List.set_cons_zero, List.set_cons_succ]
      refine wpAnyH_take (i := 8) (oi := { dst := some 28, op := Op.load 24 (Operand.tmp 2), type := 24, pos := "law.go:120", after := #[{ on := 5, ground := Ground.guard }], guard := some (5, false) }) (v := ?_) rfl (by kernel_rfl) (by kernel_rfl) (by kernel_rfl) (fun _ _ _ h => h) (Or.inl ⟨by rfl, ?_⟩) hHeld ?_
      rotate_left
      · (intro w' hSw; (try dsimp only at hSw); go_simp) <;> with_reducible rfl
      try simp only [Act.put, List.setIfInBounds_toArray, List.set_cons_zero, List.set_cons_succ]
      refine wpAnyH_ready (rs := [7]) (by kernel_rfl) (by simp) ?_
      refine AllReadyH.cons (o := { dst := some 27, op := Op.call { callee := Callee.value (Operand.func 9), args := #[Operand.tmp 26], argTypes := #[27] }, type := 22, pos := "law.go:120", after := #[{ on := 6, ground := Ground.data }, { on := 5, ground := Ground.chain }, { on := 5, ground := Ground.guard }], guard := some (5, false) }) rfl (fun KK hKK => ?_) AllReadyH.nil
      go_simp
      refine (numbers_chain k x l (Nat.le_trans HL.out (by decide)) v _ (HC.out.kept hHeld.2.2.2) (HE.out.kept (HK3.out.trans hHeld.2.2.2) id)).mono ?_
      rintro e w' ⟨v1, rfl, I1, K⟩
      have R1 := Lib.hid I1.reads
      clear I1
      go_wp2_with fail
      refine hKK.out _ _ ?_ (fun hHeld2 => ?_)
      · exact keep4 hHeld K
      clear hKK KK hHeld K
      have hHeld := hHeld2
      clear hHeld2
      try simp only [Act.put, List.setIfInBounds_toArray, List.set_cons_zero, List.set_cons_succ]
      refine wpAnyH_ready (rs := [9]) (by kernel_rfl) (by simp) ?_
      refine AllReadyH.cons (o := { dst := some 29, op := Op.call { callee := Callee.value (Operand.func 10), args := #[Operand.tmp 28], argTypes := #[24] }, type := 22, pos := "law.go:120", after := #[{ on := 8, ground := Ground.data }, { on := 7, ground := Ground.chain }, { on := 5, ground := Ground.guard }], guard := some (5, false) }) rfl (fun KK hKK => ?_) AllReadyH.nil
      go_simp
      refine (rnumbers_any k x _ l (Nat.le_trans HL.out (by decide)) _ (HRD.out.kept hHeld.2.2.2) H0.out).mono ?_
      rintro e w' ⟨v2, rfl, I2, K⟩
      have R2 := Lib.hid (And.intro (R1.out.kept K) I2.reads)
      clear I2
      go_wp2_with fail
      refine hKK.out _ _ ?_ (fun hHeld2 => ?_)
      · exact keep4 hHeld K
      clear hKK KK hHeld K
      have hHeld := hHeld2
      clear hHeld2
      try simp only [Act.put, List.setIfInBounds_toArray, List.set_cons_zero, List.set_cons_succ]
      refine wpAnyH_ready (rs := [10]) (by kernel_rfl) (by simp) ?_
      refine AllReadyH.cons (o := { dst := some 30, op := Op.call { callee := Callee.value (Operand.func 8), args := #[Operand.tmp 27, Operand.tmp 29], argTypes := #[22, 22] }, type := 4, pos := "law.go:120", after := #[{ on := 7, ground := Ground.data }, { on := 9, ground := Ground.data }, { on := 9, ground := Ground.chain }, { on := 5, ground := Ground.guard }], guard := some (5, false) }) rfl (fun KK hKK => ?_) AllReadyH.nil
      go_simp
      refine (sameInts_yes _ _ _ (Nat.le_trans (nums_len k x l) (Nat.le_trans (Nat.succ_le_succ HL.out) (by decide))) _ R2.out.1 R2.out.2).mono ?_
      rintro e w' ⟨rfl, K⟩
      go_wp2_with fail
      refine hKK.out _ _ ?_ (fun hHeld2 => ?_)
      · exact keep4 hHeld K
      clear hKK KK hHeld K
      have hHeld := hHeld2
      clear hHeld2
      try simp only [Act.put, List.setIfInBounds_toArray, List.set_cons_zero, List.set_cons_succ]
      refine wpAnyH_take (i := 11) (oi := { dst := some 31, op := Op.unOp UnOp.not 4 (Operand.tmp 30), type := 4, pos := "law.go:120", after := #[{ on := 10, ground := Ground.data }, { on := 5, ground := Ground.guard }], guard := some (5, false) }) (v := ?_) rfl (by kernel_rfl) (by kernel_rfl) (by kernel_rfl) (fun _ _ _ h => h) (Or.inl ⟨by rfl, ?_⟩) hHeld ?_
      rotate_left
      · (intro w' hSw; (try dsimp only at hSw); go_simp) <;> with_reducible rfl
      try simp only [Act.put, List.setIfInBounds_toArray, List.set_cons_zero, List.set_cons_succ]
      refine wpAnyH_take (i := 12) (oi := { dst := some 32, op := Op.pick (Operand.tmp 25) (Operand.const (Value.bool true)) (Operand.tmp 31), type := 4, pos := "law.go:120", after := #[{ on := 5, ground := Ground.data }, { on := 11, ground := Ground.data }], guard := none }) (v := ?_) rfl (by kernel_rfl) (by kernel_rfl) (by kernel_rfl) (fun _ _ _ h => h) (Or.inl ⟨by rfl, ?_⟩) hHeld ?_
      rotate_left
      · (intro w' hSw; (try dsimp only at hSw); go_simp) <;> with_reducible rfl
      try simp only [Act.put, List.setIfInBounds_toArray, List.set_cons_zero, List.set_cons_succ]
      refine wpAnyH_take (i := 13) (oi := { dst := some 33, op := Op.move (Operand.tmp 32), type := 4, pos := "law.go:120", after := #[{ on := 12, ground := Ground.data }, { on := 10, ground := Ground.chain }], guard := none }) (v := ?_) rfl (by kernel_rfl) (by kernel_rfl) (by kernel_rfl) (fun _ _ _ h => h) (Or.inl ⟨by rfl, ?_⟩) hHeld ?_
      rotate_left
      · (intro w' hSw; (try dsimp only at hSw); go_simp) <;> with_reducible rfl
      try simp only [Act.put, List.setIfInBounds_toArray, List.set_cons_zero, List.set_cons_succ]
      refine wpAnyH_take (i := 14) (oi := { dst := some 34, op := Op.move (Operand.tmp 5), type := 27, pos := "law.go:120", after := #[{ on := 13, ground := Ground.guard }], guard := some (13, false) }) (v := ?_) rfl (by kernel_rfl) (by kernel_rfl) (by kernel_rfl) (fun _ _ _ h => h) (Or.inl ⟨by rfl, ?_⟩) hHeld ?_
      rotate_left
      · (intro w' hSw; (try dsimp only at hSw); go_simp) <;> with_reducible rfl
      try simp only [Act.put, List.setIfInBounds_toArray, List.set_cons_zero, List.set_cons_succ]
      refine wpAnyH_take (i := 15) (oi := { dst := some 35, op := Op.binOp BinOp.neq 27 (Operand.tmp 34) (Operand.const Value.nilIface) 27, type := 4, pos := "law.go:120", after := #[{ on := 14, ground := Ground.data }, { on := 13, ground := Ground.guard }], guard := some (13, false) }) (v := ?_) rfl (by kernel_rfl) (by kernel_rfl) (by kernel_rfl) (fun _ _ _ h => h) (Or.inl ⟨by rfl, ?_⟩) hHeld ?_
      rotate_left
      · (intro w' hSw; (try dsimp only at hSw); go_simp) <;> with_reducible rfl
      try simp only [Act.put, List.setIfInBounds_toArray, List.set_cons_zero, List.set_cons_succ]
      refine wpAnyH_take (i := 16) (oi := { dst := some 36, op := Op.move (Operand.tmp 35), type := 4, pos := "law.go:120", after := #[{ on := 15, ground := Ground.data }, { on := 13, ground := Ground.chain }, { on := 13, ground := Ground.guard }], guard := some (13, false) }) (v := ?_) rfl (by kernel_rfl) (by kernel_rfl) (by kernel_rfl) (fun _ _ _ h => h) (Or.inl ⟨by rfl, ?_⟩) hHeld ?_
      rotate_left
      · (intro w' hSw; (try dsimp only at hSw); go_simp) <;> with_reducible rfl
      try simp only [Act.put, List.setIfInBounds_toArray, List.set_cons_zero, List.set_cons_succ]
      refine wpAnyH_take (i := 17) (oi := { dst := some 37, op := Op.move (Operand.tmp 5), type := 27, pos := "law.go:120", after := #[{ on := 16, ground := Ground.guard }], guard := some (16, true) }) (v := undef) rfl (by kernel_rfl) (by kernel_rfl) (by kernel_rfl) (fun _ _ _ h => h) (Or.inr ⟨by rfl, rfl⟩) hHeld ?_
      try simp only [Act.put, List.setIfInBounds_toArray, List.set_cons_zero, List.set_cons_succ]
      refine wpAnyH_take (i := 19) (oi := { dst := some 39, op := Op.load 24 (Operand.tmp 2), type := 24, pos := "law.go:120", after := #[{ on := 16, ground := Ground.guard }], guard := some (16, true) }) (v := undef) rfl (by kernel_rfl) (by kernel_rfl) (by kernel_rfl) (fun _ _ _ h => h) (Or.inr ⟨by rfl, rfl⟩) hHeld ?_
      try simp only [Act.put, List.setIfInBounds_toArray, List.set_cons_zero, List.set_cons_succ]
      refine wpAnyH_take (i := 18) (oi := { dst := some 38, op := Op.call { callee := Callee.invoke (Operand.tmp 37) "Error", args := #[], argTypes := #[] }, type := 9, pos := "law.go:120", after := #[{ on := 17, ground := Ground.data }, { on := 16, ground := Ground.chain }, { on := 16, ground := Ground.guard }], guard := some (16, true) }) (v := undef) rfl (by kernel_rfl) (by kernel_rfl) (by kernel_rfl) (fun _ _ _ h => h) (Or.inr ⟨by rfl, rfl⟩) hHeld ?_
      try simp only [Act.put, List.setIfInBounds_toArray, List.set_cons_zero, List.set_cons_succ]
      refine wpAnyH_take (i := 20) (oi := { dst := some 40, op := Op.call { callee := Callee.value (Operand.func 11), args := #[Operand.tmp 39], argTypes := #[24] }, type := 9, pos := "law.go:120", after := #[{ on := 19, ground := Ground.data }, { on := 18, ground := Ground.chain }, { on := 16, ground := Ground.guard }], guard := some (16, true) }) (v := undef) rfl (by kernel_rfl) (by kernel_rfl) (by kernel_rfl) (fun _ _ _ h => h) (Or.inr ⟨by rfl, rfl⟩) hHeld ?_
      try simp only [Act.put, List.setIfInBounds_toArray, List.set_cons_zero, List.set_cons_succ]
      refine wpAnyH_take (i := 21) (oi := { dst := some 41, op := Op.binOp BinOp.neq 9 (Operand.tmp 38) (Operand.tmp 40) 9, type := 4, pos := "law.go:120", after := #[{ on := 18, ground := Ground.data }, { on := 20, ground := Ground.data }, { on := 16, ground := Ground.guard }], guard := some (16, true) }) (v := undef) rfl (by kernel_rfl) (by kernel_rfl) (by kernel_rfl) (fun _ _ _ h => h) (Or.inr ⟨by rfl, rfl⟩) hHeld ?_
      try simp only [Act.put, List.setIfInBounds_toArray, List.set_cons_zero, List.set_cons_succ]
      refine wpAnyH_take (i := 22) (oi := { dst := some 42, op := Op.pick (Operand.tmp 36) (Operand.tmp 41) (Operand.const (Value.bool false)), type := 4, pos := "law.go:120", after := #[{ on := 16, ground := Ground.data }, { on := 21, ground := Ground.data }, { on := 13, ground := Ground.guard }], guard := some (13, false) }) (v := ?_) rfl (by kernel_rfl) (by kernel_rfl) (by kernel_rfl) (fun _ _ _ h => h) (Or.inl ⟨by rfl, ?_⟩) hHeld ?_
      rotate_left
      · (intro w' hSw; (try dsimp only at hSw); go_simp) <;> with_reducible rfl
      try simp only [Act.put, List.setIfInBounds_toArray, List.set_cons_zero, List.set_cons_succ]
      refine wpAnyH_take (i := 23) (oi := { dst := some 43, op := Op.pick (Operand.tmp 33) (Operand.const (Value.bool true)) (Operand.tmp 42), type := 4, pos := "law.go:120", after := #[{ on := 13, ground := Ground.data }, { on := 22, ground := Ground.data }], guard := none }) (v := ?_) rfl (by kernel_rfl) (by kernel_rfl) (by kernel_rfl) (fun _ _ _ h => h) (Or.inl ⟨by rfl, ?_⟩) hHeld ?_
      rotate_left
      · (intro w' hSw; (try dsimp only at hSw); go_simp) <;> with_reducible rfl
      try simp only [Act.put, List.setIfInBounds_toArray, List.set_cons_zero, List.set_cons_succ]
      refine wpAnyH_done (by kernel_rfl) ?_ _
      try go_wp2_with fail
      go_meet
      exact ⟨rfl, hHeld⟩

    · have hErr := Lib.hid (err_parts k x HX2.out t u l (Nat.le_trans HL.out (by decide)) HAL.out w3 (HT.out.kept HK3.out) HC.out hk)
      obtain ⟨f, hf⟩ := hErr.out
      have hErr := Lib.hid hf
      have m1 := hf.1
      have m2 := hf.2.1
      clear hf
      go_region_held3 (fun w' => w'.cell? ⟨w.heap.size, 0, none⟩ = some (.int .i64 k) ∧ w'.cell? ⟨w.heap.size, 1, none⟩ = some (.int .i64 x) ∧ w'.cell? ⟨w.heap.size, 2, none⟩ = some (.slice bo m c) ∧ Kept (fun _ => False) w3 w') (first | assumption | exact keep4 (by assumption) (by assumption) | exact ⟨q0, q1, q2, (Kept.refl _ _).drew⟩)
        (first
          | (go_at_call 6; refine (class_chain _ _ _ _ _ (HC.out.kept (by first | assumption | exact keep4r (by assumption))) (HE.out.kept (HK3.out.trans (by first | assumption | exact keep4r (by assumption))) id)).mono ?_; rintro e w' ⟨rfl, K⟩)
          | (go_at_call 7; refine (rclass_any _ _ _ bo m c rfl KLO.out KHI.out _).mono ?_; rintro e w' ⟨rfl, K⟩)
          | (go_at_call 9; refine (numbers_chain _ _ _ (Nat.le_trans HL.out (by decide)) _ _ (HC.out.kept (by first | assumption | exact keep4r (by assumption))) (HE.out.kept (HK3.out.trans (by first | assumption | exact keep4r (by assumption))) id)).mono ?_; rintro e w' ⟨v1, rfl, I1, K⟩; have R1 := Lib.hid I1.reads; clear I1)
          | (go_at_call 10; (refine (rnumbers_any _ _ _ _ (Nat.le_trans HL.out (by decide)) _ (HRD.out.kept (by first | assumption | exact keep4r (by assumption))) H0.out).mono ?_; rintro e w' ⟨v2, rfl, I2, K⟩; have R2 := Lib.hid (And.intro (R1.out.kept K) I2.reads); clear I2))
          | (go_at_call 8; (refine (sameInts_yes _ _ _ (Nat.le_trans (nums_len _ _ _) (Nat.le_trans (Nat.succ_le_succ HL.out) (by decide))) _ R2.out.1 R2.out.2).mono ?_; rintro e w' ⟨rfl, K⟩))
          | (go_simp; (refine (hErr.out.2.2 _ (by first | assumption | exact keep4r (by assumption))).mono ?_; rintro e w' ⟨rfl, K⟩))
          | (go_at_call 11; refine (rText_any _ _ HX2.out _ _ (Nat.le_trans HL.out (by decide)) HAL.out (fun h => absurd h hk) KLO.out KHI.out _ (HRD.out.kept (by first | assumption | exact keep4r (by assumption))) (HT.out.kept (HK3.out.trans (by first | assumption | exact keep4r (by assumption))))).mono ?_; rintro e w' ⟨rfl, K⟩))
      all_goals
        try go_wp2_with fail
        go_meet
        refine ⟨rfl, ?_⟩
        assumption
  case rest =>
    obtain ⟨rfl, q0, q1, q2, KC⟩ := hcut
    have HC := Lib.hid (HC.out.kept KC)
    have HRD := Lib.hid (HRD.out.kept KC)
    have HK3 := Lib.hid (HK3.out.trans KC)
    clear KC
    go_wp2_with fail
    refine (wrap_all k x n v l _ HC.out HKEY.out).mono ?_
    rintro e w4 ⟨wv, lw, rfl, hCw, hz, hnz, K4⟩
    have q0 := still_cell K4 q0
    have q1 := still_cell K4 q1
    have q2 := still_cell K4 q2
    have HC4 := Lib.hid (HC.out.kept K4)
    have HW4 := Lib.hid hCw
    have HRD4 := Lib.hid (HRD.out.kept K4)
    have HK4 := Lib.hid (HK3.out.trans K4)
    have HZ := Lib.hid hz
    have HNZ := Lib.hid hnz
    clear K4 HC HRD HK3 hCw hz hnz
    obtain ⟨b, hb1, hb2, hbk⟩ : ∃ b : Bool, (∀ w : World, (binOp .neq 27 v .nilIface).run Tryd.prog w = .ok (.bool b) w) ∧ (∀ w : World, (eqGuard .neq 27 (.tmp 48) (.const .nilIface) v .nilIface).run Tryd.prog w = .ok () w) ∧ (b = true ↔ ¬ k = 0) := by
      rcases HKEY.out with ⟨rfl, rfl, -, -⟩ | ⟨hk, t, u, rfl⟩
      · exact ⟨false, fun w => by kernel_rfl, fun w => by kernel_rfl, by simp⟩
      · exact ⟨true, fun w => nn w t u, fun w => by go_simp, by simp [hk]⟩
    have HBK := Lib.hid hbk
    clear hbk
    obtain ⟨i0, hi, hz0, hz1, hz2⟩ := info_parts Tryd.infoInt
    go_upto_if 49 with fail
    go_cut [49] (fun _ wx => ∃ sl, wx.cell? ⟨w.heap.size, 0, none⟩ = some (.int .i64 k) ∧ wx.cell? ⟨w.heap.size, 1, none⟩ = some (.int .i64 x) ∧ wx.cell? ⟨w.heap.size, 2, none⟩ = some (.slice bo m c) ∧
      wx.cell? ⟨w4.heap.size, 0, none⟩ = some (.int .i64 k) ∧ wx.cell? ⟨w4.heap.size, 1, none⟩ = some (.int .i64 x) ∧ wx.cell? ⟨w4.heap.size, 2, none⟩ = some sl ∧ Reads wx sl lw ∧ Kept (fun _ => False) w4 wx)
    case first =>
      cases b with
      | false =>
        have hk : k = 0 := by
          have h := HBK.out
          simpa using h
        have hlw := (HZ.out hk).2
        have hlq : l = [] := H0.out hk
        have KA : Kept (fun _ => False) w4 (w4.alloc (.cells #[.int .i64 k, .int .i64 x, .slice bo m c] 24)) := (Kept.refl _ _).alloc _
        have RR : Reads (w4.alloc (.cells #[.int .i64 k, .int .i64 x, .slice bo m c] 24)) (.slice bo m c) lw := by
          rw [hlw, ← hlq]; exact HRD4.out.kept KA
        have HRR := Lib.hid RR
        clear RR hk hlw hlq KA
        go_wp2_with fail
        go_meet
        exact ⟨_, still_cell ((Kept.refl _ _).alloc _) q0, still_cell ((Kept.refl _ _).alloc _) q1, still_cell ((Kept.refl _ _).alloc _) q2, by go_simp, by go_simp, by go_simp, HRR.out, (Kept.refl _ _).alloc _⟩
      | true =>
        have hk : ¬ k = 0 := HBK.out.1 rfl
        have hlw := Lib.hid (HNZ.out hk)
        have KA : Kept (fun _ => False) w4 ((w4.alloc (.cells #[.int .i64 k, .int .i64 x, .slice bo m c] 24)).alloc (.cells #[.int .i64 n] 3)) := ((Kept.refl _ _).alloc _).alloc _
        have hlo := lit_own (w4.alloc (.cells #[.int .i64 k, .int .i64 x, .slice bo m c] 24)) (w4.heap.size + 1) (by simp) n
        rw [show (w4.alloc (.cells #[.int .i64 k, .int .i64 x, .slice bo m c] 24)).heap.size = w4.heap.size + 1 by simp] at hlo
        have p0 := still_cell KA q0
        have p1 := still_cell KA q1
        have p2 := still_cell KA q2
        have M0 : Slot ((w4.alloc (.cells #[.int .i64 k, .int .i64 x, .slice bo m c] 24)).alloc (.cells #[.int .i64 n] 3)) w4.heap.size 0 (.int .i64 k) := ⟨by go_simp, by go_simp, by simp; omega⟩
        have M1 : Slot ((w4.alloc (.cells #[.int .i64 k, .int .i64 x, .slice bo m c] 24)).alloc (.cells #[.int .i64 n] 3)) w4.heap.size 1 (.int .i64 x) := ⟨by go_simp, by go_simp, by simp; omega⟩
        have M2 : Slot ((w4.alloc (.cells #[.int .i64 k, .int .i64 x, .slice bo m c] 24)).alloc (.cells #[.int .i64 n] 3)) w4.heap.size 2 (.slice bo m c) := ⟨by go_simp, by go_simp, by simp; omega⟩
        obtain ⟨W, hW⟩ : ∃ W, (w4.alloc (.cells #[.int .i64 k, .int .i64 x, .slice bo m c] 24)).alloc (.cells #[.int .i64 n] 3) = W := ⟨_, rfl⟩
        have HR5 := Lib.hid (HRD4.out.kept KA)
        have HKA := Lib.hid KA
        have HLO := Lib.hid hlo
        clear hlo KA hW W
        obtain ⟨bo2, sb2, so2, c2, hv, hnone, hcell⟩ := HR5.out
        cases bo with
        | none =>
          obtain ⟨rfl, rfl, rfl⟩ : none = bo2 ∧ m = l.length ∧ c = c2 := by cases hv; exact ⟨rfl, rfl, rfl⟩
          obtain ⟨rfl, rfl⟩ := hnone rfl
          obtain ⟨e0, e1, e2⟩ := M2
          have HM0 := Lib.hid M0
          have HM1 := Lib.hid M1
          have HM2 : Hid (Slot ((w4.alloc (.cells #[.int .i64 k, .int .i64 x, .slice none 0 0] 24)).alloc (.cells #[.int .i64 n] 3)) w4.heap.size 2 (.slice none 0 0)) := ⟨e0, e1, e2⟩
          have z2 : ((w4.alloc (.cells #[.int .i64 k, .int .i64 x, .slice none 0 0] 24)).alloc (.cells #[.int .i64 n] 3)).cell? ⟨w.heap.size, 2, none⟩ = some (.slice none 0 0) := p2
          have z3 : w4.cell? ⟨w.heap.size, 2, none⟩ = some (.slice none 0 0) := q2
          clear M0 M1 hcell hnone hv p2 q2
          go_wp2_with (at_builtin; (refine wpList_append_own_none rfl _ _ 22 rfl (w4.heap.size + 1) 3 i0 1 Tryd.underlying22 hi _ 1 [.int .i64 n] rfl HLO.out rfl ?_))
          go_meet
          have KS : Kept (fun _ => False) w4 ((w4.alloc (.cells #[.int .i64 k, .int .i64 x, .slice (some ⟨w4.heap.size + 1, 0, none⟩) 1 1] 24)).alloc (.cells #[.int .i64 n] 3)) := ((Kept.refl _ _).alloc _).alloc _
          have RW := lit_own (w4.alloc (.cells #[.int .i64 k, .int .i64 x, .slice (some ⟨w4.heap.size + 1, 0, none⟩) 1 1] 24)) (w4.heap.size + 1) (by simp) n
          rw [show (w4.alloc (.cells #[.int .i64 k, .int .i64 x, .slice (some ⟨w4.heap.size + 1, 0, none⟩) 1 1] 24)).heap.size = w4.heap.size + 1 by simp] at RW
          refine ⟨.slice (some ⟨w4.heap.size + 1, 0, none⟩) 1 1, still_cell KS q0, still_cell KS q1, still_cell KS z3, by go_simp, by go_simp, by go_simp, ?_, KS⟩
          rw [hlw.out]
          exact IntsRow.reads (B := w4.heap.size + 1) (l := [n]) RW
        | some ad =>
          obtain ⟨rfl, rfl, rfl⟩ : some ad = bo2 ∧ m = l.length ∧ c = c2 := by cases hv; exact ⟨rfl, rfl, rfl⟩
          have hlL := HL.out
          have hnews : ∀ j u, (intsOf l)[j]? = some u → ((w4.alloc (.cells #[.int .i64 k, .int .i64 x, .slice (some ad) l.length c] 24)).alloc (.cells #[.int .i64 n] 3)).cell? (ad.add j) = some u := by
            intro j u hu
            obtain ⟨hj, rfl⟩ := intsOf_get _ _ _ hu
            obtain ⟨e1, e2⟩ := hcell j hj
            obtain rfl := Option.some.inj e1
            rw [add_none]; exact e2
          have hone : ∀ u ∈ intsOf l, u.oneCell' = true := by
            intro u hu
            obtain ⟨a, _, rfl⟩ := List.mem_map.1 hu
            rfl
          clear hcell hnone hv
          go_wp2_with (at_builtin; (refine wpList_append_own _ rfl _ _ 22 rfl (w4.heap.size + 1) 3 i0 (.int .i64 0) 1 8 Tryd.underlying22 hi hz0 hz1 hz2 rfl (by decide) _ _ _ rfl HLO.out ad l.length c (intsOf l) rfl (by simp [intsOf]) hnews hone (by unfold maxLen; omega) (by omega) (by simp) ?_))
          intro v5 w5 own5 grown5 _
          obtain ⟨g5, cap5, rfl, hg5, -⟩ := own5.form (by omega)
          have KG := kept_grown grown5
          have N0 := M0.kept KG (by simp [Value.ownBlock])
          have N1 := M1.kept KG (by simp [Value.ownBlock])
          have N2 := M2.kept KG (by simp [Value.ownBlock])
          obtain ⟨f0, f1, f2⟩ := N2
          have HN2 : Hid (Slot w5 w4.heap.size 2 (.slice (some ad) l.length c)) := ⟨f0, f1, f2⟩
          have HN0 := Lib.hid N0
          have HN1 := Lib.hid N1
          have HKG := Lib.hid (HKA.out.far KG (by intro i h; simp [Value.ownBlock] at h; omega))
          have HO5 := Lib.hid own5
          clear N0 N1 KG own5 grown5 M0 M1 M2
          go_wp2_with fail
          go_meet
          have KS := HKG.out.setCell ⟨w4.heap.size, 2, none⟩ (.inr (Nat.le_refl _)) (.slice (some ⟨g5, 0, none⟩) (1 + l.length) cap5)
          have RW : IntsRow (w5.setCell ⟨w4.heap.size, 2, none⟩ (.slice (some ⟨g5, 0, none⟩) (1 + l.length) cap5)) (w4.heap.size + 1) (.slice (some ⟨g5, 0, none⟩) (1 + l.length) cap5) (n :: l) := by
            have h := own_kept HO5.out (Kept.one w5 ⟨w4.heap.size, 2, none⟩ (.slice (some ⟨g5, 0, none⟩) (1 + l.length) cap5)) fun g hg e => by simp [Value.ownBlock] at hg; simp at e; omega
            unfold IntsRow
            rw [List.length_cons, Nat.add_comm l.length 1]
            exact h
          refine ⟨_, still_cell KS q0, still_cell KS q1, still_cell KS q2, (HN0.out.beside _ (by decide)).c, (HN1.out.beside _ (by decide)).c, (HN2.out.set _).c, ?_, KS⟩
          rw [hlw.out]
          exact RW.reads
    case rest =>
      obtain ⟨sl, q0, q1, q2, s0, s1, s2, hR, KC⟩ := hcut
      have HW5 := Lib.hid (HW4.out.kept KC)
      have HRW := Lib.hid hR
      have HK5 := Lib.hid (HK4.out.trans KC)
      have H0W : Hid (k = 0 → lw = []) := by
        show _ → _
        intro h; exact (HZ.out h).2
      have HLW : Hid (lw.length ≤ 1001) := by
        show lw.length ≤ 1001
        by_cases hk : k = 0
        · rw [(HZ.out hk).2]; simp
        · rw [HNZ.out hk]; have := HL.out; simp; omega
      have HALW : Hid (∀ a ∈ lw, I64 a) := by
        show ∀ a ∈ lw, I64 a
        by_cases hk : k = 0
        · rw [(HZ.out hk).2]; simp
        · rw [HNZ.out hk]
          intro a ha
          rcases List.mem_cons.1 ha with rfl | ha
          · exact Hn.out
          · exact HAL.out a ha
      have hw5 : Hid ((wv = .nilIface ∧ k = 0 ∧ x = 0 ∧ lw = []) ∨ (¬ k = 0 ∧ ∃ t u, wv = .iface t u)) := chain_nil HW5.out H0W.out
      obtain ⟨mb, hmb⟩ : ∃ mb, w4.heap.size = mb := ⟨_, rfl⟩
      rw [hmb] at s0 s1 s2
      obtain ⟨w5, hw5q⟩ : ∃ w5, wc = w5 := ⟨_, rfl⟩
      subst hw5q
      clear KC hR HC4 HW4 HRD4 HK4 HKEY hb1 hb2 HBK
      go_upto_region 9 with fail
      rw [hmb]
      go_cut [86] (fun r wx => r = .bool false ∧ wx.cell? ⟨mb, 0, none⟩ = some (.int .i64 k) ∧ wx.cell? ⟨mb, 1, none⟩ = some (.int .i64 x) ∧ wx.cell? ⟨mb, 2, none⟩ = some sl ∧ Kept (fun _ => False) wc wx)
      case first =>
        rcases hw5.out with ⟨hv, -⟩ | ⟨hk, t, u, rfl⟩
        · have n0 : ∀ w : World, (binOp .neq 27 wv .nilIface).run Tryd.prog w = .ok (.bool false) w := fun w => by rw [hv]; kernel_rfl
          have g0 : ∀ w : World, (eqGuard .neq 27 (.tmp 62) (.const .nilIface) wv .nilIface).run Tryd.prog w = .ok () w := fun w => by rw [hv]; kernel_rfl
          have toldn : ∀ w : World, Chain w k x wv lw → Calls Tryd.prog 14 #[wv] w (GotErr w k x lw) := by
            intro w H
            rcases hw5.out with ⟨rfl, rfl, rfl, rfl⟩ | ⟨-, t, u, h⟩
            · exact told_nil w
            · rw [hv] at h; cases h
          clear hv
          refine wp_region_held_drew (S := (fun w' => w'.cell? ⟨w.heap.size, 0, none⟩ = some (.int .i64 k) ∧ w'.cell? ⟨w.heap.size, 1, none⟩ = some (.int .i64 x) ∧ w'.cell? ⟨w.heap.size, 2, none⟩ = some (.slice bo m c) ∧ w'.cell? ⟨mb, 0, none⟩ = some (.int .i64 k) ∧ w'.cell? ⟨mb, 1, none⟩ = some (.int .i64 x) ∧ w'.cell? ⟨mb, 2, none⟩ = some sl ∧ Kept (fun _ => False) wc w')) (by kernel_rfl) ?_ (fun hHeld => ?_)
          · exact ⟨q0, q1, q2, s0, s1, s2, (Kept.refl _ _).drew⟩
          refine wpAnyH_take (i := 0) (oi := { dst := some 56, op := Op.move (Operand.tmp 6), type := 27, pos := "law.go:128", after := #[], guard := none }) (v := ?_) rfl (by kernel_rfl) (by kernel_rfl) (by kernel_rfl) (fun _ _ _ h => h) (Or.inl ⟨by rfl, ?_⟩) hHeld ?_
          rotate_left
          · (intro w' hSw; (try dsimp only at hSw); go_simp) <;> with_reducible rfl
          try simp only [Act.put, List.setIfInBounds_toArray, List.set_cons_zero, List.set_cons_succ]
          refine wpAnyH_take (i := 2) (oi := { dst := some 58, op := Op.load 24 (Operand.tmp 7), type := 24, pos := "law.go:128", after := #[], guard := none }) (v := ?_) rfl (by kernel_rfl) (by kernel_rfl) (by kernel_rfl) (fun _ _ _ h => h) (Or.inl ⟨by rfl, ?_⟩) hHeld ?_
          rotate_left
          · (intro w' hSw; (try dsimp only at hSw); go_simp) <;> with_reducible rfl
          try simp only [Act.put, List.setIfInBounds_toArray, List.set_cons_zero, List.set_cons_succ]
          refine wpAnyH_ready (rs := [1]) (by kernel_rfl) (by simp) ?_
          refine AllReadyH.cons (o := { dst := some 57, op := Op.call { callee := Callee.value (Operand.func 14), args := #[Operand.tmp 56], argTypes := #[27] }, type := 24, pos := "law.go:128", after := #[{ on := 0, ground := Ground.data }], guard := none }) rfl (fun KK hKK => ?_) AllReadyH.nil
          go_simp
          refine (toldn _ (HW5.out.kept (keep7r hHeld))).mono ?_
          rintro e w' ⟨sl2, rfl, R0, K⟩
          have RT := Lib.hid R0
          clear R0
          go_wp2_with fail
          refine hKK.out _ _ ?_ (fun hHeld2 => ?_)
          · exact keep7 hHeld K
          clear hKK KK hHeld K
          have hHeld := hHeld2
          clear hHeld2
          try simp only [Act.put, List.setIfInBounds_toArray, List.set_cons_zero, List.set_cons_succ]
          refine wpAnyH_ready (rs := [3]) (by kernel_rfl) (by simp) ?_
          refine AllReadyH.cons (o := { dst := some 59, op := Op.call { callee := Callee.value (Operand.func 13), args := #[Operand.tmp 57, Operand.tmp 58], argTypes := #[24, 24] }, type := 4, pos := "law.go:128", after := #[{ on := 1, ground := Ground.data }, { on := 2, ground := Ground.data }, { on := 1, ground := Ground.chain }], guard := none }) rfl (fun KK hKK => ?_) AllReadyH.nil
          go_simp
          refine (same_yes k x _ _ lw (Nat.le_trans HLW.out (by decide)) _ RT.out (HRW.out.kept (keep7r hHeld))).mono ?_
          rintro e w' ⟨rfl, K⟩
          go_wp2_with fail
          refine hKK.out _ _ ?_ (fun hHeld2 => ?_)
          · exact keep7 hHeld K
          clear hKK KK hHeld K
          have hHeld := hHeld2
          clear hHeld2
          try simp only [Act.put, List.setIfInBounds_toArray, List.set_cons_zero, List.set_cons_succ]
          refine wpAnyH_take (i := 4) (oi := { dst := some 60, op := Op.unOp UnOp.not 4 (Operand.tmp 59), type := 4, pos := "law.go:128", after := #[{ on := 3, ground := Ground.data }], guard := none }) (v := ?_) rfl (by kernel_rfl) (by kernel_rfl) (by kernel_rfl) (fun _ _ _ h => h) (Or.inl ⟨by rfl, ?_⟩) hHeld ?_
          rotate_left
          · (intro w' hSw; (try dsimp only at hSw); go_simp) <;> with_reducible rfl
          try simp only [Act.put, List.setIfInBounds_toArray, List.set_cons_zero, List.set_cons_succ]
          refine wpAnyH_take (i := 5) (oi := { dst := some 61, op := Op.move (Operand.tmp 60), type := 4, pos := "law.go:128", after := #[{ on := 4, ground := Ground.data }, { on := 3, ground := Ground.chain }], guard := none }) (v := ?_) rfl (by kernel_rfl) (by kernel_rfl) (by kernel_rfl) (fun _ _ _ h => h) (Or.inl ⟨by rfl, ?_⟩) hHeld ?_
          rotate_left
          · (intro w' hSw; (try dsimp only at hSw); go_simp) <;> with_reducible rfl
          try simp only [Act.put, List.setIfInBounds_toArray, List.set_cons_zero, List.set_cons_succ]
          refine wpAnyH_take (i := 6) (oi := { dst := some 62, op := Op.move (Operand.tmp 6), type := 27, pos := "law.go:128", after := #[{ on := 5, ground := Ground.guard }], guard := some (5, false) }) (v := ?_) rfl (by kernel_rfl) (by kernel_rfl) (by kernel_rfl) (fun _ _ _ h => h) (Or.inl ⟨by rfl, ?_⟩) hHeld ?_
          rotate_left
          · (intro w' hSw; (try dsimp only at hSw); go_simp) <;> with_reducible rfl
          try simp only [Act.put, List.setIfInBounds_toArray, List.set_cons_zero, List.set_cons_succ]
          refine wpAnyH_take (i := 7) (oi := { dst := some 63, op := Op.binOp BinOp.neq 27 (Operand.tmp 62) (Operand.const Value.nilIface) 27, type := 4, pos := "law.go:128", after := #[{ on := 6, ground := Ground.data }, { on := 5, ground := Ground.guard }], guard := some (5, false) }) (v := ?_) rfl (by kernel_rfl) (by kernel_rfl) (by kernel_rfl) (fun _ _ _ h => h) (Or.inl ⟨by rfl, ?_⟩) hHeld ?_
          rotate_left
          · (intro w' hSw; (try dsimp only at hSw); go_simp) <;> with_reducible rfl
          try simp only [Act.put, List.setIfInBounds_toArray, List.set_cons_zero, List.set_cons_succ]
          refine wpAnyH_take (i := 8) (oi := { dst := some 64, op := Op.move (Operand.tmp 63), type := 4, pos := "law.go:128", after := #[{ on := 7, ground := Ground.data }, { on := 5, ground := Ground.chain }, { on := 5, ground := Ground.guard }], guard := some (5, false) }) (v := ?_) rfl (by kernel_rfl) (by kernel_rfl) (by kernel_rfl) (fun _ _ _ h => h) (Or.inl ⟨by rfl, ?_⟩) hHeld ?_
          rotate_left
          · (intro w' hSw; (try dsimp only at hSw); go_simp) <;> with_reducible rfl
          try simp only [Act.put, List.setIfInBounds_toArray, List.set_cons_zero, List.set_cons_succ]
          refine wpAnyH_take (i := 9) (oi := { dst := some 65, op := Op.move (Operand.tmp 6), type := 27, pos := "law.go:128", after := #[{ on := 8, ground := Ground.guard }], guard := some (8, true) }) (v := undef) rfl (by kernel_rfl) (by kernel_rfl) (by kernel_rfl) (fun _ _ _ h => h) (Or.inr ⟨by rfl, rfl⟩) hHeld ?_
          try simp only [Act.put, List.setIfInBounds_toArray, List.set_cons_zero, List.set_cons_succ]
          refine wpAnyH_take (i := 11) (oi := { dst := some 67, op := Op.load 24 (Operand.tmp 7), type := 24, pos := "law.go:128", after := #[{ on := 8, ground := Ground.guard }], guard := some (8, true) }) (v := undef) rfl (by kernel_rfl) (by kernel_rfl) (by kernel_rfl) (fun _ _ _ h => h) (Or.inr ⟨by rfl, rfl⟩) hHeld ?_
          try simp only [Act.put, List.setIfInBounds_toArray, List.set_cons_zero, List.set_cons_succ]
          refine wpAnyH_take (i := 10) (oi := { dst := some 66, op := Op.call { callee := Callee.invoke (Operand.tmp 65) "Error", args := #[], argTypes := #[] }, type := 9, pos := "law.go:128", after := #[{ on := 9, ground := Ground.data }, { on := 8, ground := Ground.chain }, { on := 8, ground := Ground.guard }], guard := some (8, true) }) (v := undef) rfl (by kernel_rfl) (by kernel_rfl) (by kernel_rfl) (fun _ _ _ h => h) (Or.inr ⟨by rfl, rfl⟩) hHeld ?_
          try simp only [Act.put, List.setIfInBounds_toArray, List.set_cons_zero, List.set_cons_succ]
          refine wpAnyH_take (i := 12) (oi := { dst := some 68, op := Op.call { callee := Callee.value (Operand.func 11), args := #[Operand.tmp 67], argTypes := #[24] }, type := 9, pos := "law.go:128", after := #[{ on := 11, ground := Ground.data }, { on := 10, ground := Ground.chain }, { on := 8, ground := Ground.guard }], guard := some (8, true) }) (v := undef) rfl (by kernel_rfl) (by kernel_rfl) (by kernel_rfl) (fun _ _ _ h => h) (Or.inr ⟨by rfl, rfl⟩) hHeld ?_
          try simp only [Act.put, List.setIfInBounds_toArray, List.set_cons_zero, List.set_cons_succ]
          refine wpAnyH_take (i := 13) (oi := { dst := some 69, op := Op.binOp BinOp.neq 9 (Operand.tmp 66) (Operand.tmp 68) 9, type := 4, pos := "law.go:128", after := #[{ on := 10, ground := Ground.data }, { on := 12, ground := Ground.data }, { on := 8, ground := Ground.guard }], guard := some (8, true) }) (v := undef) rfl (by kernel_rfl) (by kernel_rfl) (by kernel_rfl) (fun _ _ _ h => h) (Or.inr ⟨by rfl, rfl⟩) hHeld ?_
          try simp only [Act.put, List.setIfInBounds_toArray, List.set_cons_zero, List.set_cons_succ]
          refine wpAnyH_take (i := 14) (oi := { dst := some 70, op := Op.pick (Operand.tmp 64) (Operand.tmp 69) (Operand.const (Value.bool false)), type := 4, pos := "law.go:128", after := #[{ on := 8, ground := Ground.data }, { on := 13, ground := Ground.data }, { on := 5, ground := Ground.guard }], guard := some (5, false) }) (v := ?_) rfl (by kernel_rfl) (by kernel_rfl) (by kernel_rfl) (fun _ _ _ h => h) (Or.inl ⟨by rfl, ?_⟩) hHeld ?_
          rotate_left
          · (intro w' hSw; (try dsimp only at hSw); go_simp) <;> with_reducible rfl
          try simp only [Act.put, List.setIfInBounds_toArray, List.set_cons_zero, List.set_cons_succ]
          refine wpAnyH_take (i := 15) (oi := { dst := some 71, op := Op.pick (Operand.tmp 61) (Operand.const (Value.bool true)) (Operand.tmp 70), type := 4, pos := "law.go:128", after := #[{ on := 5, ground := Ground.data }, { on := 14, ground := Ground.data }], guard := none }) (v := ?_) rfl (by kernel_rfl) (by kernel_rfl) (by kernel_rfl) (fun _ _ _ h => h) (Or.inl ⟨by rfl, ?_⟩) hHeld ?_
          rotate_left
          · (intro w' hSw; (try dsimp only at hSw); go_simp) <;> with_reducible rfl
          try simp only [Act.put, List.setIfInBounds_toArray, List.set_cons_zero, List.set_cons_succ]
          refine wpAnyH_take (i := 16) (oi := { dst := some 72, op := Op.move (Operand.tmp 71), type := 4, pos := "law.go:128", after := #[{ on := 15, ground := Ground.data }, { on := 12, ground := Ground.chain }], guard := none }) (v := ?_) rfl (by kernel_rfl) (by kernel_rfl) (by kernel_rfl) (fun _ _ _ h => h) (Or.inl ⟨by rfl, ?_⟩) hHeld ?_
          rotate_left
          · (intro w' hSw; (try dsimp only at hSw); go_simp) <;> with_reducible rfl
          try simp only [Act.put, List.setIfInBounds_toArray, List.set_cons_zero, List.set_cons_succ]
          refine wpAnyH_take (i := 17) (oi := { dst := some 73, op := Op.move (Operand.tmp 6), type := 27, pos := "law.go:128", after := #[{ on := 16, ground := Ground.guard }], guard := some (16, false) }) (v := ?_) rfl (by kernel_rfl) (by kernel_rfl) (by kernel_rfl) (fun _ _ _ h => h) (Or.inl ⟨by rfl, ?_⟩) hHeld ?_
          rotate_left
          · (intro w' hSw; (try dsimp only at hSw); go_simp) <;> with_reducible rfl
          try simp only [Act.put, List.setIfInBounds_toArray, List.set_cons_zero, List.set_cons_succ]
          refine wpAnyH_take (i := 19) (oi := { dst := some 75, op := Op.load 24 (Operand.tmp 2), type := 24, pos := "law.go:128", after := #[{ on := 16, ground := Ground.guard }], guard := some (16, false) }) (v := ?_) rfl (by kernel_rfl) (by kernel_rfl) (by kernel_rfl) (fun _ _ _ h => h) (Or.inl ⟨by rfl, ?_⟩) hHeld ?_
          rotate_left
          · (intro w' hSw; (try dsimp only at hSw); go_simp) <;> with_reducible rfl
          try simp only [Act.put, List.setIfInBounds_toArray, List.set_cons_zero, List.set_cons_succ]
          refine wpAnyH_ready (rs := [18]) (by kernel_rfl) (by simp) ?_
          refine AllReadyH.cons (o := { dst := some 74, op := Op.call { callee := Callee.value (Operand.func 6), args := #[Operand.tmp 73], argTypes := #[27] }, type := 29, pos := "law.go:128", after := #[{ on := 17, ground := Ground.data }, { on := 16, ground := Ground.chain }, { on := 16, ground := Ground.guard }], guard := some (16, false) }) rfl (fun KK hKK => ?_) AllReadyH.nil
          go_simp
          refine (class_chain k x lw _ _ (HW5.out.kept (keep7r hHeld)) (HE.out.kept (HK5.out.trans (keep7r hHeld)) id)).mono ?_
          rintro e w' ⟨rfl, K⟩
          go_wp2_with fail
          refine hKK.out _ _ ?_ (fun hHeld2 => ?_)
          · exact keep7 hHeld K
          clear hKK KK hHeld K
          have hHeld := hHeld2
          clear hHeld2
          try simp only [Act.put, List.setIfInBounds_toArray, List.set_cons_zero, List.set_cons_succ]
          refine wpAnyH_ready (rs := [20]) (by kernel_rfl) (by simp) ?_
          refine AllReadyH.cons (o := { dst := some 76, op := Op.call { callee := Callee.value (Operand.func 7), args := #[Operand.tmp 75], argTypes := #[24] }, type := 29, pos := "law.go:128", after := #[{ on := 19, ground := Ground.data }, { on := 18, ground := Ground.chain }, { on := 16, ground := Ground.guard }], guard := some (16, false) }) rfl (fun KK hKK => ?_) AllReadyH.nil
          go_simp
          refine (rclass_any k x _ bo m c rfl KLO.out KHI.out _).mono ?_
          rintro e w' ⟨rfl, K⟩
          go_wp2_with fail
          refine hKK.out _ _ ?_ (fun hHeld2 => ?_)
          · exact keep7 hHeld K
          clear hKK KK hHeld K
          have hHeld := hHeld2
          clear hHeld2
          try simp only [Act.put, List.setIfInBounds_toArray, List.set_cons_zero, List.set_cons_succ]
          refine wpAnyH_take (i := 21) (oi := { dst := some 77, op := Op.binOp BinOp.neq 29 (Operand.tmp 74) (Operand.tmp 76) 29, type := 4, pos := "law.go:128", after := #[{ on := 18, ground := Ground.data }, { on := 20, ground := Ground.data }, { on := 16, ground := Ground.guard }], guard := some (16, false) }) (v := ?_) rfl (by kernel_rfl) (by kernel_rfl) (by kernel_rfl) (fun _ _ _ h => h) (Or.inl ⟨by rfl, ?_⟩) hHeld ?_
          rotate_left
          · (intro w' hSw; (try dsimp only at hSw); go_simp) <;> with_reducible rfl
          try simp only [Act.put, List.setIfInBounds_toArray, List.set_cons_zero, List.set_cons_succ]
          refine wpAnyH_take (i := 22) (oi := { dst := some 78, op := Op.pick (Operand.tmp 72) (Operand.const (Value.bool true)) (Operand.tmp 77), type := 4, pos := "law.go:128", after := #[{ on := 16, ground := Ground.data }, { on := 21, ground := Ground.data }], guard := none }) (v := ?_) rfl (by kernel_rfl) (by kernel_rfl) (by kernel_rfl) (fun _ _ _ h => h) (Or.inl ⟨by rfl, ?_⟩) hHeld ?_
          rotate_left
          · (intro w' hSw; (try dsimp only at hSw); go_simp) <;> with_reducible rfl
          try simp only [Act.put, List.setIfInBounds_toArray, List.set_cons_zero, List.set_cons_succ]
          refine wpAnyH_take (i := 23) (oi := { dst := some 79, op := Op.move (Operand.tmp 78), type := 4, pos := "law.go:128", after := #[{ on := 22, ground := Ground.data }, { on := 20, ground := Ground.chain }], guard := none }) (v := ?_) rfl (by kernel_rfl) (by kernel_rfl) (by kernel_rfl) (fun _ _ _ h => h) (Or.inl ⟨by rfl, ?_⟩) hHeld ?_
          rotate_left
          · (intro w' hSw; (try dsimp only at hSw); go_simp) <;> with_reducible rfl
          try simp only [Act.put, List.setIfInBounds_toArray, List.set_cons_zero, List.set_cons_succ]
          refine wpAnyH_take (i := 24) (oi := { dst := some 80, op := Op.move (Operand.tmp 6), type := 27, pos := "law.go:128", after := #[{ on := 23, ground := Ground.guard }], guard := some (23, false) }) (v := ?_) rfl (by kernel_rfl) (by kernel_rfl) (by kernel_rfl) (fun _ _ _ h => h) (Or.inl ⟨by rfl, ?_⟩) hHeld ?_
          rotate_left
          · (intro w' hSw; (try dsimp only at hSw); go_simp) <;> with_reducible rfl
          try simp only [Act.put, List.setIfInBounds_toArray, List.set_cons_zero, List.set_cons_succ]
          refine wpAnyH_take (i := 26) (oi := { dst := some 82, op := Op.load 24 (Operand.tmp 7), type := 24, pos := "law.go:128", after := #[{ on := 23, ground := Ground.guard }], guard := some (23, false) }) (v := ?_) rfl (by kernel_rfl) (by kernel_rfl) (by kernel_rfl) (fun _ _ _ h => h) (Or.inl ⟨by rfl, ?_⟩) hHeld ?_
          rotate_left
          · (intro w' hSw; (try dsimp only at hSw); go_simp) <;> with_reducible rfl
          try simp only [Act.put, List.setIfInBounds_toArray, List.set_cons_zero, List.set_cons_succ]
          refine wpAnyH_ready (rs := [25]) (by kernel_rfl) (by simp) ?_
          refine AllReadyH.cons (o := { dst := some 81, op := Op.call { callee := Callee.value (Operand.func 9), args := #[Operand.tmp 80], argTypes := #[27] }, type := 22, pos := "law.go:128", after := #[{ on := 24, ground := Ground.data }, { on := 23, ground := Ground.chain }, { on := 23, ground := Ground.guard }], guard := some (23, false) }) rfl (fun KK hKK => ?_) AllReadyH.nil
          go_simp
          refine (numbers_chain k x lw (Nat.le_trans HLW.out (by decide)) _ _ (HW5.out.kept (keep7r hHeld)) (HE.out.kept (HK5.out.trans (keep7r hHeld)) id)).mono ?_
          rintro e w' ⟨v1, rfl, I1, K⟩
          have R1 := Lib.hid I1.reads
          clear I1
          go_wp2_with fail
          refine hKK.out _ _ ?_ (fun hHeld2 => ?_)
          · exact keep7 hHeld K
          clear hKK KK hHeld K
          have hHeld := hHeld2
          clear hHeld2
          try simp only [Act.put, List.setIfInBounds_toArray, List.set_cons_zero, List.set_cons_succ]
          refine wpAnyH_ready (rs := [27]) (by kernel_rfl) (by simp) ?_
          refine AllReadyH.cons (o := { dst := some 83, op := Op.call { callee := Callee.value (Operand.func 10), args := #[Operand.tmp 82], argTypes := #[24] }, type := 22, pos := "law.go:128", after := #[{ on := 26, ground := Ground.data }, { on := 25, ground := Ground.chain }, { on := 23, ground := Ground.guard }], guard := some (23, false) }) rfl (fun KK hKK => ?_) AllReadyH.nil
          go_simp
          refine (rnumbers_any k x sl lw (Nat.le_trans HLW.out (by decide)) _ (HRW.out.kept (keep7r hHeld)) H0W.out).mono ?_
          rintro e w' ⟨v2, rfl, I2, K⟩
          have R2 := Lib.hid (And.intro (R1.out.kept K) I2.reads)
          clear I2
          go_wp2_with fail
          refine hKK.out _ _ ?_ (fun hHeld2 => ?_)
          · exact keep7 hHeld K
          clear hKK KK hHeld K
          have hHeld := hHeld2
          clear hHeld2
          try simp only [Act.put, List.setIfInBounds_toArray, List.set_cons_zero, List.set_cons_succ]
          refine wpAnyH_ready (rs := [28]) (by kernel_rfl) (by simp) ?_
          refine AllReadyH.cons (o := { dst := some 84, op := Op.call { callee := Callee.value (Operand.func 8), args := #[Operand.tmp 81, Operand.tmp 83], argTypes := #[22, 22] }, type := 4, pos := "law.go:128", after := #[{ on := 25, ground := Ground.data }, { on := 27, ground := Ground.data }, { on := 27, ground := Ground.chain }, { on := 23, ground := Ground.guard }], guard := some (23, false) }) rfl (fun KK hKK => ?_) AllReadyH.nil
          go_simp
          refine (sameInts_yes _ _ _ (Nat.le_trans (nums_len k x lw) (Nat.le_trans (Nat.succ_le_succ HLW.out) (by decide))) _ R2.out.1 R2.out.2).mono ?_
          rintro e w' ⟨rfl, K⟩
          go_wp2_with fail
          refine hKK.out _ _ ?_ (fun hHeld2 => ?_)
          · exact keep7 hHeld K
          clear hKK KK hHeld K
          have hHeld := hHeld2
          clear hHeld2
          try simp only [Act.put, List.setIfInBounds_toArray, List.set_cons_zero, List.set_cons_succ]
          refine wpAnyH_take (i := 29) (oi := { dst := some 85, op := Op.unOp UnOp.not 4 (Operand.tmp 84), type := 4, pos := "law.go:128", after := #[{ on := 28, ground := Ground.data }, { on := 23, ground := Ground.guard }], guard := some (23, false) }) (v := ?_) rfl (by kernel_rfl) (by kernel_rfl) (by kernel_rfl) (fun _ _ _ h => h) (Or.inl ⟨by rfl, ?_⟩) hHeld ?_
          rotate_left
          · (intro w' hSw; (try dsimp only at hSw); go_simp) <;> with_reducible rfl
          try simp only [Act.put, List.setIfInBounds_toArray, List.set_cons_zero, List.set_cons_succ]
          refine wpAnyH_take (i := 30) (oi := { dst := some 86, op := Op.pick (Operand.tmp 79) (Operand.const (Value.bool true)) (Operand.tmp 85), type := 4, pos := "law.go:128", after := #[{ on := 23, ground := Ground.data }, { on := 29, ground := Ground.data }], guard := none }) (v := ?_) rfl (by kernel_rfl) (by kernel_rfl) (by kernel_rfl) (fun _ _ _ h => h) (Or.inl ⟨by rfl, ?_⟩) hHeld ?_
          rotate_left
          · (intro w' hSw; (try dsimp only at hSw); go_simp) <;> with_reducible rfl
          try simp only [Act.put, List.setIfInBounds_toArray, List.set_cons_zero, List.set_cons_succ]
          refine wpAnyH_done (by kernel_rfl) ?_ _
          try go_wp2_with fail
          go_meet
          exact ⟨rfl, keep7s hHeld⟩

        · have hErr := Lib.hid (err_parts k x HX2.out t u lw (Nat.le_trans HLW.out (by decide)) HALW.out wc (HT.out.kept HK5.out) HW5.out hk)
          obtain ⟨f, hf⟩ := hErr.out
          have hErr := Lib.hid hf
          have m1 := hf.1
          have m2 := hf.2.1
          clear hf
          go_region_held3 (fun w' => w'.cell? ⟨w.heap.size, 0, none⟩ = some (.int .i64 k) ∧ w'.cell? ⟨w.heap.size, 1, none⟩ = some (.int .i64 x) ∧ w'.cell? ⟨w.heap.size, 2, none⟩ = some (.slice bo m c) ∧ w'.cell? ⟨mb, 0, none⟩ = some (.int .i64 k) ∧ w'.cell? ⟨mb, 1, none⟩ = some (.int .i64 x) ∧ w'.cell? ⟨mb, 2, none⟩ = some sl ∧ Kept (fun _ => False) wc w') (first | assumption | exact keep7 (by assumption) (by assumption) | exact ⟨q0, q1, q2, s0, s1, s2, (Kept.refl _ _).drew⟩)
            (first
          | (go_at_call 14; refine (told_any k x lw (Nat.le_trans HLW.out (by decide)) t u _ hk (HW5.out.kept (by first | assumption | exact keep7r (by assumption)))).mono ?_; rintro e w' ⟨sl2, rfl, R0, K⟩; have RT := Lib.hid R0; clear R0)
          | (go_at_call 13; refine (same_yes k x _ _ lw (Nat.le_trans HLW.out (by decide)) _ RT.out (HRW.out.kept (by first | assumption | exact keep7r (by assumption)))).mono ?_; rintro e w' ⟨rfl, K⟩)
          | (go_at_call 6; refine (class_chain k x lw _ _ (HW5.out.kept (by first | assumption | exact keep7r (by assumption))) (HE.out.kept (HK5.out.trans (by first | assumption | exact keep7r (by assumption))) id)).mono ?_; rintro e w' ⟨rfl, K⟩)
          | (go_at_call 7; refine (rclass_any k x _ bo m c rfl KLO.out KHI.out _).mono ?_; rintro e w' ⟨rfl, K⟩)
          | (go_at_call 9; refine (numbers_chain k x lw (Nat.le_trans HLW.out (by decide)) _ _ (HW5.out.kept (by first | assumption | exact keep7r (by assumption))) (HE.out.kept (HK5.out.trans (by first | assumption | exact keep7r (by assumption))) id)).mono ?_; rintro e w' ⟨v1, rfl, I1, K⟩; have R1 := Lib.hid I1.reads; clear I1)
          | (go_at_call 10; refine (rnumbers_any k x sl lw (Nat.le_trans HLW.out (by decide)) _ (HRW.out.kept (by first | assumption | exact keep7r (by assumption))) H0W.out).mono ?_; rintro e w' ⟨v2, rfl, I2, K⟩; have R2 := Lib.hid (And.intro (R1.out.kept K) I2.reads); clear I2)
          | (go_at_call 8; refine (sameInts_yes _ _ _ (Nat.le_trans (nums_len k x lw) (Nat.le_trans (Nat.succ_le_succ HLW.out) (by decide))) _ R2.out.1 R2.out.2).mono ?_; rintro e w' ⟨rfl, K⟩)
          | (go_simp; refine (hErr.out.2.2 _ (by first | assumption | exact keep7r (by assumption))).mono ?_; rintro e w' ⟨rfl, K⟩)
          | (go_at_call 11; refine (rText_any k x HX2.out sl lw (Nat.le_trans HLW.out (by decide)) HALW.out H0W.out KLO.out KHI.out _ (HRW.out.kept (by first | assumption | exact keep7r (by assumption))) (HT.out.kept (HK5.out.trans (by first | assumption | exact keep7r (by assumption))))).mono ?_; rintro e w' ⟨rfl, K⟩))
          all_goals
            try go_wp2_with fail
            go_meet
            have hH := keep7s (by assumption)
            exact ⟨rfl, hH⟩
      case rest =>
        obtain ⟨rfl, s0, s1, s2, KC⟩ := hcut
        rename_i wd
        have HW6 := Lib.hid (HW5.out.kept KC)
        have HRW6 := Lib.hid (HRW.out.kept KC)
        have HK6 := Lib.hid (HK5.out.trans KC)
        clear KC HW5 HRW HK5 q0 q1 q2
        go_wp2_with fail
        refine (numbers_chain k x lw (Nat.le_trans HLW.out (by decide)) _ _ HW6.out (HE.out.kept HK6.out id)).mono ?_
        rintro e w7 ⟨nv, rfl, I7, K7⟩
        obtain ⟨na, nc, rfl⟩ := I7.shape
        obtain ⟨L, hL⟩ : ∃ L, (numsOf k x lw).length = L := ⟨_, rfl⟩
        have hL2 : L ≤ 1002 := by have := nums_len k x lw; have := HLW.out; omega
        rw [hL] at I7 ⊢
        have I8 : w7.ownsRow wc.heap.size 3 1 (.slice na L nc) L (intsOf (numsOf k x lw)) := by
          have h := I7; unfold IntsRow at h; rw [hL] at h; exact h
        have HI8 := Lib.hid I8
        have HK7 := Lib.hid K7
        have HWZ := Lib.hid K7.size
        clear I7 K7 I8
        go_wp2_with fail
        go_loopg [9] L (fun g iv wr => LoopRel wc wr na L nc g iv)
        case atStart => exact ⟨0, _, by omega, rfl, HI8.out, HK7.out⟩
        case round =>
          obtain ⟨i, xs, hig, rfl, hown, hK⟩ := hrel
          by_cases hiL : i < L
          · obtain ⟨gb, cap, hv, hgb, hgl⟩ := hown.form (by omega)
            obtain ⟨rfl, rfl⟩ : na = some ⟨gb, 0, none⟩ ∧ nc = cap := by cases hv; exact ⟨rfl, rfl⟩
            have c1 := hown.cellAt i (by omega)
            have c2 := hown.frozenAt i
            have hxl : i < xs.length := by have := hown.1; omega
            rw [List.getElem?_eq_getElem hxl] at c1
            have i0 : (i : Int) < L := by omega
            have i1 : (0 : Int) ≤ (i : Int) := by omega
            have HS := Lib.hid (hown.stored i (.int .i64 (-5)))
            have HK := Lib.hid hK
            obtain ⟨y, hy⟩ : ∃ y, xs[i] = y := ⟨_, rfl⟩
            rw [hy] at c1
            clear hown hK hv hy
            go_wp2_with fail
            go_roundg (gk - 1)
            case measure => omega
            case rel => exact ⟨i + 1, _, by omega, by go_num, HS.out.1, HK.out.setCell _ (.inr hgb) _⟩
          · have i0 : decide ((i : Int) < L) = false := decide_eq_false (by omega)
            have HK := Lib.hid hK
            have t0 := still_cell hK s0
            have t1 := still_cell hK s1
            have t2 := still_cell hK s2
            clear hK hown s0 s1 s2
            have HKr := Lib.hid (Kept.refl (fun _ => False) wr)
            go_wp2_with (first
              | (go_at_call 15; refine (fError_nil _).mono ?_; rintro e w' ⟨rfl, KN⟩; have HKr := Lib.hid (HKr.out.trans KN); clear KN)
              | (go_at_call 16; refine (cError_nil _).mono ?_; rintro e w' ⟨rfl, KN⟩; have HKr := Lib.hid (HKr.out.trans KN); clear KN)
              | (go_at_call 17; refine (lError_nil _).mono ?_; rintro e w' ⟨rfl, KN⟩; have HKr := Lib.hid (HKr.out.trans KN); clear KN)
              | (go_at_call 18; refine (pError_nil _).mono ?_; rintro e w' ⟨rfl, KN⟩; have HKr := Lib.hid (HKr.out.trans KN); clear KN)
              | (go_at_call 19; refine (aError_nil _).mono ?_; rintro e w' ⟨rfl, KN⟩; have HKr := Lib.hid (HKr.out.trans KN); clear KN)
              | (go_at_call 20; refine (fUnwrap_nil _).mono ?_; rintro e w' ⟨rfl, KN⟩; have HKr := Lib.hid (HKr.out.trans KN); clear KN)
              | (go_at_call 21; refine (cUnwrap_nil _).mono ?_; rintro e w' ⟨rfl, KN⟩; have HKr := Lib.hid (HKr.out.trans KN); clear KN)
              | (go_at_call 22; refine (lUnwrap_nil _).mono ?_; rintro e w' ⟨rfl, KN⟩; have HKr := Lib.hid (HKr.out.trans KN); clear KN)
              | (go_at_call 23; refine (pUnwrap_nil _).mono ?_; rintro e w' ⟨rfl, KN⟩; have HKr := Lib.hid (HKr.out.trans KN); clear KN)
              | (go_at_call 24; refine (aUnwrap_nil _).mono ?_; rintro e w' ⟨rfl, KN⟩; have HKr := Lib.hid (HKr.out.trans KN); clear KN))
            have r0 := still_cell HKr.out t0
            have r1 := still_cell HKr.out t1
            have r2 := still_cell HKr.out t2
            have HKc := Lib.hid (HK.out.trans HKr.out)
            have HEW : Hid (∀ W, Kept (fun _ => False) wc W → ErrorType W) := fun W K => HE.out.kept (HK6.out.trans K) id
            obtain ⟨wz, hwz⟩ : ∃ wz, w' = wz := ⟨_, rfl⟩
            subst hwz
            go_region_held3 (fun w'' => w''.cell? ⟨mb, 0, none⟩ = some (.int .i64 k) ∧ w''.cell? ⟨mb, 1, none⟩ = some (.int .i64 x) ∧ w''.cell? ⟨mb, 2, none⟩ = some sl ∧ Kept (fun _ => False) wc w'') (first | assumption | exact keep4 (by assumption) (by assumption) | exact ⟨r0, r1, r2, HKc.out.drew⟩)
              (first
              | (go_at_call 9; with_reducible refine (numbers_nilAt _ (HEW.out _ (by first | assumption | exact keep4r (by assumption)))).mono ?_; rintro e w' ⟨rfl, K⟩)
              | (go_at_call 9; refine (numbers_chain k x lw (Nat.le_trans HLW.out (by decide)) _ _ (HW6.out.kept (by first | assumption | exact keep4r (by assumption))) (HE.out.kept (HK6.out.trans (by first | assumption | exact keep4r (by assumption))) id)).mono ?_; rintro e w' ⟨v1, rfl, I1, K⟩; have R1 := Lib.hid I1.reads; clear I1)
              | (go_at_call 10; refine (rnumbers_any k x sl lw (Nat.le_trans HLW.out (by decide)) _ (HRW6.out.kept (by first | assumption | exact keep4r (by assumption))) H0W.out).mono ?_; rintro e w' ⟨v2, rfl, I2, K⟩; have R2 := Lib.hid (And.intro (R1.out.kept K) I2.reads); clear I2)
              | (go_at_call 8; refine (sameInts_yes _ _ _ (Nat.le_trans (nums_len k x lw) (Nat.le_trans (Nat.succ_le_succ HLW.out) (by decide))) _ R2.out.1 R2.out.2).mono ?_; rintro e w' ⟨rfl, K⟩)
              | (go_at_call 25; refine (works_yes _ (HT.out.kept (HK6.out.trans (by first | assumption | exact keep4r (by assumption)))) (HE.out.kept (HK6.out.trans (by first | assumption | exact keep4r (by assumption))) id)).mono ?_; rintro e w' ⟨rfl, K⟩))
            all_goals
              go_wp2_with fail
              go_ret
              exact ⟨rfl, HK6.out.trans (keep4r (by assumption))⟩

end Go.Proofs.YthkndllageopoaaDoor

/-
  FaultTells: (*At).Error along a chain.
-/
import Derived.Test.YthkndllageopoaaDoorFt9
namespace Go.Proofs.YthkndllageopoaaDoor
open Go.RowKit Go.Shelf Go.Extern Go.Extern.Stop Go.Stop

theorem Tryd.infoByte : (Tryd.prog.info? 5).map (fun i => (i.zero, i.size, i.bytes)) = some (some (.int .u8 0), 1, 1) := by kernel_rfl

/-- Where the loop of Error stands. -/
def ErrRel (w wr : World) (k x : Int) (full : List UInt8) (g : Nat) (av sv : Value) : Prop :=
  Below w.heap.size w wr ∧ ∃ done : List UInt8, wr.ownsRow w.heap.size 5 1 sv done.length (Lib.byteCells done) ∧
    ((∃ a l, av = .pointer (some ⟨a, 0, none⟩) ∧ Chain w k x (.iface 44 (.pointer (some ⟨a, 0, none⟩))) l ∧ (∀ n ∈ l, I64 n) ∧ done ++ fullText k x l = full ∧ g = l.length + 1) ∨ (av = .pointer none ∧ done = full ∧ g = 0))

theorem strCells_bytes (l : List UInt8) : Lib.strCells ⟨l.toArray⟩ = Lib.byteCells l := by
  simp [Lib.strCells, Lib.byteCells]

theorem full_cons (k x n : Int) (l : List Int) : fullText k x (n :: l) = Lib.itoa n ++ [58, 32] ++ fullText k x l := by
  unfold fullText; rw [headText_cons]; simp

theorem full_len (k x : Int) (hx : I64 x) (l : List Int) (hl : ∀ n ∈ l, I64 n) : (fullText k x l).length ≤ 23 * l.length + 31 := by
  have h1 := base_len k x hx
  have h2 := head_len l hl
  unfold fullText
  rw [List.length_append]
  omega

/-- An *At: its number, and what it is around. -/
theorem at_parts (k x : Int) (hx : I64 x) (a : Nat) (l : List Int) (w : World) (T : Tab w) (H : Chain w k x (.iface 44 (.pointer (some ⟨a, 0, none⟩))) l) (hl : ∀ n ∈ l, I64 n) :
    ∃ n ev, I64 n ∧ w.cell? ⟨a, 0, none⟩ = some (.int .i64 n) ∧ w.cell? ⟨a, 1, none⟩ = some ev ∧
      ((∃ a2 l2, ev = .iface 44 (.pointer (some ⟨a2, 0, none⟩)) ∧ Chain w k x ev l2 ∧ l = n :: l2) ∨
       (∃ tl, (∀ (xT : TypeId) (w : World), (Instr.typeAssert ev xT 44 true).run Tryd.prog w = .ok (.tuple #[.pointer none, .bool false]) w) ∧ (∀ W, Kept (fun _ => False) w W → Calls Tryd.prog 33 #[ev] W (GotText W tl)) ∧ tl.length ≤ 31 ∧ Lib.itoa n ++ [58, 32] ++ tl = fullText k x l)) := by
  cases H with
  | base v h =>
    cases h with
    | bare a x h h1 => exact ⟨x, .nilIface, hx, h, h1, .inr ⟨[], Tryd.notAtNil, fun W K => text_nil W, by simp, by simp [fullText, baseText, headText]⟩⟩
  | at_ a n t v l h0 h1 h =>
    refine ⟨n, _, hl n (by simp), h0, h1, ?_⟩
    have flat : ∀ (B : Base w (.iface t v) k x), Flat k → l = [] → ∃ tl, (∀ (xT : TypeId) (w : World), (Instr.typeAssert (.iface t v) xT 44 true).run Tryd.prog w = .ok (.tuple #[.pointer none, .bool false]) w) ∧ (∀ W, Kept (fun _ => False) w W → Calls Tryd.prog 33 #[.iface t v] W (GotText W tl)) ∧ tl.length ≤ 31 ∧ Lib.itoa n ++ [58, 32] ++ tl = fullText k x (n :: l) := by
      rintro B F rfl
      exact ⟨baseText k x, notAt_flat k x t v w B F, fun W K => text_any k x hx t v W (T.kept K) (B.kept K) F, base_len k x hx, by simp [fullText, headText]⟩
    cases h with
    | base v h =>
      cases h with
      | bare a2 x g0 g1 => exact .inl ⟨a2, [], rfl, .base _ (.bare a2 x g0 g1), rfl⟩
      | failed a2 x h => exact .inr (flat (.failed a2 x h) ⟨by decide, by decide⟩ rfl)
      | cancelled a2 x h => exact .inr (flat (.cancelled a2 x h) ⟨by decide, by decide⟩ rfl)
      | late a2 x h => exact .inr (flat (.late a2 x h) ⟨by decide, by decide⟩ rfl)
      | panicked a2 x h => exact .inr (flat (.panicked a2 x h) ⟨by decide, by decide⟩ rfl)
      | plain a2 o2 h => exact .inr (flat (.plain a2 o2 h) ⟨by decide, by decide⟩ rfl)
      | number x => exact .inr (flat (.number x) ⟨by decide, by decide⟩ rfl)
    | at_ a2 n2 t2 v2 l2 g0 g1 g => exact .inl ⟨a2, n2 :: l2, rfl, .at_ a2 n2 t2 v2 l2 g0 g1 g, rfl⟩

set_option maxRecDepth 100000 in
set_option maxHeartbeats 1600000 in
theorem aError_any (k x : Int) (hx : I64 x) (ats : List Int) (hlen : ats.length ≤ 2000) (hats : ∀ n ∈ ats, I64 n) (a : Nat) (w : World) (H : Chain w k x (.iface 44 (.pointer (some ⟨a, 0, none⟩))) ats) (T : Tab w) :
    Calls Tryd.prog 19 #[.pointer (some ⟨a, 0, none⟩)] w (GotText w (fullText k x ats)) := by
  obtain ⟨i0, hi, hz0, hz1, hz2⟩ := info_parts Tryd.infoByte
  have hpos : 0 < (fullText k x ats).length := by
    cases H with
    | base v h => cases h with | bare a x h h1 => simp [fullText, baseText]; omega
    | at_ a n t v l h0 h1 h => rw [full_cons]; simp; omega
  have HF := Lib.hid (full_len k x hx ats hats)
  have HX := Lib.hid hx
  have HA := Lib.hid hats
  have HT := Lib.hid (Lib.tabBelow_of_tabIs T)
  have HT2 := Lib.hid T
  have HH := Lib.hid H
  have HP := Lib.hid hpos
  have hw64 : w.heap.size ≤ w.heap.size := Nat.le_refl _
  clear hx hats T H hpos
  obtain ⟨full, hfull⟩ : ∃ full, full = fullText k x ats := ⟨_, rfl⟩
  rw [← hfull] at HF HP ⊢
  have HE := Lib.hid hfull
  clear hfull
  go_enter Tryd.func19, Tryd.ntmps19
  go_wp2_with fail
  go_loopg [0, 3] (ats.length + 1) (fun g av sv wr => ErrRel w wr k x full g av sv)
  case atStart => exact ⟨Below.refl _ _, [], World.ownsRow_nil _ _ _ _, .inl ⟨a, ats, rfl, HH.out, HA.out, by rw [HE.out]; rfl, rfl⟩⟩
  case round =>
    obtain ⟨hB, done, hown, hor⟩ := hrel
    have hsz := hB.size
    rcases hor with ⟨a1, l, rfl, hC, hl, hd, hg⟩ | ⟨rfl, hd, hg⟩
    · obtain ⟨n, ev, hn, c0, c1, hor⟩ := at_parts k x HX.out a1 l w HT2.out hC hl
      have ha1 : a1 < w.heap.size := World.block_lt_of_cell? w _ c0
      have d0 := (hB.cell (p := ⟨a1, 0, none⟩) ha1).trans c0
      have hi2 : done.length ≤ full.length := by rw [← hd]; simp
      have HHF := HF.out
      have hi3 : done.length ≤ 50000 := by omega
      have LN := itoa_len n hn
      have HTB := HT.out.on hB
      have C1 := Lib.hid c1
      have HOR := Lib.hid hor
      have HD := Lib.hid hd
      have HL := Lib.hid hl
      have HG := Lib.hid hg
      clear hor hd hg hl c0 c1 hC HHF hi2
      go_wp2_with (go_at_call 31; refine (Tryd.strconv_AppendInt_10 w.heap.size done.length n hn.1 hn.2 _ _ _ hown hsz (by omega) HTB).mono ?_; rintro e w1 ⟨v1, rfl, hown1, hB1, -⟩; refine Hid.out ?_)
      refine Lib.hid ?_
      have hB2 := hB.trans hB1
      have hs2 := hB2.size
      go_wp2_with (at_builtin; go_loud (refine Lib.wpList_append_own_string _ rfl _ _ 66 9 rfl w.heap.size 5 i0 Tryd.underlying66 Tryd.underlying9 hi hz0 hz1 hz2 _ _ _ rfl hown1 ⟨#[58, 32]⟩ rfl (by unfold maxLen; show _ + 2 ≤ _; omega) (by show _ + 2 ≤ _; omega) hs2 ?_))
      intro v2 w2 hown2 hgr2 _
      have hB3 : Below w.heap.size w w2 := hB2.grown hgr2 hs2 fun k hk => (hown1.lt k hk).1
      rw [strCells_bytes] at hown2
      have hown3 : w2.ownsRow w.heap.size 5 1 v2 (done ++ (Lib.itoa n ++ [58, 32])).length (Lib.byteCells (done ++ (Lib.itoa n ++ [58, 32]))) := by simpa [Lib.byteCells, Nat.add_assoc] using hown2
      have hs3 := hB3.size
      have f0 := (hB3.cell (p := ⟨a1, 1, none⟩) ha1).trans C1.out
      have hl2 : (done ++ (Lib.itoa n ++ [58, 32])).length ≤ 60000 := by simp; omega
      obtain ⟨d2, hd2⟩ : ∃ d2, done ++ (Lib.itoa n ++ [58, 32]) = d2 := ⟨_, rfl⟩
      rw [hd2] at hown3 hl2
      have HD2 := Lib.hid hd2
      clear hgr2 hown2 hown1 hd2 d0 HTB hs2 hown hB2 hB1 hB
      go_wp2_with fail
      have HO := HOR.out
      rcases HO with ⟨a2, l2, rfl, hC2, rfl⟩ | ⟨tl, hno, htx, htl, hfe⟩
      · have HC2 := Lib.hid hC2
        clear hC2
        refine (itself_at a2 w2).mono ?_
        rintro e w3 ⟨rfl, K3⟩
        have hown4 := own_kept hown3 K3 fun _ _ => id
        have hB4 := hB3.trans (K3.below (B := w.heap.size) hs3 fun _ h => h.elim)
        have HO4 := Lib.hid hown4
        have HB4 := Lib.hid hB4
        clear hown4 hB4 hown3 hB3 K3
        go_wp2_with fail
        go_roundg (gk - 1)
        case measure => have := HG.out; simp at this; omega
        case rel =>
          refine ⟨HB4.out, d2, HO4.out, .inl ⟨a2, l2, rfl, HC2.out, fun m hm => HL.out m (by simp [hm]), ?_, by have := HG.out; simp at this; omega⟩⟩
          rw [← HD2.out, ← HD.out, full_cons]
          simp
      · have HTX := Lib.hid htx
        have HFE := Lib.hid hfe
        clear htx hfe
        refine (itself_not _ w2 hno).mono ?_
        rintro e w3 ⟨rfl, K3⟩
        have hown4 := own_kept hown3 K3 fun _ _ => id
        have hB4 := hB3.trans (K3.below (B := w.heap.size) hs3 fun _ h => h.elim)
        have f1 := (hB4.cell (p := ⟨a1, 1, none⟩) ha1).trans C1.out
        have HTX3 := Lib.hid (HTX.out w3 (Kept.ofBelow hB4 (Nat.le_refl _) _))
        clear hown3 hB3 K3
        go_wp2_with fail
        refine HTX3.out.mono ?_
        rintro e w4 ⟨rfl, K4⟩
        have hown5 := own_kept hown4 K4 fun _ _ => id
        have hB5 := hB4.trans (K4.below (B := w.heap.size) hB4.size fun _ h => h.elim)
        have hs5 := hB5.size
        clear hown4 hB4 K4
        go_wp2_with (at_builtin; go_loud (refine Lib.wpList_append_own_string _ rfl _ _ 66 9 rfl w.heap.size 5 i0 Tryd.underlying66 Tryd.underlying9 hi hz0 hz1 hz2 _ _ _ rfl hown5 ⟨tl.toArray⟩ rfl (by unfold maxLen; show _ + tl.length ≤ _; omega) (by show _ + tl.length ≤ _; omega) hs5 ?_))
        intro v6 w6 hown6 hgr6 _
        have hB6 : Below w.heap.size w w6 := hB5.grown hgr6 hs5 fun k hk => (hown5.lt k hk).1
        rw [strCells_bytes] at hown6
        have hown7 : w6.ownsRow w.heap.size 5 1 v6 full.length (Lib.byteCells full) := by
          have e : d2 ++ tl = full := by rw [← HD2.out, ← HD.out, ← HFE.out]; simp
          rw [← e]
          have := hown6
          simpa [Lib.byteCells] using this
        have HO6 := Lib.hid hown7
        have HB6 := Lib.hid hB6
        clear hown7 hown6 hB6 hgr6 hown5 hB5
        go_wp2_with fail
        go_roundg 0
        case measure => have := HG.out; omega
        case rel => exact ⟨HB6.out, full, HO6.out, .inr ⟨rfl, rfl, rfl⟩⟩
    · subst hd
      have HB := Lib.hid hB
      have HPP := HP.out
      clear hB
      have hown0 := hown
      rcases hown.2 with ⟨-, h0⟩ | ⟨g, cap, cur, rfl, -, -, -, -, -, -⟩
      · omega
      · have hcv := run_convert_bytes_back (P := Tryd.prog) wr 66 9 5 ⟨g, 0, none⟩ cap done Tryd.underlying66 Tryd.underlying5 Tryd.underlying9 (fun j hj => hown0.cells (g := g) rfl j _ (by simp [Lib.byteCells, hj]))
        clear hown hown0
        go_wp2_with fail
        go_ret
        exact ⟨rfl, Kept.ofBelow HB.out (Nat.le_refl _) _⟩

end Go.Proofs.YthkndllageopoaaDoor

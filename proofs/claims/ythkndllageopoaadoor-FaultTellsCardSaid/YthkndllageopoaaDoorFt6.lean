/-
  FaultTells: the reference's Numbers; sameInts.
-/
import Derived.Test.YthkndllageopoaaDoorFt5
import Derived.Laws.AppendOwnNone
import Derived.Deep.CutBlock
import Derived.Deep.DeepCutAuto
namespace Go.Proofs.YthkndllageopoaaDoor
open Go.RowKit

theorem ris_any (k x : Int) (sl : Value) (ao : Option Addr) (m c : Nat) (hsl : sl = .slice ao m c) (w : World) : Calls Tryd.prog 27 #[.agg #[.int .i64 k, .int .i64 x, sl]] w fun e w' => e = .returned (.bool (k != 0)) ∧ Kept (fun _ => False) w w' := by
  subst hsl
  go_enter Tryd.func27, Tryd.ntmps27
  go_wp2_with fail
  go_ret
  exact ⟨rfl, (Kept.refl _ _).alloc _⟩

theorem intsOf_get (l : List Int) (j : Nat) (u : Value) (h : (intsOf l)[j]? = some u) : ∃ hj : j < l.length, u = .int .i64 l[j] := by
  unfold intsOf at h
  rw [List.getElem?_map] at h
  obtain ⟨a, ha, rfl⟩ := Option.map_eq_some_iff.1 h
  obtain ⟨hj, rfl⟩ := List.getElem?_eq_some_iff.1 ha
  exact ⟨hj, rfl⟩

set_option maxRecDepth 100000 in
set_option maxHeartbeats 1600000 in
theorem rnumbers_any (k x : Int) (sl : Value) (ats : List Int) (hlen : ats.length ≤ 2000) (w : World) (hR : Reads w sl ats) (h0 : k = 0 → ats = []) : Calls Tryd.prog 10 #[.agg #[.int .i64 k, .int .i64 x, sl]] w (GotInts w (numsOf k x ats)) := by
  obtain ⟨i0, hi, hz0, hz1, hz2⟩ := info_parts Tryd.infoInt
  obtain ⟨ao, sb, so, c, rfl, hnone, hcell⟩ := hR
  have HC := Lib.hid hcell
  have HN := Lib.hid hnone
  have H0 := Lib.hid h0
  clear hcell hnone h0
  go_enter Tryd.func10, Tryd.ntmps10
  go_wp2_with fail
  refine (ris_any k x _ ao ats.length c rfl _).mono ?_
  rintro e w2 ⟨rfl, K2⟩
  have b1 : w2.cell? ⟨w.heap.size, 0, none⟩ = some (.int .i64 k) := (K2.cell (p := ⟨w.heap.size, 0, none⟩) (by simp) id).trans (by simp)
  have b2 : w2.cell? ⟨w.heap.size, 1, none⟩ = some (.int .i64 x) := (K2.cell (p := ⟨w.heap.size, 1, none⟩) (by simp) id).trans (by simp)
  have b3 : w2.cell? ⟨w.heap.size, 2, none⟩ = some (.slice ao ats.length c) := (K2.cell (p := ⟨w.heap.size, 2, none⟩) (by simp) id).trans (by simp)
  have HK2 := Lib.hid (((Kept.refl (fun _ => False) w).alloc (.cells #[.int .i64 k, .int .i64 x, .slice ao ats.length c] 24)).trans K2)
  have hz2' : w.heap.size ≤ w2.heap.size := HK2.out.size
  clear K2
  by_cases hk : k = 0
  · subst hk
    have hats := Lib.hid (H0.out rfl)
    clear H0
    go_wp2_with fail
    go_ret
    refine ⟨_, rfl, ?_, HK2.out⟩
    rw [hats.out]
    exact World.ownsRow_nil _ _ _ _
  · have hkb : (k != 0) = true := by simpa using hk
    have hkb2 : (!(k != 0)) = false := by simp [hk]
    go_upto_region 4 with fail
    go_cut [3] (fun v wx => IntsRow wx w.heap.size v ats ∧ wx.cell? ⟨w.heap.size, 0, none⟩ = some (.int .i64 k) ∧ wx.cell? ⟨w.heap.size, 1, none⟩ = some (.int .i64 x) ∧ Kept (fun _ => False) w wx)
    case first =>
      cases ao with
      | none =>
        obtain ⟨rfl, rfl⟩ := HN.out rfl
        go_wp2_with (at_builtin; go_loud (refine wpList_append_own_none rfl _ _ 22 rfl w.heap.size 3 i0 1 Tryd.underlying22 hi _ 0 [] rfl (World.ownsRow_nil _ _ _ _) rfl ?_))
        go_meet
        exact ⟨World.ownsRow_nil _ _ _ _, b1, b2, HK2.out⟩
      | some ad =>
        have hnews : ∀ j u, (intsOf ats)[j]? = some u → w2.cell? (ad.add j) = some u := by
          intro j u hu
          obtain ⟨hj, rfl⟩ := intsOf_get _ _ _ hu
          obtain ⟨e1, e2⟩ := HC.out j hj
          obtain rfl := Option.some.inj e1
          have e3 := still_cell HK2.out e2
          rw [add_none]; exact e3
        have hone : ∀ u ∈ intsOf ats, u.oneCell' = true := by
          intro u hu
          obtain ⟨a, _, rfl⟩ := List.mem_map.1 hu
          rfl
        go_wp2_with (at_builtin; go_loud (refine wpList_append_own _ rfl _ _ 22 rfl w.heap.size 3 i0 (.int .i64 0) 1 8 Tryd.underlying22 hi hz0 hz1 hz2 rfl (by decide) _ _ _ rfl (World.ownsRow_nil _ _ _ _) ad ats.length c (intsOf ats) rfl (by simp [intsOf]) hnews hone (by unfold maxLen; omega) (by omega) hz2' ?_))
        intro v4 w4 own4 grown4 lies4
        have KG := kept_grown grown4
        have K4 : Kept (fun b => False) w2 w4 := KG.mono fun b _ e => by cases e
        have c1 := still_cell K4 b1
        have c2 := still_cell K4 b2
        have HO := Lib.hid own4
        have HK4 := Lib.hid (HK2.out.trans K4)
        clear own4 grown4 lies4 KG K4
        go_wp2_with fail
        go_meet
        refine ⟨?_, c1, c2, HK4.out⟩
        exact HO.out
    case rest =>
      obtain ⟨hR, c1, c2, hK⟩ := hcut
      have XR := Lib.hid hR
      have XK := Lib.hid hK
      have hwz : w.heap.size ≤ wc.heap.size := hK.size
      clear hR hK b1 b2 b3
      by_cases h6 : k = 6
      · subst h6
        go_wp2_with (at_builtin; go_loud (refine wpList_append_lies _ rfl _ _ 22 rfl w.heap.size 3 i0 (.int .i64 0) 1 8 Tryd.underlying22 hi hz0 hz1 hz2 rfl (by decide) _ _ _ rfl (XR.out.alloc _) ⟨wc.heap.size, 0, none⟩ 1 1 [.int .i64 x] rfl rfl (by intro j u hj; match j, hj with | 0, hj => simp at hj; subst hj; simp [Addr.add]) (by intro u hu; simp at hu; subst hu; rfl) (by decide) (by unfold maxLen; omega) (by first | omega | (simp; omega)) (by first | omega | (simp; omega)) _ rfl ?_))
        intro g cap w4 own4 grown4 lies4 _
        have KB := (Kept.refl (fun _ => False) wc).alloc (.cells #[.int .i64 x] 3)
        have K4 : Kept (fun _ => False) w w4 := (XK.out.trans KB).far (kept_grown grown4) fun g hg => (World.ownsRow.lt XR.out g hg).1
        have HO := Lib.hid own4
        have HK4 := Lib.hid K4
        clear own4 grown4 lies4 KB K4
        go_wp2_with fail
        go_ret
        refine ⟨_, rfl, ?_, HK4.out⟩
        have e6 : numsOf 6 x ats = ats ++ [x] := rfl
        rw [e6]
        have := HO.out
        unfold IntsRow
        rw [List.length_append, intsOf_append]
        exact this
      · have hk6 : (k == 6) = false := by simpa using h6
        have e6 : numsOf k x ats = ats := by unfold numsOf; rw [if_neg h6, List.append_nil]
        have E6 := Lib.hid e6
        clear e6
        go_wp2_with fail
        go_ret
        exact ⟨_, rfl, by rw [E6.out]; exact XR.out, XK.out⟩

/-- Where the loop of sameInts stands. -/
def SameRel (w wr : World) (n g : Nat) (iv : Value) : Prop := ∃ i, i + g = n ∧ iv = .int .i64 (i : Nat) ∧ Kept (fun _ => False) w wr

set_option maxRecDepth 100000 in
set_option maxHeartbeats 800000 in
theorem sameInts_yes (u v : Value) (l : List Int) (hlen : l.length ≤ 5000) (w : World) (hu : Reads w u l) (hv : Reads w v l) : Calls Tryd.prog 8 #[u, v] w fun e w' => e = .returned (.bool true) ∧ Kept (fun _ => False) w w' := by
  obtain ⟨ao, sa, soa, ca, rfl, _, ha⟩ := hu
  obtain ⟨bo, sb, sob, cb, rfl, _, hb⟩ := hv
  have HA := Lib.hid ha
  have HB := Lib.hid hb
  clear ha hb
  go_enter Tryd.func8, Tryd.ntmps8
  go_wp2_with fail
  go_loopg [5] l.length (fun g iv wr => SameRel w wr l.length g iv)
  case atStart => exact ⟨0, by omega, rfl, Kept.refl _ _⟩
  case round =>
    obtain ⟨i, hig, rfl, hK⟩ := hrel
    by_cases hi : i < l.length
    · obtain ⟨rfl, a1⟩ := HA.out i hi
      obtain ⟨rfl, b1⟩ := HB.out i hi
      have a2 := still_cell hK a1
      have b2 := still_cell hK b1
      have i0 : (i : Int) < l.length := by omega
      have i1 : (0 : Int) ≤ (i : Int) := by omega
      have HK := Lib.hid hK
      clear hK a1 b1
      obtain ⟨y, hy⟩ : ∃ y, l[i] = y := ⟨_, rfl⟩
      rw [hy] at a2 b2
      clear hy
      go_wp2_with fail
      go_region
      all_goals
        go_wp2_with fail
        go_roundg (gk - 1)
        case measure => omega
        case rel => exact ⟨i + 1, by omega, by go_num, HK.out.drew⟩
    · obtain rfl : i = l.length := by omega
      have HK := Lib.hid hK
      clear hK
      go_wp2_with fail
      go_ret
      exact ⟨rfl, HK.out⟩

end Go.Proofs.YthkndllageopoaaDoor

/-
  Package join, a nil thread: Quorum; the calls that are refused; All of none.
-/
import Derived.Test.YtfbanlpmkfgpjaaGreatDoorJoin5
namespace Go.Proofs.YtfbanlpmkfgpjaaGreatDoor
open Go.RowKit

theorem all_bad (v : Value) (w : World) (hu : Calls Tryz.prog 16 #[v] w fun e w' => e = .returned (.bool true) ∧ w = w') :
    Calls Tryz.prog 6 #[.pointer none, v] w fun e w' => e = .returned (.tuple #[.pointer none, .int .i64 2]) ∧ w = w' := by
  have HU := Lib.hid hu
  clear hu
  go_enter Tryz.func6, Tryz.ntmps6
  go_wp2_with fail
  refine HU.out.mono ?_
  rintro e w' ⟨rfl, rfl⟩
  go_wp2_with fail
  go_ret2
  exact ⟨rfl, rfl⟩

theorem any_bad (v : Value) (w : World) (hu : Calls Tryz.prog 16 #[v] w fun e w' => e = .returned (.bool true) ∧ w = w') :
    Calls Tryz.prog 7 #[.pointer none, v] w fun e w' => e = .returned (.tuple #[.pointer none, .int .i64 2]) ∧ w = w' := by
  have HU := Lib.hid hu
  clear hu
  go_enter Tryz.func7, Tryz.ntmps7
  go_wp2_with fail
  refine HU.out.mono ?_
  rintro e w' ⟨rfl, rfl⟩
  go_wp2_with fail
  go_ret2
  exact ⟨rfl, rfl⟩

theorem any_none (w : World) (hu : Calls Tryz.prog 16 #[.slice none 0 0] w fun e w' => e = .returned (.bool false) ∧ w = w') :
    Calls Tryz.prog 7 #[.pointer none, .slice none 0 0] w fun e w' => e = .returned (.tuple #[.pointer none, .int .i64 25]) ∧ Kept (fun _ => False) w w' := by
  have HU := Lib.hid hu
  clear hu
  go_enter Tryz.func7, Tryz.ntmps7
  go_wp2_with fail
  refine HU.out.mono ?_
  rintro e w' ⟨rfl, rfl⟩
  go_wp2_with fail
  go_ret2
  exact ⟨rfl, (Kept.refl _ _).alloc _⟩

theorem quorum_bad (v : Value) (k : Int) (w : World) (hu : Calls Tryz.prog 16 #[v] w fun e w' => e = .returned (.bool true) ∧ w = w') :
    Calls Tryz.prog 8 #[.pointer none, .int .i64 k, v] w fun e w' => e = .returned (.tuple #[.pointer none, .int .i64 2]) ∧ w = w' := by
  have HU := Lib.hid hu
  clear hu
  go_enter Tryz.func8, Tryz.ntmps8
  go_wp2_with fail
  refine HU.out.mono ?_
  rintro e w' ⟨rfl, rfl⟩
  go_wp2_with fail
  go_ret2
  exact ⟨rfl, rfl⟩

theorem quorum_arg (v : Option Addr) (m cap : Nat) (k : Int) (hk : k < 0 ∨ (m : Int) < k) (w : World) (hu : Calls Tryz.prog 16 #[.slice v m cap] w fun e w' => e = .returned (.bool false) ∧ w = w') :
    Calls Tryz.prog 8 #[.pointer none, .int .i64 k, .slice v m cap] w fun e w' => e = .returned (.tuple #[.pointer none, .int .i64 1]) ∧ w = w' := by
  have HU := Lib.hid hu
  clear hu
  by_cases h0 : k < 0
  · go_enter Tryz.func8, Tryz.ntmps8
    go_wp2_with fail
    refine HU.out.mono ?_
    rintro e w' ⟨rfl, rfl⟩
    go_wp2_with fail
    go_ret2
    exact ⟨rfl, rfl⟩
  · have h1 : (m : Int) < k := by omega
    have h2 : 0 ≤ k := by omega
    clear hk
    go_enter Tryz.func8, Tryz.ntmps8
    go_wp2_with fail
    refine HU.out.mono ?_
    rintro e w' ⟨rfl, rfl⟩
    go_wp2_with fail
    go_ret2
    exact ⟨rfl, rfl⟩

/-- What is left where a joint future is filled at once. -/
def DonePost (w : World) : Ending → World → Prop := fun r w' =>
  ∃ l h p : Nat, r = .returned (.tuple #[.pointer (some ⟨w.heap.size + 5, 0, none⟩), .int .i64 0]) ∧ Ftr w' w.heap.size l h p 2 0 .nilIface 0 (-1) (fun _ => .pointer none) ∧ Kept (fun _ => False) w w'

theorem quorum_zero (v : Option Addr) (m cap : Nat) (w : World) (hu : Calls Tryz.prog 16 #[.slice v m cap] w fun e w' => e = .returned (.bool false) ∧ w = w') :
    Calls Tryz.prog 8 #[.pointer none, .int .i64 0, .slice v m cap] w (DonePost w) := by
  have HU := Lib.hid hu
  have hm : ¬ (m : Int) < 0 := by omega
  clear hu
  go_enter Tryz.func8, Tryz.ntmps8
  go_wp2_with fail
  refine HU.out.mono ?_
  rintro e w' ⟨rfl, rfl⟩
  go_wp2_with fail
  refine (fnew_any _).mono ?_
  rintro e w1 ⟨l, h, p, rfl, s1, F1, K1⟩
  have KB : Kept (fun _ => False) w1 (w1.alloc (.cells #[.pointer (some ⟨w.heap.size + 5, 0, none⟩)] 24)) := (Kept.refl _ w1).alloc _
  have HB := Lib.hid (show Slot (w1.alloc (.cells #[.pointer (some ⟨w.heap.size + 5, 0, none⟩)] 24)) w1.heap.size 0 (.pointer (some ⟨w.heap.size + 5, 0, none⟩)) from slot_of (block_last _ _ _ rfl) rfl)
  have HC := Lib.hid (fcomplete_ok 0 _ (F1.far KB))
  have HK := Lib.hid (K1.trans KB)
  have hs : Hid (w1.heap.size = w.heap.size + 6) := s1
  clear KB F1 K1 s1
  go_wp2_with fail
  refine HC.out.mono ?_
  rintro e w2 ⟨rfl, F2, K2⟩
  have b2 := (HB.out.kept K2 (by rintro ⟨h1, h2⟩; have := hs.out; omega)).c
  have HF2 := Lib.hid F2
  have HK2 := Lib.hid (HK.out.far K2 (fun i hi => hi.1))
  clear F2 K2
  go_wp2_with fail
  go_ret2
  exact ⟨l, h, p, rfl, HF2.out, HK2.out⟩

/-- What a Quorum stands on. -/
structure Qu (w : World) (n m : Nat) (k : Int) (c1 c2 : Int) : Prop where
  g : Slot w (n + 6) 0 (.pointer (some ⟨n + 5, 0, none⟩))
  en : Slot w (n + 7) 0 (.int .i64 k)
  tm : Slot w (n + 8) 0 (.int .i64 (m - k + 1))
  good : Cel w (n + 9) c1
  bad : Cel w (n + 10) c2
  bg : Slot w (n + 11) 0 (.pointer (some ⟨n + 9, 0, none⟩))
  bb : Slot w (n + 12) 0 (.pointer (some ⟨n + 10, 0, none⟩))

theorem Qu.kept {S : Nat → Prop} {w w' : World} {n m : Nat} {k c1 c2 : Int} (q : Qu w n m k c1 c2) (K : Kept S w w') (h : ∀ b, n + 6 ≤ b → b ≤ n + 12 → ¬ S b) : Qu w' n m k c1 c2 :=
  ⟨q.g.kept K (h _ (by omega) (by omega)), q.en.kept K (h _ (by omega) (by omega)), q.tm.kept K (h _ (by omega) (by omega)), q.good.kept K (h _ (by omega) (by omega)), q.bad.kept K (h _ (by omega) (by omega)), q.bg.kept K (h _ (by omega) (by omega)), q.bb.kept K (h _ (by omega) (by omega))⟩

/-- What Quorum leaves: a future, its closure hung on each. -/
def QuorumPost (w : World) (m c : Nat) (k : Int) (fs L H P : Nat → Nat) (X : Nat → Nat → Value) : Ending → World → Prop := fun r w' =>
  ∃ (l h p s : Nat) (w1 : World), r = .returned (.tuple #[.pointer (some ⟨w.heap.size + 5, 0, none⟩), .int .i64 0]) ∧
    Ftr w' w.heap.size l h p 0 0 .nilIface 0 0 (fun _ => .pointer none) ∧ Qu w' w.heap.size m k 0 0 ∧ w1.heap.size = w.heap.size + 13 ∧
    Kept (fun _ => False) w w1 ∧
    Hung w1 w' m c m fs L H P X w1.heap.size s (.func (.func 26) #[] #[.pointer (some ⟨w.heap.size + 11, 0, none⟩), .pointer (some ⟨w.heap.size + 7, 0, none⟩), .pointer (some ⟨w.heap.size + 6, 0, none⟩), .pointer (some ⟨w.heap.size + 12, 0, none⟩), .pointer (some ⟨w.heap.size + 8, 0, none⟩)])

set_option maxRecDepth 100000 in
set_option maxHeartbeats 1600000 in
theorem quorum_open (g cap m c : Nat) (k : Int) (hm : 0 < m) (hm2 : m ≤ 4096) (hk1 : 0 < k) (hk2 : k ≤ m) (hc : c < 3) (fs L H P : Nat → Nat) (X : Nat → Nat → Value) (w : World) (A : Fts w m c fs L H P X)
    (hf : ∀ j, j < m → w.cell? ⟨g, j, none⟩ = some (.pointer (some ⟨fs j + 5, 0, none⟩))) (lg : g < w.heap.size)
    (hu : Calls Tryz.prog 16 #[.slice (some ⟨g, 0, none⟩) m cap] w fun e w' => e = .returned (.bool false) ∧ w = w') :
    Calls Tryz.prog 8 #[.pointer none, .int .i64 k, .slice (some ⟨g, 0, none⟩) m cap] w (QuorumPost w m c k fs L H P X) := by
  have hmf : ∀ (fn : Fn) (first cap : Array Value) (w : World), (Instr.makeFunc fn first cap).run Tryz.prog w = .ok (.func fn first cap) w := fun _ _ _ _ => rfl
  have e1 : wrap64 ((m : Int) - k) = m - k := by unfold wrap64; omega
  have e2 : wrap64 ((m : Int) - k + 1) = m - k + 1 := by unfold wrap64; omega
  have hk0 : ¬ k < 0 := by omega
  have hk3 : ¬ k = 0 := by omega
  have hk4 : ¬ (m : Int) < k := by omega
  have HA := Lib.hid A
  have HU := Lib.hid hu
  have HF := Lib.hid hf
  clear A hf hu
  go_enter Tryz.func8, Tryz.ntmps8
  go_wp2_with fail
  refine HU.out.mono ?_
  rintro e w' ⟨rfl, rfl⟩
  go_wp2_with fail
  refine (fnew_any _).mono ?_
  rintro e w1 ⟨l, h, p, rfl, s1, F1, K1⟩
  have HF1 := Lib.hid F1
  have HK1 := Lib.hid K1
  have hs : Hid (w1.heap.size = w.heap.size + 6) := s1
  clear F1 K1 s1
  go_wp2_with fail
  refine (new_cell 0 _).mono ?_
  rintro e w2 ⟨rfl, rfl⟩
  go_wp2_with fail
  refine (new_cell 0 _).mono ?_
  rintro e w2 ⟨rfl, rfl⟩
  have h1 := hs.out
  have KW : Kept (fun _ => False) w1 ((((((((w1.alloc (.cells #[.pointer (some ⟨w.heap.size + 5, 0, none⟩)] 24)).alloc (.cells #[.int .i64 k] 2)).alloc (.cells #[.int .i64 (m - k + 1)] 2)).alloc (.cells #[.int .i64 0, .bool true, .int .i64 0, .int .i32 0, .int .u32 0, .chan none] 87)).alloc (.cells #[.int .i64 0, .bool true, .int .i64 0, .int .i32 0, .int .u32 0, .chan none] 87)).alloc (.cells #[.pointer (some ⟨w1.heap.size + 1 + 1 + 1, 0, none⟩)] 26)).alloc (.cells #[.pointer (some ⟨w1.heap.size + 1 + 1 + 1 + 1, 0, none⟩)] 26))) := (((((((Kept.refl _ _).alloc _).alloc _).alloc _).alloc _).alloc _).alloc _).alloc _
  have SW : ((((((((w1.alloc (.cells #[.pointer (some ⟨w.heap.size + 5, 0, none⟩)] 24)).alloc (.cells #[.int .i64 k] 2)).alloc (.cells #[.int .i64 (m - k + 1)] 2)).alloc (.cells #[.int .i64 0, .bool true, .int .i64 0, .int .i32 0, .int .u32 0, .chan none] 87)).alloc (.cells #[.int .i64 0, .bool true, .int .i64 0, .int .i32 0, .int .u32 0, .chan none] 87)).alloc (.cells #[.pointer (some ⟨w1.heap.size + 1 + 1 + 1, 0, none⟩)] 26)).alloc (.cells #[.pointer (some ⟨w1.heap.size + 1 + 1 + 1 + 1, 0, none⟩)] 26))).heap.size = w.heap.size + 13 := by simp; omega
  have cel : ∀ b, ((((((((w1.alloc (.cells #[.pointer (some ⟨w.heap.size + 5, 0, none⟩)] 24)).alloc (.cells #[.int .i64 k] 2)).alloc (.cells #[.int .i64 (m - k + 1)] 2)).alloc (.cells #[.int .i64 0, .bool true, .int .i64 0, .int .i32 0, .int .u32 0, .chan none] 87)).alloc (.cells #[.int .i64 0, .bool true, .int .i64 0, .int .i32 0, .int .u32 0, .chan none] 87)).alloc (.cells #[.pointer (some ⟨w1.heap.size + 1 + 1 + 1, 0, none⟩)] 26)).alloc (.cells #[.pointer (some ⟨w1.heap.size + 1 + 1 + 1 + 1, 0, none⟩)] 26))).heap[b]? = some (.cells #[.int .i64 0, .bool true, .int .i64 0, .int .i32 0, .int .u32 0, .chan none] 87) → Cel ((((((((w1.alloc (.cells #[.pointer (some ⟨w.heap.size + 5, 0, none⟩)] 24)).alloc (.cells #[.int .i64 k] 2)).alloc (.cells #[.int .i64 (m - k + 1)] 2)).alloc (.cells #[.int .i64 0, .bool true, .int .i64 0, .int .i32 0, .int .u32 0, .chan none] 87)).alloc (.cells #[.int .i64 0, .bool true, .int .i64 0, .int .i32 0, .int .u32 0, .chan none] 87)).alloc (.cells #[.pointer (some ⟨w1.heap.size + 1 + 1 + 1, 0, none⟩)] 26)).alloc (.cells #[.pointer (some ⟨w1.heap.size + 1 + 1 + 1 + 1, 0, none⟩)] 26))) b 0 := fun b cL => ⟨by simp [World.cell?, cL], by simp [World.cell?, cL], by simp [World.cell?, cL], by simp [World.frozen?, cL], (Array.getElem?_eq_some_iff.1 cL).1⟩
  have e3 : w1.heap.size + 1 + 1 + 1 = w.heap.size + 9 := by omega
  have e4 : w1.heap.size + 1 + 1 + 1 + 1 = w.heap.size + 10 := by omega
  have QW : Qu ((((((((w1.alloc (.cells #[.pointer (some ⟨w.heap.size + 5, 0, none⟩)] 24)).alloc (.cells #[.int .i64 k] 2)).alloc (.cells #[.int .i64 (m - k + 1)] 2)).alloc (.cells #[.int .i64 0, .bool true, .int .i64 0, .int .i32 0, .int .u32 0, .chan none] 87)).alloc (.cells #[.int .i64 0, .bool true, .int .i64 0, .int .i32 0, .int .u32 0, .chan none] 87)).alloc (.cells #[.pointer (some ⟨w1.heap.size + 1 + 1 + 1, 0, none⟩)] 26)).alloc (.cells #[.pointer (some ⟨w1.heap.size + 1 + 1 + 1 + 1, 0, none⟩)] 26))) w.heap.size m k 0 0 :=
    ⟨slot_of (by repeat (first | (refine block_last _ _ _ ?_; (try simp) <;> omega) | (refine block_old _ _ _ ?_ ?_; ((try simp) <;> omega)))) rfl, slot_of (by repeat (first | (refine block_last _ _ _ ?_; (try simp) <;> omega) | (refine block_old _ _ _ ?_ ?_; ((try simp) <;> omega)))) rfl, slot_of (by repeat (first | (refine block_last _ _ _ ?_; (try simp) <;> omega) | (refine block_old _ _ _ ?_ ?_; ((try simp) <;> omega)))) rfl, cel _ (by repeat (first | (refine block_last _ _ _ ?_; (try simp) <;> omega) | (refine block_old _ _ _ ?_ ?_; ((try simp) <;> omega)))), cel _ (by repeat (first | (refine block_last _ _ _ ?_; (try simp) <;> omega) | (refine block_old _ _ _ ?_ ?_; ((try simp) <;> omega)))), by rw [← e3]; exact slot_of (b := w.heap.size + 11) (by repeat (first | (refine block_last _ _ _ ?_; (try simp) <;> omega) | (refine block_old _ _ _ ?_ ?_; ((try simp) <;> omega)))) rfl, by rw [← e4]; exact slot_of (b := w.heap.size + 12) (by repeat (first | (refine block_last _ _ _ ?_; (try simp) <;> omega) | (refine block_old _ _ _ ?_ ?_; ((try simp) <;> omega)))) rfl⟩
  have e5 : w1.heap.size + 1 + 1 + 1 + 1 + 1 = w.heap.size + 11 := by omega
  have e6 : w1.heap.size + 1 + 1 + 1 + 1 + 1 + 1 = w.heap.size + 12 := by omega
  have e7 : w1.heap.size + 1 = w.heap.size + 7 := by omega
  have e8 : w1.heap.size + 1 + 1 = w.heap.size + 8 := by omega
  have KK : Kept (fun _ => False) w _ := HK1.out.trans KW
  have HH := Lib.hid (hang_open g cap m c 26 #[.pointer (some ⟨w1.heap.size + 1 + 1 + 1 + 1 + 1, 0, none⟩), .pointer (some ⟨w1.heap.size + 1, 0, none⟩), .pointer (some ⟨w1.heap.size, 0, none⟩), .pointer (some ⟨w1.heap.size + 1 + 1 + 1 + 1 + 1 + 1, 0, none⟩), .pointer (some ⟨w1.heap.size + 1 + 1, 0, none⟩)] hm hm2 hc fs L H P X _ (HA.out.kept KK fun _ _ _ _ h => h) (fun j hj => (KK.cell (p := ⟨g, j, none⟩) lg id).trans (HF.out j hj)) (Nat.lt_of_lt_of_le lg KK.size))
  have He : Hid (w1.heap.size + 1 + 1 + 1 + 1 + 1 = w.heap.size + 11 ∧ w1.heap.size + 1 + 1 + 1 + 1 + 1 + 1 = w.heap.size + 12 ∧ w1.heap.size + 1 = w.heap.size + 7 ∧ w1.heap.size + 1 + 1 = w.heap.size + 8) := Lib.hid ⟨e5, e6, e7, e8⟩
  have HFW := Lib.hid (HF1.out.far KW)
  have HQW := Lib.hid QW
  have HSW := Lib.hid SW
  have HKK := Lib.hid KK
  clear e3 e4 e5 e6 e7 e8 cel h1 KW QW SW KK
  go_wp2_with fail
  refine HH.out.mono ?_
  rintro e w3 ⟨rfl, s, G⟩
  have ow : ∀ b, w.heap.size ≤ b → ¬ Own m fs b := by
    rintro b hb ⟨j, hj, h1, h2⟩
    have := (HA.out.fut j hj).size
    omega
  have F3 := HFW.out.kept G.kept (fun b hb => ow b hb.1)
  have Q3 := HQW.out.kept G.kept (fun b h1 _ => ow b (by omega))
  have b3 : w3.cell? ⟨w1.heap.size, 0, none⟩ = some (.pointer (some ⟨w.heap.size + 5, 0, none⟩)) := by rw [hs.out]; exact Q3.g.c
  obtain ⟨W, q1, q2, G⟩ : ∃ W, W.heap.size = w.heap.size + 13 ∧ Kept (fun _ => False) w W ∧ Hung W w3 m c m fs L H P X W.heap.size s _ := ⟨_, HSW.out, HKK.out, G⟩
  obtain ⟨e5, e6, e7, e8⟩ := He.out
  rw [e6, e5, e8, e7, hs.out] at G
  have HP : Hid _ := Lib.hid (And.intro F3 (And.intro Q3 (And.intro q1 (And.intro q2 G))))
  clear ow F3 Q3 G e5 e6 e7 e8 q1 q2
  go_wp2_with fail
  refine (unless_ok _ _).mono ?_
  rintro e w4 ⟨rfl, rfl⟩
  go_wp2_with fail
  go_ret2
  obtain ⟨p1, p2, p3, p4, p5⟩ := HP.out
  exact ⟨l, h, p, s, _, rfl, p1, p2, p3, p4, p5⟩

/-- What All of none leaves. -/
def AllNone (w : World) : Ending → World → Prop := fun r w' =>
  ∃ l h p jb : Nat, r = .returned (.tuple #[.pointer (some ⟨jb, 0, none⟩), .int .i64 0]) ∧ Ftr w' w.heap.size l h p 2 0 .nilIface 0 (-1) (fun _ => .pointer none) ∧ Slot w' jb 0 (.pointer (some ⟨w.heap.size + 5, 0, none⟩)) ∧ w.heap.size + 6 ≤ jb ∧ Kept (fun _ => False) w w'

set_option maxRecDepth 100000 in
set_option maxHeartbeats 1600000 in
theorem all_none (w : World) (hu : Calls Tryz.prog 16 #[.slice none 0 0] w fun e w' => e = .returned (.bool false) ∧ w = w') :
    Calls Tryz.prog 6 #[.pointer none, .slice none 0 0] w (AllNone w) := by
  have hmk : ∀ W : World, (Instr.makeSlice 39 (.int .i64 0) (.int .i64 0)).run Tryz.prog W = .ok (.slice (some ⟨W.heap.size, 0, none⟩) 0 0) (W.alloc (.cells (many (.int .i64 0) 0) 62)) := fun W => run_mk64 0 (by decide) W
  have HU := Lib.hid hu
  clear hu
  go_enter Tryz.func6, Tryz.ntmps6
  go_wp2_with fail
  refine HU.out.mono ?_
  rintro e w' ⟨rfl, rfl⟩
  go_wp2_with fail
  refine (fnew_any _).mono ?_
  rintro e w1 ⟨l, h, p, rfl, s1, F1, K1⟩
  have HS1 := Lib.hid s1
  have HF1 := Lib.hid F1
  have HK1 := Lib.hid K1
  clear s1 F1 K1
  go_upto_region 4 with fail
  go_cut [6, 7, 8] (fun a b v wx => ∃ V jb bj : Nat, a = .pointer (some ⟨w.heap.size + 6, 0, none⟩) ∧ b = .pointer (some ⟨w.heap.size + 7, 0, none⟩) ∧ v = .pointer (some ⟨bj, 0, none⟩) ∧ AllA w wx 0 l h p V jb bj)
  case first =>
    go_region
    all_goals
      go_wp2_with fail
      go_meet
      case rel =>
        first
          | refine ⟨w1.heap.size + 1 + 1, w1.heap.size + 1 + 1 + 1, w1.heap.size + 1 + 1 + 1 + 1, by rw [HS1.out], by rw [HS1.out], rfl, allA_of (w1 := w1) HF1.out HS1.out HK1.out (((((Kept.refl _ _).alloc _).alloc _).alloc _).alloc _ |>.alloc _).drew (by simp) ⟨⟨by omega, by omega⟩, ⟨by omega, by omega⟩, by omega, by omega⟩ ⟨by omega, by omega⟩ ?_ ?_ ?_ ?_ ?_⟩
          | refine ⟨w1.heap.size + 1 + 1, w1.heap.size + 1 + 1 + 1 + 1, w1.heap.size + 1 + 1 + 1, by rw [HS1.out], by rw [HS1.out], rfl, allA_of (w1 := w1) HF1.out HS1.out HK1.out (((((Kept.refl _ _).alloc _).alloc _).alloc _).alloc _ |>.alloc _).drew (by simp) ⟨⟨by omega, by omega⟩, ⟨by omega, by omega⟩, by omega, by omega⟩ ⟨by omega, by omega⟩ ?_ ?_ ?_ ?_ ?_⟩
          | refine ⟨w1.heap.size + 1 + 1 + 1, w1.heap.size + 1 + 1 + 1 + 1, w1.heap.size + 1 + 1, by rw [HS1.out], by rw [HS1.out], rfl, allA_of (w1 := w1) HF1.out HS1.out HK1.out (((((Kept.refl _ _).alloc _).alloc _).alloc _).alloc _ |>.alloc _).drew (by simp) ⟨⟨by omega, by omega⟩, ⟨by omega, by omega⟩, by omega, by omega⟩ ⟨by omega, by omega⟩ ?_ ?_ ?_ ?_ ?_⟩
        all_goals (refine block_drew_of ?_; repeat (first | (refine block_last _ _ _ ?_; (try simp) <;> omega) | (refine block_old _ _ _ ?_ ?_; ((try simp) <;> omega))))
  case rest =>
    obtain ⟨V, jb, bj, rfl, rfl, rfl, Y⟩ := hcut
    have j1 := Y.jn.g.c
    have j2 := Y.jn.n.c
    have HC := Lib.hid (fcomplete_ok 0 _ Y.fut)
    have HY := Lib.hid Y
    clear Y
    go_wp2_with fail
    refine HC.out.mono ?_
    rintro e w2 ⟨rfl, F2, K2⟩
    have b1 := HY.out.b1
    have J2 := HY.out.jn.kept K2 (by rintro ⟨h1, h2⟩; omega) (by rintro ⟨h1, h2⟩; omega) (by rintro ⟨h1, h2⟩; have := b1.1.1; omega) (by rintro ⟨h1, h2⟩; have := b1.2.1.1; omega) (by rintro ⟨h1, h2⟩; have := b1.2.2.1; omega)
    have b3 := J2.j.c
    have HP : Hid _ := Lib.hid (And.intro F2 (And.intro J2.j0 (And.intro (show w.heap.size + 6 ≤ jb by have := b1.2.1.1; omega) (HY.out.kept.far K2 fun i hi => hi.1))))
    clear J2 b1 F2 K2
    go_wp2_with fail
    go_ret2
    obtain ⟨p1, p2, p3, p4⟩ := HP.out
    exact ⟨l, h, p, jb, rfl, p1, p2, p3, p4⟩

end Go.Proofs.YtfbanlpmkfgpjaaGreatDoor

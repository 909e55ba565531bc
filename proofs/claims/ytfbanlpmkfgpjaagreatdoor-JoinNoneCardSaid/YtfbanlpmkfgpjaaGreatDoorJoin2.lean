/-
  Package join, a nil thread: unmade; a row's clone.
-/
import Derived.Test.YtfbanlpmkfgpjaaGreatDoorJoin1
import Derived.Deep.AppendLies
import Derived.Shelf.Abstract
namespace Go.Proofs.YtfbanlpmkfgpjaaGreatDoor
open Go.RowKit

theorem Tryz.info24 : (Tryz.prog.info? 24).map (fun i => (i.zero, i.size, i.bytes)) = some (some (.pointer none), 1, 8) := by kernel_rfl

/-- The places of a row of m futures. -/
structure Row (w : World) (v : Value) (m : Nat) (f : Nat → Value) : Prop where
  is : (m = 0 ∧ v = .slice none 0 0) ∨ ∃ g cap : Nat, v = .slice (some ⟨g, 0, none⟩) m cap ∧ g < w.heap.size ∧ ∀ j, j < m → w.cell? ⟨g, j, none⟩ = some (f j)

theorem unmade1_is (x : Nat) (a : Addr) (w : World) (h : w.cell? ⟨x, 0, none⟩ = some (.pointer (some a))) : Calls Tryz.prog 34 #[.pointer (some ⟨x, 0, none⟩)] w fun e w' => e = .returned (.bool false) ∧ w = w' := by
  go_enter Tryz.func34, Tryz.ntmps34
  go_wp2_with (first | (go_at_call 35; refine (fthen_arg x a _ h).mono ?_; rintro e w' ⟨rfl, rfl⟩))
  go_ret
  exact ⟨rfl, rfl⟩

theorem unmade1_nil (w : World) : Calls Tryz.prog 34 #[.pointer none] w fun e w' => e = .returned (.bool true) ∧ w = w' := by
  go_enter Tryz.func34, Tryz.ntmps34
  go_wp2_with (first | (go_at_call 35; refine (fthen_nil _ _).mono ?_; rintro e w' ⟨rfl, rfl⟩))
  go_ret
  exact ⟨rfl, rfl⟩

theorem unmade1_bare (x : Nat) (w : World) (h : w.cell? ⟨x, 0, none⟩ = some (.pointer none)) : Calls Tryz.prog 34 #[.pointer (some ⟨x, 0, none⟩)] w fun e w' => e = .returned (.bool true) ∧ w = w' := by
  go_enter Tryz.func34, Tryz.ntmps34
  go_wp2_with (first | (go_at_call 35; refine (fthen_bare x _ _ h).mono ?_; rintro e w' ⟨rfl, rfl⟩))
  go_ret
  exact ⟨rfl, rfl⟩

/-- A place is a future (b = false), or is none. -/
def Tells (w : World) (v : Value) (b : Bool) : Prop := Calls Tryz.prog 34 #[v] w fun e w' => e = .returned (.bool b) ∧ w = w'

/-- .. of a row that is empty. -/
theorem index_none (w : World) : Calls Tryz.prog 51 #[.slice none 0 0, .func (.func 34) #[] #[]] w fun e w' => e = .returned (.int .i64 (-1)) ∧ w = w' := by
  go_enter Tryz.func51, Tryz.ntmps51
  go_wp2_with fail
  refine wp_loop_rounds 1 ?_
  rw [rounds_succ]
  go_wp2_with fail
  go_ret
  exact ⟨rfl, rfl⟩

set_option maxHeartbeats 800000 in
/-- .. the first k of which are futures; at k one that is none, or the end. -/
theorem index_at (w : World) (g cap m k : Nat) (hm : m ≤ 4096) (hk : k ≤ m) (f : Nat → Value) (hf : ∀ j, j < m → w.cell? ⟨g, j, none⟩ = some (f j)) (ht : ∀ j, j < k → Tells w (f j) false) (hn : k < m → Tells w (f k) true) :
    Calls Tryz.prog 51 #[.slice (some ⟨g, 0, none⟩) m cap, .func (.func 34) #[] #[]] w fun e w' => e = .returned (.int .i64 (if k < m then (k : Int) else -1)) ∧ w = w' := by
  have hent := fun args w => enters_of Tryz.func34 (by kernel_rfl) rfl (args := args) (w := w)
  have HF := Lib.hid hf
  have HT := Lib.hid ht
  have HN := Lib.hid hn
  clear hf ht hn
  go_enter Tryz.func51, Tryz.ntmps51
  go_wp2_with fail
  go_loop [8] (fun c => ∃ j : Nat, j ≤ k ∧ c = .int .i64 j) (fun c => m - (intOf c).toNat)
  case atStart => exact ⟨0, Nat.zero_le _, rfl⟩
  case round =>
    obtain ⟨j, hj, rfl⟩ := hrel
    by_cases hlt : j < m
    · have i1 : (j : Int) < m := by omega
      have i2 : (0 : Int) ≤ (j : Int) := by omega
      have c0 := HF.out j hlt
      by_cases e : j = k
      · subst e
        have HX := Lib.hid (HN.out hlt)
        go_wp2_with fail
        refine HX.out.mono ?_
        rintro r w' ⟨rfl, rfl⟩
        go_wp2_with fail
        go_ret
        exact ⟨by simp, rfl⟩
      · have HX := Lib.hid (HT.out j (by omega))
        go_wp2_with fail
        refine HX.out.mono ?_
        rintro r w' ⟨rfl, rfl⟩
        go_wp2_with fail
        go_round
        case rel => exact ⟨j + 1, by omega, by go_num⟩
        case measure => simp [intOf]; omega
    · obtain rfl : j = m := by omega
      obtain rfl : j = k := by omega
      go_wp2_with fail
      go_ret
      exact ⟨by simp, rfl⟩

theorem contains_any (v : Value) (k : Int) (w : World) (h : Calls Tryz.prog 51 #[v, .func (.func 34) #[] #[]] w fun e w' => e = .returned (.int .i64 k) ∧ w = w') :
    Calls Tryz.prog 33 #[v, .func (.func 34) #[] #[]] w fun e w' => e = .returned (.bool (decide (k ≥ 0))) ∧ w = w' := by
  have H := Lib.hid h
  clear h
  go_enter Tryz.func33, Tryz.ntmps33
  go_wp2_with fail
  refine H.out.mono ?_
  rintro r w' ⟨rfl, rfl⟩
  go_wp2_with fail
  go_ret
  exact ⟨rfl, rfl⟩

theorem unmade_any (v : Value) (b : Bool) (w : World) (h : Calls Tryz.prog 33 #[v, .func (.func 34) #[] #[]] w fun e w' => e = .returned (.bool b) ∧ w = w') :
    Calls Tryz.prog 16 #[v] w fun e w' => e = .returned (.bool b) ∧ w = w' := by
  have H := Lib.hid h
  clear h
  go_enter Tryz.func16, Tryz.ntmps16
  go_wp2_with fail
  refine H.out.mono ?_
  rintro r w' ⟨rfl, rfl⟩
  go_wp2_with fail
  go_ret
  exact ⟨rfl, rfl⟩

/-- No future is unmade. -/
theorem unmade_no (v : Value) (m : Nat) (hm : m ≤ 4096) (f : Nat → Value) (w : World) (R : Row w v m f) (ht : ∀ j, j < m → Tells w (f j) false) : Calls Tryz.prog 16 #[v] w fun e w' => e = .returned (.bool false) ∧ w = w' := by
  refine unmade_any v false w ?_
  rcases R.is with ⟨_, rfl⟩ | ⟨g, cap, rfl, _, hf⟩
  · exact contains_any _ _ w (index_none w)
  · have h := contains_any _ _ w (index_at w g cap m m hm (Nat.le_refl _) f hf ht (fun h => absurd h (by omega)))
    rw [if_neg (by omega)] at h
    exact h

/-- One is. -/
theorem unmade_yes (v : Value) (m k : Nat) (hm : m ≤ 4096) (hk : k < m) (f : Nat → Value) (w : World) (R : Row w v m f) (ht : ∀ j, j < k → Tells w (f j) false) (hn : Tells w (f k) true) : Calls Tryz.prog 16 #[v] w fun e w' => e = .returned (.bool true) ∧ w = w' := by
  refine unmade_any v true w ?_
  rcases R.is with ⟨h0, _⟩ | ⟨g, cap, rfl, _, hf⟩
  · omega
  · have h := contains_any _ _ w (index_at w g cap m k hm (Nat.le_of_lt hk) f hf ht (fun _ => hn))
    rw [if_pos hk] at h
    have e : decide ((k : Int) ≥ 0) = true := by simp
    rw [e] at h
    exact h

theorem kept_grown {w w' : World} {row : Option Nat} (h : w.grownBy w' row) : Kept (fun b => row = some b) w w' :=
  ⟨h.os, h.tape, h.output, h.size, fun k hk hs => h.block k hk fun e => hs e.symm⟩

set_option maxRecDepth 100000 in
set_option maxHeartbeats 800000 in
/-- A clone of a row: a new one. -/
theorem clone_is (g cap m : Nat) (hm : 0 < m) (hm2 : m ≤ 4096) (f : Nat → Addr) (w : World) (hf : ∀ j, j < m → w.cell? ⟨g, j, none⟩ = some (.pointer (some (f j)))) (lg : g < w.heap.size) :
    Calls Tryz.prog 38 #[.slice (some ⟨g, 0, none⟩) m cap] w fun e w' => ∃ r cap' : Nat, e = .returned (.slice (some ⟨r, 0, none⟩) m cap') ∧ w.heap.size ≤ r ∧ r < w'.heap.size ∧ (∀ j, j < m → w'.cell? ⟨r, j, none⟩ = some (.pointer (some (f j)))) ∧ Kept (fun _ => False) w w' := by
  obtain ⟨i0, hi, hz0, hz1, hz2⟩ := info_parts Tryz.info24
  have hnn : ∀ w : World, (binOp BinOp.eql 23 (.slice (some ⟨g, 0, none⟩) m cap) (.slice none 0 0)).run Tryz.prog w = .ok (.bool false) w := fun _ => by kernel_rfl
  have HF := Lib.hid hf
  clear hf
  go_enter Tryz.func38, Tryz.ntmps38
  go_wp2_with (at_builtin; go_loud (refine wpList_append_lies _ rfl _ _ 23 rfl w.heap.size 24 i0 (.pointer none) 1 8 Tryz.underlying23 hi hz0 hz1 hz2 rfl (by decide) (.slice (some ⟨w.heap.size, 0, none⟩) 0 0) 0 [] rfl ?c0 ⟨g, 0, none⟩ m cap ((List.range m).map fun j => .pointer (some (f j))) rfl ?c1 ?c2 ?c3 ?c4 ?c5 ?c6 ?c7 _ rfl ?_))
  case c0 => exact ⟨rfl, .inr ⟨w.heap.size, 0, #[], rfl, Nat.le_refl _, block_last _ _ _ rfl, Nat.le_refl _, Nat.zero_le _, rfl, rfl⟩⟩
  case c1 => simp
  case c2 =>
    intro j u hj
    rw [List.getElem?_map] at hj
    by_cases h : j < m
    · rw [List.getElem?_range h] at hj
      simp at hj
      subst hj
      have h2 : (w.alloc (.cells #[] 24)).cell? ⟨g, j, none⟩ = w.cell? ⟨g, j, none⟩ := ((Kept.refl (fun _ => False) w).alloc _).cell (p := ⟨g, j, none⟩) lg id
      rw [show (⟨g, 0, none⟩ : Addr).add j = ⟨g, j, none⟩ by simp [Addr.add]; omega]
      exact h2.trans (HF.out j h)
    · rw [List.getElem?_eq_none (by simp; omega)] at hj
      simp at hj
  case c3 =>
    intro u hu
    obtain ⟨j, _, rfl⟩ := List.mem_map.1 hu
    rfl
  case c4 => exact hm
  case c5 => simp only [maxLen]; omega
  case c6 => omega
  case c7 => simp
  intro r cap' w1 own' grown' lies' lt'
  have k1 : Kept (fun _ => False) w w1 := ((Kept.refl (fun _ => False) w).alloc (.cells #[] 24)).far ((kept_grown grown').mono (T := fun b => w.heap.size ≤ b) fun b _ e => by simp [Value.ownBlock] at e; omega) (fun _ h => h)
  have k2 : w.heap.size ≤ r := by
    rcases lies' with h | h
    · simp [Value.ownBlock] at h; omega
    · omega
  have k3 : ∀ j, j < m → w1.cell? ⟨r, j, none⟩ = some (.pointer (some (f j))) := by
    intro j hj
    rw [own'.cellAt j (by simp; omega), List.getElem?_map, List.getElem?_range hj]; rfl
  have HK := Lib.hid k1
  have HC := Lib.hid k3
  clear own' grown' k1 k3 lies'
  go_wp2_with fail
  go_ret
  exact ⟨r, cap', rfl, k2, lt', HC.out, HK.out⟩

end Go.Proofs.YtfbanlpmkfgpjaaGreatDoor

/-
  FaultTells: an error that stands in memory, by its description; Make.
-/
import Derived.Test.YthkndllageopoaaDoorFt1
import Derived.Stop.IfaceNil
namespace Go.Proofs.YthkndllageopoaaDoor
open Go.RowKit

/-- The variable plain: somebody else's error. -/
def PlainVar (w : World) (p o : Nat) : Prop := w.cell? ⟨0, 0, none⟩ = some (.iface 120 (.pointer (some ⟨p, o, none⟩))) ∧ w.cell? ⟨p, o, none⟩ = some (.string ⟨#[112, 108, 97, 105, 110]⟩)

theorem PlainVar.kept {w w' : World} {p o : Nat} (H : PlainVar w p o) (k : Kept (fun _ => False) w w') : PlainVar w' p o :=
  ⟨(k.cell (p := ⟨0, 0, none⟩) (World.block_lt_of_cell? w _ H.1) id).trans H.1, (k.cell (p := ⟨p, o, none⟩) (World.block_lt_of_cell? w _ H.2) id).trans H.2⟩

/-- An error without what it is wrapped by: its kind, its number. -/
inductive Base (w : World) : Value → Int → Int → Prop
  | nil : Base w .nilIface 0 0
  | failed (a : Nat) (x : Int) (h : w.cell? ⟨a, 0, none⟩ = some (.int .i64 x)) : Base w (.iface 40 (.pointer (some ⟨a, 0, none⟩))) 1 x
  | cancelled (a : Nat) (x : Int) (h : w.cell? ⟨a, 0, none⟩ = some (.int .i64 x)) : Base w (.iface 41 (.pointer (some ⟨a, 0, none⟩))) 2 x
  | late (a : Nat) (x : Int) (h : w.cell? ⟨a, 0, none⟩ = some (.int .i64 x)) : Base w (.iface 42 (.pointer (some ⟨a, 0, none⟩))) 3 x
  | panicked (a : Nat) (x : Int) (h : w.cell? ⟨a, 0, none⟩ = some (.iface 2 (.int .i64 x))) : Base w (.iface 43 (.pointer (some ⟨a, 0, none⟩))) 4 x
  | plain (a o : Nat) (h : w.cell? ⟨a, o, none⟩ = some (.string ⟨#[112, 108, 97, 105, 110]⟩)) : Base w (.iface 120 (.pointer (some ⟨a, o, none⟩))) 5 0
  | bare (a : Nat) (x : Int) (h : w.cell? ⟨a, 0, none⟩ = some (.int .i64 x)) (h1 : w.cell? ⟨a, 1, none⟩ = some .nilIface) : Base w (.iface 44 (.pointer (some ⟨a, 0, none⟩))) 6 x
  | number (x : Int) : Base w (.iface 29 (.int .i64 x)) 7 x

theorem still_cell {w w' : World} (k : Kept (fun _ => False) w w') {a : Addr} {v : Value} (h : w.cell? a = some v) : w'.cell? a = some v :=
  (k.cell (World.block_lt_of_cell? w _ h) id).trans h

theorem Base.kept {w w' : World} {v : Value} {k x : Int} (H : Base w v k x) (K : Kept (fun _ => False) w w') : Base w' v k x := by
  cases H with
  | nil => exact .nil
  | failed a x h => exact .failed a x (still_cell K h)
  | cancelled a x h => exact .cancelled a x (still_cell K h)
  | late a x h => exact .late a x (still_cell K h)
  | panicked a x h => exact .panicked a x (still_cell K h)
  | plain a o h => exact .plain a o (still_cell K h)
  | bare a x h h1 => exact .bare a x (still_cell K h) (still_cell K h1)
  | number x => exact .number x

/-- An error, and the numbers that it is wrapped by, the outermost first. -/
inductive Chain (w : World) (k x : Int) : Value → List Int → Prop
  | base (v : Value) (h : Base w v k x) : Chain w k x v []
  | at_ (a : Nat) (n : Int) (t : TypeId) (v : Value) (l : List Int) (h0 : w.cell? ⟨a, 0, none⟩ = some (.int .i64 n)) (h1 : w.cell? ⟨a, 1, none⟩ = some (.iface t v)) (h : Chain w k x (.iface t v) l) : Chain w k x (.iface 44 (.pointer (some ⟨a, 0, none⟩))) (n :: l)

theorem Chain.kept {w w' : World} {v : Value} {k x : Int} {l : List Int} (H : Chain w k x v l) (K : Kept (fun _ => False) w w') : Chain w' k x v l := by
  induction H with
  | base v h => exact .base v (h.kept K)
  | at_ a n t v l h0 h1 _ ih => exact .at_ a n t v l (still_cell K h0) (still_cell K h1) ih

/-- It is none just where its kind is 0. -/
theorem Base.iface {w : World} {v : Value} {k x : Int} (H : Base w v k x) (hk : ¬ k = 0) : ∃ t u, v = .iface t u := by
  cases H with
  | nil => exact absurd rfl hk
  | _ => exact ⟨_, _, rfl⟩

theorem Chain.iface {w : World} {v : Value} {k x : Int} {l : List Int} (H : Chain w k x v l) (hk : ¬ k = 0) : ∃ t u, v = .iface t u := by
  cases H with
  | base v h => exact h.iface hk
  | at_ => exact ⟨_, _, rfl⟩

def Made (w : World) (k x : Int) (l : List Int) : Ending → World → Prop := fun e w' => ∃ v, e = .returned v ∧ Chain w' k x v l ∧ Kept (fun _ => False) w w'

/-- The numbers from the place i on. -/
def from_ (At : Nat → Int) (i m : Nat) : List Int := (List.range (m - i)).map fun j => At (i + j)

theorem from_end (At : Nat → Int) (m : Nat) : from_ At m m = [] := by simp [from_]
theorem from_cons (At : Nat → Int) (i m : Nat) (h : i < m) : from_ At i m = At i :: from_ At (i + 1) m := by
  unfold from_
  rw [show m - i = (m - (i + 1)) + 1 by omega, List.range_succ_eq_map, List.map_cons, List.map_map, Nat.add_zero]
  congr 1
  exact List.map_congr_left fun j _ => by show At (i + (j + 1)) = At (i + 1 + j); congr 1; omega

/-- Where Make's loop stands. -/
def MakeRel (w wr : World) (k x : Int) (At : Nat → Int) (bo : Option Addr) (m c : Nat) (ev iv : Value) : Prop :=
  ∃ i : Nat, i ≤ m ∧ iv = .int .i64 ((i : Int) - 1) ∧ Chain wr k x ev (from_ At i m) ∧ wr.cell? ⟨w.heap.size, 2, none⟩ = some (.slice bo m c) ∧ Kept (fun _ => False) w wr

set_option maxRecDepth 100000 in
set_option maxHeartbeats 1600000 in
theorem make_any (k x : Int) (ao : Option Addr) (la lca sb so p o : Nat) (bo : Option Addr) (m c : Nat) (At : Nat → Int) (w : World) (D : Desc ao la lca k x bo m c) (G : Ints w bo sb so m At) (P : PlainVar w p o) :
    Calls Tryd.prog 5 #[.agg #[.int .i64 k, .int .i64 x, .slice bo m c]] w (Made w k x (from_ At 0 m)) := by
  have hnn : ∀ (W : World) (t : TypeId) (u : Value), (binOp .neq 27 (.iface t u) .nilIface).run Tryd.prog W = .ok (.bool true) W := fun W t u => run_neq_iface_nil W 27 (by kernel_rfl) t u
  obtain ⟨lo, hi, x0, x5, dn, dsome, dmost, dcap⟩ := D
  have HG := Lib.hid G
  have p0 := P.1
  have p1 := Lib.hid P
  have pl : 0 < w.heap.size := World.block_lt_of_cell? w _ P.1
  clear G P dsome
  have hk : k = 0 ∨ k = 1 ∨ k = 2 ∨ k = 3 ∨ k = 4 ∨ k = 5 ∨ k = 6 ∨ k = 7 := by omega
  go_enter Tryd.func5, Tryd.ntmps5
  rcases hk with rfl | rfl | rfl | rfl | rfl | rfl | rfl | rfl
  · obtain rfl := x0 rfl
    obtain ⟨rfl, rfl, rfl⟩ := dn rfl
    clear x0 x5 dn
    go_wp2_with fail
    go_loopw [3, 4] (fun ev iv wr => MakeRel w wr _ 0 At none 0 0 ev iv) (fun _ iv _ => (intOf iv + 1).toNat)
    case atStart =>
      refine ⟨0, Nat.le_refl _, rfl, ?_, by go_simp, ?_⟩
      · rw [from_end]
        refine .base _ ?_
        first
        | exact .failed _ _ (by go_simp)
        | exact .cancelled _ _ (by go_simp)
        | exact .late _ _ (by go_simp)
        | exact .panicked _ _ (by go_simp)
        | exact .bare _ _ (by go_simp) (by go_simp)
        | exact .number _
        | exact .nil
        | (rw [HX5.out]; exact .plain _ _ (still_cell ((Kept.refl _ _).alloc _) p1.out.2))
      · repeat (first | exact Kept.refl _ _ | refine Kept.setCell ?_ _ (.inr (by simp)) _ | refine Kept.alloc ?_ _)
    case round =>
      obtain ⟨i, him, rfl, hC, hb, hK⟩ := hrel
      by_cases hi0 : i = 0
      · subst hi0
        have HC := Lib.hid hC
        have HK := Lib.hid hK
        clear hC hK
        go_wp2_with fail
        go_ret
        exact ⟨_, rfl, HC.out, HK.out⟩
      · omega
  all_goals
    have hx5 := fun h => Lib.hid (x5 h)
    first | (have HX5 := hx5 rfl) | skip
    clear x0 x5 dn hx5
    go_wp2_with fail
    go_loopw [3, 4] (fun ev iv wr => MakeRel w wr _ x At bo m c ev iv) (fun _ iv _ => (intOf iv + 1).toNat)
    case atStart =>
      refine ⟨m, Nat.le_refl _, rfl, ?_, by go_simp, ?_⟩
      · rw [from_end]
        refine .base _ ?_
        first
        | exact .failed _ _ (by go_simp)
        | exact .cancelled _ _ (by go_simp)
        | exact .late _ _ (by go_simp)
        | exact .panicked _ _ (by go_simp)
        | exact .bare _ _ (by go_simp) (by go_simp)
        | exact .number _
        | exact .nil
        | (rw [HX5.out]; exact .plain _ _ (still_cell ((Kept.refl _ _).alloc _) p1.out.2))
      · repeat (first | exact Kept.refl _ _ | refine Kept.setCell ?_ _ (.inr (by simp)) _ | refine Kept.alloc ?_ _)
    case round =>
      obtain ⟨i, him, rfl, hC, hb, hK⟩ := hrel
      by_cases hi0 : i = 0
      · subst hi0
        have HC := Lib.hid hC
        have HK := Lib.hid hK
        clear hC hK
        go_wp2_with fail
        go_ret
        exact ⟨_, rfl, HC.out, HK.out⟩
      · obtain ⟨j, rfl⟩ : ∃ j, i = j + 1 := ⟨i - 1, by omega⟩
        have e1 : ((j + 1 : Nat) : Int) - 1 = (j : Int) := by omega
        rw [e1]
        obtain ⟨t, u, rfl⟩ := hC.iface (by decide)
        obtain ⟨rfl, hcell⟩ := HG.out j (by omega)
        have c1 := still_cell hK hcell
        have j0 : (j : Int) < m := by omega
        have j1 : (0 : Int) ≤ (j : Int) := by omega
        have jm : j < 1000 := by omega
        have HC := Lib.hid hC
        have HK := Lib.hid hK
        clear hC hK hcell e1
        go_wp2_with fail
        go_roundw
        case rel =>
          have KA : Kept (fun _ => False) wr (wr.alloc (.cells #[.int .i64 (At j), .iface t u] 57)) := (Kept.refl _ _).alloc _
          refine ⟨j, by omega, by go_num, ?_, still_cell KA hb, HK.out.trans KA⟩
          rw [from_cons At j m (by omega)]
          exact .at_ wr.heap.size (At j) t u _ (by go_simp) (by go_simp) (HC.out.kept KA)
        case measure => simp [intOf] <;> omega

end Go.Proofs.YthkndllageopoaaDoor

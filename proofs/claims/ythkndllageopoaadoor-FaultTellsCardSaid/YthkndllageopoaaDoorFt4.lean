/-
  FaultTells: Class and the reference's; what finds says at **At.
-/
import Derived.Test.YthkndllageopoaaDoorFt3
import Derived.Test.YthkndllageopoaaDoorFlt3
namespace Go.Proofs.YthkndllageopoaaDoor
open Go.RowKit Go.Extern.Stop Go.Stop Go.Extern

/-- The number of a class. -/
def clsOf (k x : Int) : Int := if k = 0 then 0 else (foundOf k x).getD 23

theorem class_chain (k x : Int) (l : List Int) (v : Value) (w : World) (H : Chain w k x v l) (hg : ErrorType w) : Calls Tryd.prog 6 #[v] w (Num (clsOf k x) w) := by
  by_cases hk : k = 0
  · have hv : v = .nilIface := by
      cases H with
      | base v hB => subst hk; cases hB; rfl
      | at_ a n t u l h0 h1 h =>
        exfalso
        have : ∀ (l : List Int) (v : Value), Chain w k x v l → (∃ t u, v = .iface t u) → False := by
          intro l v h
          induction h with
          | base v hB => subst hk; cases hB; rintro ⟨t, u, h⟩; cases h
          | at_ a n t v l h0 h1 h ih => intro _; exact ih ⟨_, _, rfl⟩
        exact this _ _ h ⟨_, _, rfl⟩
    subst hv
    have : clsOf k x = 0 := by unfold clsOf; rw [if_pos hk]
    rw [this]
    exact class_nil w
  · obtain ⟨t, u, rfl⟩ := H.iface hk
    unfold clsOf
    rw [if_neg hk]
    cases hf : foundOf k x with
    | some c =>
      refine class_hit t u c w fun W tb _ K Ts => ?_
      refine AsE t u tb true _ _ W (hg.kept K fun h => h) fun W1 K1 ab hab ha => ?_
      refine (asE_chain k x l hk _ tb ab _ W1 ((H.kept K).kept K1) (Ts.kept K1 fun h => h) ha hab).mono ?_
      rintro e w' ⟨he, hK, hT⟩
      rw [hf] at he
      exact ⟨he, hK.mono fun _ _ h => h.2, hT c hf⟩
    | none =>
      refine class_miss t u w fun W tb _ K Ts => ?_
      refine AsE t u tb false _ _ W (hg.kept K fun h => h) fun W1 K1 ab hab ha => ?_
      refine (asE_chain k x l hk _ tb ab _ W1 ((H.kept K).kept K1) (Ts.kept K1 fun h => h) ha hab).mono ?_
      rintro e w' ⟨he, hK, _⟩
      rw [hf] at he
      exact ⟨he, hK.mono fun _ _ h => by rw [hf] at h; exact absurd h.1 (by decide), trivial⟩

set_option maxHeartbeats 800000 in
theorem rclass_any (k x : Int) (sl : Value) (ao : Option Addr) (m c : Nat) (hsl : sl = .slice ao m c) (lo : 0 ≤ k) (hi : k < 8) (w : World) : Calls Tryd.prog 7 #[.agg #[.int .i64 k, .int .i64 x, sl]] w (Num (clsOf k x) w) := by
  subst hsl
  have hk : k = 0 ∨ k = 1 ∨ k = 2 ∨ k = 3 ∨ k = 4 ∨ k = 5 ∨ k = 6 ∨ k = 7 := by omega
  go_enter Tryd.func7, Tryd.ntmps7
  rcases hk with rfl | rfl | rfl | rfl | rfl | rfl | rfl | rfl
  all_goals
    go_wp2_with fail
    go_ret
    exact ⟨rfl, (Kept.refl _ _).alloc _⟩

theorem As_nil (tg : Value) (w : World) : Calls Tryd.prog 36 #[.nilIface, tg] w (Res (fun _ => False) w false fun _ => True) := by
  go_enter Tryd.func36, Tryd.ntmps36
  go_wp2_with fail
  go_ret
  exact ⟨rfl, Kept.refl _ _, trivial⟩

theorem findsA_nil (tb : Nat) (w : World) : Calls Tryd.prog 26 #[.nilIface, .iface 60 (.pointer (some ⟨tb, 0, none⟩))] w (Res (fun _ => False) w false fun _ => True) :=
  finds_res _ _ false _ _ w (fun _ h => h.elim) (fun _ _ _ _ => trivial) (fun W _ => As_nil _ W) rfl rfl

theorem findsA_at (c : Option Addr) (tb : Nat) (old : Value) (w : World) (Ts : Slot w tb 0 old) (hg : ErrorType w) :
    Calls Tryd.prog 26 #[.iface 44 (.pointer c), .iface 60 (.pointer (some ⟨tb, 0, none⟩))] w (Res (fun i => i = tb) w true fun W => Slot W tb 0 (.pointer c)) :=
  finds_res _ _ true _ _ w (by rintro i rfl; exact Ts.lt) (fun a b K T => T.kept K (by have := Ts.lt; omega)) (fun W K => AsA _ _ tb true _ _ W (hg.kept K fun h => h) fun W1 K1 ab hab ha => asA_hit c tb ab _ W1 ((Ts.kept K fun h => h).kept K1 fun h => h) ha hab) rfl rfl

/-- .. of an error that is none of them. -/
theorem findsA_no (k x : Int) (v : Value) (tb : Nat) (w : World) (H : Base w v k x) (hk : ¬ k = 6) (hg : ErrorType w) :
    Calls Tryd.prog 26 #[v, .iface 60 (.pointer (some ⟨tb, 0, none⟩))] w (Res (fun _ => False) w false fun _ => True) := by
  cases H with
  | nil => exact findsA_nil tb w
  | bare => exact absurd rfl hk
  | failed a x h => exact finds_res _ _ false _ _ w (fun _ h => h.elim) (fun _ _ _ _ => trivial) (fun W K => AsA _ _ tb false _ _ W (hg.kept K fun h => h) fun W1 K1 ab hab ha => asA_Failed _ _ _ W1) rfl rfl
  | cancelled a x h => exact finds_res _ _ false _ _ w (fun _ h => h.elim) (fun _ _ _ _ => trivial) (fun W K => AsA _ _ tb false _ _ W (hg.kept K fun h => h) fun W1 K1 ab hab ha => asA_Canc _ _ _ W1) rfl rfl
  | late a x h => exact finds_res _ _ false _ _ w (fun _ h => h.elim) (fun _ _ _ _ => trivial) (fun W K => AsA _ _ tb false _ _ W (hg.kept K fun h => h) fun W1 K1 ab hab ha => asA_Late _ _ _ W1) rfl rfl
  | panicked a x h => exact finds_res _ _ false _ _ w (fun _ h => h.elim) (fun _ _ _ _ => trivial) (fun W K => AsA _ _ tb false _ _ W (hg.kept K fun h => h) fun W1 K1 ab hab ha => asA_Pan _ _ _ W1) rfl rfl
  | plain a o h => exact finds_res _ _ false _ _ w (fun _ h => h.elim) (fun _ _ _ _ => trivial) (fun W K => AsA _ _ tb false _ _ W (hg.kept K fun h => h) fun W1 K1 ab hab ha => asA_Plain _ _ _ W1) rfl rfl
  | number x => exact finds_res _ _ false _ _ w (fun _ h => h.elim) (fun _ _ _ _ => trivial) (fun W K => AsA _ _ tb false _ _ W (hg.kept K fun h => h) fun W1 K1 ab hab ha => asA_Num _ _ _ W1) rfl rfl

end Go.Proofs.YthkndllageopoaaDoor

/-
  finds and Class, out of what errors.As answers.
-/
import Derived.Test.YthkndllageopoaaDoorFlt5
import Derived.Test.YthkndllageopoaaDoorFlt2
namespace Go.Proofs.YthkndllageopoaaDoor
open Go.RowKit Go.Extern.Stop Go.Stop Go.Extern

set_option maxHeartbeats 4000000 in
theorem finds_res (e tg : Value) (b : Bool) (S : Nat → Prop) (T : World → Prop) (w : World) (hS : ∀ k, S k → k < w.heap.size) (hT : ∀ a c : World, Kept (fun k => w.heap.size ≤ k) a c → T a → T c)
    (hc : ∀ W, Kept (fun _ => False) w W → Calls Tryd.prog 36 #[e, tg] W (Res S W b T)) (h1 : e.oneCell' = true) (h2 : tg.oneCell' = true) :
    Calls Tryd.prog 26 #[e, tg] w (Res S w b T) := by
  have hmf : ∀ (fn : Fn) (first cap : Array Value) (w : World), (Instr.makeFunc fn first cap).run Tryd.prog w = .ok (.func fn first cap) w := fun _ _ _ _ => rfl
  have hent := enters_of Tryd.func37 (by kernel_rfl) rfl
  have HS := Lib.hid hS
  have HT := Lib.hid hT
  have HC := Lib.hid hc
  clear hS hT hc
  go_enter Tryd.func26, Tryd.ntmps26
  go_wp2_with fail
  have c0 : ((((((w.alloc (.cells #[e] 27)).alloc (.cells #[tg] 20)).alloc (.cells #[.bool false] 4)).alloc (.cells #[.int .i64 0] 2)).alloc (.cells #[.nilIface] 27))).cell? ⟨w.heap.size, 0, none⟩ = some e := by go_simp
  have c1 : ((((((w.alloc (.cells #[e] 27)).alloc (.cells #[tg] 20)).alloc (.cells #[.bool false] 4)).alloc (.cells #[.int .i64 0] 2)).alloc (.cells #[.nilIface] 27))).cell? ⟨w.heap.size + 1, 0, none⟩ = some tg := by go_simp
  have Q0 : Slot ((((((w.alloc (.cells #[e] 27)).alloc (.cells #[tg] 20)).alloc (.cells #[.bool false] 4)).alloc (.cells #[.int .i64 0] 2)).alloc (.cells #[.nilIface] 27))) (w.heap.size + 1 + 1) 0 (.bool false) := ⟨by go_simp, by go_simp, by simp⟩
  have F0 : Fresh (w.heap.size + 3) ((((((w.alloc (.cells #[e] 27)).alloc (.cells #[tg] 20)).alloc (.cells #[.bool false] 4)).alloc (.cells #[.int .i64 0] 2)).alloc (.cells #[.nilIface] 27))) := ⟨⟨by go_simp, by go_simp, by simp⟩, ⟨by go_simp, by go_simp, by simp⟩⟩
  have K0 : Kept (fun _ => False) w ((((((w.alloc (.cells #[e] 27)).alloc (.cells #[tg] 20)).alloc (.cells #[.bool false] 4)).alloc (.cells #[.int .i64 0] 2)).alloc (.cells #[.nilIface] 27))) := (((((Kept.refl _ w).alloc _).alloc _).alloc _).alloc _).alloc _
  have nS : ∀ k, w.heap.size ≤ k → ¬ S k := fun k hk hs => by have := HS.out k hs; omega
  refine (catch_calm 37 _ hent 0 _ _ (finds1 e tg w.heap.size (w.heap.size + 1) (w.heap.size + 1 + 1) b S T _ c0 c1 Q0 (nS _ (by omega)) (HC.out _ K0)) ?_).mono ?_
  · rintro w1 ⟨w0, hK, hT, rfl⟩
    rw [show ((((w.alloc (.cells #[e] 27)).alloc (.cells #[tg] 20)).alloc (.cells #[.bool false] 4))).heap.size = w.heap.size + 3 by simp]
    exact ⟨(F0.1.kept hK (nS _ (by omega))).far ⟨w.heap.size + 1 + 1, 0, none⟩ _ (by simp), (F0.2.kept hK (nS _ (by omega))).far ⟨w.heap.size + 1 + 1, 0, none⟩ _ (by simp)⟩
  rintro e' w' ⟨rfl, w1, ⟨w0, hK, hT, rfl⟩, hK2⟩
  have Q := ((Q0.kept hK (nS _ (by omega))).set (.bool b)).kept hK2 (by simp)
  have KF : Kept S w (w'.setCell ⟨w.heap.size + 1 + 1, 0, none⟩ (.bool b)) :=
    (((((K0.mono (T := S) fun _ _ h => h.elim).trans hK).setCell ⟨w.heap.size + 1 + 1, 0, none⟩ (.inr (by simp; omega)) (.bool b)).far hK2 (by simp; omega)).setCell ⟨w.heap.size + 1 + 1, 0, none⟩ (.inr (by simp; omega)) (.bool b))
  have TF : T (w'.setCell ⟨w.heap.size + 1 + 1, 0, none⟩ (.bool b)) := by
    refine HT.out w0 _ ?_ hT
    exact (((Kept.refl (fun k => w.heap.size ≤ k) w0).setCell ⟨w.heap.size + 1 + 1, 0, none⟩ (.inl (by simp; omega)) (.bool b)).trans (hK2.mono fun k _ hk => by simp at hk; omega)).setCell ⟨w.heap.size + 1 + 1, 0, none⟩ (.inl (by simp; omega)) (.bool b)
  have HKF := Lib.hid KF
  have HTF := Lib.hid TF
  have q0 := Q.c
  have q1 := Q.fr
  have q2 := Q.lt
  have z0 := (Q.set (.bool b)).c
  clear KF TF Q hK2 hK hT K0 F0 Q0 c0 c1 nS
  go_wp2_with fail
  exact bodyPost_ret (v := .bool b) (by simp [results, Tryd.results26, go_sem, z0]) rfl ⟨rfl, HKF.out, HTF.out⟩

/-- A call that answers the number c, and leaves all as it was. -/
def Num (c : Int) (w : World) : Ending → World → Prop := fun e w' => e = .returned (.int .i64 c) ∧ Kept (fun _ => False) w w'

theorem class_nil (w : World) : Calls Tryd.prog 6 #[.nilIface] w (Num 0 w) := by
  go_enter Tryd.func6, Tryd.ntmps6
  go_wp2_with fail
  go_ret
  exact ⟨rfl, Kept.refl _ w⟩

theorem class_hit (u : Nat) (v : Value) (c : Int) (w : World)
    (hc : ∀ W tb, W.heap.size ≥ w.heap.size → Kept (fun _ => False) w W → Slot W tb 0 (.int .i64 0) → Calls Tryd.prog 36 #[.iface u v, .iface 59 (.pointer (some ⟨tb, 0, none⟩))] W (Res (fun k => k = tb) W true fun X => Slot X tb 0 (.int .i64 c))) :
    Calls Tryd.prog 6 #[.iface u v] w (Num c w) := by
  have ne : ∀ w, (binOp .eql 27 (.iface u v) .nilIface).run Tryd.prog w = .ok (.bool false) w := fun w => run_eql_iface_nil w 27 (by kernel_rfl) u v
  have HC := Lib.hid hc
  clear hc
  go_enter Tryd.func6, Tryd.ntmps6
  go_wp2_with fail
  have S0 : Slot (w.alloc (.cells #[.int .i64 0] 29)) w.heap.size 0 (.int .i64 0) := ⟨by go_simp, by go_simp, by simp⟩
  refine (finds_res (.iface u v) _ true (fun k => k = w.heap.size) (fun X => Slot X w.heap.size 0 (.int .i64 c)) _ (by rintro k rfl; simp) ?_ ?_ rfl rfl).mono ?_
  · intro a b k h
    exact h.kept k (by simp)
  · intro W K
    exact HC.out W w.heap.size (Nat.le_trans (by simp) K.size) (((Kept.refl _ w).alloc _).trans K) (S0.kept K (fun h => h))
  rintro e w' ⟨rfl, hK, Q⟩
  have HK := Lib.hid hK
  have q0 := Q.c
  clear hK Q S0
  go_wp2_with fail
  go_ret
  exact ⟨rfl, ((Kept.refl (fun _ => False) w).alloc _).far HK.out (by rintro i rfl; exact Nat.le_refl _)⟩

theorem class_miss (u : Nat) (v : Value) (w : World)
    (hc : ∀ W tb, W.heap.size ≥ w.heap.size → Kept (fun _ => False) w W → Slot W tb 0 (.int .i64 0) → Calls Tryd.prog 36 #[.iface u v, .iface 59 (.pointer (some ⟨tb, 0, none⟩))] W (Res (fun _ => False) W false fun _ => True)) :
    Calls Tryd.prog 6 #[.iface u v] w (Num 23 w) := by
  have ne : ∀ w, (binOp .eql 27 (.iface u v) .nilIface).run Tryd.prog w = .ok (.bool false) w := fun w => run_eql_iface_nil w 27 (by kernel_rfl) u v
  have HC := Lib.hid hc
  clear hc
  go_enter Tryd.func6, Tryd.ntmps6
  go_wp2_with fail
  have S0 : Slot (w.alloc (.cells #[.int .i64 0] 29)) w.heap.size 0 (.int .i64 0) := ⟨by go_simp, by go_simp, by simp⟩
  refine (finds_res (.iface u v) _ false (fun _ => False) (fun _ => True) _ (fun _ h => h.elim) (fun _ _ _ _ => trivial) ?_ rfl rfl).mono ?_
  · intro W K
    exact HC.out W w.heap.size (Nat.le_trans (by simp) K.size) (((Kept.refl _ w).alloc _).trans K) (S0.kept K (fun h => h))
  rintro e w' ⟨rfl, hK, _⟩
  have HK := Lib.hid hK
  clear hK S0
  go_wp2_with fail
  go_ret
  exact ⟨rfl, ((Kept.refl (fun _ => False) w).alloc _).trans HK.out⟩

theorem class_num (c : Int) (w : World) (hg : ErrorType w) : Calls Tryd.prog 6 #[.iface 29 (.int .i64 c)] w (Num c w) :=
  class_hit _ _ c w fun W tb _ K Ts => AsE _ _ tb true _ _ W (hg.kept K (fun h => h)) fun W1 K1 ab hab ha => asE_hit c tb ab _ W1 (Ts.kept K1 (fun h => h)) ha hab

theorem class_failed (c : Addr) (w : World) (hg : ErrorType w) : Calls Tryd.prog 6 #[.iface 40 (.pointer (some c))] w (Num 23 w) :=
  class_hit _ _ 23 w fun W tb _ K Ts => AsE _ _ tb true _ _ W (hg.kept K (fun h => h)) fun W1 K1 ab hab ha => asE_Failed c tb ab _ W1 (Ts.kept K1 (fun h => h)) ha hab

theorem class_cancelled (c : Addr) (w : World) (hg : ErrorType w) : Calls Tryd.prog 6 #[.iface 41 (.pointer (some c))] w (Num 20 w) :=
  class_hit _ _ 20 w fun W tb _ K Ts => AsE _ _ tb true _ _ W (hg.kept K (fun h => h)) fun W1 K1 ab hab ha => asE_Canc c tb ab _ W1 (Ts.kept K1 (fun h => h)) ha hab

theorem class_late (c : Addr) (w : World) (hg : ErrorType w) : Calls Tryd.prog 6 #[.iface 42 (.pointer (some c))] w (Num 21 w) :=
  class_hit _ _ 21 w fun W tb _ K Ts => AsE _ _ tb true _ _ W (hg.kept K (fun h => h)) fun W1 K1 ab hab ha => asE_Late c tb ab _ W1 (Ts.kept K1 (fun h => h)) ha hab

theorem class_panicked (c : Addr) (w : World) (hg : ErrorType w) : Calls Tryd.prog 6 #[.iface 43 (.pointer (some c))] w (Num 22 w) :=
  class_hit _ _ 22 w fun W tb _ K Ts => AsE _ _ tb true _ _ W (hg.kept K (fun h => h)) fun W1 K1 ab hab ha => asE_Pan c tb ab _ W1 (Ts.kept K1 (fun h => h)) ha hab

end Go.Proofs.YthkndllageopoaaDoor

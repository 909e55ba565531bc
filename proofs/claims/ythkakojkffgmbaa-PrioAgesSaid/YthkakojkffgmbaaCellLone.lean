/-
  Lone contracts of package cell's free calls (a nil thread), one goroutine.
-/
import Derived.Test.YthkakojkffgmbaaProg
import Derived.WalkKit
import Derived.WalkSpells
import Derived.WalkLawsBesides
import Derived.Laws.LoneSync
import Derived.Defers
namespace Go.Proofs.Ythkakojkffgmbaa
open Go.RowKit

/-- sync/atomic.SwapT: the number is stored; what was there is handed back. -/
theorem run_call_swap {P : Program} {f : FuncId} {fn : Func} (hf : P.funcs[f]? = some fn) (hname : (fn.name == "runtime.NumGoroutine") = false) (hb : fn.body.isNone = true) (hn : Extern.findNext fn = none) (k : IntKind)
    (he : Extern.find fn = some (Extern.Atomic.swapT (.int k))) {a : Addr} {x y : Int} {w : World} (hc : w.cell? a = some (.int k x)) (hz : w.frozen? a = false) :
    (callFunc f #[.pointer (some a), .int k y]).run P w = .ok (.value (.int k x)) (w.setCell a (.int k y)) := by
  rw [run_callFunc_extern hf hname hb hn he]
  change (Sem.run P (do
    let a' ← asAddr (.pointer (some a))
    let old ← Extern.Atomic.read (.int k) a'
    store a' (.int k y) .atomic
    pure old) w).andThen _ = _
  simp [Extern.Atomic.read, asAddr, hc, hz, run_store P w a (.int k y) .atomic rfl, Result.andThen]

theorem none_nil (w : World) : Calls Try.prog 23 #[.pointer none] w fun e w' => e = .returned (.bool true) ∧ w' = w := by
  go_enter Try.func23, Try.ntmps23
  go_wp2
  go_ret
  exact ⟨rfl, rfl⟩

theorem none_made (b : Nat) (m : Bool) (w : World) (h1 : w.cell? ⟨b, 1, none⟩ = some (.bool m)) :
    Calls Try.prog 23 #[.pointer (some ⟨b, 0, none⟩)] w fun e w' => e = .returned (.bool !m) ∧ w' = w := by
  go_enter Try.func23, Try.ntmps23
  go_wp2
  go_ret
  exact ⟨rfl, rfl⟩

theorem live_nil (w : World) : Calls Try.prog 24 #[.pointer none] w fun e w' => e = .returned (.bool false) ∧ w' = w := by
  go_enter Try.func24, Try.ntmps24
  go_wp2
  go_ret
  exact ⟨rfl, rfl⟩

theorem aload (a : Addr) (v : Int) (w : World) (h0 : w.cell? a = some (.int .i64 v)) :
    Calls Try.prog 31 #[.pointer (some a)] w fun e w' => e = .returned (.int .i64 v) ∧ w' = w := by
  have hl := run_call_load (P := Try.prog) Try.func38 (by kernel_rfl) (by kernel_rfl) (by kernel_rfl) .i64 (by kernel_rfl) h0
  go_enter Try.func31, Try.ntmps31
  go_wp2
  go_ret
  exact ⟨rfl, rfl⟩

theorem load_free (b : Nat) (v : Int) (w : World) (h0 : w.cell? ⟨b, 0, none⟩ = some (.int .i64 v)) (h1 : w.cell? ⟨b, 1, none⟩ = some (.bool true)) :
    Calls Try.prog 19 #[.pointer (some ⟨b, 0, none⟩), .pointer none] w fun e w' => e = .returned (.int .i64 v) ∧ w' = w := by
  go_enter Try.func19, Try.ntmps19
  go_wp2_with (first
    | (go_at_call 23; refine (none_made b true _ h1).mono ?_; rintro e w' ⟨rfl, rfl⟩)
    | (go_at_call 24; refine (live_nil _).mono ?_; rintro e w' ⟨rfl, rfl⟩)
    | (go_at_call 31; refine (aload _ v _ h0).mono ?_; rintro e w' ⟨rfl, rfl⟩))
  go_ret
  exact ⟨rfl, rfl⟩

theorem aswap (a : Addr) (v x : Int) (w : World) (h0 : w.cell? a = some (.int .i64 v)) (f0 : w.frozen? a = false) :
    Calls Try.prog 33 #[.pointer (some a), .int .i64 x] w fun e w' => e = .returned (.int .i64 v) ∧ w' = w.setCell a (.int .i64 x) := by
  have hl := run_call_swap (P := Try.prog) Try.func40 (by kernel_rfl) (by kernel_rfl) (by kernel_rfl) .i64 (by kernel_rfl) (y := x) h0 f0
  go_enter Try.func33, Try.ntmps33
  go_wp2
  go_ret
  exact ⟨rfl, rfl⟩

theorem astore (a : Addr) (u : Value) (x : Int) (w : World) (h0 : w.cell? a = some u) (f0 : w.frozen? a = false) :
    Calls Try.prog 18 #[.pointer (some a), .int .i64 x] w fun e w' => e = .returned (.tuple #[]) ∧ w' = w.setCell a (.int .i64 x) := by
  have hl := run_call_store (P := Try.prog) Try.func30 (by kernel_rfl) (by kernel_rfl) (by kernel_rfl) (by kernel_rfl) (k := .i64) (y := x) h0 f0
  go_enter Try.func18, Try.ntmps18
  go_wp2
  go_end0
  exact ⟨rfl, rfl⟩

theorem aadd (a : Addr) (v x : Int) (w : World) (h0 : w.cell? a = some (.int .i64 v)) (f0 : w.frozen? a = false) :
    Calls Try.prog 26 #[.pointer (some a), .int .i64 x] w fun e w' => e = .returned (.int .i64 (wrap64 (v + x))) ∧ w' = w.setCell a (.int .i64 (wrap64 (v + x))) := by
  have hl := run_call_add (P := Try.prog) Try.func35 (by kernel_rfl) (by kernel_rfl) (by kernel_rfl) .i64 (by kernel_rfl) (y := x) (s := wrap64 (v + x)) h0 f0 (by simp [go_sem, wrap64, IntKind.wrap_i64])
  go_enter Try.func26, Try.ntmps26
  go_wp2
  go_ret
  exact ⟨rfl, rfl⟩

theorem acas_hit (a : Addr) (v x : Int) (w : World) (h0 : w.cell? a = some (.int .i64 v)) (f0 : w.frozen? a = false) :
    Calls Try.prog 39 #[.pointer (some a), .int .i64 v, .int .i64 x] w fun e w' => e = .returned (.bool true) ∧ w' = w.setCell a (.int .i64 x) := by
  have hl := run_call_cas_hit (P := Try.prog) Try.func43 (by kernel_rfl) (by kernel_rfl) (by kernel_rfl) .i64 (by kernel_rfl) (y := x) h0 f0
  go_enter Try.func39, Try.ntmps39
  go_wp2
  go_ret
  exact ⟨rfl, rfl⟩

theorem acas_miss (a : Addr) (v o x : Int) (hne : ¬ v = o) (w : World) (h0 : w.cell? a = some (.int .i64 v)) (f0 : w.frozen? a = false) :
    Calls Try.prog 39 #[.pointer (some a), .int .i64 o, .int .i64 x] w fun e w' => e = .returned (.bool false) ∧ w' = w := by
  have hl := run_call_cas_miss (P := Try.prog) Try.func43 (by kernel_rfl) (by kernel_rfl) (by kernel_rfl) .i64 (by kernel_rfl) (o := o) (y := x) h0 f0 hne
  go_enter Try.func39, Try.ntmps39
  go_wp2
  go_ret
  exact ⟨rfl, rfl⟩

theorem tell_same (b : Nat) (v : Int) (w : World) :
    Calls Try.prog 27 #[.pointer (some ⟨b, 0, none⟩), .int .i64 v, .int .i64 v] w fun e w' => e = .returned (.tuple #[]) ∧ w' = w := by
  go_enter_defers Try.func27, Try.ntmps27
  go_wp2
  exact ⟨_, results_none rfl _ _ _, rfl, rfl⟩

theorem tell_none (b : Nat) (u v : Int) (w : World) (h2 : w.cell? ⟨b, 2, none⟩ = some (.int .i64 0)) :
    Calls Try.prog 27 #[.pointer (some ⟨b, 0, none⟩), .int .i64 u, .int .i64 v] w fun e w' => e = .returned (.tuple #[]) ∧ w' = w := by
  by_cases h : u = v
  · subst h; exact tell_same b u w
  have hd : (u == v) = false := by simpa using h
  go_enter_defers Try.func27, Try.ntmps27
  go_wp2_with (go_at_call 31; refine (aload _ 0 _ h2).mono ?_; rintro e w' ⟨rfl, rfl⟩)
  exact ⟨_, results_none rfl _ _ _, rfl, rfl⟩

theorem store_free (b : Nat) (v x : Int) (w : World) (h0 : w.cell? ⟨b, 0, none⟩ = some (.int .i64 v)) (h1 : w.cell? ⟨b, 1, none⟩ = some (.bool true)) (h2 : w.cell? ⟨b, 2, none⟩ = some (.int .i64 0)) (f0 : w.frozen? ⟨b, 0, none⟩ = false) :
    Calls Try.prog 22 #[.pointer (some ⟨b, 0, none⟩), .pointer none, .int .i64 x] w fun e w' => e = .returned (.tuple #[]) ∧ w' = w.setCell ⟨b, 0, none⟩ (.int .i64 x) := by
  have h2' : (w.setCell ⟨b, 0, none⟩ (.int .i64 x)).cell? ⟨b, 2, none⟩ = some (.int .i64 0) := by
    rw [World.cell?_setCell_other _ _ _ _ (by simp)]; exact h2
  go_enter Try.func22, Try.ntmps22
  go_wp2_with (first
    | (go_at_call 23; refine (none_made b true _ h1).mono ?_; rintro e w' ⟨rfl, rfl⟩)
    | (go_at_call 24; refine (live_nil _).mono ?_; rintro e w' ⟨rfl, rfl⟩)
    | (go_at_call 33; refine (aswap _ v x _ h0 f0).mono ?_; rintro e w' ⟨rfl, rfl⟩)
    | (go_at_call 27; refine (tell_none _ v x _ h2').mono ?_; rintro e w' ⟨rfl, rfl⟩))
  go_end0
  exact ⟨rfl, rfl⟩

theorem add_free (b : Nat) (v x : Int) (w : World) (h0 : w.cell? ⟨b, 0, none⟩ = some (.int .i64 v)) (h1 : w.cell? ⟨b, 1, none⟩ = some (.bool true)) (h2 : w.cell? ⟨b, 2, none⟩ = some (.int .i64 0)) (f0 : w.frozen? ⟨b, 0, none⟩ = false) :
    Calls Try.prog 14 #[.pointer (some ⟨b, 0, none⟩), .pointer none, .int .i64 x] w fun e w' => e = .returned (.int .i64 (wrap64 (v + x))) ∧ w' = w.setCell ⟨b, 0, none⟩ (.int .i64 (wrap64 (v + x))) := by
  have h2' : (w.setCell ⟨b, 0, none⟩ (.int .i64 (wrap64 (v + x)))).cell? ⟨b, 2, none⟩ = some (.int .i64 0) := by
    rw [World.cell?_setCell_other _ _ _ _ (by simp)]; exact h2
  go_enter Try.func14, Try.ntmps14
  go_wp2_with (first
    | (go_at_call 23; refine (none_made b true _ h1).mono ?_; rintro e w' ⟨rfl, rfl⟩)
    | (go_at_call 24; refine (live_nil _).mono ?_; rintro e w' ⟨rfl, rfl⟩)
    | (go_at_call 26; refine (aadd _ v x _ h0 f0).mono ?_; rintro e w' ⟨rfl, rfl⟩)
    | (go_at_call 27; refine (tell_none _ _ _ _ h2').mono ?_; rintro e w' ⟨rfl, rfl⟩))
  go_ret
  exact ⟨rfl, rfl⟩

theorem cas_hit (b : Nat) (v x : Int) (w : World) (h0 : w.cell? ⟨b, 0, none⟩ = some (.int .i64 v)) (h1 : w.cell? ⟨b, 1, none⟩ = some (.bool true)) (h2 : w.cell? ⟨b, 2, none⟩ = some (.int .i64 0)) (f0 : w.frozen? ⟨b, 0, none⟩ = false) :
    Calls Try.prog 32 #[.pointer (some ⟨b, 0, none⟩), .pointer none, .int .i64 v, .int .i64 x] w fun e w' => e = .returned (.bool true) ∧ w' = w.setCell ⟨b, 0, none⟩ (.int .i64 x) := by
  have h2' : (w.setCell ⟨b, 0, none⟩ (.int .i64 x)).cell? ⟨b, 2, none⟩ = some (.int .i64 0) := by
    rw [World.cell?_setCell_other _ _ _ _ (by simp)]; exact h2
  go_enter Try.func32, Try.ntmps32
  go_wp2_with (first
    | (go_at_call 23; refine (none_made b true _ h1).mono ?_; rintro e w' ⟨rfl, rfl⟩)
    | (go_at_call 24; refine (live_nil _).mono ?_; rintro e w' ⟨rfl, rfl⟩)
    | (go_at_call 39; refine (acas_hit _ v x _ h0 f0).mono ?_; rintro e w' ⟨rfl, rfl⟩)
    | (go_at_call 27; refine (tell_none _ _ _ _ h2').mono ?_; rintro e w' ⟨rfl, rfl⟩))
  go_ret
  exact ⟨rfl, rfl⟩

theorem cas_miss (b : Nat) (v o x : Int) (hne : ¬ v = o) (w : World) (h0 : w.cell? ⟨b, 0, none⟩ = some (.int .i64 v)) (h1 : w.cell? ⟨b, 1, none⟩ = some (.bool true)) (f0 : w.frozen? ⟨b, 0, none⟩ = false) :
    Calls Try.prog 32 #[.pointer (some ⟨b, 0, none⟩), .pointer none, .int .i64 o, .int .i64 x] w fun e w' => e = .returned (.bool false) ∧ w' = w := by
  go_enter Try.func32, Try.ntmps32
  go_wp2_with (first
    | (go_at_call 23; refine (none_made b true _ h1).mono ?_; rintro e w' ⟨rfl, rfl⟩)
    | (go_at_call 24; refine (live_nil _).mono ?_; rintro e w' ⟨rfl, rfl⟩)
    | (go_at_call 39; refine (acas_miss _ v o x hne _ h0 f0).mono ?_; rintro e w' ⟨rfl, rfl⟩))
  go_ret
  exact ⟨rfl, rfl⟩

theorem new_cell (v : Int) (w : World) :
    Calls Try.prog 9 #[.int .i64 v] w fun e w' => e = .returned (.pointer (some ⟨w.heap.size, 0, none⟩)) ∧ w' = w.alloc (.cells #[.int .i64 v, .bool true, .int .i64 0, .int .i32 0, .int .u32 0, .chan none] 70) := by
  have a0 : (w.alloc (.cells #[.int .i64 0, .bool true, .int .i64 0, .int .i32 0, .int .u32 0, .chan none] 70)).cell? ⟨w.heap.size, 0, none⟩ = some (.int .i64 0) := by simp
  have f0 : (w.alloc (.cells #[.int .i64 0, .bool true, .int .i64 0, .int .i32 0, .int .u32 0, .chan none] 70)).frozen? ⟨w.heap.size, 0, none⟩ = false := by simp
  go_enter Try.func9, Try.ntmps9
  go_wp2_with (first
    | (go_at_call 18; refine (astore _ _ v _ a0 f0).mono ?_; rintro e w' ⟨rfl, rfl⟩))
  go_ret
  exact ⟨rfl, rfl⟩

theorem load_nil (t : Value) (w : World) : Calls Try.prog 19 #[.pointer none, t] w fun e w' => e = .returned (.int .i64 0) ∧ w' = w := by
  go_enter Try.func19, Try.ntmps19
  go_wp2_with (go_at_call 23; refine (none_nil _).mono ?_; rintro e w' ⟨rfl, rfl⟩)
  go_ret
  exact ⟨rfl, rfl⟩

theorem load_bare (b : Nat) (t : Value) (w : World) (h1 : w.cell? ⟨b, 1, none⟩ = some (.bool false)) : Calls Try.prog 19 #[.pointer (some ⟨b, 0, none⟩), t] w fun e w' => e = .returned (.int .i64 0) ∧ w' = w := by
  go_enter Try.func19, Try.ntmps19
  go_wp2_with (go_at_call 23; refine (none_made b false _ h1).mono ?_; rintro e w' ⟨rfl, rfl⟩)
  go_ret
  exact ⟨rfl, rfl⟩

theorem store_nil (x : Int) (t : Value) (w : World) : Calls Try.prog 22 #[.pointer none, t, .int .i64 x] w fun e w' => e = .returned (.tuple #[]) ∧ w' = w := by
  go_enter Try.func22, Try.ntmps22
  go_wp2_with (go_at_call 23; refine (none_nil _).mono ?_; rintro e w' ⟨rfl, rfl⟩)
  refine bodyPost_ret (results_none rfl _ _ _) rfl ?_
  exact ⟨rfl, rfl⟩

theorem store_bare (x : Int) (b : Nat) (t : Value) (w : World) (h1 : w.cell? ⟨b, 1, none⟩ = some (.bool false)) : Calls Try.prog 22 #[.pointer (some ⟨b, 0, none⟩), t, .int .i64 x] w fun e w' => e = .returned (.tuple #[]) ∧ w' = w := by
  go_enter Try.func22, Try.ntmps22
  go_wp2_with (go_at_call 23; refine (none_made b false _ h1).mono ?_; rintro e w' ⟨rfl, rfl⟩)
  refine bodyPost_ret (results_none rfl _ _ _) rfl ?_
  exact ⟨rfl, rfl⟩

theorem add_nil (x : Int) (t : Value) (w : World) : Calls Try.prog 14 #[.pointer none, t, .int .i64 x] w fun e w' => e = .returned (.int .i64 0) ∧ w' = w := by
  go_enter Try.func14, Try.ntmps14
  go_wp2_with (go_at_call 23; refine (none_nil _).mono ?_; rintro e w' ⟨rfl, rfl⟩)
  go_ret
  exact ⟨rfl, rfl⟩

theorem add_bare (x : Int) (b : Nat) (t : Value) (w : World) (h1 : w.cell? ⟨b, 1, none⟩ = some (.bool false)) : Calls Try.prog 14 #[.pointer (some ⟨b, 0, none⟩), t, .int .i64 x] w fun e w' => e = .returned (.int .i64 0) ∧ w' = w := by
  go_enter Try.func14, Try.ntmps14
  go_wp2_with (go_at_call 23; refine (none_made b false _ h1).mono ?_; rintro e w' ⟨rfl, rfl⟩)
  go_ret
  exact ⟨rfl, rfl⟩

theorem cas_nil (o x : Int) (t : Value) (w : World) : Calls Try.prog 32 #[.pointer none, t, .int .i64 o, .int .i64 x] w fun e w' => e = .returned (.bool false) ∧ w' = w := by
  go_enter Try.func32, Try.ntmps32
  go_wp2_with (go_at_call 23; refine (none_nil _).mono ?_; rintro e w' ⟨rfl, rfl⟩)
  go_ret
  exact ⟨rfl, rfl⟩

theorem cas_bare (o x : Int) (b : Nat) (t : Value) (w : World) (h1 : w.cell? ⟨b, 1, none⟩ = some (.bool false)) : Calls Try.prog 32 #[.pointer (some ⟨b, 0, none⟩), t, .int .i64 o, .int .i64 x] w fun e w' => e = .returned (.bool false) ∧ w' = w := by
  go_enter Try.func32, Try.ntmps32
  go_wp2_with (go_at_call 23; refine (none_made b false _ h1).mono ?_; rintro e w' ⟨rfl, rfl⟩)
  go_ret
  exact ⟨rfl, rfl⟩

end Go.Proofs.Ythkakojkffgmbaa

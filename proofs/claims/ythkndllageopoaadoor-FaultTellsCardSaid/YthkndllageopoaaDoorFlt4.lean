/-
  What a Catch does: its deferred function, and Catch itself, for a function that answers, and for one that panics.
-/
import Derived.Test.YthkndllageopoaaDoorFlt0
import Derived.Recover
import Derived.Stop.IfaceNil
import Derived.RegionTactic
import Derived.ChangeAlike
namespace Go.Proofs.YthkndllageopoaaDoor
open Go.RowKit Go.Extern.Stop Go.Stop Go.Extern

theorem gateIs_nil (w : World) : Calls Tryd.prog 44 #[.nilIface] w fun e w' => e = .returned (.bool false) ∧ w = w' := by
  have hn := run_eql_iface_nil_left (P := Tryd.prog) w 96 (.agg #[]) Tryd.underlying20
  go_enter Tryd.func44, Tryd.ntmps44
  go_wp2
  go_ret
  exact ⟨rfl, rfl⟩

theorem gateIs_other (u : Nat) (v : Value) (hu : u ≠ 96) (w : World) : Calls Tryd.prog 44 #[.iface u v] w fun e w' => e = .returned (.bool false) ∧ w = w' := by
  have hn := run_eql_iface_types (P := Tryd.prog) u 96 v (.agg #[]) Tryd.underlying20 hu w
  go_enter Tryd.func44, Tryd.ntmps44
  go_wp2
  go_ret
  exact ⟨rfl, rfl⟩

theorem of_some (u : Nat) (v : Value) (w : World) : Calls Tryd.prog 45 #[.iface u v] w fun e w' => e = .returned (.iface 43 (.pointer (some ⟨w.heap.size, 0, none⟩))) ∧ w' = w.alloc (.cells #[.iface u v] 55) := by
  go_enter Tryd.func45, Tryd.ntmps45
  go_wp2
  go_ret
  exact ⟨rfl, rfl⟩

theorem catch1_idle (p q : Addr) (w : World) :
    CallsD Tryd.prog 43 #[.pointer (some p), .pointer (some q)] .returning w fun e u' w' => e = .returned (.tuple #[]) ∧ u' = .returning ∧ w' = w := by
  refine callsD_of_wpS Tryd.func43 rfl fun c₀ cs hu => ?_
  apply wpS_seq
  apply wpS_region
  simp [wpOpsS, go_sem, recoverD, hu, Tryd.ntmps43, Exit.thenS]
  refine wpS_of_wp ?_
  go_wp2_with (go_at_call 44; refine (gateIs_nil _).mono ?_; rintro e w' ⟨rfl, rfl⟩)
  cases c₀
  simp_all [bodyPostS, results, Tryd.results43]

theorem catch1_caught (pb qb : Nat) (u : Nat) (v x y : Value) (older : List PanicEntry) (w : World) (hu : u ≠ 96) (hp : Slot w pb 0 x) (hq : Slot w qb 0 y) (hpq : pb ≠ qb) :
    CallsD Tryd.prog 43 #[.pointer (some ⟨pb, 0, none⟩), .pointer (some ⟨qb, 0, none⟩)] (.panicking ({ v := .iface u v, recovered := false } :: older)) w fun e u' w' =>
      e = .returned (.tuple #[]) ∧ u' = .panicking ({ v := .iface u v, recovered := true } :: older) ∧
        w' = ((w.setCell ⟨pb, 0, none⟩ (.int .i64 0)).setCell ⟨qb, 0, none⟩ (.iface 43 (.pointer (some ⟨w.heap.size, 0, none⟩)))).alloc (.cells #[.iface u v] 55) := by
  have pc := hp.c
  have pf := hp.fr
  have pl := hp.lt
  have qc := hq.c
  have qf := hq.fr
  have ql := hq.lt
  have hqp : qb ≠ pb := fun h => hpq h.symm
  have nn : ∀ w, (binOp .neq 20 (.iface u v) .nilIface).run Tryd.prog w = .ok (.bool true) w := fun w => run_neq_iface_nil w 20 (by kernel_rfl) u v
  clear hp hq
  refine callsD_of_wpS Tryd.func43 rfl fun c₀ cs hm => ?_
  apply wpS_seq
  apply wpS_region
  simp [wpOpsS, go_sem, recoverD, hm, Tryd.ntmps43, Exit.thenS]
  refine wpS_of_wp ?_
  clear hm
  rw [show (#[Value.pointer (some ⟨pb, 0, none⟩), .pointer (some ⟨qb, 0, none⟩)] ++ ((Array.replicate 9 undef).setIfInBounds 1 (.iface u v)).setIfInBounds 0 (.iface u v)) = #[.pointer (some ⟨pb, 0, none⟩), .pointer (some ⟨qb, 0, none⟩), .iface u v, .iface u v, undef, undef, undef, undef, undef, undef, undef] from rfl]
  go_wp2_with fail
  refine (gateIs_other u v hu _).mono ?_
  rintro e w' ⟨rfl, rfl⟩
  go_wp2_with fail
  refine (of_some u v _).mono ?_
  rintro e w' ⟨rfl, rfl⟩
  go_wp2_with fail
  simp [bodyPostS, results, Tryd.results43]

/-- Block pb and the next one: the two results of a Catch, as they are at first. -/
def Fresh (n : Nat) (w : World) : Prop := Slot w n 0 (.int .i64 0) ∧ Slot w (n + 1) 0 .nilIface

theorem Fresh.a {n : Nat} {w : World} {x y : Value} (h : Slot w n 0 x ∧ Slot w (n + 1) 0 y) (z : Value) : Slot (w.setCell ⟨n, 0, none⟩ z) n 0 z ∧ Slot (w.setCell ⟨n, 0, none⟩ z) (n + 1) 0 y :=
  ⟨h.1.set z, h.2.far ⟨n, 0, none⟩ z (by simp)⟩

theorem Fresh.b {n : Nat} {w : World} {x y : Value} (h : Slot w n 0 x ∧ Slot w (n + 1) 0 y) (z : Value) : Slot (w.setCell ⟨n + 1, 0, none⟩ z) n 0 x ∧ Slot (w.setCell ⟨n + 1, 0, none⟩ z) (n + 1) 0 z :=
  ⟨h.1.far ⟨n + 1, 0, none⟩ z (by simp), h.2.set z⟩

/-- A function without parameters that answers v and no error, and leaves a world of which R is true. -/
def Ans (v : Int) (ev : Value) (R : World → Prop) : Ending → World → Prop := fun e w' => e = .returned (.tuple #[.int .i64 v, ev]) ∧ R w'

/-- What a Catch leaves: what the function left, but for the Catch's own two results. -/
def Caught (n : Nat) (v : Int) (ev : Value) (R : World → Prop) : Ending → World → Prop := fun e w' =>
  e = .returned (.tuple #[.int .i64 v, ev]) ∧ ∃ w1, R w1 ∧ Kept (fun k => k = n ∨ k = n + 1) w1 w'

theorem catch_nil (w : World) : Calls Tryd.prog 34 #[.nilFunc] w fun e w' => e = .returned (.tuple #[.int .i64 0, .iface 29 (.int .i64 1)]) ∧ Kept (fun _ => False) w w' := by
  have hnil : ∀ w : World, (binOp BinOp.eql 72 .nilFunc .nilFunc).run Tryd.prog w = .ok (.bool true) w := fun _ => by kernel_rfl
  go_enter_defers Tryd.func34, Tryd.ntmps34
  go_wp2_with fail
  refine ⟨.tuple #[.int .i64 0, .iface 29 (.int .i64 1)], by simp [results, Tryd.results34, go_sem], rfl, ?_⟩
  exact ((Kept.refl _ w).alloc _).alloc _

theorem catch_calm (K : Nat) (caps : Array Value) (hent : ∀ args w, (callFunc K args).run Tryd.prog w = .ok (.enter K args) w) (v : Int) (R : World → Prop) (w : World)
    (hc : Calls Tryd.prog K caps ((w.alloc (.cells #[.int .i64 0] 2)).alloc (.cells #[.nilIface] 27)) (Ans v .nilIface R)) (hR : ∀ w1, R w1 → Fresh w.heap.size w1) :
    Calls Tryd.prog 34 #[.func (.func K) #[] caps] w (Caught w.heap.size v .nilIface R) := by
  have hmf : ∀ (fn : Fn) (first cap : Array Value) (w : World), (Instr.makeFunc fn first cap).run Tryd.prog w = .ok (.func fn first cap) w := fun _ _ _ _ => rfl
  have hnn : ∀ w : World, (binOp BinOp.eql 72 (.func (.func K) #[] caps) .nilFunc).run Tryd.prog w = .ok (.bool false) w := fun _ => by kernel_rfl
  have HC := Lib.hid hc
  have HR := Lib.hid hR
  clear hc hR
  go_enter_defers Tryd.func34, Tryd.ntmps34
  go_wp2_with fail
  refine HC.out.mono ?_
  rintro e w1 ⟨rfl, h1⟩
  have F := HR.out w1 h1
  have H1 := Lib.hid h1
  have a0 := F.1.c
  have a1 := F.1.fr
  have a2 := F.1.lt
  have b0 := F.2.c
  have b1 := F.2.fr
  have b2 := F.2.lt
  clear F h1
  go_wp2_with fail
  go_region
  go_wp2_with fail
  refine leaves_cons (f := 43) (args := #[.pointer (some ⟨w.heap.size, 0, none⟩), .pointer (some ⟨w.heap.size + 1, 0, none⟩)]) (by simp) (by simp [go_sem]) ?_
  refine (catch1_idle ⟨w.heap.size, 0, none⟩ ⟨w.heap.size + 1, 0, none⟩ _).mono ?_
  rintro e u' w'' ⟨rfl, rfl, rfl⟩
  have z1 := (Fresh.b (Fresh.a (Fresh.b (Fresh.a (HR.out w1 H1.out) (.int .i64 v)) .nilIface) (.int .i64 v)) .nilIface).2.c
  have z0 := (Fresh.a (Fresh.b (Fresh.a (HR.out w1 H1.out) (.int .i64 v)) .nilIface) (.int .i64 v)).1.c
  refine ⟨.tuple #[.int .i64 v, .nilIface], by simp [results, Tryd.results34, go_sem, z0, z1], rfl, w1, H1.out, ?_⟩
  exact (((((Kept.refl _ w1).setCell ⟨w.heap.size, 0, none⟩ (.inl (.inl rfl)) _).setCell ⟨w.heap.size + 1, 0, none⟩ (.inl (.inr rfl)) _).setCell ⟨w.heap.size, 0, none⟩ (.inl (.inl rfl)) _).setCell ⟨w.heap.size + 1, 0, none⟩ (.inl (.inr rfl)) _).drew

theorem catch_err (K : Nat) (caps : Array Value) (hent : ∀ args w, (callFunc K args).run Tryd.prog w = .ok (.enter K args) w) (v : Int) (u : Nat) (x : Value) (R : World → Prop) (w : World)
    (hc : Calls Tryd.prog K caps ((w.alloc (.cells #[.int .i64 0] 2)).alloc (.cells #[.nilIface] 27)) (Ans v (.iface u x) R)) (hR : ∀ w1, R w1 → Fresh w.heap.size w1) :
    Calls Tryd.prog 34 #[.func (.func K) #[] caps] w (Caught w.heap.size 0 (.iface u x) R) := by
  have hmf : ∀ (fn : Fn) (first cap : Array Value) (w : World), (Instr.makeFunc fn first cap).run Tryd.prog w = .ok (.func fn first cap) w := fun _ _ _ _ => rfl
  have hnn : ∀ w : World, (binOp BinOp.eql 72 (.func (.func K) #[] caps) .nilFunc).run Tryd.prog w = .ok (.bool false) w := fun _ => by kernel_rfl
  have nn : ∀ w, (binOp .neq 27 (.iface u x) .nilIface).run Tryd.prog w = .ok (.bool true) w := fun w => run_neq_iface_nil w 27 (by kernel_rfl) u x
  have HC := Lib.hid hc
  have HR := Lib.hid hR
  clear hc hR
  go_enter_defers Tryd.func34, Tryd.ntmps34
  go_wp2_with fail
  refine HC.out.mono ?_
  rintro e w1 ⟨rfl, h1⟩
  have F := HR.out w1 h1
  have H1 := Lib.hid h1
  have a0 := F.1.c
  have a1 := F.1.fr
  have a2 := F.1.lt
  have b0 := F.2.c
  have b1 := F.2.fr
  have b2 := F.2.lt
  clear F h1
  go_wp2_with fail
  go_region
  go_wp2_with fail
  refine leaves_cons (f := 43) (args := #[.pointer (some ⟨w.heap.size, 0, none⟩), .pointer (some ⟨w.heap.size + 1, 0, none⟩)]) (by simp) (by simp [go_sem]) ?_
  refine (catch1_idle ⟨w.heap.size, 0, none⟩ ⟨w.heap.size + 1, 0, none⟩ _).mono ?_
  rintro e u' w'' ⟨rfl, rfl, rfl⟩
  have z1 := (Fresh.b (Fresh.a (Fresh.a (Fresh.b (Fresh.a (HR.out w1 H1.out) (.int .i64 v)) (.iface u x)) (.int .i64 0)) (.int .i64 0)) (.iface u x)).2.c
  have z0 := (Fresh.a (Fresh.a (Fresh.b (Fresh.a (HR.out w1 H1.out) (.int .i64 v)) (.iface u x)) (.int .i64 0)) (.int .i64 0)).1.c
  refine ⟨.tuple #[.int .i64 0, .iface u x], by simp [results, Tryd.results34, go_sem, z0, z1], rfl, w1, H1.out, ?_⟩
  exact ((((((Kept.refl _ w1).setCell ⟨w.heap.size, 0, none⟩ (.inl (.inl rfl)) _).setCell ⟨w.heap.size + 1, 0, none⟩ (.inl (.inr rfl)) _).setCell ⟨w.heap.size, 0, none⟩ (.inl (.inl rfl)) _).setCell ⟨w.heap.size, 0, none⟩ (.inl (.inl rfl)) _).setCell ⟨w.heap.size + 1, 0, none⟩ (.inl (.inr rfl)) _).drew

/-- A function that panics with the value v of type u, and leaves a world of which R is true. -/
def Pan (u : Nat) (v : Value) (R : World → Prop) : Ending → World → Prop := fun e w' => e = .panicked [{ v := .iface u v, recovered := false }] ∧ R w'

/-- What a Catch leaves of a panic. -/
def Carried (n : Nat) (u : Nat) (v : Value) (R : World → Prop) : Ending → World → Prop := fun e w' =>
  ∃ w1, R w1 ∧ e = .returned (.tuple #[.int .i64 0, .iface 43 (.pointer (some ⟨w1.heap.size, 0, none⟩))]) ∧ Kept (fun k => k = n ∨ k = n + 1) w1 w' ∧ w'.cell? ⟨w1.heap.size, 0, none⟩ = some (.iface u v) ∧ w1.heap.size < w'.heap.size

theorem catch_panic (K : Nat) (caps : Array Value) (hent : ∀ args w, (callFunc K args).run Tryd.prog w = .ok (.enter K args) w) (u : Nat) (v : Value) (hu : u ≠ 96) (R : World → Prop) (w : World)
    (hc : Calls Tryd.prog K caps ((w.alloc (.cells #[.int .i64 0] 2)).alloc (.cells #[.nilIface] 27)) (Pan u v R)) (hR : ∀ w1, R w1 → Fresh w.heap.size w1) :
    Calls Tryd.prog 34 #[.func (.func K) #[] caps] w (Carried w.heap.size u v R) := by
  have hmf : ∀ (fn : Fn) (first cap : Array Value) (w : World), (Instr.makeFunc fn first cap).run Tryd.prog w = .ok (.func fn first cap) w := fun _ _ _ _ => rfl
  have hnn : ∀ w : World, (binOp BinOp.eql 72 (.func (.func K) #[] caps) .nilFunc).run Tryd.prog w = .ok (.bool false) w := fun _ => by kernel_rfl
  have HC := Lib.hid hc
  have HR := Lib.hid hR
  clear hc hR
  go_enter_defers Tryd.func34, Tryd.ntmps34
  go_wp2_with fail
  refine HC.out.mono ?_
  rintro e w1 ⟨rfl, h1⟩
  have F := HR.out w1 h1
  have H1 := Lib.hid h1
  clear h1
  go_wp2_with fail
  refine leaves_cons (f := 43) (args := #[.pointer (some ⟨w.heap.size, 0, none⟩), .pointer (some ⟨w.heap.size + 1, 0, none⟩)]) (by simp) (by simp [go_sem]) ?_
  refine (catch1_caught w.heap.size (w.heap.size + 1) u v _ _ [] _ hu F.1 F.2 (by omega)).mono ?_
  rintro e u' w'' ⟨rfl, rfl, rfl⟩
  have P := Fresh.b (Fresh.a F (.int .i64 0)) (.iface 43 (.pointer (some ⟨w1.heap.size, 0, none⟩)))
  have z0 := P.1.c
  have z1 := P.2.c
  have a2 := F.1.lt
  have b2 := F.2.lt
  refine ⟨.tuple #[.int .i64 0, .iface 43 (.pointer (some ⟨w1.heap.size, 0, none⟩))], by simp [results, Tryd.results34, go_sem, z0, z1, a2, b2], w1, H1.out, rfl, ?_, ?_, ?_⟩
  · exact (((Kept.refl _ w1).setCell ⟨w.heap.size, 0, none⟩ (.inl (.inl rfl)) _).setCell ⟨w.heap.size + 1, 0, none⟩ (.inl (.inr rfl)) _).alloc _
  · rw [World.cell?_alloc_at _ _ _ _ (by simp)]; rfl
  · simp

end Go.Proofs.YthkndllageopoaaDoor

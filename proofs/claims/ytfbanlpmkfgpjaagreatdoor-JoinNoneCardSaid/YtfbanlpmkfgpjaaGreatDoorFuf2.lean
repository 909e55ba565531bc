/-
  Package future, a nil thread: settle, spend, a list's functions, Fill, Complete.
-/
import Derived.Test.YtfbanlpmkfgpjaaGreatDoorFuf1
import Derived.Shelf.Abstract
namespace Go.Proofs.YtfbanlpmkfgpjaaGreatDoor
open Go.RowKit

/-- What settle leaves. -/
def FSettled (w : World) (n l h p : Nat) (s v : Int) (e : Value) (m hd : Int) (x : Nat → Value) : Ending → World → Prop := fun r w' =>
  r = .returned (.tuple #[]) ∧ Ftr w' n l h p s v e m hd x ∧ Kept (FOwn n) w w'

theorem fsettle_err {n l h p : Nat} {s v0 m hd : Int} {e0 : Value} {x : Nat → Value} (v : Int) (u : Nat) (y : Value) (w : World) (F : Ftr w n l h p s v0 e0 m hd x) :
    Calls Tryz.prog 72 #[.pointer (some ⟨n + 5, 0, none⟩), .pointer none, .int .i64 v, .iface u y] w (FSettled w n l h p 3 0 (.iface u y) m hd x) := by
  have nn : ∀ w, (binOp .neq 29 (.iface u y) .nilIface).run Tryz.prog w = .ok (.bool true) w := fun w => run_neq_iface_nil w 29 (by kernel_rfl) u y
  have t0 := F.t0
  have t2 := F.t2
  have t3 := F.t3
  have f2 := F.f2
  have f3 := F.f3
  have sz := F.size
  have G := F.come 0 (.iface u y)
  have d0 := G.cel.c0
  have d1 := G.cel.c1
  have d2 := G.cel.c2
  have df := G.cel.fr
  have HG := Lib.hid G
  clear F G
  go_enter Tryz.func72, Tryz.ntmps72
  go_wp2_with (go_at_call 83; refine (store_free n s 3 _ d0 d1 d2 df).mono ?_; rintro e w' ⟨rfl, rfl⟩)
  go_end0
  exact ⟨rfl, HG.out.state 3, (((Kept.refl (FOwn n) w).setCell ⟨n + 5, 2, none⟩ (.inl ⟨by simp, by simp⟩) _).setCell ⟨n + 5, 3, none⟩ (.inl ⟨by simp, by simp⟩) _).setCell ⟨n, 0, none⟩ (.inl ⟨by simp, by simp⟩) _⟩

theorem fsettle_ok {n l h p : Nat} {s v0 m hd : Int} {e0 : Value} {x : Nat → Value} (v : Int) (w : World) (F : Ftr w n l h p s v0 e0 m hd x) :
    Calls Tryz.prog 72 #[.pointer (some ⟨n + 5, 0, none⟩), .pointer none, .int .i64 v, .nilIface] w (FSettled w n l h p 2 v .nilIface m hd x) := by
  have t0 := F.t0
  have t2 := F.t2
  have t3 := F.t3
  have f2 := F.f2
  have f3 := F.f3
  have sz := F.size
  have G := F.come v .nilIface
  have d0 := G.cel.c0
  have d1 := G.cel.c1
  have d2 := G.cel.c2
  have df := G.cel.fr
  have HG := Lib.hid G
  clear F G
  go_enter Tryz.func72, Tryz.ntmps72
  go_wp2_with (go_at_call 83; refine (store_free n s 2 _ d0 d1 d2 df).mono ?_; rintro e w' ⟨rfl, rfl⟩)
  go_end0
  exact ⟨rfl, HG.out.state 2, (((Kept.refl (FOwn n) w).setCell ⟨n + 5, 2, none⟩ (.inl ⟨by simp, by simp⟩) _).setCell ⟨n + 5, 3, none⟩ (.inl ⟨by simp, by simp⟩) _).setCell ⟨n, 0, none⟩ (.inl ⟨by simp, by simp⟩) _⟩

theorem fspent_on (b : Nat) (a1 a2 : Addr) (u : FrameMode) (w : World) (h0 : w.cell? ⟨b, 0, none⟩ = some (.bool true)) :
    CallsD Tryz.prog 71 #[.pointer (some ⟨b, 0, none⟩), .pointer (some a1), .pointer (some a2)] u w fun e u' w' => u' = u ∧ (e = .returned (.tuple #[]) ∧ w' = w) := by
  go_enter_d Tryz.func71, Tryz.ntmps71
  go_wp2
  first | go_end0 | refine bodyPost_ret (results_none rfl _ _ _) rfl ?_
  exact ⟨rfl, rfl⟩

/-- What a promise's filling leaves, ahead of its functions. -/
def FSpent (w : World) (b n l h p : Nat) (s v : Int) (e : Value) (m hd : Int) (x : Nat → Value) : Ending → World → Prop := fun r w' =>
  r = .returned (.tuple #[]) ∧ Ftr w' n l h p s v e m hd x ∧ Slot w' b 0 (.pointer none) ∧ Kept (fun k => FOwn n k ∨ k = b) w w'

set_option maxHeartbeats 800000 in
theorem fspend_any {b n l h p : Nat} {s s' v v0 v' m hd : Int} {e0 e e' : Value} {x : Nat → Value} (w : World) (F : Ftr w n l h p s v0 e0 m hd x) (B : Slot w b 0 (.pointer (some ⟨n + 5, 0, none⟩))) (hb : ¬ FOwn n b)
    (hc : ∀ W, Ftr W n l h p s v0 e0 m hd x → Calls Tryz.prog 72 #[.pointer (some ⟨n + 5, 0, none⟩), .pointer none, .int .i64 v, e] W (FSettled W n l h p s' v' e' m hd x)) :
    Calls Tryz.prog 54 #[.pointer (some ⟨b, 0, none⟩), .pointer none, .int .i64 v, e] w (FSpent w b n l h p s' v' e' m hd x) := by
  have hmf : ∀ (fn : Fn) (first cap : Array Value) (w : World), (Instr.makeFunc fn first cap).run Tryz.prog w = .ok (.func fn first cap) w := fun _ _ _ _ => rfl
  have b0 := B.c
  have b1 := B.fr
  have b2 := B.lt
  have HF := Lib.hid F
  have HB := Lib.hid B
  have HC := Lib.hid hc
  clear F B hc
  have a1 : b < w.heap.size + 1 := by omega
  have a2 : b < w.heap.size + 1 + 1 := by omega
  have a3 : b < w.heap.size + 1 + 1 + 1 := by omega
  go_enter_defers Tryz.func54, Tryz.ntmps54
  go_wp2_with fail
  have K1 : Kept (fun k => k = b) w ((((w.setCell ⟨b, 0, none⟩ (.pointer none)).alloc (.cells #[.pointer (some ⟨b, 0, none⟩)] 94)).alloc (.cells #[.pointer (some ⟨n + 5, 0, none⟩)] 24)).alloc (.cells #[.bool false] 4)) :=
    ((((Kept.refl (fun k => k = b) w).setCell ⟨b, 0, none⟩ (.inl rfl) _).alloc _).alloc _).alloc _
  have F1 := HF.out.kept K1 fun c hc e => hb (e ▸ hc)
  have B1 := (HB.out.set (.pointer none)).kept ((((Kept.refl (fun _ => False) (w.setCell ⟨b, 0, none⟩ (.pointer none))).alloc (.cells #[.pointer (some ⟨b, 0, none⟩)] 94)).alloc (.cells #[.pointer (some ⟨n + 5, 0, none⟩)] 24)).alloc (.cells #[.bool false] 4)) id
  have C1 : Slot ((((w.setCell ⟨b, 0, none⟩ (.pointer none)).alloc (.cells #[.pointer (some ⟨b, 0, none⟩)] 94)).alloc (.cells #[.pointer (some ⟨n + 5, 0, none⟩)] 24)).alloc (.cells #[.bool false] 4)) (w.heap.size + 1 + 1) 0 (.bool false) := ⟨by go_simp, by go_simp, by simp⟩
  have sz := HF.out.size
  refine (HC.out _ F1).mono ?_
  rintro r w1 ⟨rfl, F2, K2⟩
  have nc : ¬ FOwn n (w.heap.size + 1 + 1) := by rintro ⟨_, h2⟩; omega
  have C2 := C1.kept K2 nc
  have B2 := B1.kept K2 hb
  have K3 : Kept (fun k => FOwn n k ∨ k = b) w w1 := (K1.mono fun _ _ h => .inr h).trans (K2.mono fun _ _ h => .inl h)
  have HF2 := Lib.hid F2
  have HB2 := Lib.hid B2
  have HK3 := Lib.hid K3
  have c0 := C2.c
  have c1 := C2.fr
  have c2 := C2.lt
  have c3 : (w1.setCell ⟨w.heap.size + 1 + 1, 0, none⟩ (.bool true)).cell? ⟨w.heap.size + 1 + 1, 0, none⟩ = some (.bool true) := (C2.set _).c
  clear K1 F1 B1 C1 F2 K2 C2 B2 K3
  go_wp2_with fail
  refine leaves_cons (f := 71) (args := #[.pointer (some ⟨w.heap.size + 1 + 1, 0, none⟩), .pointer (some ⟨w.heap.size + 1, 0, none⟩), .pointer (some ⟨w.heap.size, 0, none⟩)]) (by simp) (by simp [go_sem]) ?_
  refine (fspent_on _ _ _ _ _ c3).mono ?_
  rintro e u' w'' ⟨rfl, rfl, rfl⟩
  have z : Kept (fun k => k = w.heap.size + 1 + 1) w1 (w1.setCell ⟨w.heap.size + 1 + 1, 0, none⟩ (.bool true)) := Kept.one w1 ⟨w.heap.size + 1 + 1, 0, none⟩ _
  refine ⟨_, results_none rfl _ _ _, rfl, HF2.out.kept z (fun c hc e => nc (e ▸ hc)), HB2.out.kept z (by omega), HK3.out.far z ?_⟩
  rintro i rfl
  omega

theorem fspend_err {b n l h p : Nat} {s v0 m hd : Int} {e0 : Value} {x : Nat → Value} (v : Int) (u : Nat) (y : Value) (w : World) (F : Ftr w n l h p s v0 e0 m hd x) (B : Slot w b 0 (.pointer (some ⟨n + 5, 0, none⟩))) (hb : ¬ FOwn n b) :
    Calls Tryz.prog 54 #[.pointer (some ⟨b, 0, none⟩), .pointer none, .int .i64 v, .iface u y] w (FSpent w b n l h p 3 0 (.iface u y) m hd x) :=
  fspend_any w F B hb fun W G => fsettle_err v u y W G

theorem fspend_ok {b n l h p : Nat} {s v0 m hd : Int} {e0 : Value} {x : Nat → Value} (v : Int) (w : World) (F : Ftr w n l h p s v0 e0 m hd x) (B : Slot w b 0 (.pointer (some ⟨n + 5, 0, none⟩))) (hb : ¬ FOwn n b) :
    Calls Tryz.prog 54 #[.pointer (some ⟨b, 0, none⟩), .pointer none, .int .i64 v, .nilIface] w (FSpent w b n l h p 2 v .nilIface m hd x) :=
  fspend_any w F B hb fun W G => fsettle_ok v W G

theorem fmake0 (w : World) : (Instr.makeSlice 151 (.int .i64 0) (.int .i64 0)).run Tryz.prog w = .ok (.slice (some ⟨w.heap.size, 0, none⟩) 0 0) (w.alloc (.cells #[] 97)) := by kernel_rfl
theorem fmake1 (w : World) : (Instr.makeSlice 151 (.int .i64 1) (.int .i64 1)).run Tryz.prog w = .ok (.slice (some ⟨w.heap.size, 0, none⟩) 1 1) (w.alloc (.cells #[.nilFunc] 97)) := by kernel_rfl

theorem ftaken_none (w : World) : Calls Tryz.prog 74 #[.slice none 0 0] w fun r w' => r = .returned (.slice (some ⟨w.heap.size, 0, none⟩) 0 0) ∧ Kept (fun _ => False) w w' := by
  have h0 := fmake0 w
  go_enter Tryz.func74, Tryz.ntmps74
  go_wp2_with fail
  refine wp_loop_rounds 1 ?_
  rw [rounds_succ]
  go_wp2_with fail
  go_ret
  exact ⟨rfl, (Kept.refl _ w).alloc _⟩

theorem fmake3 (w : World) : (Instr.makeSlice 151 (.int .i64 3) (.int .i64 3)).run Tryz.prog w = .ok (.slice (some ⟨w.heap.size, 0, none⟩) 3 3) (w.alloc (.cells #[.nilFunc, .nilFunc, .nilFunc] 97)) := by kernel_rfl

/-- Three functions taken out of their places. -/
def FTaken3 (w : World) (u0 u1 u2 : Nat) (f0 f1 f2 : Value) : Ending → World → Prop := fun r w' =>
  r = .returned (.slice (some ⟨w.heap.size, 0, none⟩) 3 3) ∧ Kept (fun k => k = u0 ∨ k = u1 ∨ k = u2) w w' ∧ Slot w' w.heap.size 0 f0 ∧ Slot w' w.heap.size 1 f1 ∧ Slot w' w.heap.size 2 f2

set_option maxRecDepth 100000 in
set_option maxHeartbeats 1600000 in
theorem ftaken_three (g cap u0 u1 u2 K : Nat) (caps0 caps1 caps2 : Array Value) (w : World) (c0 : w.cell? ⟨g, 0, none⟩ = some (.pointer (some ⟨u0, 0, none⟩))) (c1 : w.cell? ⟨g, 1, none⟩ = some (.pointer (some ⟨u1, 0, none⟩))) (c2 : w.cell? ⟨g, 2, none⟩ = some (.pointer (some ⟨u2, 0, none⟩))) (lg : g < w.heap.size)
    (U0 : Slot w u0 0 (.func (.func K) #[] caps0)) (U1 : Slot w u1 0 (.func (.func K) #[] caps1)) (U2 : Slot w u2 0 (.func (.func K) #[] caps2)) (n0 : g ≠ u0) (n1 : g ≠ u1) (n2 : g ≠ u2) (n01 : u0 ≠ u1) (n02 : u0 ≠ u2) (n12 : u1 ≠ u2) :
    Calls Tryz.prog 74 #[.slice (some ⟨g, 0, none⟩) 3 cap] w (FTaken3 w u0 u1 u2 (.func (.func K) #[] caps0) (.func (.func K) #[] caps1) (.func (.func K) #[] caps2)) := by
  have h1 := fmake3 w
  have v0 := U0.c
  have v1 := U0.fr
  have v2 := U0.lt
  have x0 := U1.c
  have x1 := U1.fr
  have x2 := U1.lt
  have y0 := U2.c
  have y1 := U2.fr
  have y2 := U2.lt
  have a1 : g < w.heap.size + 1 := by omega
  have a2 : u0 < w.heap.size + 1 := by omega
  have a3 : u1 < w.heap.size + 1 := by omega
  have a4 : u2 < w.heap.size + 1 := by omega
  clear U0 U1 U2
  go_enter Tryz.func74, Tryz.ntmps74
  go_wp2_with fail
  refine wp_loop_rounds 4 ?_
  rw [rounds_succ]
  go_wp2_with fail
  rw [rounds_succ]
  go_wp2_with fail
  rw [rounds_succ]
  go_wp2_with fail
  rw [rounds_succ]
  go_wp2_with fail
  go_ret
  exact ⟨rfl, ((((Kept.refl (fun k => k = u0 ∨ k = u1 ∨ k = u2) w).setCell ⟨u0, 0, none⟩ (.inl (.inl rfl)) _).setCell ⟨u1, 0, none⟩ (.inl (.inr (.inl rfl))) _).setCell ⟨u2, 0, none⟩ (.inl (.inr (.inr rfl))) _).alloc _, ⟨by go_simp, by go_simp, by simp⟩, ⟨by go_simp, by go_simp, by simp⟩, ⟨by go_simp, by go_simp, by simp⟩⟩

/-- What is left when a future's list was closed. -/
def FTold (w : World) (n l h p : Nat) (s v : Int) (e : Value) (m : Int) (x : Nat → Value) : Ending → World → Prop := fun r w' =>
  r = .returned (.tuple #[]) ∧ Ftr w' n l h p s v e m (-1) x ∧ Kept (FOwn n) w w'

theorem ftell_none {n l h p : Nat} {s v m : Int} {e : Value} {x : Nat → Value} (w : World) (F : Ftr w n l h p s v e m 0 x) :
    Calls Tryz.prog 55 #[.pointer (some ⟨n + 5, 0, none⟩), .pointer none] w (FTold w n l h p s v e m x) := by
  have t1 := F.t1
  have sh := F.sh
  have lt : n + 5 < w.heap.size := by have := F.size; omega
  have HC := Lib.hid (close_none w _ _ _ _ _ _ F.live)
  have k : Kept (fun c => c = l ∨ c = h ∨ c = p) w (w.setCell ⟨h, 0, none⟩ (.int .i64 (-1))) := (Kept.refl _ w).setCell ⟨h, 0, none⟩ (.inl (.inr (.inl rfl))) _
  have HF := Lib.hid (F.list k (F.live.head (-1)))
  have k' : Kept (FOwn n) w (w.setCell ⟨h, 0, none⟩ (.int .i64 (-1))) := (Kept.refl _ w).setCell ⟨h, 0, none⟩ (.inl ⟨by show n ≤ h; omega, by show h < n + 6; omega⟩) _
  have HK := Lib.hid k'
  clear F k k'
  go_enter Tryz.func55, Tryz.ntmps55
  go_wp2_with fail
  refine HC.out.mono ?_
  rintro r w' ⟨rfl, rfl⟩
  go_wp2_with fail
  refine (ftaken_none _).mono ?_
  rintro r w2 ⟨rfl, K2⟩
  have HF2 := Lib.hid (HF.out.far K2)
  have HK2 := Lib.hid (HK.out.trans (K2.mono fun _ _ h => h.elim))
  clear K2
  go_wp2_with fail
  refine wp_loop_rounds 1 ?_
  rw [rounds_succ]
  go_wp2_with fail
  go_end0
  exact ⟨rfl, HF2.out, HK2.out⟩

end Go.Proofs.YtfbanlpmkfgpjaaGreatDoor

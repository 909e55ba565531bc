/-
  Package future, a nil thread: settle, spend, a list's functions, Fill, Complete.
-/
import Derived.Test.YtkbcpifhbpfhlaaGreatDoorFut1
import Derived.Shelf.Abstract
namespace Go.Proofs.YtkbcpifhbpfhlaaGreatDoor
open Go.RowKit

/-- What settle leaves. -/
def FSettled (w : World) (n l h p : Nat) (s v : Int) (e : Value) (m hd : Int) (x0 x1 : Value) : Ending → World → Prop := fun r w' =>
  r = .returned (.tuple #[]) ∧ Ftr w' n l h p s v e m hd x0 x1 ∧ Kept (FOwn n) w w'

theorem fsettle_err {n l h p : Nat} {s v0 m hd : Int} {e0 x0 x1 : Value} (v : Int) (u : Nat) (y : Value) (w : World) (F : Ftr w n l h p s v0 e0 m hd x0 x1) :
    Calls Tryz.prog 98 #[.pointer (some ⟨n + 5, 0, none⟩), .pointer none, .int .i64 v, .iface u y] w (FSettled w n l h p 3 0 (.iface u y) m hd x0 x1) := by
  have nn : ∀ w, (binOp .neq 47 (.iface u y) .nilIface).run Tryz.prog w = .ok (.bool true) w := fun w => run_neq_iface_nil w 47 (by kernel_rfl) u y
  have t0 := F.t0
  have t2 := F.t2
  have t3 := F.t3
  have f2 := F.f2
  have f3 := F.f3
  have sz := F.size
  have G := F.come 0 (.iface u y)
  have d0 := G.cel.c0
  have d1 := G.cel.c1
  have d2 := G.cel.c2
  have df := G.cel.fr
  have HG := Lib.hid G
  clear F G
  go_enter Tryz.func98, Tryz.ntmps98
  go_wp2_with (go_at_call 35; refine (store_free n s 3 _ d0 d1 d2 df).mono ?_; rintro e w' ⟨rfl, rfl⟩)
  go_end0
  exact ⟨rfl, HG.out.state 3, (((Kept.refl (FOwn n) w).setCell ⟨n + 5, 2, none⟩ (.inl ⟨by simp, by simp⟩) _).setCell ⟨n + 5, 3, none⟩ (.inl ⟨by simp, by simp⟩) _).setCell ⟨n, 0, none⟩ (.inl ⟨by simp, by simp⟩) _⟩

theorem fsettle_ok {n l h p : Nat} {s v0 m hd : Int} {e0 x0 x1 : Value} (v : Int) (w : World) (F : Ftr w n l h p s v0 e0 m hd x0 x1) :
    Calls Tryz.prog 98 #[.pointer (some ⟨n + 5, 0, none⟩), .pointer none, .int .i64 v, .nilIface] w (FSettled w n l h p 2 v .nilIface m hd x0 x1) := by
  have t0 := F.t0
  have t2 := F.t2
  have t3 := F.t3
  have f2 := F.f2
  have f3 := F.f3
  have sz := F.size
  have G := F.come v .nilIface
  have d0 := G.cel.c0
  have d1 := G.cel.c1
  have d2 := G.cel.c2
  have df := G.cel.fr
  have HG := Lib.hid G
  clear F G
  go_enter Tryz.func98, Tryz.ntmps98
  go_wp2_with (go_at_call 35; refine (store_free n s 2 _ d0 d1 d2 df).mono ?_; rintro e w' ⟨rfl, rfl⟩)
  go_end0
  exact ⟨rfl, HG.out.state 2, (((Kept.refl (FOwn n) w).setCell ⟨n + 5, 2, none⟩ (.inl ⟨by simp, by simp⟩) _).setCell ⟨n + 5, 3, none⟩ (.inl ⟨by simp, by simp⟩) _).setCell ⟨n, 0, none⟩ (.inl ⟨by simp, by simp⟩) _⟩

theorem fspent_on (b : Nat) (a1 a2 : Addr) (u : FrameMode) (w : World) (h0 : w.cell? ⟨b, 0, none⟩ = some (.bool true)) :
    CallsD Tryz.prog 97 #[.pointer (some ⟨b, 0, none⟩), .pointer (some a1), .pointer (some a2)] u w fun e u' w' => u' = u ∧ (e = .returned (.tuple #[]) ∧ w' = w) := by
  go_enter_d Tryz.func97, Tryz.ntmps97
  go_wp2
  first | go_end0 | refine bodyPost_ret (results_none rfl _ _ _) rfl ?_
  exact ⟨rfl, rfl⟩

/-- What a promise's filling leaves, ahead of its functions. -/
def FSpent (w : World) (b n l h p : Nat) (s v : Int) (e : Value) (m hd : Int) (x0 x1 : Value) : Ending → World → Prop := fun r w' =>
  r = .returned (.tuple #[]) ∧ Ftr w' n l h p s v e m hd x0 x1 ∧ Slot w' b 0 (.pointer none) ∧ Kept (fun k => FOwn n k ∨ k = b) w w'

set_option maxHeartbeats 800000 in
theorem fspend_any {b n l h p : Nat} {s s' v v0 v' m hd : Int} {e0 e e' x0 x1 : Value} (w : World) (F : Ftr w n l h p s v0 e0 m hd x0 x1) (B : Slot w b 0 (.pointer (some ⟨n + 5, 0, none⟩))) (hb : ¬ FOwn n b)
    (hc : ∀ W, Ftr W n l h p s v0 e0 m hd x0 x1 → Calls Tryz.prog 98 #[.pointer (some ⟨n + 5, 0, none⟩), .pointer none, .int .i64 v, e] W (FSettled W n l h p s' v' e' m hd x0 x1)) :
    Calls Tryz.prog 70 #[.pointer (some ⟨b, 0, none⟩), .pointer none, .int .i64 v, e] w (FSpent w b n l h p s' v' e' m hd x0 x1) := by
  have hmf : ∀ (fn : Fn) (first cap : Array Value) (w : World), (Instr.makeFunc fn first cap).run Tryz.prog w = .ok (.func fn first cap) w := fun _ _ _ _ => rfl
  have b0 := B.c
  have b1 := B.fr
  have b2 := B.lt
  have HF := Lib.hid F
  have HB := Lib.hid B
  have HC := Lib.hid hc
  clear F B hc
  have a1 : b < w.heap.size + 1 := by omega
  have a2 : b < w.heap.size + 1 + 1 := by omega
  have a3 : b < w.heap.size + 1 + 1 + 1 := by omega
  go_enter_defers Tryz.func70, Tryz.ntmps70
  go_wp2_with fail
  have K1 : Kept (fun k => k = b) w ((((w.setCell ⟨b, 0, none⟩ (.pointer none)).alloc (.cells #[.pointer (some ⟨b, 0, none⟩)] 89)).alloc (.cells #[.pointer (some ⟨n + 5, 0, none⟩)] 26)).alloc (.cells #[.bool false] 4)) :=
    ((((Kept.refl (fun k => k = b) w).setCell ⟨b, 0, none⟩ (.inl rfl) _).alloc _).alloc _).alloc _
  have F1 := HF.out.kept K1 fun c hc e => hb (e ▸ hc)
  have B1 := (HB.out.set (.pointer none)).kept ((((Kept.refl (fun _ => False) (w.setCell ⟨b, 0, none⟩ (.pointer none))).alloc (.cells #[.pointer (some ⟨b, 0, none⟩)] 89)).alloc (.cells #[.pointer (some ⟨n + 5, 0, none⟩)] 26)).alloc (.cells #[.bool false] 4)) id
  have C1 : Slot ((((w.setCell ⟨b, 0, none⟩ (.pointer none)).alloc (.cells #[.pointer (some ⟨b, 0, none⟩)] 89)).alloc (.cells #[.pointer (some ⟨n + 5, 0, none⟩)] 26)).alloc (.cells #[.bool false] 4)) (w.heap.size + 1 + 1) 0 (.bool false) := ⟨by go_simp, by go_simp, by simp⟩
  have sz := HF.out.size
  refine (HC.out _ F1).mono ?_
  rintro r w1 ⟨rfl, F2, K2⟩
  have nc : ¬ FOwn n (w.heap.size + 1 + 1) := by rintro ⟨_, h2⟩; omega
  have C2 := C1.kept K2 nc
  have B2 := B1.kept K2 hb
  have K3 : Kept (fun k => FOwn n k ∨ k = b) w w1 := (K1.mono fun _ _ h => .inr h).trans (K2.mono fun _ _ h => .inl h)
  have HF2 := Lib.hid F2
  have HB2 := Lib.hid B2
  have HK3 := Lib.hid K3
  have c0 := C2.c
  have c1 := C2.fr
  have c2 := C2.lt
  have c3 : (w1.setCell ⟨w.heap.size + 1 + 1, 0, none⟩ (.bool true)).cell? ⟨w.heap.size + 1 + 1, 0, none⟩ = some (.bool true) := (C2.set _).c
  clear K1 F1 B1 C1 F2 K2 C2 B2 K3
  go_wp2_with fail
  refine leaves_cons (f := 97) (args := #[.pointer (some ⟨w.heap.size + 1 + 1, 0, none⟩), .pointer (some ⟨w.heap.size + 1, 0, none⟩), .pointer (some ⟨w.heap.size, 0, none⟩)]) (by simp) (by simp [go_sem]) ?_
  refine (fspent_on _ _ _ _ _ c3).mono ?_
  rintro e u' w'' ⟨rfl, rfl, rfl⟩
  have z : Kept (fun k => k = w.heap.size + 1 + 1) w1 (w1.setCell ⟨w.heap.size + 1 + 1, 0, none⟩ (.bool true)) := Kept.one w1 ⟨w.heap.size + 1 + 1, 0, none⟩ _
  refine ⟨_, results_none rfl _ _ _, rfl, HF2.out.kept z (fun c hc e => nc (e ▸ hc)), HB2.out.kept z (by omega), HK3.out.far z ?_⟩
  rintro i rfl
  omega

theorem fspend_err {b n l h p : Nat} {s v0 m hd : Int} {e0 x0 x1 : Value} (v : Int) (u : Nat) (y : Value) (w : World) (F : Ftr w n l h p s v0 e0 m hd x0 x1) (B : Slot w b 0 (.pointer (some ⟨n + 5, 0, none⟩))) (hb : ¬ FOwn n b) :
    Calls Tryz.prog 70 #[.pointer (some ⟨b, 0, none⟩), .pointer none, .int .i64 v, .iface u y] w (FSpent w b n l h p 3 0 (.iface u y) m hd x0 x1) :=
  fspend_any w F B hb fun W G => fsettle_err v u y W G

theorem fspend_ok {b n l h p : Nat} {s v0 m hd : Int} {e0 x0 x1 : Value} (v : Int) (w : World) (F : Ftr w n l h p s v0 e0 m hd x0 x1) (B : Slot w b 0 (.pointer (some ⟨n + 5, 0, none⟩))) (hb : ¬ FOwn n b) :
    Calls Tryz.prog 70 #[.pointer (some ⟨b, 0, none⟩), .pointer none, .int .i64 v, .nilIface] w (FSpent w b n l h p 2 v .nilIface m hd x0 x1) :=
  fspend_any w F B hb fun W G => fsettle_ok v W G

theorem fmake0 (w : World) : (Instr.makeSlice 185 (.int .i64 0) (.int .i64 0)).run Tryz.prog w = .ok (.slice (some ⟨w.heap.size, 0, none⟩) 0 0) (w.alloc (.cells #[] 80)) := by kernel_rfl
theorem fmake1 (w : World) : (Instr.makeSlice 185 (.int .i64 1) (.int .i64 1)).run Tryz.prog w = .ok (.slice (some ⟨w.heap.size, 0, none⟩) 1 1) (w.alloc (.cells #[.nilFunc] 80)) := by kernel_rfl

theorem ftaken_none (w : World) : Calls Tryz.prog 100 #[.slice none 0 0] w fun r w' => r = .returned (.slice (some ⟨w.heap.size, 0, none⟩) 0 0) ∧ Kept (fun _ => False) w w' := by
  have h0 := fmake0 w
  go_enter Tryz.func100, Tryz.ntmps100
  go_wp2_with fail
  refine wp_loop_rounds 1 ?_
  rw [rounds_succ]
  go_wp2_with fail
  go_ret
  exact ⟨rfl, (Kept.refl _ w).alloc _⟩

/-- One function taken out of its place. -/
def FTaken (w : World) (u : Nat) (f : Value) : Ending → World → Prop := fun r w' =>
  r = .returned (.slice (some ⟨w.heap.size, 0, none⟩) 1 1) ∧ Kept (fun k => k = u) w w' ∧ Slot w' w.heap.size 0 f

set_option maxRecDepth 100000 in
set_option maxHeartbeats 800000 in
theorem ftaken_one (g cap u K : Nat) (caps : Array Value) (w : World) (c0 : w.cell? ⟨g, 0, none⟩ = some (.pointer (some ⟨u, 0, none⟩))) (lg : g < w.heap.size) (U : Slot w u 0 (.func (.func K) #[] caps)) (ne : g ≠ u) :
    Calls Tryz.prog 100 #[.slice (some ⟨g, 0, none⟩) 1 cap] w (FTaken w u (.func (.func K) #[] caps)) := by
  have h1 := fmake1 w
  have u0 := U.c
  have u1 := U.fr
  have u2 := U.lt
  have a1 : g < w.heap.size + 1 := by omega
  have a2 : u < w.heap.size + 1 := by omega
  have HU := Lib.hid U
  clear U
  go_enter Tryz.func100, Tryz.ntmps100
  go_wp2_with fail
  refine wp_loop_rounds 2 ?_
  rw [rounds_succ]
  go_wp2_with fail
  rw [rounds_succ]
  go_wp2_with fail
  go_ret
  exact ⟨rfl, ((Kept.refl (fun k => k = u) w).setCell ⟨u, 0, none⟩ (.inl rfl) _).alloc _, ⟨by go_simp, by go_simp, by simp⟩⟩

/-- What is left when a future's list was closed. -/
def FTold (w : World) (n l h p : Nat) (s v : Int) (e : Value) (m : Int) (x0 x1 : Value) : Ending → World → Prop := fun r w' =>
  r = .returned (.tuple #[]) ∧ Ftr w' n l h p s v e m (-1) x0 x1 ∧ Kept (FOwn n) w w'

theorem ftell_none {n l h p : Nat} {s v m : Int} {e x0 x1 : Value} (w : World) (F : Ftr w n l h p s v e m 0 x0 x1) :
    Calls Tryz.prog 71 #[.pointer (some ⟨n + 5, 0, none⟩), .pointer none] w (FTold w n l h p s v e m x0 x1) := by
  have t1 := F.t1
  have sh := F.sh
  have lt : n + 5 < w.heap.size := by have := F.size; omega
  have HC := Lib.hid (close_none w _ _ _ _ _ _ _ F.live)
  have k : Kept (fun c => c = l ∨ c = h ∨ c = p) w (w.setCell ⟨h, 0, none⟩ (.int .i64 (-1))) := (Kept.refl _ w).setCell ⟨h, 0, none⟩ (.inl (.inr (.inl rfl))) _
  have HF := Lib.hid (F.list k (F.live.head (-1)))
  have k' : Kept (FOwn n) w (w.setCell ⟨h, 0, none⟩ (.int .i64 (-1))) := (Kept.refl _ w).setCell ⟨h, 0, none⟩ (.inl ⟨by show n ≤ h; omega, by show h < n + 6; omega⟩) _
  have HK := Lib.hid k'
  clear F k k'
  go_enter Tryz.func71, Tryz.ntmps71
  go_wp2_with fail
  refine HC.out.mono ?_
  rintro r w' ⟨rfl, rfl⟩
  go_wp2_with fail
  refine (ftaken_none _).mono ?_
  rintro r w2 ⟨rfl, K2⟩
  have HF2 := Lib.hid (HF.out.far K2)
  have HK2 := Lib.hid (HK.out.trans (K2.mono fun _ _ h => h.elim))
  clear K2
  go_wp2_with fail
  refine wp_loop_rounds 1 ?_
  rw [rounds_succ]
  go_wp2_with fail
  go_end0
  exact ⟨rfl, HF2.out, HK2.out⟩

end Go.Proofs.YtkbcpifhbpfhlaaGreatDoor

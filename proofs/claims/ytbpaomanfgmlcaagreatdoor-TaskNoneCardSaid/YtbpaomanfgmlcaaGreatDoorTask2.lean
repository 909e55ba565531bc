/-
  Package task, a nil thread: settle, drop, claim, Cancel, New.
-/
import Derived.Test.YtbpaomanfgmlcaaGreatDoorTask1
namespace Go.Proofs.YtbpaomanfgmlcaaGreatDoor
open Go.RowKit

/-- The two blocks of a task. -/
def Both (x c : Nat) : Nat → Prop := fun k => k = x ∨ k = c

/-- What a call leaves that settles a task. -/
def Settled (r : Ending) (w : World) (x c : Nat) (n s : Int) (v : Int) (e : Value) : Ending → World → Prop := fun r' w' =>
  r' = r ∧ Kept (Both x c) w w' ∧ Tsk w' x c n (.pointer none) .nilFunc v e ∧ Cel w' c s

/-- settle, told by what it leaves. -/
theorem settled_of {x c : Nat} {n v v0 s t : Int} {e0 e : Value} {w : World} (r : Ending) (h : Tsk w x c n (.pointer none) .nilFunc v0 e0) (C : Cel w c s) :
    Settled r w x c n t v e r (((w.setCell ⟨x, 4, none⟩ (.int .i64 v)).setCell ⟨x, 5, none⟩ e).setCell ⟨c, 0, none⟩ (.int .i64 t)) := by
  refine ⟨rfl, (((Kept.refl (Both x c) w).setCell ⟨x, 4, none⟩ (.inl (.inl rfl)) _).setCell ⟨x, 5, none⟩ (.inl (.inl rfl)) _).setCell ⟨c, 0, none⟩ (.inl (.inr rfl)) _, (h.come v e).cell _, ?_⟩
  exact ((C.far ⟨x, 4, none⟩ _ h.ne.symm).far ⟨x, 5, none⟩ _ h.ne.symm).set t

theorem settle_err (x c : Nat) (n v v0 s : Int) (e0 : Value) (u : Nat) (y : Value) (w : World) (h : Tsk w x c n (.pointer none) .nilFunc v0 e0) (C : Cel w c s) :
    Calls Tryz.prog 22 #[.pointer (some ⟨x, 0, none⟩), .pointer none, .int .i64 v, .iface u y] w (Settled (.returned (.tuple #[])) w x c n 3 v (.iface u y)) := by
  have nn : ∀ w, (binOp .neq 29 (.iface u y) .nilIface).run Tryz.prog w = .ok (.bool true) w := fun w => run_neq_iface_nil w 29 (by kernel_rfl) u y
  have t1 := h.t1
  have t4 := h.t4
  have t5 := h.t5
  have f4 := h.f4
  have f5 := h.f5
  have lt := h.lt
  have D : Cel ((w.setCell ⟨x, 4, none⟩ (.int .i64 v)).setCell ⟨x, 5, none⟩ (.iface u y)) c s := (C.far ⟨x, 4, none⟩ _ h.ne.symm).far ⟨x, 5, none⟩ _ h.ne.symm
  have d0 := D.c0
  have d1 := D.c1
  have d2 := D.c2
  have df := D.fr
  have H := Lib.hid h
  have HC := Lib.hid C
  clear h C D
  go_enter Tryz.func22, Tryz.ntmps22
  go_wp2_with (go_at_call 39; refine (store_free c s 3 _ d0 d1 d2 df).mono ?_; rintro e w' ⟨rfl, rfl⟩)
  go_end0
  exact settled_of _ H.out HC.out

theorem settle_ok (x c : Nat) (n v v0 s : Int) (e0 : Value) (w : World) (h : Tsk w x c n (.pointer none) .nilFunc v0 e0) (C : Cel w c s) :
    Calls Tryz.prog 22 #[.pointer (some ⟨x, 0, none⟩), .pointer none, .int .i64 v, .nilIface] w (Settled (.returned (.tuple #[])) w x c n 2 v .nilIface) := by
  have t1 := h.t1
  have t4 := h.t4
  have t5 := h.t5
  have f4 := h.f4
  have f5 := h.f5
  have lt := h.lt
  have D : Cel ((w.setCell ⟨x, 4, none⟩ (.int .i64 v)).setCell ⟨x, 5, none⟩ .nilIface) c s := (C.far ⟨x, 4, none⟩ _ h.ne.symm).far ⟨x, 5, none⟩ _ h.ne.symm
  have d0 := D.c0
  have d1 := D.c1
  have d2 := D.c2
  have df := D.fr
  have H := Lib.hid h
  have HC := Lib.hid C
  clear h C D
  go_enter Tryz.func22, Tryz.ntmps22
  go_wp2_with (go_at_call 39; refine (store_free c s 2 _ d0 d1 d2 df).mono ?_; rintro e w' ⟨rfl, rfl⟩)
  go_end0
  exact settled_of _ H.out HC.out

theorem drop_is (x c : Nat) (n v0 s r : Int) (e0 : Value) (w : World) (h : Tsk w x c n (.pointer none) .nilFunc v0 e0) (C : Cel w c s) :
    Calls Tryz.prog 18 #[.pointer (some ⟨x, 0, none⟩), .pointer none, .int .i64 r] w (Settled (.returned (.tuple #[])) w x c n 3 0 (.iface 79 (.pointer (some ⟨w.heap.size, 0, none⟩)))) := by
  have K1 : Kept (fun _ => False) w (w.alloc (.cells #[.int .i64 r] 81)) := (Kept.refl _ w).alloc _
  have h1 := h.kept K1 id
  have C1 := C.kept K1 id
  have H1 := Lib.hid h1
  have D1 := Lib.hid C1
  have HK := Lib.hid K1
  have t0 := h.t0
  have hlt := h.lt
  clear h C h1 C1 K1
  go_enter Tryz.func18, Tryz.ntmps18
  go_wp2_with fail
  refine (mark_nil n 4 _).mono ?_
  rintro e w' ⟨rfl, rfl⟩
  go_wp2_with fail
  refine (settle_err x c n 0 v0 s e0 79 _ _ H1.out D1.out).mono ?_
  rintro e w' ⟨rfl, a, b, d⟩
  have HA := Lib.hid a
  have HB := Lib.hid b
  have HD := Lib.hid d
  clear a b d
  go_wp2_with fail
  go_end0
  exact ⟨rfl, (HK.out.mono fun _ _ h => h.elim).trans HA.out, HB.out, HD.out⟩

/-- What a claim leaves. -/
def Claimed (w : World) (x c : Nat) (n : Int) (f : Value) (v : Int) (e : Value) : Ending → World → Prop := fun r w' =>
  r = .returned (.tuple #[.agg #[.pointer none, f], .bool true]) ∧ Kept (Both x c) w w' ∧ Tsk w' x c n (.pointer none) .nilFunc v e ∧ Cel w' c 1

theorem claim_nil (w : World) : Calls Tryz.prog 16 #[.pointer none, .pointer none] w fun r w' => r = .returned (.tuple #[.agg #[.pointer none, .nilFunc], .bool false]) ∧ Kept (fun _ => False) w w' := by
  go_enter Tryz.func16, Tryz.ntmps16
  go_wp2_with (go_at_call 13; refine (tnone_nil _).mono ?_; rintro e w' ⟨rfl, rfl⟩)
  exact bodyPost_ret (v := .tuple #[.agg #[.pointer none, .nilFunc], .bool false]) (by simp [results, Tryz.results16, go_sem]) rfl ⟨rfl, (Kept.refl _ w).alloc _⟩

theorem claim_bare (x : Nat) (w : World) (h : w.cell? ⟨x, 1, none⟩ = some (.pointer none)) (hx : x < w.heap.size) : Calls Tryz.prog 16 #[.pointer (some ⟨x, 0, none⟩), .pointer none] w fun r w' => r = .returned (.tuple #[.agg #[.pointer none, .nilFunc], .bool false]) ∧ Kept (fun _ => False) w w' := by
  have h' : (w.alloc (.cells #[.pointer none, .nilFunc] 27)).cell? ⟨x, 1, none⟩ = some (.pointer none) := by go_simp
  go_enter Tryz.func16, Tryz.ntmps16
  go_wp2_with (go_at_call 13; refine (tnone_bare x _ h').mono ?_; rintro e w' ⟨rfl, rfl⟩)
  exact bodyPost_ret (v := .tuple #[.agg #[.pointer none, .nilFunc], .bool false]) (by simp [results, Tryz.results16, go_sem]) rfl ⟨rfl, (Kept.refl _ w).alloc _⟩

theorem claim_miss (x c : Nat) (n v s : Int) (k f e : Value) (hs : ¬ s = 0) (w : World) (h : Tsk w x c n k f v e) (C : Cel w c s) : Calls Tryz.prog 16 #[.pointer (some ⟨x, 0, none⟩), .pointer none] w fun r w' => r = .returned (.tuple #[.agg #[.pointer none, .nilFunc], .bool false]) ∧ Kept (fun _ => False) w w' := by
  have K1 : Kept (fun _ => False) w (w.alloc (.cells #[.pointer none, .nilFunc] 27)) := (Kept.refl _ w).alloc _
  have t1' := (h.kept K1 id).t1
  have t1 := h.t1
  have lt := h.lt
  have D := C.kept K1 id
  have d0 := D.c0
  have d1 := D.c1
  have df := D.fr
  have HS := Lib.hid hs
  clear h C D K1 hs
  go_enter Tryz.func16, Tryz.ntmps16
  go_wp2_with (first
    | (go_at_call 13; refine (tnone_is x _ _ t1').mono ?_; rintro e w' ⟨rfl, rfl⟩)
    | (go_at_call 34; refine (cas_miss c s 0 1 HS.out _ d0 d1 df).mono ?_; rintro e w' ⟨rfl, rfl⟩))
  exact bodyPost_ret (v := .tuple #[.agg #[.pointer none, .nilFunc], .bool false]) (by simp [results, Tryz.results16, go_sem]) rfl ⟨rfl, (Kept.refl _ w).alloc _⟩

theorem claim_hit (x c : Nat) (n v : Int) (f e : Value) (o : f.oneCell' = true) (w : World) (h : Tsk w x c n (.pointer none) f v e) (C : Cel w c 0) : Calls Tryz.prog 16 #[.pointer (some ⟨x, 0, none⟩), .pointer none] w (Claimed w x c n f v e) := by
  have K1 : Kept (fun _ => False) w (w.alloc (.cells #[.pointer none, .nilFunc] 27)) := (Kept.refl _ w).alloc _
  have t1' := (h.kept K1 id).t1
  have t1 := h.t1
  have t2 := h.t2
  have t3 := h.t3
  have f2 := h.f2
  have f3 := h.f3
  have lt := h.lt
  have ne := h.ne
  have ne' : c ≠ x := fun a => ne a.symm
  have D := C.kept K1 id
  have d0 := D.c0
  have d1 := D.c1
  have d2 := D.c2
  have df := D.fr
  have lc := C.lt
  have s0 : ∀ a m w, (store a f m).run Tryz.prog w = stored Tryz.prog w a f m := fun a m w => run_store Tryz.prog w a f m o
  have HH := Lib.hid h
  have HC := Lib.hid C
  clear h C D K1
  go_enter Tryz.func16, Tryz.ntmps16
  go_wp2_with (first
    | (go_at_call 13; refine (tnone_is x _ _ t1').mono ?_; rintro e w' ⟨rfl, rfl⟩)
    | (go_at_call 34; refine (cas_hit c 0 1 _ d0 d1 d2 df).mono ?_; rintro e w' ⟨rfl, rfl⟩))
  refine bodyPost_ret (v := .tuple #[.agg #[.pointer none, f], .bool true]) (by simp [results, Tryz.results16, go_sem]) rfl ⟨rfl, ?_, ?_, ?_⟩
  · exact ((((((Kept.refl (Both x c) w).setCell ⟨c, 0, none⟩ (.inl (.inr rfl)) _).setCell ⟨x, 2, none⟩ (.inl (.inl rfl)) _).setCell ⟨x, 3, none⟩ (.inl (.inl rfl)) _).alloc _).alloc _)
  · exact (((HH.out.cell (.int .i64 1)).lay (.pointer none) .nilFunc).kept (((Kept.refl (fun _ => False) _).alloc _).alloc _) id)
  · exact ((((HC.out.set 1).far ⟨x, 2, none⟩ _ ne').far ⟨x, 3, none⟩ _ ne').kept (((Kept.refl (fun _ => False) _).alloc _).alloc _) id)

theorem cancel_low (x : Value) (r : Int) (hr : r < 1) (w : World) : Calls Tryz.prog 6 #[x, .pointer none, .int .i64 r] w fun e w' => e = .returned (.bool false) ∧ Kept (fun _ => False) w w' := by
  have hd : decide (r < 1) = true := by simpa using hr
  go_enter Tryz.func6, Tryz.ntmps6
  go_wp2
  go_ret
  exact ⟨rfl, Kept.refl _ w⟩

theorem cancel_no (x : Value) (r : Int) (hr : 1 ≤ r) (w : World) (hc : Calls Tryz.prog 16 #[x, .pointer none] w fun r w' => r = .returned (.tuple #[.agg #[.pointer none, .nilFunc], .bool false]) ∧ Kept (fun _ => False) w w') :
    Calls Tryz.prog 6 #[x, .pointer none, .int .i64 r] w fun e w' => e = .returned (.bool false) ∧ Kept (fun _ => False) w w' := by
  have hd : decide (r < 1) = false := by simp; omega
  have HC := Lib.hid hc
  clear hc
  go_enter Tryz.func6, Tryz.ntmps6
  go_wp2_with fail
  refine HC.out.mono ?_
  rintro e w1 ⟨rfl, hK⟩
  have HK := Lib.hid hK
  clear hK
  go_wp2_with fail
  go_ret
  exact ⟨rfl, HK.out.alloc _⟩

/-- What a call that answers a bool leaves of a task that it settles, of the blocks of S, and of what T says. -/
def Done (b : Bool) (S : Nat → Prop) (T : World → Prop) (w : World) (x c : Nat) (n s v : Int) (E : Value → Prop) : Ending → World → Prop := fun r w' =>
  r = .returned (.bool b) ∧ Kept (fun k => Both x c k ∨ S k) w w' ∧ (∃ e, E e ∧ Tsk w' x c n (.pointer none) .nilFunc v e) ∧ Cel w' c s ∧ T w'

/-- An error that is a cancelled one. -/
def Canc (e : Value) : Prop := ∃ a : Addr, e = .iface 79 (.pointer (some a))
/-- An error that is a carried panic. -/
def Pand (e : Value) : Prop := ∃ a : Addr, e = .iface 113 (.pointer (some a))
/-- No error. -/
def Well (e : Value) : Prop := e = .nilIface

theorem cancel_yes (x c : Nat) (n v0 r : Int) (hr : 1 ≤ r) (f : Value) (o : f.oneCell' = true) (w : World) (h : Tsk w x c n (.pointer none) f v0 .nilIface) (C : Cel w c 0) :
    Calls Tryz.prog 6 #[.pointer (some ⟨x, 0, none⟩), .pointer none, .int .i64 r] w (Done true (fun _ => False) (fun _ => True) w x c n 3 0 Canc) := by
  have hd : decide (r < 1) = false := by simp; omega
  have s0 : ∀ a m w, (store a f m).run Tryz.prog w = stored Tryz.prog w a f m := fun a m w => run_store Tryz.prog w a f m o
  have HH := Lib.hid h
  have HC := Lib.hid C
  clear h C
  go_enter Tryz.func6, Tryz.ntmps6
  go_wp2_with fail
  refine (claim_hit x c n v0 f _ o _ HH.out HC.out).mono ?_
  rintro e w1 ⟨rfl, a, b, d⟩
  have K1 : Kept (fun _ => False) w1 (w1.alloc (.cells #[.pointer none, f] 27)) := (Kept.refl _ w1).alloc _
  have HA := Lib.hid (a.alloc (.cells #[.pointer none, f] 27))
  have HB := Lib.hid (b.kept K1 id)
  have HD := Lib.hid (d.kept K1 id)
  clear a b d K1
  go_wp2_with fail
  refine (drop_is x c n v0 1 r _ _ HB.out HD.out).mono ?_
  rintro e w2 ⟨rfl, a, b, d⟩
  have GA := Lib.hid a
  have GB := Lib.hid b
  have GD := Lib.hid d
  clear a b d
  go_wp2_with fail
  go_ret
  exact ⟨rfl, (HA.out.trans GA.out).mono fun _ _ h => .inl h, ⟨_, ⟨_, rfl⟩, GB.out⟩, GD.out, trivial⟩

/-- What New leaves. -/
def Made (w : World) (n : Int) (f : Value) : Ending → World → Prop := fun r w' =>
  r = .returned (.pointer (some ⟨w.heap.size + 1, 0, none⟩)) ∧ Kept (fun _ => False) w w' ∧ Tsk w' (w.heap.size + 1) w.heap.size n (.pointer none) f 0 .nilIface ∧ Cel w' w.heap.size 0 ∧ w'.heap.size = w.heap.size + 2

theorem new_nil (n : Int) (w : World) : Calls Tryz.prog 10 #[.int .i64 n, .pointer none, .nilFunc] w fun e w' => e = .returned (.pointer none) ∧ w = w' := by
  have hnil : ∀ w : World, (binOp BinOp.eql 25 .nilFunc .nilFunc).run Tryz.prog w = .ok (.bool true) w := fun _ => by kernel_rfl
  go_enter Tryz.func10, Tryz.ntmps10
  go_wp2
  go_ret
  exact ⟨rfl, rfl⟩

theorem new_is (n : Int) (K : Nat) (caps : Array Value) (w : World) : Calls Tryz.prog 10 #[.int .i64 n, .pointer none, .func (.func K) #[] caps] w (Made w n (.func (.func K) #[] caps)) := by
  have hnn : ∀ w : World, (binOp BinOp.eql 25 (.func (.func K) #[] caps) .nilFunc).run Tryz.prog w = .ok (.bool false) w := fun _ => by kernel_rfl
  go_enter Tryz.func10, Tryz.ntmps10
  go_wp2_with (first
    | (go_at_call 24; refine (unmade_nil _).mono ?_; rintro e w' ⟨rfl, rfl⟩)
    | (go_at_call 25; refine (new_cell 0 _).mono ?_; rintro e w' ⟨rfl, rfl⟩))
  go_ret
  refine ⟨rfl, ((Kept.refl _ w).alloc _).alloc _, ⟨?_, ?_, ?_, ?_, ?_, ?_, ?_, ?_, ?_, ?_, ?_, ?_⟩, ⟨?_, ?_, ?_, ?_, ?_⟩, by simp⟩
  all_goals first | omega | go_simp

end Go.Proofs.YtbpaomanfgmlcaaGreatDoor

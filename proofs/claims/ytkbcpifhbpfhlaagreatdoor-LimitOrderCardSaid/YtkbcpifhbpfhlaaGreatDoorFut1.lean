/-
  Package future, a nil thread: what a future is; its small calls, New, Claim.
-/
import Derived.Test.YtkbcpifhbpfhlaaGreatDoorLst3
import Derived.Stop.IfaceNil
import Derived.Laws.EntriesVeiled
namespace Go.Proofs.YtkbcpifhbpfhlaaGreatDoor
open Go.RowKit

/-- The six blocks of a future that New made at block n. -/
def FOwn (n : Nat) : Nat → Prop := fun k => n ≤ k ∧ k < n + 6

/-- A future that New made at block n: its cell n (state s), its list n + 4 (cells l: last m, h: head hd; row p, whose first places are x0, x1), its own block n + 5 (value v, error e). -/
structure Ftr (w : World) (n l h p : Nat) (s v : Int) (e : Value) (m hd : Int) (x0 x1 : Value) : Prop where
  size : n + 6 ≤ w.heap.size
  sl : n + 1 ≤ l ∧ l < n + 4
  sh : n + 1 ≤ h ∧ h < n + 4
  sp : n + 1 ≤ p ∧ p < n + 4
  ne : l ≠ h ∧ l ≠ p ∧ h ≠ p
  cel : Cel w n s
  live : Live w (n + 4) l h p m hd x0 x1
  t0 : w.cell? ⟨n + 5, 0, none⟩ = some (.pointer (some ⟨n, 0, none⟩))
  t1 : w.cell? ⟨n + 5, 1, none⟩ = some (.pointer (some ⟨n + 4, 0, none⟩))
  t2 : w.cell? ⟨n + 5, 2, none⟩ = some (.int .i64 v)
  t3 : w.cell? ⟨n + 5, 3, none⟩ = some e
  f2 : w.frozen? ⟨n + 5, 2, none⟩ = false
  f3 : w.frozen? ⟨n + 5, 3, none⟩ = false

theorem Ftr.kept {S : Nat → Prop} {w w' : World} {n l h p : Nat} {s v m hd : Int} {e x0 x1 : Value} (F : Ftr w n l h p s v e m hd x0 x1) (k : Kept S w w') (hs : ∀ c, FOwn n c → ¬ S c) : Ftr w' n l h p s v e m hd x0 x1 := by
  have sl := F.sl
  have sh := F.sh
  have sp := F.sp
  have sz := F.size
  have a : ∀ c, n ≤ c → c < n + 6 → ¬ S c := fun c h1 h2 => hs c ⟨h1, h2⟩
  have lt : n + 5 < w.heap.size := by omega
  have a5 := a (n + 5) (by omega) (by omega)
  exact ⟨Nat.le_trans sz k.size, sl, sh, sp, F.ne, F.cel.kept k (a _ (by omega) (by omega)), F.live.kept k (a _ (by omega) (by omega)) (a _ (by omega) (by omega)) (a _ (by omega) (by omega)) (a _ (by omega) (by omega)),
    (k.cell (p := ⟨n + 5, 0, none⟩) lt a5).trans F.t0, (k.cell (p := ⟨n + 5, 1, none⟩) lt a5).trans F.t1, (k.cell (p := ⟨n + 5, 2, none⟩) lt a5).trans F.t2, (k.cell (p := ⟨n + 5, 3, none⟩) lt a5).trans F.t3,
    (k.frozen (p := ⟨n + 5, 2, none⟩) lt a5).trans F.f2, (k.frozen (p := ⟨n + 5, 3, none⟩) lt a5).trans F.f3⟩

/-- .. through what writes nothing of it. -/
theorem Ftr.far {w w' : World} {n l h p : Nat} {s v m hd : Int} {e x0 x1 : Value} (F : Ftr w n l h p s v e m hd x0 x1) (k : Kept (fun _ => False) w w') : Ftr w' n l h p s v e m hd x0 x1 :=
  F.kept k fun _ _ h => h

theorem Ftr.state {w : World} {n l h p : Nat} {s v m hd : Int} {e x0 x1 : Value} (F : Ftr w n l h p s v e m hd x0 x1) (t : Int) : Ftr (w.setCell ⟨n, 0, none⟩ (.int .i64 t)) n l h p t v e m hd x0 x1 := by
  have sl := F.sl
  have sh := F.sh
  have sp := F.sp
  have sz := F.size
  have k : Kept (fun k => k = n) w (w.setCell ⟨n, 0, none⟩ (.int .i64 t)) := Kept.one w ⟨n, 0, none⟩ _
  have lt : n + 5 < w.heap.size := by omega
  have a5 : ¬ n + 5 = n := by omega
  exact ⟨Nat.le_trans sz k.size, sl, sh, sp, F.ne, F.cel.set t, F.live.kept k (by omega) (by omega) (by omega) (by omega),
    (k.cell (p := ⟨n + 5, 0, none⟩) lt a5).trans F.t0, (k.cell (p := ⟨n + 5, 1, none⟩) lt a5).trans F.t1, (k.cell (p := ⟨n + 5, 2, none⟩) lt a5).trans F.t2, (k.cell (p := ⟨n + 5, 3, none⟩) lt a5).trans F.t3,
    (k.frozen (p := ⟨n + 5, 2, none⟩) lt a5).trans F.f2, (k.frozen (p := ⟨n + 5, 3, none⟩) lt a5).trans F.f3⟩

theorem Ftr.come {w : World} {n l h p : Nat} {s v m hd : Int} {e x0 x1 : Value} (F : Ftr w n l h p s v e m hd x0 x1) (v' : Int) (e' : Value) :
    Ftr ((w.setCell ⟨n + 5, 2, none⟩ (.int .i64 v')).setCell ⟨n + 5, 3, none⟩ e') n l h p s v' e' m hd x0 x1 := by
  have sl := F.sl
  have sh := F.sh
  have sp := F.sp
  have sz := F.size
  have lt : n + 5 < w.heap.size := by omega
  have k : Kept (fun k => k = n + 5) w ((w.setCell ⟨n + 5, 2, none⟩ (.int .i64 v')).setCell ⟨n + 5, 3, none⟩ e') := ((Kept.refl (fun k => k = n + 5) w).setCell ⟨n + 5, 2, none⟩ (.inl rfl) _).setCell ⟨n + 5, 3, none⟩ (.inl rfl) _
  have cel : Cel _ n s := F.cel.kept k (by omega)
  have live : Live _ (n + 4) l h p m hd x0 x1 := F.live.kept k (by omega) (by omega) (by omega) (by omega)
  obtain ⟨_, _, _, _, ne, _, _, t0, t1, t2, t3, f2, f3⟩ := F
  refine ⟨Nat.le_trans sz k.size, sl, sh, sp, ne, cel, live, ?_, ?_, ?_, ?_, ?_, ?_⟩
  all_goals (clear cel live k; go_simp)

/-- .. through what its list alone does. -/
theorem Ftr.list {w w' : World} {n l h p : Nat} {s v m hd m' hd' : Int} {e x0 x1 y0 y1 : Value} (F : Ftr w n l h p s v e m hd x0 x1) (k : Kept (fun c => c = l ∨ c = h ∨ c = p) w w') (L : Live w' (n + 4) l h p m' hd' y0 y1) : Ftr w' n l h p s v e m' hd' y0 y1 := by
  have sl := F.sl
  have sh := F.sh
  have sp := F.sp
  have sz := F.size
  have lt : n + 5 < w.heap.size := by omega
  have a5 : ¬ (n + 5 = l ∨ n + 5 = h ∨ n + 5 = p) := by omega
  exact ⟨Nat.le_trans sz k.size, sl, sh, sp, F.ne, F.cel.kept k (by omega), L,
    (k.cell (p := ⟨n + 5, 0, none⟩) lt a5).trans F.t0, (k.cell (p := ⟨n + 5, 1, none⟩) lt a5).trans F.t1, (k.cell (p := ⟨n + 5, 2, none⟩) lt a5).trans F.t2, (k.cell (p := ⟨n + 5, 3, none⟩) lt a5).trans F.t3,
    (k.frozen (p := ⟨n + 5, 2, none⟩) lt a5).trans F.f2, (k.frozen (p := ⟨n + 5, 3, none⟩) lt a5).trans F.f3⟩

theorem fnone_nil (w : World) : Calls Tryz.prog 36 #[.pointer none] w fun e w' => e = .returned (.bool true) ∧ w = w' := by
  go_enter Tryz.func36, Tryz.ntmps36
  go_wp2
  go_ret
  exact ⟨rfl, rfl⟩

theorem fnone_bare (x : Nat) (w : World) (h : w.cell? ⟨x, 0, none⟩ = some (.pointer none)) : Calls Tryz.prog 36 #[.pointer (some ⟨x, 0, none⟩)] w fun e w' => e = .returned (.bool true) ∧ w = w' := by
  go_enter Tryz.func36, Tryz.ntmps36
  go_wp2
  go_ret
  exact ⟨rfl, rfl⟩

theorem fnone_is (x : Nat) (a : Addr) (w : World) (h : w.cell? ⟨x, 0, none⟩ = some (.pointer (some a))) : Calls Tryz.prog 36 #[.pointer (some ⟨x, 0, none⟩)] w fun e w' => e = .returned (.bool false) ∧ w = w' := by
  go_enter Tryz.func36, Tryz.ntmps36
  go_wp2
  go_ret
  exact ⟨rfl, rfl⟩

/-- What New leaves. -/
def FMade (w : World) : Ending → World → Prop := fun e w' =>
  ∃ l h p : Nat, e = .returned (.pointer (some ⟨w.heap.size + 5, 0, none⟩)) ∧ w'.heap.size = w.heap.size + 6 ∧ Ftr w' w.heap.size l h p 0 0 .nilIface 0 0 (.pointer none) (.pointer none) ∧ Kept (fun _ => False) w w'

set_option maxHeartbeats 400000 in
theorem fnew_any (w : World) : Calls Tryz.prog 7 #[] w (FMade w) := by
  go_enter Tryz.func7, Tryz.ntmps7
  go_wp2_with fail
  refine (new_cell 0 _).mono ?_
  rintro e w1 ⟨rfl, H⟩
  have hs1 : w1.heap.size = w.heap.size + 1 := by rw [H]; simp
  have hk1 : Kept (fun _ => False) w w1 := by rw [H]; exact (Kept.refl _ _).alloc _
  have hc1 : Cel w1 w.heap.size 0 := by
    rw [H]
    refine ⟨?_, ?_, ?_, ?_, by simp⟩ <;> go_simp
  clear H
  have X1 := Lib.hid hs1
  have X2 := Lib.hid hk1
  have X3 := Lib.hid hc1
  clear hs1 hk1 hc1
  go_wp2_with fail
  refine (lnew_made _).mono ?_
  rintro e w2 ⟨l, h, p, rfl, F⟩
  have X4 := Lib.hid F
  clear F
  go_wp2_with fail
  go_ret
  obtain ⟨size, sl, sh, sp, ne, live, kept⟩ := X4.out
  have hs := X1.out
  rw [hs] at size sl sh sp live
  have hk : Kept (fun _ => False) w2 (w2.alloc (.cells #[.pointer (some ⟨w.heap.size, 0, none⟩), .pointer (some ⟨w1.heap.size + 3, 0, none⟩), .int .i64 0, .nilIface] 70)) := (Kept.refl _ _).alloc _
  have hsz : w2.heap.size = w.heap.size + 5 := by omega
  refine ⟨l, h, p, by rw [hsz]; rfl, by simp; omega, ⟨by simp; omega, by omega, by omega, by omega, ne, (X3.out.kept kept id).kept hk id, live.kept hk id id id id, ?_, ?_, ?_, ?_, ?_, ?_⟩, (X2.out.trans kept).trans hk⟩
  all_goals (rw [← hsz]; go_simp)

theorem fclaim_nil (w : World) : Calls Tryz.prog 41 #[.pointer none, .pointer none] w fun e w' => e = .returned (.pointer none) ∧ w = w' := by
  go_enter Tryz.func41, Tryz.ntmps41
  go_wp2_with (go_at_call 36; refine (fnone_nil _).mono ?_; rintro e w' ⟨rfl, rfl⟩)
  go_ret
  exact ⟨rfl, rfl⟩

theorem fclaim_bare (x : Nat) (w : World) (h : w.cell? ⟨x, 0, none⟩ = some (.pointer none)) : Calls Tryz.prog 41 #[.pointer (some ⟨x, 0, none⟩), .pointer none] w fun e w' => e = .returned (.pointer none) ∧ w = w' := by
  go_enter Tryz.func41, Tryz.ntmps41
  go_wp2_with (go_at_call 36; refine (fnone_bare x _ h).mono ?_; rintro e w' ⟨rfl, rfl⟩)
  go_ret
  exact ⟨rfl, rfl⟩

theorem fclaim_miss {n l h p : Nat} {s v m hd : Int} {e x0 x1 : Value} (hs : ¬ s = 0) (w : World) (F : Ftr w n l h p s v e m hd x0 x1) : Calls Tryz.prog 41 #[.pointer (some ⟨n + 5, 0, none⟩), .pointer none] w fun e w' => e = .returned (.pointer none) ∧ w = w' := by
  have t0 := F.t0
  have d0 := F.cel.c0
  have d1 := F.cel.c1
  have df := F.cel.fr
  have HS := Lib.hid hs
  clear F hs
  go_enter Tryz.func41, Tryz.ntmps41
  go_wp2_with (first
    | (go_at_call 36; refine (fnone_is (n + 5) _ _ t0).mono ?_; rintro e w' ⟨rfl, rfl⟩)
    | (go_at_call 32; refine (cas_miss n s 0 1 HS.out _ d0 d1 df).mono ?_; rintro e w' ⟨rfl, rfl⟩))
  go_ret
  exact ⟨rfl, rfl⟩

/-- What a claim leaves: a promise, the next new block. -/
def FClaimed (w : World) (n l h p : Nat) (v : Int) (e : Value) (m hd : Int) (x0 x1 : Value) : Ending → World → Prop := fun r w' =>
  r = .returned (.pointer (some ⟨w.heap.size, 0, none⟩)) ∧ w'.heap.size = w.heap.size + 1 ∧ Ftr w' n l h p 1 v e m hd x0 x1 ∧ Slot w' w.heap.size 0 (.pointer (some ⟨n + 5, 0, none⟩)) ∧ Kept (fun k => k = n) w w'

theorem fclaim_hit {n l h p : Nat} {v m hd : Int} {e x0 x1 : Value} (w : World) (F : Ftr w n l h p 0 v e m hd x0 x1) : Calls Tryz.prog 41 #[.pointer (some ⟨n + 5, 0, none⟩), .pointer none] w (FClaimed w n l h p v e m hd x0 x1) := by
  have t0 := F.t0
  have sz := F.size
  have d0 := F.cel.c0
  have d1 := F.cel.c1
  have d2 := F.cel.c2
  have df := F.cel.fr
  have HF := Lib.hid F
  clear F
  go_enter Tryz.func41, Tryz.ntmps41
  go_wp2_with (first
    | (go_at_call 36; refine (fnone_is (n + 5) _ _ t0).mono ?_; rintro e w' ⟨rfl, rfl⟩)
    | (go_at_call 32; refine (cas_hit n 0 1 _ d0 d1 d2 df).mono ?_; rintro e w' ⟨rfl, rfl⟩))
  refine bodyPost_ret (v := .pointer (some ⟨w.heap.size, 0, none⟩)) (by simp [results, Tryz.results41, go_sem]) rfl ⟨rfl, by simp, ?_, ⟨by go_simp, by go_simp, by simp⟩, ?_⟩
  · exact (HF.out.state 1).far ((Kept.refl _ _).alloc _)
  · exact ((Kept.refl (fun k => k = n) w).setCell ⟨n, 0, none⟩ (.inl rfl) _).alloc _

theorem fawait_nil (w : World) : Calls Tryz.prog 12 #[.pointer none, .pointer none] w fun e w' => e = .returned (.tuple #[.int .i64 0, .iface 28 (.int .i64 2)]) ∧ w = w' := by
  go_enter Tryz.func12, Tryz.ntmps12
  go_wp2_with (go_at_call 36; refine (fnone_nil _).mono ?_; rintro e w' ⟨rfl, rfl⟩)
  go_ret2
  exact ⟨rfl, rfl⟩

theorem fawait_bare (x : Nat) (w : World) (h : w.cell? ⟨x, 0, none⟩ = some (.pointer none)) : Calls Tryz.prog 12 #[.pointer (some ⟨x, 0, none⟩), .pointer none] w fun e w' => e = .returned (.tuple #[.int .i64 0, .iface 28 (.int .i64 2)]) ∧ w = w' := by
  go_enter Tryz.func12, Tryz.ntmps12
  go_wp2_with (go_at_call 36; refine (fnone_bare x _ h).mono ?_; rintro e w' ⟨rfl, rfl⟩)
  go_ret2
  exact ⟨rfl, rfl⟩

theorem fawait_is {n l h p : Nat} {s v m hd : Int} {e x0 x1 : Value} (hs : 2 ≤ s) (w : World) (F : Ftr w n l h p s v e m hd x0 x1) : Calls Tryz.prog 12 #[.pointer (some ⟨n + 5, 0, none⟩), .pointer none] w fun r w' => r = .returned (.tuple #[.int .i64 v, e]) ∧ Kept (fun _ => False) w w' := by
  have t0 := F.t0
  have t2 := F.t2
  have t3 := F.t3
  have c0 := F.cel.c0
  have c1 := F.cel.c1
  have hd' : decide (s < 2) = false := by simp; omega
  clear F
  go_enter Tryz.func12, Tryz.ntmps12
  go_wp2_with (first
    | (go_at_call 36; refine (fnone_is (n + 5) _ _ t0).mono ?_; rintro e w' ⟨rfl, rfl⟩)
    | (go_at_call 37; refine (load_free n s _ c0 c1).mono ?_; rintro e w' ⟨rfl, rfl⟩))
  refine wp_loop_rounds 1 ?_
  rw [rounds_succ]
  go_wp2
  go_region
  all_goals
    go_wp2
    go_ret2
    exact ⟨rfl, (Kept.refl _ _).drew⟩

theorem fpeek_nil (w : World) : Calls Tryz.prog 17 #[.pointer none, .pointer none] w fun e w' => e = .returned (.tuple #[.int .i64 0, .nilIface, .bool false]) ∧ w = w' := by
  go_enter Tryz.func17, Tryz.ntmps17
  go_wp2_with (go_at_call 36; refine (fnone_nil _).mono ?_; rintro e w' ⟨rfl, rfl⟩)
  exact bodyPost_ret (v := .tuple #[.int .i64 0, .nilIface, .bool false]) (by simp [results, Tryz.results17, go_sem]) rfl ⟨rfl, rfl⟩

theorem fpeek_bare (x : Nat) (w : World) (h : w.cell? ⟨x, 0, none⟩ = some (.pointer none)) : Calls Tryz.prog 17 #[.pointer (some ⟨x, 0, none⟩), .pointer none] w fun e w' => e = .returned (.tuple #[.int .i64 0, .nilIface, .bool false]) ∧ w = w' := by
  go_enter Tryz.func17, Tryz.ntmps17
  go_wp2_with (go_at_call 36; refine (fnone_bare x _ h).mono ?_; rintro e w' ⟨rfl, rfl⟩)
  exact bodyPost_ret (v := .tuple #[.int .i64 0, .nilIface, .bool false]) (by simp [results, Tryz.results17, go_sem]) rfl ⟨rfl, rfl⟩

theorem fpeek_is {n l h p : Nat} {s v m hd : Int} {e x0 x1 : Value} (hs : 2 ≤ s) (w : World) (F : Ftr w n l h p s v e m hd x0 x1) : Calls Tryz.prog 17 #[.pointer (some ⟨n + 5, 0, none⟩), .pointer none] w fun r w' => r = .returned (.tuple #[.int .i64 v, e, .bool true]) ∧ Kept (fun _ => False) w w' := by
  have t0 := F.t0
  have t2 := F.t2
  have t3 := F.t3
  have c0 := F.cel.c0
  have c1 := F.cel.c1
  have hd' : decide (s < 2) = false := by simp; omega
  clear F
  go_enter Tryz.func17, Tryz.ntmps17
  go_wp2_with (first
    | (go_at_call 36; refine (fnone_is (n + 5) _ _ t0).mono ?_; rintro e w' ⟨rfl, rfl⟩)
    | (go_at_call 37; refine (load_free n s _ c0 c1).mono ?_; rintro e w' ⟨rfl, rfl⟩))
  go_region
  all_goals
    go_wp2
    exact bodyPost_ret (v := .tuple #[.int .i64 v, e, .bool true]) (by simp [results, Tryz.results17, go_sem]) rfl ⟨rfl, (Kept.refl _ _).drew⟩

end Go.Proofs.YtkbcpifhbpfhlaaGreatDoor

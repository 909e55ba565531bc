/-
  Package future, a nil thread: a future with one function; Fill, Complete, Then.
-/
import Derived.Test.YtfbanlpmkfgpjaaGreatDoorFuf2
namespace Go.Proofs.YtfbanlpmkfgpjaaGreatDoor
open Go.RowKit

theorem Live.shut {w w' : World} {b l h p : Nat} {n hd m : Int} {x : Nat → Value} (L : Live w b l h p n hd x) (k : Kept (fun c => c = h) w w') (C : Cel w' h m) : Live w' b l h p n m x := by
  obtain ⟨n1, n2, n3, n4, n5, n6⟩ := L.ne
  exact ⟨Nat.lt_of_lt_of_le L.lt k.size, L.ne, (k.cell (p := ⟨b, 0, none⟩) L.lt n2).trans L.b0, (k.cell (p := ⟨b, 1, none⟩) L.lt n2).trans L.b1, (k.cell (p := ⟨b, 2, none⟩) L.lt n2).trans L.b2,
    L.l.kept k n4, C, fun i hi => (L.s i hi).kept k (fun e => n6 e.symm)⟩

/-- What a function of a future does: but for the blocks of S all is as it was; and T. -/
def FDoes (S : Nat → Prop) (T : World → Prop) (W : World) : Ending → World → Prop := fun r W' =>
  r = .returned (.tuple #[]) ∧ Kept S W W' ∧ T W'

theorem Kept.via {S U : Nat → Prop} {a b c : World} (h : Kept S a b) (k : Kept U b c) (hU : ∀ i, U i → S i ∨ a.heap.size ≤ i) : Kept S a c :=
  ⟨k.os.trans h.os, k.tape.trans h.tape, k.output.trans h.output, Nat.le_trans h.size k.size, fun i hi hs => (k.block i (Nat.lt_of_lt_of_le hi h.size) (fun u => (hU i u).elim hs (fun g => by omega))).trans (h.block i hi hs)⟩

/-- What a Fill leaves of a future and its promise. -/
def FFilled (w : World) (b n l h p : Nat) (s v : Int) (e : Value) (m : Int) (x : Nat → Value) : Ending → World → Prop := fun r w' =>
  r = .returned (.bool true) ∧ Ftr w' n l h p s v e m (-1) x ∧ Slot w' b 0 (.pointer none) ∧ Kept (fun k => FOwn n k ∨ k = b) w w'

theorem ffill_nil (v : Int) (e : Value) (w : World) : Calls Tryz.prog 37 #[.pointer none, .pointer none, .int .i64 v, e] w fun r w' => r = .returned (.bool false) ∧ w = w' := by
  go_enter Tryz.func37, Tryz.ntmps37
  go_wp2
  go_ret
  exact ⟨rfl, rfl⟩

theorem ffill_bare (b : Nat) (v : Int) (e : Value) (w : World) (h : w.cell? ⟨b, 0, none⟩ = some (.pointer none)) : Calls Tryz.prog 37 #[.pointer (some ⟨b, 0, none⟩), .pointer none, .int .i64 v, e] w fun r w' => r = .returned (.bool false) ∧ w = w' := by
  go_enter Tryz.func37, Tryz.ntmps37
  go_wp2
  go_ret
  exact ⟨rfl, rfl⟩

theorem ffill_any {b n l h p : Nat} {s' v v' m hd : Int} {e e' : Value} {x : Nat → Value} (w : World) (Q : World → Prop) (B : Slot w b 0 (.pointer (some ⟨n + 5, 0, none⟩)))
    (hc : Calls Tryz.prog 54 #[.pointer (some ⟨b, 0, none⟩), .pointer none, .int .i64 v, e] w (FSpent w b n l h p s' v' e' m hd x))
    (ht : ∀ w1, Ftr w1 n l h p s' v' e' m hd x → Slot w1 b 0 (.pointer none) → Kept (fun k => FOwn n k ∨ k = b) w w1 → Calls Tryz.prog 55 #[.pointer (some ⟨n + 5, 0, none⟩), .pointer none] w1 fun r w' => r = .returned (.tuple #[]) ∧ Q w') :
    Calls Tryz.prog 37 #[.pointer (some ⟨b, 0, none⟩), .pointer none, .int .i64 v, e] w fun r w' => r = .returned (.bool true) ∧ Q w' := by
  have b0 := B.c
  have HC := Lib.hid hc
  have HT := Lib.hid ht
  clear B hc ht
  go_enter Tryz.func37, Tryz.ntmps37
  go_wp2_with fail
  refine HC.out.mono ?_
  rintro r w1 ⟨rfl, F1, B1, K1⟩
  have HT1 := Lib.hid (HT.out w1 F1 B1 K1)
  clear F1 B1 K1
  go_wp2_with fail
  refine HT1.out.mono ?_
  rintro r w2 ⟨rfl, q⟩
  have HQ := Lib.hid q
  clear q
  go_wp2_with fail
  go_ret
  exact ⟨rfl, HQ.out⟩

/-- .. an empty one, an error. -/
theorem ffill_err {b n l h p : Nat} {s v0 m : Int} {e0 : Value} {x : Nat → Value} (v : Int) (u : Nat) (y : Value) (w : World) (F : Ftr w n l h p s v0 e0 m 0 x) (B : Slot w b 0 (.pointer (some ⟨n + 5, 0, none⟩))) (hb : ¬ FOwn n b) :
    Calls Tryz.prog 37 #[.pointer (some ⟨b, 0, none⟩), .pointer none, .int .i64 v, .iface u y] w (FFilled w b n l h p 3 0 (.iface u y) m x) :=
  ffill_any w (fun w' => Ftr w' n l h p 3 0 (.iface u y) m (-1) x ∧ Slot w' b 0 (.pointer none) ∧ Kept (fun k => FOwn n k ∨ k = b) w w') B (fspend_err v u y w F B hb) fun w1 F1 B1 K1 =>
    (ftell_none w1 F1).mono fun _ _ hh => ⟨hh.1, hh.2.1, B1.kept hh.2.2 hb, K1.trans (hh.2.2.mono fun _ _ h => .inl h)⟩

/-- .. an empty one, a value. -/
theorem ffill_ok {b n l h p : Nat} {s v0 m : Int} {e0 : Value} {x : Nat → Value} (v : Int) (w : World) (F : Ftr w n l h p s v0 e0 m 0 x) (B : Slot w b 0 (.pointer (some ⟨n + 5, 0, none⟩))) (hb : ¬ FOwn n b) :
    Calls Tryz.prog 37 #[.pointer (some ⟨b, 0, none⟩), .pointer none, .int .i64 v, .nilIface] w (FFilled w b n l h p 2 v .nilIface m x) :=
  ffill_any w (fun w' => Ftr w' n l h p 2 v .nilIface m (-1) x ∧ Slot w' b 0 (.pointer none) ∧ Kept (fun k => FOwn n k ∨ k = b) w w') B (fspend_ok v w F B hb) fun w1 F1 B1 K1 =>
    (ftell_none w1 F1).mono fun _ _ hh => ⟨hh.1, hh.2.1, B1.kept hh.2.2 hb, K1.trans (hh.2.2.mono fun _ _ h => .inl h)⟩

theorem fcomplete_no (x : Value) (v : Int) (e : Value) (w : World) (hc : Calls Tryz.prog 36 #[x, .pointer none] w fun r w' => r = .returned (.pointer none) ∧ w = w') :
    Calls Tryz.prog 17 #[x, .pointer none, .int .i64 v, e] w fun r w' => r = .returned (.bool false) ∧ w = w' := by
  have HC := Lib.hid hc
  clear hc
  go_enter Tryz.func17, Tryz.ntmps17
  go_wp2_with fail
  refine HC.out.mono ?_
  rintro r w' ⟨rfl, rfl⟩
  go_wp2_with fail
  refine (ffill_nil _ _ _).mono ?_
  rintro r w' ⟨rfl, rfl⟩
  go_wp2_with fail
  go_ret
  exact ⟨rfl, rfl⟩

theorem fcomplete_any {n l h p : Nat} {v v0 m hd : Int} {e e0 : Value} {x : Nat → Value} (w : World) (Q : World → Prop) (F : Ftr w n l h p 0 v0 e0 m hd x)
    (hf : ∀ w1, Ftr w1 n l h p 1 v0 e0 m hd x → Slot w1 w.heap.size 0 (.pointer (some ⟨n + 5, 0, none⟩)) → Kept (fun k => k = n) w w1 → Calls Tryz.prog 37 #[.pointer (some ⟨w.heap.size, 0, none⟩), .pointer none, .int .i64 v, e] w1 fun r w' => r = .returned (.bool true) ∧ Q w') :
    Calls Tryz.prog 17 #[.pointer (some ⟨n + 5, 0, none⟩), .pointer none, .int .i64 v, e] w fun r w' => r = .returned (.bool true) ∧ Q w' := by
  have HC := Lib.hid (fclaim_hit w F)
  have HH := Lib.hid hf
  clear F hf
  go_enter Tryz.func17, Tryz.ntmps17
  go_wp2_with fail
  refine HC.out.mono ?_
  rintro r w1 ⟨rfl, _, F1, B1, K1⟩
  have HH1 := Lib.hid (HH.out w1 F1 B1 K1)
  clear F1 B1 K1
  go_wp2_with fail
  refine HH1.out.mono ?_
  rintro r w2 ⟨rfl, q⟩
  have HQ := Lib.hid q
  clear q
  go_wp2_with fail
  go_ret
  exact ⟨rfl, HQ.out⟩

/-- What a Complete leaves of a future. -/
def FCompl (w : World) (n l h p : Nat) (s v : Int) (e : Value) (m : Int) (x : Nat → Value) : Ending → World → Prop := fun r w' =>
  r = .returned (.bool true) ∧ Ftr w' n l h p s v e m (-1) x ∧ Kept (FOwn n) w w'

theorem fcomplete_ok {n l h p : Nat} {v0 m : Int} {e0 : Value} {x : Nat → Value} (v : Int) (w : World) (F : Ftr w n l h p 0 v0 e0 m 0 x) :
    Calls Tryz.prog 17 #[.pointer (some ⟨n + 5, 0, none⟩), .pointer none, .int .i64 v, .nilIface] w (FCompl w n l h p 2 v .nilIface m x) := by
  have sz := F.size
  refine fcomplete_any w (fun w' => Ftr w' n l h p 2 v .nilIface m (-1) x ∧ Kept (FOwn n) w w') F fun w1 F1 B1 K1 => ?_
  refine (ffill_ok v w1 F1 B1 (by rintro ⟨_, h2⟩; omega)).mono ?_
  rintro r w' ⟨hr, F2, _, K2⟩
  refine ⟨hr, F2, (K1.mono fun k _ e => e ▸ ⟨Nat.le_refl _, by omega⟩).via K2 ?_⟩
  rintro k (h1 | h1)
  · exact .inl h1
  · exact .inr (by omega)

theorem fcomplete_err {n l h p : Nat} {v0 m : Int} {e0 : Value} {x : Nat → Value} (v : Int) (u : Nat) (y : Value) (w : World) (F : Ftr w n l h p 0 v0 e0 m 0 x) :
    Calls Tryz.prog 17 #[.pointer (some ⟨n + 5, 0, none⟩), .pointer none, .int .i64 v, .iface u y] w (FCompl w n l h p 3 0 (.iface u y) m x) := by
  have sz := F.size
  refine fcomplete_any w (fun w' => Ftr w' n l h p 3 0 (.iface u y) m (-1) x ∧ Kept (FOwn n) w w') F fun w1 F1 B1 K1 => ?_
  refine (ffill_err v u y w1 F1 B1 (by rintro ⟨_, h2⟩; omega)).mono ?_
  rintro r w' ⟨hr, F2, _, K2⟩
  refine ⟨hr, F2, (K1.mono fun k _ e => e ▸ ⟨Nat.le_refl _, by omega⟩).via K2 ?_⟩
  rintro k (h1 | h1)
  · exact .inl h1
  · exact .inr (by omega)

end Go.Proofs.YtfbanlpmkfgpjaaGreatDoor

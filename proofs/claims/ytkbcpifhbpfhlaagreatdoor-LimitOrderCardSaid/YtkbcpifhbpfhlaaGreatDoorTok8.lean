/-
  Package token, a nil thread: Cancel of a token that lives, with no part, one, two.
-/
import Derived.Test.YtkbcpifhbpfhlaaGreatDoorTok7
namespace Go.Proofs.YtkbcpifhbpfhlaaGreatDoor.Tk
open Go.RowKit

def CancelNone (w : World) (r h : Nat) (x : Int) : Ending → World → Prop := fun e w' =>
  e = .returned (.bool true) ∧ Cel w' r x ∧ Kept (fun c => c = r ∨ c = h) w w'

set_option maxRecDepth 100000 in
set_option maxHeartbeats 800000 in
theorem cancel_none (w : World) (k r b l h p : Nat) (d x n : Int) (x0 x1 : Value) (hx : 1 ≤ x) (H : Hd w k r b d) (C : Cel w r 0) (L : Live w b l h p n 0 x0 x1) (ne : r ≠ k ∧ r ≠ b ∧ r ≠ l ∧ r ≠ h ∧ r ≠ p) :
    Calls Tryz.prog 29 #[.pointer (some ⟨k, 0, none⟩), .pointer none, .int .i64 x] w (CancelNone w r h x) := by
  have hx' : ¬ x < 1 := by omega
  obtain ⟨n1, n2, n3, n4, n5⟩ := ne
  have k0 := H.k0
  have c0 := C.c0
  have c1 := C.c1
  have c2 := C.c2
  have fr := C.fr
  have kr : Kept (fun c => c = r) w (w.setCell ⟨r, 0, none⟩ (.int .i64 x)) := Kept.one w ⟨r, 0, none⟩ _
  have k1 := (H.kept kr (fun e => n1 e.symm)).k1
  have HL := Lib.hid (close_none _ _ _ _ _ _ _ _ (L.kept kr (fun e => n2 e.symm) (fun e => n3 e.symm) (fun e => n4 e.symm) (fun e => n5 e.symm)))
  have HC := Lib.hid ((C.set x).far ⟨h, 0, none⟩ (.int .i64 (-1)) n4)
  clear H C L kr
  go_enter Tryz.func29, Tryz.ntmps29
  go_wp2_with fail
  refine (is_tok k _ _ k0).mono ?_
  rintro e w' ⟨rfl, rfl⟩
  go_wp2_with fail
  refine (cas_hit r 0 x _ c0 c1 c2 fr).mono ?_
  rintro e w' ⟨rfl, rfl⟩
  go_wp2_with fail
  refine HL.out.mono ?_
  rintro e w' ⟨rfl, rfl⟩
  go_wp2_with fail
  refine (taken_none _).mono ?_
  rintro e w3 ⟨rfl, H⟩
  have X := Lib.hid H
  clear H
  go_wp2_with fail
  refine wp_loop_rounds 1 ?_
  rw [rounds_succ]
  go_wp2_with fail
  go_ret
  refine ⟨rfl, HC.out.kept X.out id, ?_⟩
  exact (((Kept.refl _ _).setCell (p := ⟨r, 0, none⟩) (.inl (.inl rfl)) _).setCell (p := ⟨h, 0, none⟩) (.inl (.inr rfl)) _).trans (X.out.mono fun _ _ f => f.elim)

def TrueThen (R : World → Prop) : Ending → World → Prop := fun e w' => e = .returned (.bool true) ∧ R w'

set_option maxRecDepth 100000 in
set_option maxHeartbeats 800000 in
theorem cancel_one (R : World → Prop) (w : World) (k r b l h p q0 u : Nat) (d x n : Int) (x1 c0 c1 : Value) (hx : 1 ≤ x) (o0 : c0.oneCell' = true) (o1 : c1.oneCell' = true) (H : Hd w k r b d) (C : Cel w r 0) (L : Live w b l h p n 1 (.pointer (some ⟨q0, 0, none⟩)) x1)
    (Q0 : Two w q0 (.pointer (some ⟨u, 0, none⟩)) (.int .i64 0)) (U : Two w u c0 c1) (ne : r ≠ k ∧ r ≠ b ∧ r ≠ l ∧ r ≠ h ∧ r ≠ p) (nq : q0 ≠ r ∧ q0 ≠ h) (nu : u ≠ r ∧ u ≠ h)
    (hA : ∀ w1, Kept (fun c => c = r ∨ c = h ∨ c = u) w w1 → Cel w1 r x → Cel w1 h (-1) → Calls Tryz.prog 56 #[.agg #[c0, c1], .pointer none, .int .i64 x] w1 (Told R)) :
    Calls Tryz.prog 29 #[.pointer (some ⟨k, 0, none⟩), .pointer none, .int .i64 x] w (TrueThen R) := by
  have hx' : ¬ x < 1 := by omega
  have s0 : ∀ a m w, (store a c0 m).run Tryz.prog w = stored Tryz.prog w a c0 m := fun a m w => run_store Tryz.prog w a c0 m o0
  have s1 : ∀ a m w, (store a c1 m).run Tryz.prog w = stored Tryz.prog w a c1 m := fun a m w => run_store Tryz.prog w a c1 m o1
  obtain ⟨n1, n2, n3, n4, n5⟩ := ne
  have k0 := H.k0
  have r0 := C.c0
  have r1 := C.c1
  have r2 := C.c2
  have fr := C.fr
  have kr : Kept (fun c => c = r) w (w.setCell ⟨r, 0, none⟩ (.int .i64 x)) := Kept.one w ⟨r, 0, none⟩ _
  have k1 := (H.kept kr (fun e => n1 e.symm)).k1
  have HL := Lib.hid (close_one _ _ _ _ _ _ _ _ _ (L.kept kr (fun e => n2 e.symm) (fun e => n3 e.symm) (fun e => n4 e.symm) (fun e => n5 e.symm)) (Q0.kept kr nq.1) nq.2)
  have HC := Lib.hid (C.set x)
  have HU := Lib.hid (U.kept kr nu.1)
  have HK := Lib.hid kr
  have HA := Lib.hid hA
  have HN : Hid (r ≠ h ∧ u ≠ r ∧ u ≠ h) := ⟨n4, nu⟩
  clear H C L kr Q0 U hA
  go_enter Tryz.func29, Tryz.ntmps29
  go_wp2_with fail
  refine (is_tok k _ _ k0).mono ?_
  rintro e w' ⟨rfl, rfl⟩
  go_wp2_with fail
  refine (cas_hit r 0 x _ r0 r1 r2 fr).mono ?_
  rintro e w' ⟨rfl, rfl⟩
  go_wp2_with fail
  refine HL.out.mono ?_
  rintro e w2 ⟨g, cap, rfl, H⟩
  have X2 := Lib.hid H
  clear H
  go_wp2_with fail
  refine (taken_one _ g cap u c0 c1 o0 o1 X2.out.2.2.1 X2.out.2.1 (HU.out.kept X2.out.2.2.2.1 HN.out.2.2)).mono ?_
  rintro e w3 ⟨rfl, H⟩
  have X3 := Lib.hid H
  have lt3 := H.1
  have t0 := H.2.1
  have t1 := H.2.2.1
  clear H
  go_wp2_with fail
  refine wp_loop_rounds 2 ?_
  rw [rounds_succ]
  go_wp2_with fail
  have KK : Kept (fun c => c = r ∨ c = h ∨ c = u) w (w3.alloc (.cells #[c0, c1] 122)) :=
    (((HK.out.mono fun c _ e => .inl e).trans (X2.out.2.2.2.1.mono fun c _ e => .inr (.inl e))).trans (X3.out.2.2.2.mono fun c _ e => .inr (.inr e))).alloc _
  have CC : Cel (w3.alloc (.cells #[c0, c1] 122)) r x := (((HC.out.kept X2.out.2.2.2.1 HN.out.1).kept X3.out.2.2.2 fun e => HN.out.2.1 e.symm)).kept ((Kept.refl (fun _ => False) _).alloc _) id
  have CH : Cel (w3.alloc (.cells #[c0, c1] 122)) h (-1) := (X2.out.2.2.2.2.kept X3.out.2.2.2 fun e => HN.out.2.2 e.symm).kept ((Kept.refl (fun _ => False) _).alloc _) id
  refine (HA.out _ KK CC CH).mono ?_
  rintro e w4 ⟨rfl, H⟩
  have X4 := Lib.hid H
  clear H KK CC CH
  go_wp2_with fail
  rw [rounds_succ]
  go_wp2_with fail
  go_ret
  exact ⟨rfl, X4.out⟩

set_option maxRecDepth 100000 in
set_option maxHeartbeats 800000 in
theorem cancel_two (SA : Nat → Prop) (RA R : World → Prop) (w : World) (k r b l h p q0 q1 u v : Nat) (d x n : Int) (c0 c1 d0 d1 : Value) (hx : 1 ≤ x) (o0 : c0.oneCell' = true) (o1 : c1.oneCell' = true) (o2 : d0.oneCell' = true) (o3 : d1.oneCell' = true)
    (H : Hd w k r b d) (C : Cel w r 0) (L : Live w b l h p n 2 (.pointer (some ⟨q0, 0, none⟩)) (.pointer (some ⟨q1, 0, none⟩)))
    (Q0 : Two w q0 (.pointer (some ⟨u, 0, none⟩)) (.int .i64 0)) (Q1 : Two w q1 (.pointer (some ⟨v, 0, none⟩)) (.int .i64 1)) (U : Two w u c0 c1) (V : Two w v d0 d1)
    (ne : r ≠ k ∧ r ≠ b ∧ r ≠ l ∧ r ≠ h ∧ r ≠ p) (nq : q0 ≠ r ∧ q0 ≠ h) (nq1 : q1 ≠ r ∧ q1 ≠ h) (nu : u ≠ r ∧ u ≠ h) (nv : v ≠ r ∧ v ≠ h) (uv : u ≠ v) (hSA : ∀ c, w.heap.size ≤ c → ¬ SA c)
    (hA : ∀ w1, Kept (fun c => c = r ∨ c = h ∨ c = u ∨ c = v) w w1 → Cel w1 r x → Calls Tryz.prog 56 #[.agg #[c0, c1], .pointer none, .int .i64 x] w1 (Told fun w2 => Kept SA w1 w2 ∧ RA w2))
    (hB : ∀ w1 w2, RA w1 → Kept (fun _ => False) w1 w2 → Calls Tryz.prog 56 #[.agg #[d0, d1], .pointer none, .int .i64 x] w2 (Told R)) :
    Calls Tryz.prog 29 #[.pointer (some ⟨k, 0, none⟩), .pointer none, .int .i64 x] w (TrueThen R) := by
  have hx' : ¬ x < 1 := by omega
  have s0 : ∀ a m w, (store a c0 m).run Tryz.prog w = stored Tryz.prog w a c0 m := fun a m w => run_store Tryz.prog w a c0 m o0
  have s1 : ∀ a m w, (store a c1 m).run Tryz.prog w = stored Tryz.prog w a c1 m := fun a m w => run_store Tryz.prog w a c1 m o1
  have s2 : ∀ a m w, (store a d0 m).run Tryz.prog w = stored Tryz.prog w a d0 m := fun a m w => run_store Tryz.prog w a d0 m o2
  have s3 : ∀ a m w, (store a d1 m).run Tryz.prog w = stored Tryz.prog w a d1 m := fun a m w => run_store Tryz.prog w a d1 m o3
  obtain ⟨n1, n2, n3, n4, n5⟩ := ne
  have k0 := H.k0
  have r0 := C.c0
  have r1 := C.c1
  have r2 := C.c2
  have fr := C.fr
  have kr : Kept (fun c => c = r) w (w.setCell ⟨r, 0, none⟩ (.int .i64 x)) := Kept.one w ⟨r, 0, none⟩ _
  have k1 := (H.kept kr (fun e => n1 e.symm)).k1
  have HL := Lib.hid (close_two _ _ _ _ _ _ _ _ _ _ (L.kept kr (fun e => n2 e.symm) (fun e => n3 e.symm) (fun e => n4 e.symm) (fun e => n5 e.symm)) (Q0.kept kr nq.1) (Q1.kept kr nq1.1) nq.2 nq1.2)
  have HC := Lib.hid (C.set x)
  have HU := Lib.hid (U.kept kr nu.1)
  have HV := Lib.hid (V.kept kr nv.1)
  have HK := Lib.hid kr
  have HA := Lib.hid hA
  have HB := Lib.hid hB
  have HS := Lib.hid hSA
  have HZ : Hid (u < w.heap.size) := U.lt
  have HN : Hid (r ≠ h ∧ u ≠ r ∧ u ≠ h) := ⟨n4, nu⟩
  have HM : Hid (v ≠ r ∧ v ≠ h) := nv
  clear H C L kr Q0 Q1 U V hA hB hSA
  go_enter Tryz.func29, Tryz.ntmps29
  go_wp2_with fail
  refine (is_tok k _ _ k0).mono ?_
  rintro e w' ⟨rfl, rfl⟩
  go_wp2_with fail
  refine (cas_hit r 0 x _ r0 r1 r2 fr).mono ?_
  rintro e w' ⟨rfl, rfl⟩
  go_wp2_with fail
  refine HL.out.mono ?_
  rintro e w2 ⟨g, cap, rfl, H⟩
  have X2 := Lib.hid H
  clear H
  have hgz : Hid (w.heap.size ≤ w2.heap.size) := by
    have a := HK.out.size
    have b := X2.out.2.2.2.2.size
    exact Nat.le_trans a b
  have hgu : g ≠ u := by
    have a := X2.out.1
    have b := HK.out.size
    have c := HZ.out
    intro e
    omega
  go_wp2_with fail
  refine (taken_two _ g cap u v c0 c1 d0 d1 o0 o1 o2 o3 X2.out.2.2.2.1 hgu uv X2.out.2.1 X2.out.2.2.1 (HU.out.kept X2.out.2.2.2.2 HN.out.2.2) (HV.out.kept X2.out.2.2.2.2 HM.out.2)).mono ?_
  rintro e w3 ⟨rfl, H⟩
  have X3 := Lib.hid H
  have lt3 := H.1
  have t0 := H.2.1
  have t1 := H.2.2.1
  have t2 := H.2.2.2.1
  have t3 := H.2.2.2.2.1
  clear H
  go_wp2_with fail
  refine wp_loop_rounds 3 ?_
  rw [rounds_succ]
  go_wp2_with fail
  have KK : Kept (fun c => c = r ∨ c = h ∨ c = u ∨ c = v) w (w3.alloc (.cells #[c0, c1] 122)) :=
    (((HK.out.mono fun c _ e => .inl e).trans (X2.out.2.2.2.2.mono fun c _ e => .inr (.inl e))).trans (X3.out.2.2.2.2.2.mono fun c _ e => .inr (.inr e))).alloc _
  have CC : Cel (w3.alloc (.cells #[c0, c1] 122)) r x := (((HC.out.kept X2.out.2.2.2.2 HN.out.1).kept X3.out.2.2.2.2.2 (by
    rintro (e | e)
    · exact HN.out.2.1 e.symm
    · exact HM.out.1 e.symm))).kept ((Kept.refl (fun _ => False) _).alloc _) id
  refine (HA.out _ KK CC).mono ?_
  rintro e w4 ⟨rfl, H⟩
  have hns := HS.out w2.heap.size hgz.out
  have ka : Kept (fun _ => False) w3 (w3.alloc (.cells #[c0, c1] 122)) := (Kept.refl _ _).alloc _
  have t2' : w4.cell? ⟨w2.heap.size, 2, none⟩ = some d0 := ((H.1.cell (p := ⟨w2.heap.size, 2, none⟩) (Nat.lt_of_lt_of_le lt3 ka.size) hns).trans (ka.cell (p := ⟨w2.heap.size, 2, none⟩) lt3 id)).trans t2
  have t3' : w4.cell? ⟨w2.heap.size, 3, none⟩ = some d1 := ((H.1.cell (p := ⟨w2.heap.size, 3, none⟩) (Nat.lt_of_lt_of_le lt3 ka.size) hns).trans (ka.cell (p := ⟨w2.heap.size, 3, none⟩) lt3 id)).trans t3
  have lt4 : w2.heap.size < w4.heap.size := Nat.lt_of_lt_of_le lt3 (Nat.le_trans ka.size H.1.size)
  have X4 := Lib.hid H.2
  clear H KK CC ka hns t0 t1 t2 t3 lt3
  go_wp2_with fail
  rw [rounds_succ]
  go_wp2_with fail
  refine (HB.out _ _ X4.out ((Kept.refl (fun _ => False) _).alloc _)).mono ?_
  rintro e w5 ⟨rfl, H⟩
  have X5 := Lib.hid H
  clear H
  go_wp2_with fail
  rw [rounds_succ]
  go_wp2_with fail
  go_ret
  exact ⟨rfl, X5.out⟩

end Go.Proofs.YtkbcpifhbpfhlaaGreatDoor.Tk

/-
  A level's calls, whole.
-/
import Derived.Test.YthkakojkffgmbaaPrio2
import Derived.StillTailTactics
namespace Go.Proofs.Ythkakojkffgmbaa
open Go.RowKit

set_option maxHeartbeats 400000 in
theorem vacant_ok {w : World} {B n R : Nat} {d : Ids} {S : LS} (h : Lvl w B n R d S) (hB : B < d.lo ∨ d.hi ≤ B) (hR : Pw R) (hp : S.a < 4611686018427387904) (ht : S.tu (S.a % R) = S.a) :
    Calls Try.prog 12 #[.pointer (some ⟨B, n * 3, none⟩), .pointer none] w
      fun e w' => e = .returned (.tuple #[.int .i64 S.a, .bool true]) ∧ Lvl w' B n R d { S with a := S.a + 1 } ∧ Kept (Own d) w w' := by
  have c0 := h.p0.c
  have C := h.ci
  have mlt : S.a % R < R := Nat.mod_lt _ (by rcases hR with rfl | rfl <;> decide)
  have H := Lib.hid h
  have HT := Lib.hid ht
  clear h ht
  go_enter Try.func12, Try.ntmps12
  go_wp2_with fail
  refine wp_loop_rounds 1 ?_
  rw [rounds_succ]
  go_wp2_with fail
  refine (load_free d.bi _ _ C.c0 C.c1).mono ?_
  rintro e w' ⟨rfl, rfl⟩
  go_wp2_with fail
  refine (placeOf_any H.out hR _ hp).mono ?_
  rintro e W ⟨rfl, K⟩
  have q0 := ((H.out.q0 _ mlt).kept K id).c
  have CT := (H.out.ct _ mlt).kept K id
  rw [HT.out] at CT
  have HW := Lib.hid (H.out.kept K id (fun _ _ _ => id))
  have HK := Lib.hid K
  clear K
  go_wp2_with fail
  refine (load_free _ _ _ CT.c0 CT.c1).mono ?_
  rintro e w' ⟨rfl, rfl⟩
  have z0 : wrap64 ((S.a : Int) - S.a) = 0 := by unfold wrap64; omega
  go_wp2_with fail
  refine (claim_in HW.out hp).mono ?_
  rintro e w2 ⟨rfl, rfl⟩
  go_wp2_with fail
  go_ret2
  refine ⟨rfl, ?_, ?_⟩
  · exact HW.out.setA hB (S.a + 1)
  · have o := HW.out.ok
    have o2 := o.i1; have o7 := o.h
    exact (keptNo HK.out).setCell _ (.inl ⟨o.i0, by show d.bi < d.hi; omega⟩) _

theorem first_no {w : World} {B n R : Nat} {d : Ids} {S : LS} (h : Lvl w B n R d S) (hR : Pw R) (hp : S.b < 4611686018427387904) (ht : ¬ S.tu (S.b % R) = S.b + 1) :
    Calls Try.prog 28 #[.pointer (some ⟨B, n * 3, none⟩), .pointer none] w
      fun e w' => e = .returned (.tuple #[.int .i64 0, .int .i64 0, .bool false]) ∧ Kept (fun _ => False) w w' := by
  have c0 := h.p1.c
  have C := h.co
  have mlt : S.b % R < R := Nat.mod_lt _ (by rcases hR with rfl | rfl <;> decide)
  have H := Lib.hid h
  have z0 : ¬ (S.tu (S.b % R) : Int) = (S.b : Int) + 1 := by omega
  have z1 : wrap64 ((S.b : Int) + 1) = (S.b : Int) + 1 := by unfold wrap64; omega
  clear h ht
  go_enter Try.func28, Try.ntmps28
  go_wp2_with fail
  refine (load_free d.bo _ _ C.c0 C.c1).mono ?_
  rintro e w' ⟨rfl, rfl⟩
  go_wp2_with fail
  refine (placeOf_any H.out hR _ hp).mono ?_
  rintro e W ⟨rfl, K⟩
  have q0 := ((H.out.q0 _ mlt).kept K id).c
  have CT := (H.out.ct _ mlt).kept K id
  have HK := Lib.hid K
  clear K
  go_wp2_with fail
  refine (load_free _ _ _ CT.c0 CT.c1).mono ?_
  rintro e w' ⟨rfl, rfl⟩
  go_wp2_with fail
  go_ret3
  exact ⟨rfl, HK.out⟩

theorem first_yes {w : World} {B n R : Nat} {d : Ids} {S : LS} (h : Lvl w B n R d S) (hR : Pw R) (hp : S.b < 4611686018427387904) (ht : S.tu (S.b % R) = S.b + 1) :
    Calls Try.prog 28 #[.pointer (some ⟨B, n * 3, none⟩), .pointer none] w
      fun e w' => e = .returned (.tuple #[.int .i64 S.b, .int .i64 (S.ti (S.b % R)), .bool true]) ∧ Kept (fun _ => False) w w' := by
  have c0 := h.p1.c
  have C := h.co
  have mlt : S.b % R < R := Nat.mod_lt _ (by rcases hR with rfl | rfl <;> decide)
  have H := Lib.hid h
  have HT := Lib.hid ht
  have z1 : wrap64 ((S.b : Int) + 1) = (S.b : Int) + 1 := by unfold wrap64; omega
  have z2 : ((S.b + 1 : Nat) : Int) = (S.b : Int) + 1 := by omega
  clear h ht
  go_enter Try.func28, Try.ntmps28
  go_wp2_with fail
  refine (load_free d.bo _ _ C.c0 C.c1).mono ?_
  rintro e w' ⟨rfl, rfl⟩
  go_wp2_with fail
  refine (placeOf_any H.out hR _ hp).mono ?_
  rintro e W ⟨rfl, K⟩
  have q0 := ((H.out.q0 _ mlt).kept K id).c
  have q1 := ((H.out.q1 _ mlt).kept K id).c
  have CT := (H.out.ct _ mlt).kept K id
  rw [HT.out] at CT
  have CK := (H.out.ck _ mlt).kept K id
  have HK := Lib.hid K
  clear K
  go_wp2_with fail
  refine (load_free _ _ _ CT.c0 CT.c1).mono ?_
  rintro e w' ⟨rfl, rfl⟩
  go_wp2_with fail
  refine (load_free _ _ _ CK.c0 CK.c1).mono ?_
  rintro e w' ⟨rfl, rfl⟩
  go_wp2_with fail
  go_ret3
  exact ⟨rfl, HK.out⟩

set_option maxHeartbeats 400000 in
theorem lay_any {w : World} {B n R : Nat} {d : Ids} {S : LS} (h : Lvl w B n R d S) (hB : B < d.lo ∨ d.hi ≤ B) (hR : Pw R) (p : Nat) (hp : p < 4611686018427387904) (k v : Int) :
    Calls Try.prog 13 #[.pointer (some ⟨B, n * 3, none⟩), .pointer none, .int .i64 p, .int .i64 k, .int .i64 v] w
      fun e w' => e = .returned (.tuple #[]) ∧ Lvl w' B n R d { S with tu := put S.tu (p % R) (p + 1), ti := put S.ti (p % R) k, sl := put S.sl (p % R) v } ∧ Kept (Own d) w w' := by
  have mlt : p % R < R := Nat.mod_lt _ (by rcases hR with rfl | rfl <;> decide)
  have z1 : wrap64 ((p : Int) + 1) = (p : Int) + 1 := by unfold wrap64; omega
  have P1 : ∀ j, Calls Try.prog 20 #[.pointer (some ⟨B, n * 3, none⟩), .int .i64 p] w fun e w' => e = .returned (.pointer (some ⟨d.bp, (p % R) * 3, none⟩)) ∧ Kept (fun _ => False) w w' := fun _ : Unit => placeOf_any h hR p hp
  have HP := Lib.hid P1
  have H := Lib.hid h
  clear h P1
  generalize p % R = m at mlt HP ⊢
  go_enter Try.func13, Try.ntmps13
  go_wp2_with fail
  refine (HP.out ()).mono ?_
  rintro e W ⟨rfl, K⟩
  have L0 := H.out.kept K id (fun _ _ _ => id)
  have HK := Lib.hid K
  clear K
  have q1 := (L0.q1 _ mlt).c
  have CK := L0.ck _ mlt
  have HL := Lib.hid L0
  clear L0
  go_wp2_with fail
  refine (store_free _ _ k _ CK.c0 CK.c1 CK.c2 CK.fr).mono ?_
  rintro e w1 ⟨rfl, hw⟩
  have L1 := HL.out.setK hB m mlt k
  rw [← hw] at L1
  have K1 : Kept (Own d) w w1 := by
    have o := HL.out.ok
    have o2 := o.i0; have o3 := o.i1; have o7 := o.h
    rw [hw]
    exact (keptNo HK.out).setCell _ (.inl ⟨by show d.lo ≤ d.s + 3 * m + 1; omega, by show d.s + 3 * m + 1 < d.hi; omega⟩) _
  clear hw CK q1 HL HK
  have q2 := (L1.q2 _ mlt).c
  have CS := L1.cs _ mlt
  have HL1 := Lib.hid L1
  have HK1 := Lib.hid K1
  clear L1 K1
  go_wp2_with fail
  refine (store_free _ _ v _ CS.c0 CS.c1 CS.c2 CS.fr).mono ?_
  rintro e w2 ⟨rfl, hw⟩
  have L2 := HL1.out.setS hB m mlt v
  rw [← hw] at L2
  have K2 : Kept (Own d) w w2 := by
    have o := HL1.out.ok
    have o2 := o.i0; have o3 := o.i1; have o7 := o.h
    rw [hw]
    exact HK1.out.setCell _ (.inl ⟨by show d.lo ≤ d.s + 3 * m + 2; omega, by show d.s + 3 * m + 2 < d.hi; omega⟩) _
  clear hw CS q2 HL1 HK1
  have q0 := (L2.q0 _ mlt).c
  have CT := L2.ct _ mlt
  have HL2 := Lib.hid L2
  have HK2 := Lib.hid K2
  clear L2 K2
  go_wp2_with fail
  refine (store_free _ _ ((p : Int) + 1) _ CT.c0 CT.c1 CT.c2 CT.fr).mono ?_
  rintro e w3 ⟨rfl, rfl⟩
  go_wp2_with fail
  go_end0
  refine ⟨rfl, ?_, ?_⟩
  · exact HL2.out.setT hB m mlt (p + 1)
  · have o := HL2.out.ok
    have o2 := o.i0; have o3 := o.i1; have o7 := o.h
    exact HK2.out.setCell _ (.inl ⟨by show d.lo ≤ d.s + 3 * m; omega, by show d.s + 3 * m < d.hi; omega⟩) _

set_option maxRecDepth 100000 in
set_option maxHeartbeats 400000 in
theorem give_any {w : World} {B n R : Nat} {d : Ids} {S : LS} (h : Lvl w B n R d S) (hB : B < d.lo ∨ d.hi ≤ B) (hR : Pw R) (p : Nat) (hp : p < 4611686018427387904) :
    Calls Try.prog 17 #[.pointer (some ⟨B, n * 3, none⟩), .pointer none, .int .i64 p] w
      fun e w' => e = .returned (.int .i64 (S.sl (p % R))) ∧ Lvl w' B n R d { S with tu := put S.tu (p % R) (p + R) } ∧ Kept (Own d) w w' := by
  have mlt : p % R < R := Nat.mod_lt _ (by rcases hR with rfl | rfl <;> decide)
  have z1 : wrap64 ((p : Int) + R) = (p : Int) + R := by rcases hR with rfl | rfl <;> (unfold wrap64; omega)
  have P1 : ∀ j, Calls Try.prog 20 #[.pointer (some ⟨B, n * 3, none⟩), .int .i64 p] w fun e w' => e = .returned (.pointer (some ⟨d.bp, (p % R) * 3, none⟩)) ∧ Kept (fun _ => False) w w' := fun _ : Unit => placeOf_any h hR p hp
  have HP := Lib.hid P1
  have H := Lib.hid h
  clear h P1
  generalize p % R = m at mlt HP ⊢
  go_enter Try.func17, Try.ntmps17
  go_wp2_with fail
  refine (HP.out ()).mono ?_
  rintro e W ⟨rfl, K⟩
  have L0 := H.out.kept K id (fun _ _ _ => id)
  have HK := Lib.hid K
  clear K
  have q2 := (L0.q2 _ mlt).c
  have CS := L0.cs _ mlt
  have q0 := (L0.q0 _ mlt).c
  have c2 := L0.p2.c
  have CT := L0.ct _ mlt
  have HL := Lib.hid L0
  clear L0
  go_wp2_with fail
  refine (load_free _ _ _ CS.c0 CS.c1).mono ?_
  rintro e w' ⟨rfl, hw⟩
  obtain rfl := hw.symm
  go_wp2_with fail
  refine wp_region_still_tail 12 (by kernel_rfl) (by kernel_rfl) ?_
  simp only [List.take_succ_cons, List.take_zero, List.drop_succ_cons, List.drop_zero]
  rw [show ∀ W : World, ({ heap := W.heap, tape := W.tape, drawn := W.drawn + 1, os := W.os, output := W.output } : World) = W.drew from fun _ => rfl]
  have KD : Kept (fun _ => False) W W.drew := (Kept.refl _ _).drew
  have HKD := Lib.hid (HK.out.trans KD)
  have HLD := Lib.hid (HL.out.kept KD id (fun _ _ _ => id))
  clear q2 CS q0 c2 CT HL HK KD
  generalize W.drew = W2 at HKD HLD ⊢
  have q0 := (HLD.out.q0 _ mlt).c
  have c2 := HLD.out.p2.c
  have CT := HLD.out.ct _ mlt
  still_step
  still_step
  still_step
  still_step
  still_step
  still_step
  still_step
  still_step
  still_step
  still_step
  still_step
  still_step
  refine wpStill_nil ?_
  go_wp2_with fail
  rw [z1]
  refine (store_free _ _ ((p : Int) + R) _ CT.c0 CT.c1 CT.c2 CT.fr).mono ?_
  rintro e w3 ⟨rfl, rfl⟩
  go_wp2_with fail
  go_ret
  refine ⟨rfl, ?_, ?_⟩
  · exact HLD.out.setT hB m mlt (p + R)
  · have o := HLD.out.ok
    have o2 := o.i0; have o3 := o.i1; have o7 := o.h
    exact (keptNo HKD.out).setCell _ (.inl ⟨by show d.lo ≤ d.s + 3 * m; omega, by show d.s + 3 * m < d.hi; omega⟩) _

end Go.Proofs.Ythkakojkffgmbaa

/-
  A level's calls.
-/
import Derived.Test.YthkakojkffgmbaaPrio1
namespace Go.Proofs.Ythkakojkffgmbaa
open Go.RowKit

theorem claim_in {w : World} {B n R : Nat} {d : Ids} {S : LS} (h : Lvl w B n R d S) (hp : S.a < 4611686018427387904) :
    Calls Try.prog 21 #[.pointer (some ⟨B, n * 3, none⟩), .pointer none, .int .i64 0, .int .i64 S.a] w
      fun e w' => e = .returned (.bool true) ∧ w' = w.setCell ⟨d.bi, 0, none⟩ (.int .i64 ((S.a : Int) + 1)) := by
  have c0 := h.p0.c
  have C := h.ci
  generalize S.a = p at hp C ⊢
  have k1 : wrap64 ((p : Int) + 1) = (p : Int) + 1 := by unfold wrap64; omega
  go_enter Try.func21, Try.ntmps21
  go_wp2_with (go_at_call 32; refine (cas_hit d.bi _ _ _ C.c0 C.c1 C.c2 C.fr).mono ?_; rintro e w' ⟨rfl, rfl⟩)
  go_ret
  exact ⟨rfl, rfl⟩

theorem claim_out {w : World} {B n R : Nat} {d : Ids} {S : LS} (h : Lvl w B n R d S) (hp : S.b < 4611686018427387904) :
    Calls Try.prog 21 #[.pointer (some ⟨B, n * 3, none⟩), .pointer none, .int .i64 1, .int .i64 S.b] w
      fun e w' => e = .returned (.bool true) ∧ w' = w.setCell ⟨d.bo, 0, none⟩ (.int .i64 ((S.b : Int) + 1)) := by
  have c0 := h.p1.c
  have C := h.co
  generalize S.b = p at hp C ⊢
  have k1 : wrap64 ((p : Int) + 1) = (p : Int) + 1 := by unfold wrap64; omega
  go_enter Try.func21, Try.ntmps21
  go_wp2_with (go_at_call 32; refine (cas_hit d.bo _ _ _ C.c0 C.c1 C.c2 C.fr).mono ?_; rintro e w' ⟨rfl, rfl⟩)
  go_ret
  exact ⟨rfl, rfl⟩

/-- The level with one end changed, or one place. -/
theorem Lvl.setA {w : World} {B n R : Nat} {d : Ids} {S : LS} (h : Lvl w B n R d S) (hB : B < d.lo ∨ d.hi ≤ B) (x : Nat) : Lvl (w.setCell ⟨d.bi, 0, none⟩ (.int .i64 (x : Int))) B n R d { S with a := x } := by
  have k : Kept (fun b => b = d.bi) w (w.setCell ⟨d.bi, 0, none⟩ (.int .i64 (x : Int))) := (Kept.refl (fun b => b = d.bi) w).setCell ⟨d.bi, 0, none⟩ (.inl rfl) _
  have o := h.ok
  have o1 := o.i0; have o2 := o.i1; have o7 := o.h
  have nb : ¬ B = d.bi := by omega
  exact ⟨o, h.p0.kept k nb, h.p1.kept k nb, h.p2.kept k nb, h.ci.set _, h.co.kept k o.io.symm,
    fun i hi => (h.q0 i hi).kept k o.ip.symm, fun i hi => (h.q1 i hi).kept k o.ip.symm, fun i hi => (h.q2 i hi).kept k o.ip.symm,
    fun i hi => (h.ct i hi).kept k (by omega), fun i hi => (h.ck i hi).kept k (by omega), fun i hi => (h.cs i hi).kept k (by omega)⟩

theorem Lvl.setB {w : World} {B n R : Nat} {d : Ids} {S : LS} (h : Lvl w B n R d S) (hB : B < d.lo ∨ d.hi ≤ B) (x : Nat) : Lvl (w.setCell ⟨d.bo, 0, none⟩ (.int .i64 (x : Int))) B n R d { S with b := x } := by
  have k : Kept (fun b => b = d.bo) w (w.setCell ⟨d.bo, 0, none⟩ (.int .i64 (x : Int))) := (Kept.refl (fun b => b = d.bo) w).setCell ⟨d.bo, 0, none⟩ (.inl rfl) _
  have o := h.ok
  have o1 := o.o0; have o2 := o.o1; have o7 := o.h
  have nb : ¬ B = d.bo := by omega
  exact ⟨o, h.p0.kept k nb, h.p1.kept k nb, h.p2.kept k nb, h.ci.kept k o.io, h.co.set _,
    fun i hi => (h.q0 i hi).kept k o.op.symm, fun i hi => (h.q1 i hi).kept k o.op.symm, fun i hi => (h.q2 i hi).kept k o.op.symm,
    fun i hi => (h.ct i hi).kept k (by omega), fun i hi => (h.ck i hi).kept k (by omega), fun i hi => (h.cs i hi).kept k (by omega)⟩

theorem Lvl.setT {w : World} {B n R : Nat} {d : Ids} {S : LS} (h : Lvl w B n R d S) (hB : B < d.lo ∨ d.hi ≤ B) (i : Nat) (hi : i < R) (x : Nat) : Lvl (w.setCell ⟨d.s + 3 * i, 0, none⟩ (.int .i64 (x : Int))) B n R d { S with tu := put S.tu i x } := by
  have k : Kept (fun b => b = d.s + 3 * i) w (w.setCell ⟨d.s + 3 * i, 0, none⟩ (.int .i64 (x : Int))) := (Kept.refl (fun b => b = d.s + 3 * i) w).setCell ⟨d.s + 3 * i, 0, none⟩ (.inl rfl) _
  have o := h.ok
  have o1 := o.i0; have o2 := o.i1; have o3 := o.o0; have o4 := o.o1; have o5 := o.p0; have o6 := o.p1; have o7 := o.h
  have nb : ¬ B = d.s + 3 * i := by omega
  refine ⟨o, h.p0.kept k nb, h.p1.kept k nb, h.p2.kept k nb, h.ci.kept k (by omega), h.co.kept k (by omega),
    fun j hj => (h.q0 j hj).kept k (by omega), fun j hj => (h.q1 j hj).kept k (by omega), fun j hj => (h.q2 j hj).kept k (by omega),
    fun j hj => ?_, fun j hj => (h.ck j hj).kept k (by omega), fun j hj => (h.cs j hj).kept k (by omega)⟩
  by_cases e : j = i
  · subst e; simp only [put_same]; exact (h.ct j hj).set _
  · simp only [put_other _ _ _ _ e]; exact (h.ct j hj).kept k (by omega)

theorem Lvl.setK {w : World} {B n R : Nat} {d : Ids} {S : LS} (h : Lvl w B n R d S) (hB : B < d.lo ∨ d.hi ≤ B) (i : Nat) (hi : i < R) (x : Int) : Lvl (w.setCell ⟨d.s + 3 * i + 1, 0, none⟩ (.int .i64 x)) B n R d { S with ti := put S.ti i x } := by
  have k : Kept (fun b => b = d.s + 3 * i + 1) w (w.setCell ⟨d.s + 3 * i + 1, 0, none⟩ (.int .i64 x)) := (Kept.refl (fun b => b = d.s + 3 * i + 1) w).setCell ⟨d.s + 3 * i + 1, 0, none⟩ (.inl rfl) _
  have o := h.ok
  have o1 := o.i0; have o2 := o.i1; have o3 := o.o0; have o4 := o.o1; have o5 := o.p0; have o6 := o.p1; have o7 := o.h
  have nb : ¬ B = d.s + 3 * i + 1 := by omega
  refine ⟨o, h.p0.kept k nb, h.p1.kept k nb, h.p2.kept k nb, h.ci.kept k (by omega), h.co.kept k (by omega),
    fun j hj => (h.q0 j hj).kept k (by omega), fun j hj => (h.q1 j hj).kept k (by omega), fun j hj => (h.q2 j hj).kept k (by omega),
    fun j hj => (h.ct j hj).kept k (by omega), fun j hj => ?_, fun j hj => (h.cs j hj).kept k (by omega)⟩
  by_cases e : j = i
  · subst e; simp only [put_same]; exact (h.ck j hj).set _
  · simp only [put_other _ _ _ _ e]; exact (h.ck j hj).kept k (by omega)

theorem Lvl.setS {w : World} {B n R : Nat} {d : Ids} {S : LS} (h : Lvl w B n R d S) (hB : B < d.lo ∨ d.hi ≤ B) (i : Nat) (hi : i < R) (x : Int) : Lvl (w.setCell ⟨d.s + 3 * i + 2, 0, none⟩ (.int .i64 x)) B n R d { S with sl := put S.sl i x } := by
  have k : Kept (fun b => b = d.s + 3 * i + 2) w (w.setCell ⟨d.s + 3 * i + 2, 0, none⟩ (.int .i64 x)) := (Kept.refl (fun b => b = d.s + 3 * i + 2) w).setCell ⟨d.s + 3 * i + 2, 0, none⟩ (.inl rfl) _
  have o := h.ok
  have o1 := o.i0; have o2 := o.i1; have o3 := o.o0; have o4 := o.o1; have o5 := o.p0; have o6 := o.p1; have o7 := o.h
  have nb : ¬ B = d.s + 3 * i + 2 := by omega
  refine ⟨o, h.p0.kept k nb, h.p1.kept k nb, h.p2.kept k nb, h.ci.kept k (by omega), h.co.kept k (by omega),
    fun j hj => (h.q0 j hj).kept k (by omega), fun j hj => (h.q1 j hj).kept k (by omega), fun j hj => (h.q2 j hj).kept k (by omega),
    fun j hj => (h.ct j hj).kept k (by omega), fun j hj => (h.ck j hj).kept k (by omega), fun j hj => ?_⟩
  by_cases e : j = i
  · subst e; simp only [put_same]; exact (h.cs j hj).set _
  · simp only [put_other _ _ _ _ e]; exact (h.cs j hj).kept k (by omega)

/-- What a call of a level may write. -/
def Own (d : Ids) : Nat → Prop := fun b => d.lo ≤ b ∧ b < d.hi


theorem keptNo {X : Nat → Prop} {w w' : World} (h : Kept (fun _ => False) w w') : Kept X w w' := h.mono (fun _ _ e => False.elim e)

end Go.Proofs.Ythkakojkffgmbaa

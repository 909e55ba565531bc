/-
  A level of package prio in a world; the place of a position.
-/
import Derived.Test.YthkakojkffgmbaaCel
import Derived.Deep.RegionHeld3
import Derived.RegionTactic
import Derived.Laws.Bits64b
namespace Go.Proofs.Ythkakojkffgmbaa
open Go.RowKit

/-- The blocks of a level: of its ends, its places, its places' cells; all between lo and hi. -/
structure Ids where
  lo : Nat
  bi : Nat
  bo : Nat
  bp : Nat
  s : Nat
  hi : Nat

structure Ok (d : Ids) (R : Nat) : Prop where
  i0 : d.lo ≤ d.bi
  i1 : d.bi < d.s
  o0 : d.lo ≤ d.bo
  o1 : d.bo < d.s
  p0 : d.lo ≤ d.bp
  p1 : d.bp < d.s
  io : d.bi ≠ d.bo
  ip : d.bi ≠ d.bp
  op : d.bo ≠ d.bp
  h : d.s + 3 * R ≤ d.hi

/-- What a level holds. -/
structure LS where
  a : Nat
  b : Nat
  tu : Nat → Nat
  ti : Nat → Int
  sl : Nat → Int

/-- Level n of the levels in block B, of R places. -/
structure Lvl (w : World) (B n R : Nat) (d : Ids) (S : LS) : Prop where
  ok : Ok d R
  p0 : Slot w B (n * 3) (.pointer (some ⟨d.bi, 0, none⟩))
  p1 : Slot w B (n * 3 + 1) (.pointer (some ⟨d.bo, 0, none⟩))
  p2 : Slot w B (n * 3 + 2) (.slice (some ⟨d.bp, 0, none⟩) R R)
  ci : Cel w d.bi S.a
  co : Cel w d.bo S.b
  q0 : ∀ i, i < R → Slot w d.bp (i * 3) (.pointer (some ⟨d.s + 3 * i, 0, none⟩))
  q1 : ∀ i, i < R → Slot w d.bp (i * 3 + 1) (.pointer (some ⟨d.s + 3 * i + 1, 0, none⟩))
  q2 : ∀ i, i < R → Slot w d.bp (i * 3 + 2) (.pointer (some ⟨d.s + 3 * i + 2, 0, none⟩))
  ct : ∀ i, i < R → Cel w (d.s + 3 * i) (S.tu i)
  ck : ∀ i, i < R → Cel w (d.s + 3 * i + 1) (S.ti i)
  cs : ∀ i, i < R → Cel w (d.s + 3 * i + 2) (S.sl i)

theorem Lvl.kept {X : Nat → Prop} {w w' : World} {B n R : Nat} {d : Ids} {S : LS} (h : Lvl w B n R d S) (k : Kept X w w') (hB : ¬ X B) (hX : ∀ b, d.lo ≤ b → b < d.hi → ¬ X b) : Lvl w' B n R d S := by
  have o := h.ok
  have o1 := o.i0; have o2 := o.i1; have o3 := o.o0; have o4 := o.o1; have o5 := o.p0; have o6 := o.p1; have o7 := o.h
  exact ⟨o, h.p0.kept k hB, h.p1.kept k hB, h.p2.kept k hB, h.ci.kept k (hX _ o1 (by omega)), h.co.kept k (hX _ o3 (by omega)),
    fun i hi => (h.q0 i hi).kept k (hX _ o5 (by omega)), fun i hi => (h.q1 i hi).kept k (hX _ o5 (by omega)), fun i hi => (h.q2 i hi).kept k (hX _ o5 (by omega)),
    fun i hi => (h.ct i hi).kept k (hX _ (by omega) (by omega)), fun i hi => (h.ck i hi).kept k (hX _ (by omega) (by omega)), fun i hi => (h.cs i hi).kept k (hX _ (by omega) (by omega))⟩

/-- How many places there are here. -/
def Pw (R : Nat) : Prop := R = 2 ∨ R = 4

theorem bits_place (p R : Nat) (h : Pw R) (hp : p < 4611686018427387904) : bits BinOp.and IntKind.u64 (p : Int) ((R - 1 : Nat) : Int) = ((p % R : Nat) : Int) := by
  rcases h with rfl | rfl
  · rw [bits_and_u64_nat p _ (by omega) (by omega), show (2 - 1 : Nat) = 2 ^ 1 - 1 from rfl, Nat.and_two_pow_sub_one_eq_mod]
  · rw [bits_and_u64_nat p _ (by omega) (by omega), show (4 - 1 : Nat) = 2 ^ 2 - 1 from rfl, Nat.and_two_pow_sub_one_eq_mod]

theorem wrap_u64_nat (p : Nat) (hp : p < 4611686018427387904) : IntKind.u64.wrap (p : Int) = p := by rw [IntKind.wrap_u64]; omega

theorem wrap_less (R : Nat) (h : Pw R) : IntKind.u64.wrap (wrap64 ((R : Int) - 1)) = ((R - 1 : Nat) : Int) := by
  rcases h with rfl | rfl <;> (rw [IntKind.wrap_u64]; unfold wrap64; omega)

theorem place_key (p R : Nat) (h : Pw R) (hp : p < 4611686018427387904) : bits BinOp.and IntKind.u64 (p : Int) (IntKind.u64.wrap (wrap64 ((R : Int) - 1))) = ((p % R : Nat) : Int) := by
  rw [wrap_less R h, bits_place p R h hp]

theorem placeOf_any {w : World} {B n R : Nat} {d : Ids} {S : LS} (h : Lvl w B n R d S) (hR : Pw R) (p : Nat) (hp : p < 4611686018427387904) :
    Calls Try.prog 20 #[.pointer (some ⟨B, n * 3, none⟩), .int .i64 p] w fun e w' => e = .returned (.pointer (some ⟨d.bp, (p % R) * 3, none⟩)) ∧ Kept (fun _ => False) w w' := by
  have c2 := h.p2.c
  have l2 := h.p2.lt
  have k0 := wrap_u64_nat p hp
  have k1 := place_key p R hR hp
  have k2 : (p % R : Nat) < R := Nat.mod_lt _ (by rcases hR with rfl | rfl <;> decide)
  generalize p % R = m at k1 k2 ⊢
  have k3 : (m : Int) < R := by omega
  have k4 : (0 : Int) ≤ m := by omega
  clear hR
  go_enter Try.func20, Try.ntmps20
  go_wp2_with fail
  go_region
  go_wp2_with fail
  go_ret
  exact ⟨rfl, (Kept.refl _ _).drew⟩

end Go.Proofs.Ythkakojkffgmbaa

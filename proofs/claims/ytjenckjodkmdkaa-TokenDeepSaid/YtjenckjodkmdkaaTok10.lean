/-
  treadlelaw11.TokenDeep: what is counted, and the function that counts it.
-/
import Derived.Test.YtjenckjodkmdkaaTok9
namespace Go.Proofs.Ytjenckjodkmdkaa
open Go.RowKit

/-- The order so far (oB), and who was called when: the row c that cB holds; lab tells whose a block is. -/
structure Glob (w : World) (lab : Nat → Nat) (L c oB cB : Nat) (o : Int) (cf : Nat → Int) : Prop where
  lo : lab oB = 1
  lc : lab c = 2
  lb : lab cB = 3
  ord : Slot w oB 0 (.int .i64 o)
  box : Slot w cB 0 (.slice (some ⟨c, 0, none⟩) L L)
  row : ∀ j, j < L → Slot w c j (.int .i64 (cf j))

theorem Glob.kept {S : Nat → Prop} {w w' : World} {lab : Nat → Nat} {L c oB cB : Nat} {o : Int} {cf : Nat → Int} (G : Glob w lab L c oB cB o cf) (k : Kept S w w') (hs : ∀ b, lab b < 16 → lab b ≠ 0 → ¬ S b) : Glob w' lab L c oB cB o cf :=
  ⟨G.lo, G.lc, G.lb, G.ord.kept k (hs _ (by have := G.lo; omega) (by have := G.lo; omega)), G.box.kept k (hs _ (by have := G.lb; omega) (by have := G.lb; omega)), fun j hj => (G.row j hj).kept k (hs _ (by have := G.lc; omega) (by have := G.lc; omega))⟩

theorem Glob.congr {w : World} {lab : Nat → Nat} {L c oB cB : Nat} {o o' : Int} {cf cf' : Nat → Int} (G : Glob w lab L c oB cB o cf) (ho : o = o') (h : ∀ j, j < L → cf j = cf' j) : Glob w lab L c oB cB o' cf' := by
  subst ho; exact ⟨G.lo, G.lc, G.lb, G.ord, G.box, fun j hj => by rw [← h j hj]; exact G.row j hj⟩

set_option maxRecDepth 100000 in
theorem note (w : World) (L c oB cB f i : Nat) (o u x : Int) (hi : i < L) (o0 : 0 ≤ o) (o1 : o ≤ 1000) (O : Slot w oB 0 (.int .i64 o)) (B : Slot w cB 0 (.slice (some ⟨c, 0, none⟩) L L)) (F : Slot w f 0 (.int .i64 i)) (C : Slot w c i (.int .i64 u))
    (n1 : oB ≠ cB) (n2 : oB ≠ f) (n3 : oB ≠ c) :
    Calls Try.prog 8 #[.pointer none, .int .i64 x, .pointer (some ⟨oB, 0, none⟩), .pointer (some ⟨cB, 0, none⟩), .pointer (some ⟨f, 0, none⟩)] w
      fun e w' => e = .returned (.tuple #[]) ∧ w' = (w.setCell ⟨oB, 0, none⟩ (.int .i64 (o + 1))).setCell ⟨c, i, none⟩ (.int .i64 (o + 1)) := by
  have a1 := O.c
  have a2 := O.fr
  have a3 := O.lt
  have b1 := B.c
  have f1 := F.c
  have c1 := C.c
  have c2 := C.fr
  have m1 : (i : Int) < L := by omega
  have m2 : 0 ≤ (i : Int) := by omega
  clear O B F C
  go_enter Try.func8, Try.ntmps8
  go_wp2_with fail
  first | go_end0 | refine bodyPost_ret (results_none rfl _ _ _) rfl ?_
  exact ⟨rfl, rfl⟩

theorem note_glob (w : World) (lab : Nat → Nat) (L c oB cB f i : Nat) (o x : Int) (cf : Nat → Int) (hi : i < L) (o0 : 0 ≤ o) (o1 : o ≤ 1000) (G : Glob w lab L c oB cB o cf) (F : Slot w f 0 (.int .i64 i)) (hf : 16 ≤ lab f) :
    Calls Try.prog 8 #[.pointer none, .int .i64 x, .pointer (some ⟨oB, 0, none⟩), .pointer (some ⟨cB, 0, none⟩), .pointer (some ⟨f, 0, none⟩)] w
      (Told fun w' => Kept (fun b => lab b = 1 ∨ lab b = 2) w w' ∧ Glob w' lab L c oB cB (o + 1) (put cf i (o + 1))) := by
  have lo := G.lo
  have lc := G.lc
  have lb := G.lb
  have n1 : oB ≠ cB := fun e => by rw [e] at lo; omega
  have n2 : oB ≠ f := fun e => by rw [e] at lo; omega
  have n3 : oB ≠ c := fun e => by rw [e] at lo; omega
  have n4 : cB ≠ c := fun e => by rw [e] at lb; omega
  refine (note w L c oB cB f i o (cf i) x hi o0 o1 G.ord G.box F (G.row i hi) n1 n2 n3).mono ?_
  rintro e w' ⟨rfl, rfl⟩
  refine ⟨rfl, ((Kept.refl _ _).setCell _ (.inl (.inl lo)) _).setCell _ (.inl (.inr lc)) _, lo, lc, lb, (G.ord.set _).far _ _ n3, (G.box.far _ _ (fun e => n1 e.symm)).far _ _ n4, fun j hj => ?_⟩
  by_cases e : j = i
  · subst e; rw [put_same]; exact ((G.row j hj).far _ _ (fun e => n3 e.symm)).set _
  · rw [put_other _ _ _ _ e]; exact ((G.row j hj).far _ _ (fun e => n3 e.symm)).beside _ e

end Go.Proofs.Ytjenckjodkmdkaa

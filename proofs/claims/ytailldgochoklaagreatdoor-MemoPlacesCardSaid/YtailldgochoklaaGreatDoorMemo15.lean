/-
  The walk of MemoPlaces, whole.
-/
import Derived.Test.YtailldgochoklaaGreatDoorMemo14
namespace Go.Proofs.YtailldgochoklaaGreatDoor
open Go.RowKit

/-- What there is at each step: a world like the first one; a memo that New did not make. -/
structure MBase (w0 w : World) : Prop where
  kept : Kept (fun _ => False) w0 w
  et : ErrorType w
  tab : Tab64 w
  bare : Slot w w0.heap.size 0 (.slice none 0 0)
  lt : 2 < w0.heap.size

theorem MBase.next {w0 w w' : World} (h : MBase w0 w) (k : Kept (fun _ => False) w w') : MBase w0 w' :=
  ⟨h.kept.trans k, h.et.kept k id, h.tab.kept k id (by have := h.lt; have := h.kept.size; omega), h.bare.kept k id, h.lt⟩

theorem MBase.far {w0 w w' : World} {B : Nat} (h : MBase w0 w) (hB : w0.heap.size < B) (k : Kept (fun c => B + 2 ≤ c ∧ c < B + 9) w w') : MBase w0 w' :=
  ⟨h.kept.far k (by rintro i ⟨h1, h2⟩; omega), h.et.kept k (by have := h.lt; omega), h.tab.kept k (by have := h.lt; omega) (by have := h.lt; have := h.kept.size; omega), h.bare.kept k (by omega), h.lt⟩

set_option maxRecDepth 100000 in
set_option maxHeartbeats 4000000 in
theorem walk_memoPlaces (key s : Int) (hk0 : -9223372036854775808 ≤ key) (hk : key ≤ 9223372036854775807) (w : World) (hg : ErrorType w) (ht : Tab64 w) (hz : 2 < w.heap.size) : Calls Tryz.prog 3 #[.int .i64 key, .int .i64 s] w (Says true w) := by
  obtain ⟨r, hr4, hr5⟩ := places key s hk
  obtain ⟨b, hb7, hb6⟩ := sizes s
  obtain ⟨f, hf, hone⟩ := one_got key hk
  have H4 := Lib.hid hr4
  have H5 := Lib.hid hr5
  have H6 := Lib.hid hb6
  have H7 := Lib.hid hb7
  have H9 := Lib.hid hone
  have HG := Lib.hid hg
  have HT := Lib.hid ht
  have rr : (r != r) = false := by simp
  have bb : (b != b) = false := by simp
  clear hr4 hr5 hb6 hb7 hone hg ht
  have hcase : (∃ d : decide (0 ≤ key) = false, f = false) ∨ (∃ (d : decide (0 ≤ key) = true) (d' : decide (key < 9223372036854775807) = f), True) := by
    by_cases h : 0 ≤ key
    · exact .inr ⟨by simpa using h, by rw [hf]; simp [h], trivial⟩
    · exact .inl ⟨by simpa using h, by rw [hf]; simp; omega⟩
  have HF := Lib.hid hcase
  clear hcase hf hk0 hk
  go_enter Tryz.func3, Tryz.ntmps3
  go_wp2_with fail
  refine (H4.out _ HT.out).mono ?_
  rintro e w' ⟨rfl, rfl⟩
  go_wp2_with fail
  refine (H5.out _).mono ?_
  rintro e w' ⟨rfl, rfl⟩
  go_wp2_with fail
  refine (H6.out _).mono ?_
  rintro e w1 ⟨p, rfl, hp, K1⟩
  have hnp : ∀ w : World, (binOp BinOp.neq 23 (.pointer p) (.pointer none)).run Tryz.prog w = .ok (.bool b) w := by
    intro w
    rw [← hp]
    cases p with
    | none => kernel_rfl
    | some a => kernel_rfl
  have HK1 := Lib.hid K1
  clear hp K1
  go_wp2_with fail
  refine (H7.out _).mono ?_
  rintro e w' ⟨rfl, rfl⟩
  go_wp2_with fail
  have z1 := HK1.out.size
  have M0 : MBase w1 (w1.alloc (.cells #[.slice none 0 0] 28)) :=
    ⟨(Kept.refl _ w1).alloc _, (HG.out.kept HK1.out id).kept (S := fun _ => False) ((Kept.refl _ w1).alloc _) id, (HT.out.kept HK1.out id (by omega)).kept (S := fun _ => False) ((Kept.refl _ w1).alloc _) id (by omega), ⟨by go_simp, by go_simp, by simp⟩, by omega⟩
  have HM0 := Lib.hid M0
  clear M0 z1 hnp
  generalize w1.alloc (.cells #[.slice none 0 0] 28) = w2 at HM0 ⊢
  refine (get_nil key _ _).mono ?_
  rintro e w' ⟨rfl, rfl⟩
  go_wp2_with fail
  refine (get_bare _ key _ _ HM0.out.bare.c).mono ?_
  rintro e w' ⟨rfl, rfl⟩
  go_wp2_with fail
  refine (new_one _).mono ?_
  rintro e w3 ⟨rfl, N⟩
  have l3 : Hid (w1.heap.size < w2.heap.size) := HM0.out.bare.lt
  have HM3 := Lib.hid (HM0.out.next N.kept)
  have S3 : Hid (w3.heap.size = w2.heap.size + 2 + 7 * 1) := N.size
  have HX3 := Lib.hid N.box
  have HP3 := Lib.hid (N.done 0 (by omega))
  clear N HM0
  go_wp2_with fail
  refine (H9.out w2.heap.size w3 (by have := l3.out; have := HM3.out.lt; omega) HM3.out.tab HX3.out HP3.out (by have := S3.out; omega)).mono ?_
  rintro e w4 ⟨v, x, rfl, hx, K4⟩
  have HM4 := Lib.hid (HM3.out.far l3.out K4)
  have HX4 := Lib.hid (HX3.out.kept K4 (by omega))
  clear K4 HM3 HX3 HP3 H9
  rcases hx with ⟨rfl, rfl⟩ | ⟨rfl, rfl⟩
  all_goals rcases HF.out with ⟨d, e⟩ | ⟨d, d', _⟩
  case inl.inl => cases e
  all_goals
    go_wp2_with fail
    refine (get_none _ 1 _ HX4.out).mono ?_
    rintro e w' ⟨rfl, rfl⟩
    go_wp2_with fail
    refine (class_num 2 _ HM4.out.et).mono ?_
    rintro r w5 ⟨rfl, k⟩
    have HM5 := Lib.hid (HM4.out.next k)
    clear k HM4
    go_wp2_with fail
    refine (class_num 2 _ HM5.out.et).mono ?_
    rintro r w6 ⟨rfl, k⟩
    have HM6 := Lib.hid (HM5.out.next k)
    clear k HM5
    go_wp2_with fail
    first
      | (with_reducible refine (class_nil _).mono ?_)
      | (with_reducible refine (class_num 1 _ HM6.out.et).mono ?_)
    rintro r w7 ⟨rfl, k⟩
    have HM7 := Lib.hid (HM6.out.next k)
    clear k HM6
    go_wp2_with fail
    refine (class_num 1 _ HM7.out.et).mono ?_
    rintro r w8 ⟨rfl, k⟩
    have HM8 := Lib.hid (HM7.out.next k)
    clear k HM7
    go_wp2_with fail
    refine (keys_nil _).mono ?_
    rintro r w' ⟨rfl, rfl⟩
    go_wp2_with fail
    refine (keys_bare _ _ HM8.out.bare.c).mono ?_
    rintro r w' ⟨rfl, rfl⟩
    go_wp2_with fail
    refine (works_is _ HM8.out.et HM8.out.tab (by have := HM8.out.lt; have := HM8.out.kept.size; omega)).mono ?_
    rintro r w9 ⟨rfl, k⟩
    have HM9 := Lib.hid (HM8.out.next k)
    clear k HM8
    go_wp2_with fail
    go_ret
    exact ⟨rfl, HK1.out.trans HM9.out.kept⟩

end Go.Proofs.YtailldgochoklaaGreatDoor

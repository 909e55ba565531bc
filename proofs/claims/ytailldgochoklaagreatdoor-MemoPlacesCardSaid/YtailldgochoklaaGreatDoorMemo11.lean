/-
  Keys of a memo of two places that both have keys.
-/
import Derived.Test.YtailldgochoklaaGreatDoorMemo10
namespace Go.Proofs.YtailldgochoklaaGreatDoor
open Go.RowKit

theorem info2 : (Tryz.prog.info? 2).map (fun i => (i.zero, i.size, i.bytes)) = some (some (.int .i64 0), 1, 8) := by kernel_rfl

/-- What Keys leaves: two numbers. -/
def TwoKeys (w : World) : Ending → World → Prop := fun e w' => ∃ g cap : Nat, e = .returned (.slice (some ⟨g, 0, none⟩) 2 cap) ∧ Kept (fun _ => False) w w'

set_option maxRecDepth 100000 in
set_option maxHeartbeats 1600000 in
theorem keys_two (B : Nat) (v0 v1 s0 s1 a0 a1 hd0 hd1 : Int) (x0 x1 : Value) (b0 : 1 ≤ v0 ∧ v0 ≤ 100) (b1 : 1 ≤ v1 ∧ v1 ≤ 100) (w : World)
    (bx : Slot w (B + 1) 0 (.slice (some ⟨B, 0, none⟩) 2 2)) (P0 : Plc w B 0 v0 s0 a0 x0 hd0) (P1 : Plc w B 1 v1 s1 a1 x1 hd1) :
    Calls Tryz.prog 11 #[.pointer (some ⟨B + 1, 0, none⟩), .pointer none] w (TwoKeys w) := by
  obtain ⟨i0, hi, hz0, hz1, hz2⟩ := info_parts info2
  have c0 := bx.c
  obtain ⟨u0, u1⟩ := b0
  obtain ⟨u2, u3⟩ := b1
  have t0 : (v0 == 0) = false := by rw [beq_eq_false_iff_ne]; omega
  have t1 : (v1 == 0) = false := by rw [beq_eq_false_iff_ne]; omega
  have t2 : (v0 != 0) = true := by rw [bne_iff_ne]; omega
  have t3 : (v1 != 0) = true := by rw [bne_iff_ne]; omega
  have HX := Lib.hid bx
  have HP0 := Lib.hid P0
  have HP1 := Lib.hid P1
  have q0 : w.cell? ⟨B, 0, none⟩ = some (.pointer (some ⟨B + 2, 0, none⟩)) := P0.s0.c
  have q1 : w.cell? ⟨B, 1, none⟩ = some (.pointer (some ⟨B + 8, 0, none⟩)) := P0.s1.c
  have C0 : Hid (Cel w (B + 2) v0) := P0.cel
  have C1 : Hid (Cel w (B + 9) v1) := P1.cel
  have S2 : Hid (Slot w B 2 (.pointer (some ⟨B + 9, 0, none⟩))) := P1.s0
  have S3 : Hid (Slot w B 3 (.pointer (some ⟨B + 15, 0, none⟩))) := P1.s1
  clear bx P0 P1 HP0 HP1
  go_enter Tryz.func11, Tryz.ntmps11
  go_wp2_with (go_at_call 17; refine (mnone_is (B + 1) _ _ _ _ c0).mono ?_; rintro e w' ⟨rfl, rfl⟩)
  refine wp_loop_rounds 3 ?_
  rw [rounds_succ]
  go_wp2_with fail
  have K1 : Kept (fun _ => False) w (w.alloc (.cells #[.pointer (some ⟨B + 2, 0, none⟩), .pointer (some ⟨B + 8, 0, none⟩)] 49)) := (Kept.refl _ w).alloc _
  have HK1 := Lib.hid K1
  have n0 : (w.alloc (.cells #[.pointer (some ⟨B + 2, 0, none⟩), .pointer (some ⟨B + 8, 0, none⟩)] 49)).ownsRow w.heap.size 2 1 (.slice none 0 0) 0 [] := World.ownsRow_nil _ _ _ _
  have N0 := Lib.hid n0
  clear K1 n0 q0 q1
  generalize w.alloc (.cells #[.pointer (some ⟨B + 2, 0, none⟩), .pointer (some ⟨B + 8, 0, none⟩)] 49) = W at HK1 N0 ⊢
  refine (load_free (B + 2) v0 _ (C0.out.kept HK1.out id).c0 (C0.out.kept HK1.out id).c1).mono ?_
  rintro e w' ⟨rfl, rfl⟩
  have lW := HK1.out.size
  go_wp2_with (at_builtin; go_loud (refine wpList_append_own _ rfl _ _ 37 rfl w.heap.size 2 i0 (.int .i64 0) 1 8 Tryz.underlying37 hi hz0 hz1 hz2 rfl (by decide) _ _ _ rfl (N0.out.alloc _) ⟨w'.heap.size, 0, none⟩ 1 1 [.int .i64 (v0 - 1)] rfl rfl ?c1 ?c2 ?c3 ?c4 ?c5 ?_))
  case c1 =>
    intro j u hj
    match j, hj with
    | 0, hj => simp at hj; subst hj; simp [Addr.add]
  case c2 => intro u hu; simp at hu; subst hu; rfl
  case c3 => simp [maxLen]
  case c4 => simp
  case c5 => simp; omega
  intro v' w1 hown' hgrow _
  replace hown' : w1.ownsRow w.heap.size 2 1 v' 1 [.int .i64 (v0 - 1)] := hown'
  have HB1 := Lib.hid (((HK1.out.below (Nat.le_refl _) (fun _ h => h.elim)).alloc lW _).grown hgrow (by simp; omega) (by intro k hk; cases hk))
  have HK2 := Lib.hid (Kept.ofBelow HB1.out (Nat.le_refl _) (fun _ => False))
  have l1 := HB1.out.size
  have l2 : B < w1.heap.size := Nat.lt_of_lt_of_le S2.out.lt l1
  have r2 := (S2.out.kept HK2.out id).c
  have r3 := (S3.out.kept HK2.out id).c
  clear hgrow
  go_wp2_with fail
  rw [rounds_succ]
  go_wp2_with fail
  have K3 : Kept (fun _ => False) w1 (w1.alloc (.cells #[.pointer (some ⟨B + 9, 0, none⟩), .pointer (some ⟨B + 15, 0, none⟩)] 49)) := (Kept.refl _ w1).alloc _
  have HK3 := Lib.hid (HK2.out.trans K3)
  have HB3 := Lib.hid (HB1.out.alloc l1 (.cells #[.pointer (some ⟨B + 9, 0, none⟩), .pointer (some ⟨B + 15, 0, none⟩)] 49))
  have N3 := Lib.hid (hown'.alloc (.cells #[.pointer (some ⟨B + 9, 0, none⟩), .pointer (some ⟨B + 15, 0, none⟩)] 49))
  clear K3 hown' r2 r3
  generalize w1.alloc (.cells #[.pointer (some ⟨B + 9, 0, none⟩), .pointer (some ⟨B + 15, 0, none⟩)] 49) = W3 at HK3 HB3 N3 ⊢
  refine (load_free (B + 9) v1 _ (C1.out.kept HK3.out id).c0 (C1.out.kept HK3.out id).c1).mono ?_
  rintro e w' ⟨rfl, rfl⟩
  have l3 := HB3.out.size
  go_wp2_with (at_builtin; go_loud (refine wpList_append_own _ rfl _ _ 37 rfl w.heap.size 2 i0 (.int .i64 0) 1 8 Tryz.underlying37 hi hz0 hz1 hz2 rfl (by decide) _ _ _ rfl (N3.out.alloc _) ⟨w'.heap.size, 0, none⟩ 1 1 [.int .i64 (v1 - 1)] rfl rfl ?c6 ?c7 ?c8 ?c9 ?c10 ?_))
  case c6 =>
    intro j u hj
    match j, hj with
    | 0, hj => simp at hj; subst hj; simp [Addr.add]
  case c7 => intro u hu; simp at hu; subst hu; rfl
  case c8 => simp [maxLen]
  case c9 => simp
  case c10 => simp; omega
  intro v2 w4 hown2 hgrow2 _
  replace hown2 : w4.ownsRow w.heap.size 2 1 v2 2 [.int .i64 (v0 - 1), .int .i64 (v1 - 1)] := hown2
  have HB4 := Lib.hid ((HB3.out.alloc l3 _).grown hgrow2 (by simp; omega) (fun k hk => (N3.out.lt k hk).1))
  have hex : ∃ g cap : Nat, v2 = .slice (some ⟨g, 0, none⟩) 2 cap := by
    rcases hown2.2 with ⟨_, h⟩ | ⟨g, cap, cur, hv, hg, hgg, _⟩
    · cases h
    · exact ⟨g, cap, hv⟩
  obtain ⟨g, cap, rfl⟩ := hex
  clear hown2 hgrow2
  go_wp2_with fail
  rw [rounds_succ]
  go_wp2_with fail
  go_ret
  exact ⟨g, cap, rfl, Kept.ofBelow HB4.out (Nat.le_refl _) _⟩

end Go.Proofs.YtailldgochoklaaGreatDoor

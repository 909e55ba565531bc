/-
  find where all places are others'; what builds.
-/
import Derived.Test.YtailldgochoklaaGreatDoorMemo6
import Derived.Laws.EntriesVeiled
namespace Go.Proofs.YtailldgochoklaaGreatDoor
open Go.RowKit

set_option maxRecDepth 100000 in
set_option maxHeartbeats 1600000 in
theorem find_miss (k B : Nat) (hn : IsP 2 k) (key : Int) (h0 : 0 ≤ key) (h1 : key < 9223372036854775807) (hp : plc key k = 1) (c f c' f' : Addr) (w : World) (hz : 1 < w.heap.size)
    (ht : Tab64 w) (bx : Slot w (B + 1) 0 (.slice (some ⟨B, 0, none⟩) 2 2)) (s0 : Slot w B 0 (.pointer (some c))) (s1 : Slot w B 1 (.pointer (some f))) (s2 : Slot w B 2 (.pointer (some c'))) (s3 : Slot w B 3 (.pointer (some f')))
    (hof : ∀ W, Kept (fun _ => False) w W → Calls Tryz.prog 31 #[.agg #[.pointer (some c), .pointer (some f)], .pointer none, .int .i64 key] W (Did false (fun _ => False) (fun _ => True) W))
    (hof' : ∀ W, Kept (fun _ => False) w W → Calls Tryz.prog 31 #[.agg #[.pointer (some c'), .pointer (some f')], .pointer none, .int .i64 key] W (Did false (fun _ => False) (fun _ => True) W)) :
    Calls Tryz.prog 18 #[.pointer (some ⟨B + 1, 0, none⟩), .pointer none, .int .i64 key] w fun e w' => e = .returned (.tuple #[.agg #[.pointer none, .pointer none], .bool false]) ∧ Kept (fun _ => False) w w' := by
  have HO := Lib.hid hof
  have HO' := Lib.hid hof'
  have HP := Lib.hid hp
  clear hof hof' hp
  have K0 : Kept (fun _ => False) w (w.alloc (.cells #[.pointer none, .pointer none] 49)) := (Kept.refl _ w).alloc _
  have HB := Lib.hid bx
  have HS0 := Lib.hid s0
  have HS1 := Lib.hid s1
  have HS2 := Lib.hid s2
  have HS3 := Lib.hid s3
  have HN := Lib.hid hn
  have HTb := Lib.hid (ht.kept K0 id hz)
  have HK := Lib.hid K0
  have R0 : Two (w.alloc (.cells #[.pointer none, .pointer none] 49)) w.heap.size (.pointer none) (.pointer none) := ⟨by go_simp, by go_simp, by go_simp, by go_simp, by simp⟩
  have HR := Lib.hid R0
  have b0 := (bx.kept K0 id).c
  clear bx s0 s1 s2 s3 ht hn K0 R0
  go_enter Tryz.func18, Tryz.ntmps18
  go_wp2_with fail
  generalize w.alloc (.cells #[.pointer none, .pointer none] 49) = W at b0 HTb HK HR ⊢
  refine (place_yes key _ k (by exact HN.out) h0 (by omega) _ HTb.out).mono ?_
  rw [HP.out]
  rintro e w' ⟨rfl, rfl⟩
  have x2 := (HS2.out.kept HK.out id).c
  have x3 := (HS3.out.kept HK.out id).c
  have l0 := (HS0.out.kept HK.out id).lt
  have l1 := (HB.out.kept HK.out id).lt
  go_wp2_with fail
  refine wp_loop_rounds 3 ?_
  rw [rounds_succ]
  go_wp2_with fail
  go_region
  go_wp2_with fail
  have K1 : Kept (fun _ => False) W ((W.alloc (.cells #[.pointer (some c'), .pointer (some f')] 49)).drew) := ((Kept.refl _ W).alloc _).drew
  have HR1 := Lib.hid (HR.out.kept K1 id)
  have HK1 := Lib.hid (HK.out.trans K1)
  have lR := HR.out.lt
  clear K1 b0 x2 x3 l0 l1
  generalize (W.alloc (.cells #[.pointer (some c'), .pointer (some f')] 49)).drew = V at HR1 HK1 ⊢
  refine (HO'.out V HK1.out).mono ?_
  rintro e w3 ⟨rfl, K3, _⟩
  have HR3 := Lib.hid (HR1.out.kept K3 id)
  have HK3 := Lib.hid (HK1.out.trans K3)
  have b3 := (HB.out.kept HK3.out id).c
  have x0 := (HS0.out.kept HK3.out id).c
  have x1 := (HS1.out.kept HK3.out id).c
  have l0 := (HS0.out.kept HK3.out id).lt
  have l1 := (HB.out.kept HK3.out id).lt
  clear K3 HR1 HK1
  go_wp2_with fail
  rw [rounds_succ]
  go_wp2_with fail
  go_region
  go_wp2_with fail
  have K4 : Kept (fun _ => False) w3 ((w3.alloc (.cells #[.pointer (some c), .pointer (some f)] 49)).drew) := ((Kept.refl _ w3).alloc _).drew
  have HR4 := Lib.hid (HR3.out.kept K4 id)
  have HK4 := Lib.hid (HK3.out.trans K4)
  clear K4 b3 x0 x1 l0 l1
  generalize (w3.alloc (.cells #[.pointer (some c), .pointer (some f)] 49)).drew = V4 at HR4 HK4 ⊢
  refine (HO.out V4 HK4.out).mono ?_
  rintro e w5 ⟨rfl, K5, _⟩
  have r := HR4.out.kept K5 id
  have HK5 := Lib.hid (HK4.out.trans K5)
  have b5 := (HB.out.kept HK5.out id).c
  have r0 := r.c0
  have r1 := r.c1
  have r2 := r.f0
  have r3 := r.f1
  have r4 := r.lt
  clear K5 r HR4 HK4
  go_wp2_with fail
  rw [rounds_succ]
  go_wp2_with fail
  exact bodyPost_ret (v := .tuple #[.agg #[.pointer none, .pointer none], .bool false]) (by simp [results, Tryz.results18, go_sem, r0, r1, r4]) rfl ⟨rfl, (HK5.out.setCell ⟨w.heap.size, 0, none⟩ (.inr (Nat.le_refl _)) _).setCell ⟨w.heap.size, 1, none⟩ (.inr (Nat.le_refl _)) _⟩

/-- What the caller's function is called with, through the two variables that the closure holds. -/
theorem build1 (b t K : Nat) (caps : Array Value) (hent : ∀ args w, (callFunc K args).run Tryz.prog w = .ok (.enter K args) w) (w : World) (Q : Ending → World → Prop)
    (B : Slot w b 0 (.func (.func K) #[] caps)) (T : Slot w t 0 (.pointer none)) (v : Int) (x : Value) (R : World → Prop)
    (hc : Calls Tryz.prog K (#[.pointer none] ++ caps) w (Ans v x R)) :
    Calls Tryz.prog 37 #[.pointer (some ⟨b, 0, none⟩), .pointer (some ⟨t, 0, none⟩)] w (Ans v x R) := by
  have b0 := B.c
  have t0 := T.c
  have HC := Lib.hid hc
  clear B T hc
  go_enter Tryz.func37, Tryz.ntmps37
  go_wp2_with fail
  refine HC.out.mono ?_
  rintro e w1 ⟨rfl, r⟩
  have HR := Lib.hid r
  clear r
  go_wp2_with fail
  go_ret2
  exact ⟨rfl, HR.out⟩

end Go.Proofs.YtailldgochoklaaGreatDoor

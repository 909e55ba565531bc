/-
  find.
-/
import Derived.Test.YtailldgochoklaaGreatDoorMemo5
namespace Go.Proofs.YtailldgochoklaaGreatDoor
open Go.RowKit

/-- What find leaves. -/
def MFound (c f : Addr) (b : Bool) (S : Nat → Prop) (T : World → Prop) (w : World) : Ending → World → Prop := fun e w' =>
  e = .returned (.tuple #[.agg #[.pointer (some c), .pointer (some f)], .bool b]) ∧ Kept S w w' ∧ T w'

theorem Tab64.kept {S : Nat → Prop} {w w' : World} (h : Tab64 w) (k : Kept S w w') (hS : ¬ S 1) (hz : 1 < w.heap.size) : Tab64 w' := fun i hi =>
  (k.cell (p := ⟨1, dbi i, none⟩) hz hS).trans (h i hi)

set_option maxRecDepth 100000 in
set_option maxHeartbeats 800000 in
theorem find_hit (n k p B : Nat) (hn : IsP n k) (hpn : p < n) (hn2 : n ≤ 2) (key : Int) (h0 : 0 ≤ key) (h1 : key < 9223372036854775807) (hp : plc key k = p) (S : Nat → Prop) (T : World → Prop) (c f : Addr) (w : World)
    (hS : ∀ c, S c → c < w.heap.size) (hT : ∀ a b, Kept (fun c => w.heap.size ≤ c) a b → T a → T b) (hz : 1 < w.heap.size)
    (ht : Tab64 w) (bx : Slot w (B + 1) 0 (.slice (some ⟨B, 0, none⟩) n n)) (s0 : Slot w B (p * 2) (.pointer (some c))) (s1 : Slot w B (p * 2 + 1) (.pointer (some f)))
    (hof : ∀ W, Kept (fun _ => False) w W → Calls Tryz.prog 31 #[.agg #[.pointer (some c), .pointer (some f)], .pointer none, .int .i64 key] W (Did true S T W)) :
    Calls Tryz.prog 18 #[.pointer (some ⟨B + 1, 0, none⟩), .pointer none, .int .i64 key] w (MFound c f true S T w) := by
  have HS := Lib.hid hS
  have HT := Lib.hid hT
  have HO := Lib.hid hof
  have HP := Lib.hid hp
  clear hS hT hof hp
  have cases : (n = 1 ∧ p = 0) ∨ (n = 2 ∧ p = 0) ∨ (n = 2 ∧ p = 1) := by omega
  rcases cases with ⟨rfl, rfl⟩ | ⟨rfl, rfl⟩ | ⟨rfl, rfl⟩
  all_goals
    have K0 : Kept (fun _ => False) w (w.alloc (.cells #[.pointer none, .pointer none] 49)) := (Kept.refl _ w).alloc _
    have b0 := (bx.kept K0 id).c
    have x0 := (s0.kept K0 id).c
    have x1 := (s1.kept K0 id).c
    simp only [Nat.reduceMul, Nat.reduceAdd] at x0 x1
    have l0 := (s0.kept K0 id).lt
    have l1 := (bx.kept K0 id).lt
    have HN := Lib.hid hn
    have HTb := Lib.hid (ht.kept K0 id hz)
    have HK := Lib.hid K0
    have R0 : Two (w.alloc (.cells #[.pointer none, .pointer none] 49)) w.heap.size (.pointer none) (.pointer none) := ⟨by go_simp, by go_simp, by go_simp, by go_simp, by simp⟩
    have HR := Lib.hid R0
    clear bx s0 s1 ht hn K0 R0
    go_enter Tryz.func18, Tryz.ntmps18
    go_wp2_with fail
    generalize w.alloc (.cells #[.pointer none, .pointer none] 49) = W at b0 x0 x1 l0 l1 HTb HK HR ⊢
    refine (place_yes key _ k (by exact HN.out) h0 (by omega) _ HTb.out).mono ?_
    rw [HP.out]
    rintro e w' ⟨rfl, rfl⟩
    go_wp2_with fail
    refine wp_loop_rounds 1 ?_
    rw [rounds_succ]
    go_wp2_with fail
    go_region
    go_wp2_with fail
    have K1 : Kept (fun _ => False) W ((W.alloc (.cells #[.pointer (some c), .pointer (some f)] 49)).drew) := ((Kept.refl _ W).alloc _).drew
    have Q1 : Two ((W.alloc (.cells #[.pointer (some c), .pointer (some f)] 49)).drew) W.heap.size (.pointer (some c)) (.pointer (some f)) := ⟨by go_simp, by go_simp, by go_simp, by go_simp, by simp⟩
    have HR1 := Lib.hid (HR.out.kept K1 id)
    have HK1 := Lib.hid (HK.out.trans K1)
    have HQ1 := Lib.hid Q1
    have lR := HR.out.lt
    clear K1 Q1 b0 x0 x1 l0 l1
    generalize (W.alloc (.cells #[.pointer (some c), .pointer (some f)] 49)).drew = V at HR1 HK1 HQ1 ⊢
    refine (HO.out V HK1.out).mono ?_
    rintro e w3 ⟨rfl, K3, T3⟩
    have q := HQ1.out.kept K3 (fun h => by have := HS.out _ h; omega)
    have r := HR1.out.kept K3 (fun h => by have := HS.out _ h; omega)
    have ne : w.heap.size ≠ W.heap.size := by omega
    have q0 := q.c0
    have q1 := q.c1
    have r0 := r.c0
    have r1 := r.c1
    have r2 := r.f0
    have r3 := r.f1
    have r4 := r.lt
    have K4 : Kept S w ((w3.setCell ⟨w.heap.size, 0, none⟩ (.pointer (some c))).setCell ⟨w.heap.size, 1, none⟩ (.pointer (some f))) :=
      (((HK1.out.mono fun _ _ h => h.elim).trans K3).setCell ⟨w.heap.size, 0, none⟩ (.inr (Nat.le_refl _)) _).setCell ⟨w.heap.size, 1, none⟩ (.inr (Nat.le_refl _)) _
    have K5 : Kept (fun c => w.heap.size ≤ c) w3 ((w3.setCell ⟨w.heap.size, 0, none⟩ (.pointer (some c))).setCell ⟨w.heap.size, 1, none⟩ (.pointer (some f))) :=
      ((Kept.refl (fun c => w.heap.size ≤ c) w3).setCell ⟨w.heap.size, 0, none⟩ (.inl (Nat.le_refl _)) _).setCell ⟨w.heap.size, 1, none⟩ (.inl (Nat.le_refl _)) _
    have HK4 := Lib.hid K4
    have HT4 := Lib.hid (HT.out _ _ K5 T3)
    clear K3 T3 K4 K5 q r
    go_wp2_with fail
    exact bodyPost_ret (v := .tuple #[.agg #[.pointer (some c), .pointer (some f)], .bool true]) (by simp [results, Tryz.results18, go_sem, r0, r1, r4]) rfl ⟨rfl, HK4.out, HT4.out⟩

end Go.Proofs.YtailldgochoklaaGreatDoor

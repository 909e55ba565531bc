/-
  Take.
-/
import Derived.Test.YthkakojkffgmbaaPrio6
namespace Go.Proofs.Ythkakojkffgmbaa
open Go.RowKit

theorem slotOf {w : World} {b i : Nat} {cs : Array Value} {t : TypeId} {v : Value} (h : w.heap[b]? = some (.cells cs t)) (hv : cs[i]? = some v) : Slot w b i v := by
  have hlt : b < w.heap.size := (Array.getElem?_eq_some_iff.1 h).1
  have hi : i < cs.size := (Array.getElem?_eq_some_iff.1 hv).1
  refine ⟨?_, ?_, hlt⟩
  · simp [World.cell?, h, hv]
  · simp [World.frozen?, h, hi]

/-- What a Take begins with. -/
def zeros : Array Value := #[.int .i64 0, .int .i64 0, .int .i64 0, .int .i64 0, .int .i64 0, .int .i64 0, .int .i64 0, .int .i64 0, .int .i64 0, .int .i64 0, .int .i64 0, .int .i64 0, .int .i64 0, .int .i64 0, .int .i64 0, .int .i64 0, .nilFunc, .nilFunc, .nilFunc, .nilFunc, .nilFunc, .nilFunc, .nilFunc, .nilFunc]

theorem fnd_zero (w : World) (B L R : Nat) (S : Nat → LS) : Fnd (w.alloc (.cells zeros 52)) w.heap.size B L R L S := by
  have sl : ∀ (i : Nat) (v : Value), zeros[i]? = some v → Slot (w.alloc (.cells zeros 52)) w.heap.size i v := fun i v hv => slotOf (block_last _ _ _ rfl) hv
  refine ⟨fun n h1 h2 => by omega, fun n hn _ => ?_⟩
  have : n = 0 ∨ n = 1 ∨ n = 2 ∨ n = 3 ∨ n = 4 ∨ n = 5 ∨ n = 6 ∨ n = 7 := by omega
  rcases this with rfl | rfl | rfl | rfl | rfl | rfl | rfl | rfl <;> exact ⟨sl _ _ rfl, sl _ _ rfl, sl _ _ rfl⟩

set_option maxRecDepth 100000 in
set_option maxHeartbeats 800000 in
theorem take_some {w : World} {lo hi P bk B L R m : Nat} {id : Nat → Ids} {k : Int} {S : Nat → LS} (h : Prs w lo hi P bk B L R id k S) (hR : Pw R) (hL : L ≤ 8) (hhi : hi ≤ w.heap.size)
    (hb : ∀ n, n < L → (S n).b < 4611686018427387904) (hk : ∀ n, n < L → ∀ i, 0 ≤ (S n).ti i ∧ (S n).ti i < 1000000) (hm : Best L R S m) :
    Calls Try.prog 8 #[.pointer (some ⟨P, 0, none⟩), .pointer none] w fun e w' => e = .returned (.tuple #[.int .i64 ((S m).sl ((S m).b % R)), .int .i64 m, .bool true]) ∧
      Prs w' lo hi P bk B L R id k (put S m { S m with b := (S m).b + 1, tu := put (S m).tu ((S m).b % R) ((S m).b + R) }) ∧ Kept (Owns lo hi) w w' := by
  have h0 := h.h0.c
  have H := Lib.hid h
  have HM := Lib.hid hm
  have hmL := hm.lt
  have hmb := hb m hm.lt
  clear h hm
  have i1 : (m : Int) < 8 := by omega
  have i2 : (0 : Int) ≤ (m : Int) := by omega
  have i3 : (m : Int) < L := by omega
  have HZ := Lib.hid (fnd_zero w B L R S)
  have HA : Hid (Kept (fun _ => False) w (w.alloc (.cells zeros 52))) := (Kept.refl _ _).alloc _
  have HP := Lib.hid (H.out.kept HA.out (fun _ _ _ e => e))
  go_enter Try.func8, Try.ntmps8
  go_wp2_with fail
  refine (pnone_no P bk w h0).mono ?_
  rintro e w' ⟨rfl, rfl⟩
  go_wp2_with fail
  refine wp_loop_rounds 1 ?_
  rw [rounds_succ]
  go_wp2_with fail
  refine (look_any HP.out hR hL (.inl hhi) hb hk HZ.out).mono ?_
  rintro e W ⟨rfl, PW, FW, KW⟩
  have XP := Lib.hid PW
  have XF := Lib.hid FW
  have XK := Lib.hid (HA.out.far KW (by rintro i rfl; exact Nat.le_refl _))
  clear PW FW KW HZ HA HP
  go_wp2_with fail
  refine (best_some hL XF.out HM.out).mono ?_
  rintro e W2 ⟨rfl, K2⟩
  have YP := Lib.hid (XP.out.kept K2 (fun _ _ _ e => e))
  have YF := Lib.hid (XF.out.kept K2 (fun e => e))
  have YK := Lib.hid (XK.out.trans K2)
  clear XP XF XK K2
  obtain ⟨_, T1, T2⟩ := YF.out.on m (Nat.zero_le _) hmL HM.out.full
  have c1 := T1.c
  have c2 := T2.c
  clear T1 T2
  go_wp2_with fail
  go_region
  have YD : Kept (fun _ => False) W2 W2.drew := (Kept.refl _ _).drew
  have ZP := Lib.hid (YP.out.kept YD (fun _ _ _ e => e))
  have ZK := Lib.hid (YK.out.trans YD)
  clear YD YP YF YK c1 c2
  go_wp2_with fail
  have LV := ZP.out.lv m hmL
  have u := ZP.out.up m hmL
  have hB : B < (id m).lo ∨ (id m).hi ≤ B := .inl u.2.2.1
  refine (claim_out LV hmb).mono ?_
  rintro e W3 ⟨rfl, hw⟩
  have L3 := LV.setB hB ((S m).b + 1)
  have K3 : Kept (Own (id m)) W2.drew W3 := by
    rw [hw]
    have o := LV.ok
    exact (Kept.refl _ _).setCell ⟨(id m).bo, 0, none⟩ (.inl ⟨o.o0, by have := o.o1; have := o.h; show (id m).bo < (id m).hi; omega⟩) _
  have e3 : (((S m).b + 1 : Nat) : Int) = ((S m).b : Int) + 1 := by omega
  rw [e3, ← hw] at L3
  have P3 := ZP.out.level m hmL _ L3 K3
  have V3 := Lib.hid P3
  have H3 := Lib.hid (ZK.out.mono (fun b _ e => False.elim e) |>.trans (K3.mono (fun b _ => ZP.out.own m hmL b)))
  have g1 := P3.h1.c
  clear LV u L3 K3 P3 hw e3 ZP ZK
  go_wp2_with fail
  have LV := V3.out.lv m hmL
  rw [put_same] at LV
  refine (give_any LV hB hR (S m).b hmb).mono ?_
  rintro e W4 ⟨rfl, L4, K4⟩
  have P4 := V3.out.level m hmL _ L4 K4
  go_wp2_with fail
  go_ret3
  refine ⟨rfl, ?_, ?_⟩
  · have e : put (put S m { S m with b := (S m).b + 1 }) m { S m with b := (S m).b + 1, tu := put (S m).tu ((S m).b % R) ((S m).b + R) } = put S m { S m with b := (S m).b + 1, tu := put (S m).tu ((S m).b % R) ((S m).b + R) } := by
      funext i; unfold put; split <;> rfl
    rw [← e]
    exact P4
  · exact H3.out.trans (K4.mono (fun b _ => V3.out.own m hmL b))

set_option maxRecDepth 100000 in
set_option maxHeartbeats 800000 in
theorem take_none {w : World} {lo hi P bk B L R : Nat} {id : Nat → Ids} {k : Int} {S : Nat → LS} (h : Prs w lo hi P bk B L R id k S) (hR : Pw R) (hL : L ≤ 8) (hhi : hi ≤ w.heap.size)
    (hb : ∀ n, n < L → (S n).b < 4611686018427387904) (hk : ∀ n, n < L → ∀ i, 0 ≤ (S n).ti i ∧ (S n).ti i < 1000000) (hm : ∀ n, n < L → ¬ Full R (S n)) :
    Calls Try.prog 8 #[.pointer (some ⟨P, 0, none⟩), .pointer none] w fun e w' => e = .returned (.tuple #[.int .i64 0, .int .i64 0, .bool false]) ∧ Kept (fun _ => False) w w' := by
  have h0 := h.h0.c
  have H := Lib.hid h
  have HM := Lib.hid hm
  clear h hm
  have HZ := Lib.hid (fnd_zero w B L R S)
  have HA : Hid (Kept (fun _ => False) w (w.alloc (.cells zeros 52))) := (Kept.refl _ _).alloc _
  have HP := Lib.hid (H.out.kept HA.out (fun _ _ _ e => e))
  go_enter Try.func8, Try.ntmps8
  go_wp2_with fail
  refine (pnone_no P bk w h0).mono ?_
  rintro e w' ⟨rfl, rfl⟩
  go_wp2_with fail
  refine wp_loop_rounds 1 ?_
  rw [rounds_succ]
  go_wp2_with fail
  refine (look_any HP.out hR hL (.inl hhi) hb hk HZ.out).mono ?_
  rintro e W ⟨rfl, PW, FW, KW⟩
  have XF := Lib.hid FW
  have XK := Lib.hid (HA.out.far KW (by rintro i rfl; exact Nat.le_refl _))
  clear PW FW KW HZ HA HP
  go_wp2_with fail
  refine (best_none XF.out HM.out).mono ?_
  rintro e W2 ⟨rfl, K2⟩
  have YK := Lib.hid (XK.out.trans K2)
  clear XF XK K2
  go_wp2_with fail
  go_ret3
  exact ⟨rfl, YK.out⟩

end Go.Proofs.Ythkakojkffgmbaa

/-
  works().
-/
import Derived.Test.YtailldgochoklaaGreatDoorMemo12
import Derived.Test.YtailldgochoklaaGreatDoorFlt6
import Derived.LaidEql
namespace Go.Proofs.YtailldgochoklaaGreatDoor
open Go.RowKit

/-- A call that answers b, and leaves all as it was. -/
def Says (b : Bool) (w : World) : Ending → World → Prop := fun e w' => e = .returned (.bool b) ∧ Kept (fun _ => False) w w'

theorem failedComp : (Tryz.prog.info? 61).map (·.comparable) = some true := by kernel_rfl
theorem failedSize : (Tryz.prog.info? 63).map (·.size) = some 1 := by kernel_rfl
theorem failed_same (a : Addr) (w : World) : (binOp .eql 31 (.iface 61 (.pointer (some a))) (.iface 61 (.pointer (some a)))).run Tryz.prog w = .ok (.bool true) w := by
  obtain ⟨i, hi, hcmp⟩ := Option.map_eq_some_iff.1 failedComp
  obtain ⟨j, hj, _⟩ := Option.map_eq_some_iff.1 failedSize
  exact run_eql_iface_ptr_same (P := Tryz.prog) w a Tryz.underlying31 Tryz.underlying61 hi hcmp hj

theorem isP1 : IsP 1 0 := ⟨by omega, rfl⟩
theorem isP2 : IsP 2 1 := ⟨by omega, rfl⟩

theorem new_two (w : World) : Calls Tryz.prog 6 #[.int .i64 2] w (NewPost w 2) := new_yes 2 (powB_of isP2) (by omega) (by omega) w
theorem new_one (w : World) : Calls Tryz.prog 6 #[.int .i64 1] w (NewPost w 1) := new_yes 1 (powB_of isP1) (by omega) (by omega) w

theorem wget_new' (B mv bv k p : Nat) (c key v s : Int) (x : Value) (hx : (x = .nilIface ∧ s = 2 ∧ v = 10 * key) ∨ (∃ u y, x = .iface u y ∧ s = 3 ∧ v = 0)) (hn : IsP 2 k) (hpn : p < 2) (hc : 0 ≤ c ∧ c ≤ 100) (hk : 0 ≤ key ∧ key ≤ 100) (hp : plc key k = p) (w : World)
    (X : Wk w B mv bv c) (P : Plc w B p 0 0 0 .nilIface 0) :
    Calls Tryz.prog 25 #[.int .i64 key, x, .pointer (some ⟨mv, 0, none⟩), .pointer (some ⟨bv, 0, none⟩)] w (WGot B mv bv p c key v s x w) := by
  have ea : (#[.int .i64 key, x] ++ #[.pointer (some ⟨mv, 0, none⟩), .pointer (some ⟨bv, 0, none⟩)] : Array Value) = #[.int .i64 key, x, .pointer (some ⟨mv, 0, none⟩), .pointer (some ⟨bv, 0, none⟩)] := by simp
  rw [← ea]
  exact wget_new B mv bv k p c key v s x hx hn hpn hc hk hp w X P

theorem wget_again' (B mv bv p : Nat) (c key v s hd : Int) (x : Value) (hs : 2 ≤ s) (hpn : p < 2) (hk : 0 ≤ key ∧ key ≤ 100) (hp : plc key 1 = p) (w : World) (X : Wk w B mv bv c) (P : Plc w B p (key + 1) s v x hd) :
    Calls Tryz.prog 25 #[.int .i64 key, .nilIface, .pointer (some ⟨mv, 0, none⟩), .pointer (some ⟨bv, 0, none⟩)] w (WAsk v x w) := by
  have ea : (#[.int .i64 key, .nilIface] ++ #[.pointer (some ⟨mv, 0, none⟩), .pointer (some ⟨bv, 0, none⟩)] : Array Value) = #[.int .i64 key, .nilIface, .pointer (some ⟨mv, 0, none⟩), .pointer (some ⟨bv, 0, none⟩)] := by simp
  rw [← ea]
  have h1 := X.hb
  have h2 := X.b.lt
  have h3 := X.hB
  refine wget_ask B mv bv c key v x w X fun W caps k => ?_
  have sz := k.size
  exact get_again B 2 1 p 26 caps isP2 hpn (Nat.le_refl _) key v s hd x hs hk.1 (by omega) hp W (by omega) (by omega) (X.tab.kept k id (by omega)) (X.bx.kept k id) (P.kept k id (fun _ _ _ => id))

theorem wget_full' (B mv bv : Nat) (c key v0 v1 s0 s1 a0 a1 hd0 hd1 : Int) (x0 x1 : Value) (hk : 0 ≤ key ∧ key ≤ 100) (hp : plc key 1 = 1) (w : World) (X : Wk w B mv bv c) (P0 : Plc w B 0 v0 s0 a0 x0 hd0) (P1 : Plc w B 1 v1 s1 a1 x1 hd1)
    (n0 : v0 ≠ 0 ∧ v0 ≠ key + 1) (n1 : v1 ≠ 0 ∧ v1 ≠ key + 1) :
    Calls Tryz.prog 25 #[.int .i64 key, .nilIface, .pointer (some ⟨mv, 0, none⟩), .pointer (some ⟨bv, 0, none⟩)] w (WAsk 0 (.iface 35 (.int .i64 12)) w) := by
  have ea : (#[.int .i64 key, .nilIface] ++ #[.pointer (some ⟨mv, 0, none⟩), .pointer (some ⟨bv, 0, none⟩)] : Array Value) = #[.int .i64 key, .nilIface, .pointer (some ⟨mv, 0, none⟩), .pointer (some ⟨bv, 0, none⟩)] := by simp
  rw [← ea]
  have h1 := X.hb
  have h2 := X.b.lt
  have h3 := X.hB
  refine wget_ask B mv bv c key 0 (.iface 35 (.int .i64 12)) w X fun W caps k => ?_
  have sz := k.size
  exact get_full B 1 26 caps isP2 key v0 v1 s0 s1 a0 a1 hd0 hd1 x0 x1 hk.1 (by omega) hp W (by omega) (X.tab.kept k id (by omega)) (X.bx.kept k id) (P0.kept k id (fun _ _ _ => id)) (P1.kept k id (fun _ _ _ => id)) n0 n1

set_option maxRecDepth 100000 in
set_option maxHeartbeats 4000000 in
theorem works_is (w : World) (hg : ErrorType w) (ht : Tab64 w) (hz : 2 < w.heap.size) : Calls Tryz.prog 12 #[] w (Says true w) := by
  have h25 := enters_of Tryz.func25 (by kernel_rfl) rfl
  have H25 := Lib.hid h25
  have hmf : ∀ (fn : Fn) (first cap : Array Value) (w : World), (Instr.makeFunc fn first cap).run Tryz.prog w = .ok (.func fn first cap) w := fun _ _ _ _ => rfl
  have HG := Lib.hid hg
  have HT := Lib.hid ht
  clear h25 hg ht
  go_enter Tryz.func12, Tryz.ntmps12
  go_wp2_with fail
  refine (new_two w).mono ?_
  rintro e w1 ⟨rfl, N⟩
  have HN := Lib.hid N
  clear N
  go_wp2_with fail
  have s1 := HN.out.size
  have HA : Hid (Kept (fun _ => False) w1 ((w1.alloc (.cells #[.pointer (some ⟨w.heap.size + 1, 0, none⟩)] 23)).alloc (.cells #[.int .i64 0] 3))) := ((Kept.refl _ w1).alloc _).alloc _
  have M0 : Slot ((w1.alloc (.cells #[.pointer (some ⟨w.heap.size + 1, 0, none⟩)] 23)).alloc (.cells #[.int .i64 0] 3)) w1.heap.size 0 (.pointer (some ⟨w.heap.size + 1, 0, none⟩)) := ⟨by go_simp, by go_simp, by simp; omega⟩
  have B0 : Slot ((w1.alloc (.cells #[.pointer (some ⟨w.heap.size + 1, 0, none⟩)] 23)).alloc (.cells #[.int .i64 0] 3)) (w1.heap.size + 1) 0 (.int .i64 0) := ⟨by go_simp, by go_simp, by simp⟩
  have HM0 := Lib.hid M0
  have HB0 := Lib.hid B0
  have S1 := Lib.hid s1
  clear M0 B0 s1
  have A1 := HN.out.kept
  have g1 := HN.out.done 0 (by omega)
  have g2 := HN.out.done 1 (by omega)
  have l1 := A1.size
  have W2 : Wk ((w1.alloc (.cells #[.pointer (some ⟨w.heap.size + 1, 0, none⟩)] 23)).alloc (.cells #[.int .i64 0] 3)) w.heap.size w1.heap.size (w1.heap.size + 1) 0 :=
    ⟨hz, by have := S1.out; omega, by have := S1.out; omega, by omega, (HT.out.kept A1 id (by omega)).kept HA.out id (by omega), HN.out.box.kept HA.out id, HM0.out, HB0.out⟩
  have HW := Lib.hid W2
  have HP0 := Lib.hid (g1.kept HA.out id (fun _ _ _ => id))
  have HP1 := Lib.hid (g2.kept HA.out id (fun _ _ _ => id))
  have HK := Lib.hid (A1.trans HA.out)
  have lw : Hid (w.heap.size ≤ w1.heap.size) := l1
  clear A1 g1 g2 l1 W2 HA HM0 HB0 HN
  generalize (w1.alloc (.cells #[.pointer (some ⟨w.heap.size + 1, 0, none⟩)] 23)).alloc (.cells #[.int .i64 0] 3) = w2 at HW HP0 HP1 HK ⊢
  refine (wget_new' w.heap.size w1.heap.size (w1.heap.size + 1) 1 1 0 1 10 2 .nilIface (.inl ⟨rfl, rfl, rfl⟩) isP2 (by omega) (by omega) (by omega) (by decide +kernel) w2 HW.out HP1.out).mono ?_
  rintro e w3 ⟨rfl, P3, W3, K3⟩
  have HW3 := Lib.hid W3
  have HP13 := Lib.hid P3
  have HP03 := Lib.hid (HP0.out.kept K3 (by have := S1.out; omega) (fun c h1 h2 => by have := S1.out; omega))
  have HK3 := Lib.hid (HK.out.far K3 (by have := S1.out; rintro i (⟨h1, h2⟩ | rfl) <;> omega))
  clear P3 W3 K3 HW HP0 HP1 HK
  go_wp2_with fail
  refine (wget_again' w.heap.size w1.heap.size (w1.heap.size + 1) 1 _ 1 10 2 (-1) .nilIface (by omega) (by omega) (by omega) (by decide +kernel) w3 HW3.out HP13.out).mono ?_
  rintro e w4 ⟨rfl, K4⟩
  have HW4 := Lib.hid (HW3.out.kept K4 id id id id)
  have HP14 := Lib.hid (HP13.out.kept K4 id (fun _ _ _ => id))
  have HP04 := Lib.hid (HP03.out.kept K4 id (fun _ _ _ => id))
  have HK4 := Lib.hid (HK3.out.trans K4)
  clear K4 HW3 HP13 HP03 HK3
  go_wp2_with fail
  have HA5 : Hid (Kept (fun _ => False) w4 (w4.alloc (.cells #[.int .i64 7] 63))) := (Kept.refl _ w4).alloc _
  have HW5 := Lib.hid (HW4.out.kept HA5.out id id id id)
  have HP15 := Lib.hid (HP14.out.kept HA5.out id (fun _ _ _ => id))
  have HP05 := Lib.hid (HP04.out.kept HA5.out id (fun _ _ _ => id))
  have HK5 := Lib.hid (HK4.out.trans HA5.out)
  clear HA5 HW4 HP14 HP04 HK4
  generalize w4.alloc (.cells #[.int .i64 7] 63) = w5 at HW5 HP15 HP05 HK5 ⊢
  refine (wget_new' w.heap.size w1.heap.size (w1.heap.size + 1) 1 0 _ 2 0 3 (.iface 61 (.pointer (some ⟨w4.heap.size, 0, none⟩))) (.inr ⟨_, _, rfl, rfl, rfl⟩) isP2 (by omega) (by omega) (by omega) (by decide +kernel) w5 HW5.out HP05.out).mono ?_
  rintro e w6 ⟨rfl, P6, W6, K6⟩
  have HW6 := Lib.hid W6
  have HP06 := Lib.hid P6
  have HP16 := Lib.hid (HP15.out.kept K6 (by have := S1.out; omega) (fun c h1 h2 => by have := S1.out; omega))
  have HK6 := Lib.hid (HK5.out.far K6 (by have := S1.out; rintro i (⟨h1, h2⟩ | rfl) <;> omega))
  clear P6 W6 K6 HW5 HP05 HP15 HK5
  go_wp2_with fail
  refine (wget_again' w.heap.size w1.heap.size (w1.heap.size + 1) 0 _ 2 0 3 (-1) (.iface 61 (.pointer (some ⟨w4.heap.size, 0, none⟩))) (by omega) (by omega) (by omega) (by decide +kernel) w6 HW6.out HP06.out).mono ?_
  rintro e w7 ⟨rfl, K7⟩
  have HW7 := Lib.hid (HW6.out.kept K7 id id id id)
  have HP17 := Lib.hid (HP16.out.kept K7 id (fun _ _ _ => id))
  have HP07 := Lib.hid (HP06.out.kept K7 id (fun _ _ _ => id))
  have HK7 := Lib.hid (HK6.out.trans K7)
  clear K7 HW6 HP16 HP06 HK6
  go_wp2_with fail
  refine (wget_full' w.heap.size w1.heap.size (w1.heap.size + 1) _ 3 _ _ _ _ _ _ _ _ _ _ (by omega) (by decide +kernel) w7 HW7.out HP07.out HP17.out (by omega) (by omega)).mono ?_
  rintro e w8 ⟨rfl, K8⟩
  have HW8 := Lib.hid (HW7.out.kept K8 id id id id)
  have HP18 := Lib.hid (HP17.out.kept K8 id (fun _ _ _ => id))
  have HP08 := Lib.hid (HP07.out.kept K8 id (fun _ _ _ => id))
  have HK8 := Lib.hid (HK7.out.trans K8)
  clear K8 HW7 HP17 HP07 HK7
  have hsame := failed_same ⟨w4.heap.size, 0, none⟩
  have HSA := Lib.hid hsame
  clear hsame
  go_wp2_with fail
  refine (class_failed _ _ (HG.out.kept HK8.out id)).mono ?_
  rintro r w9 ⟨rfl, K9⟩
  have HW9 := Lib.hid (HW8.out.kept K9 id id id id)
  have HP19 := Lib.hid (HP18.out.kept K9 id (fun _ _ _ => id))
  have HP09 := Lib.hid (HP08.out.kept K9 id (fun _ _ _ => id))
  have HK9 := Lib.hid (HK8.out.trans K9)
  have hsame := HSA.out
  clear K9 HW8 HP18 HP08 HK8
  go_wp2_with fail
  clear hsame
  refine (class_num 12 _ (HG.out.kept HK9.out id)).mono ?_
  rintro r w10 ⟨rfl, K10⟩
  have HX10 := Lib.hid ((HW9.out.kept K10 id id id id).bx)
  have m10 := (HW9.out.kept K10 id id id id).m.c
  have b10 := (HW9.out.kept K10 id id id id).b.c
  have HP110 := Lib.hid (HP19.out.kept K10 id (fun _ _ _ => id))
  have HP010 := Lib.hid (HP09.out.kept K10 id (fun _ _ _ => id))
  have HK10 := Lib.hid (HK9.out.trans K10)
  clear K10 HW9 HP19 HP09 HK9
  go_wp2_with fail
  refine (keys_two w.heap.size _ _ _ _ _ _ _ _ _ _ (by omega) (by omega) _ HX10.out HP010.out HP110.out).mono ?_
  rintro r w11 ⟨g, cap, rfl, K11⟩
  have HK11 := Lib.hid (HK10.out.trans K11)
  clear K11
  go_wp2_with fail
  go_ret
  exact ⟨rfl, HK11.out⟩

end Go.Proofs.YtailldgochoklaaGreatDoor

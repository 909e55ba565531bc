/-
  What works() calls: a Get of its memo of two places.
-/
import Derived.Test.YtailldgochoklaaGreatDoorMemo11
namespace Go.Proofs.YtailldgochoklaaGreatDoor
open Go.RowKit

/-- The memo of works(), its variable, the count of its builds. -/
structure Wk (w : World) (B mv bv : Nat) (c : Int) : Prop where
  hB : 2 < B
  hm : B + 16 ≤ mv
  hb : B + 16 ≤ bv
  ne : mv ≠ bv
  tab : Tab64 w
  bx : Slot w (B + 1) 0 (.slice (some ⟨B, 0, none⟩) 2 2)
  m : Slot w mv 0 (.pointer (some ⟨B + 1, 0, none⟩))
  b : Slot w bv 0 (.int .i64 c)

theorem Wk.kept {S : Nat → Prop} {w w' : World} {B mv bv : Nat} {c : Int} (X : Wk w B mv bv c) (k : Kept S w w') (h1 : ¬ S 1) (h2 : ¬ S (B + 1)) (h3 : ¬ S mv) (h4 : ¬ S bv) : Wk w' B mv bv c :=
  ⟨X.hB, X.hm, X.hb, X.ne, X.tab.kept k h1 (by have := X.bx.lt; have := X.hB; omega), X.bx.kept k h2, X.m.kept k h3, X.b.kept k h4⟩

/-- What a Get leaves that has built. -/
def WGot (B mv bv p : Nat) (c key v s : Int) (x : Value) (w : World) : Ending → World → Prop := fun e w' =>
  e = .returned (.tuple #[.int .i64 v, x, .bool true]) ∧ Plc w' B p (key + 1) s v x (-1) ∧ Wk w' B mv bv (c + 1) ∧ Kept (fun i => (B + 2 + 7 * p ≤ i ∧ i < B + 9 + 7 * p) ∨ i = bv) w w'

set_option maxRecDepth 100000 in
set_option maxHeartbeats 1600000 in
theorem wget_new (B mv bv k p : Nat) (c key v s : Int) (x : Value) (hx : (x = .nilIface ∧ s = 2 ∧ v = 10 * key) ∨ (∃ u y, x = .iface u y ∧ s = 3 ∧ v = 0)) (hn : IsP 2 k) (hpn : p < 2) (hc : 0 ≤ c ∧ c ≤ 100) (hk : 0 ≤ key ∧ key ≤ 100) (hp : plc key k = p) (w : World)
    (X : Wk w B mv bv c) (P : Plc w B p 0 0 0 .nilIface 0) :
    Calls Tryz.prog 25 (#[.int .i64 key, x] ++ #[.pointer (some ⟨mv, 0, none⟩), .pointer (some ⟨bv, 0, none⟩)]) w (WGot B mv bv p c key v s x w) := by
  have hmf : ∀ (fn : Fn) (first cap : Array Value) (w : World), (Instr.makeFunc fn first cap).run Tryz.prog w = .ok (.func fn first cap) w := fun _ _ _ _ => rfl
  have hent := enters_of Tryz.func26 (by kernel_rfl) rfl
  have HEN := Lib.hid hent
  have HN := Lib.hid hn
  have HP := Lib.hid P
  have HX := Lib.hid X
  have HPP := Lib.hid hp
  clear hent hn P X hp
  rcases hx with ⟨rfl, rfl, rfl⟩ | ⟨u, y, rfl, rfl, rfl⟩
  · have ea : (#[.int .i64 key, .nilIface] ++ #[.pointer (some ⟨mv, 0, none⟩), .pointer (some ⟨bv, 0, none⟩)] : Array Value) = #[.int .i64 key, .nilIface, .pointer (some ⟨mv, 0, none⟩), .pointer (some ⟨bv, 0, none⟩)] := by simp
    rw [ea]
    clear ea
    have K0 : Kept (fun _ => False) w ((w.alloc (.cells #[.int .i64 key] 2)).alloc (.cells #[.nilIface] 31)) := ((Kept.refl _ w).alloc _).alloc _
    have E0 : Slot ((w.alloc (.cells #[.int .i64 key] 2)).alloc (.cells #[.nilIface] 31)) w.heap.size 0 (.int .i64 key) := ⟨by go_simp, by go_simp, by simp; omega⟩
    have E1 : Slot ((w.alloc (.cells #[.int .i64 key] 2)).alloc (.cells #[.nilIface] 31)) (w.heap.size + 1) 0 .nilIface := ⟨by go_simp, by go_simp, by simp⟩
    have HK := Lib.hid K0
    have HE0 := Lib.hid E0
    have HE1 := Lib.hid E1
    have m0 := (HX.out.m.kept K0 id).c
    have e0 := E0.c
    clear K0 E0 E1
    go_enter Tryz.func25, Tryz.ntmps25
    go_wp2_with fail
    generalize (w.alloc (.cells #[.int .i64 key] 2)).alloc (.cells #[.nilIface] 31) = W at HK HE0 HE1 m0 e0 ⊢
    have XW := HX.out.kept HK.out id id id id
    have lw := HX.out.b.lt
    have lW := HK.out.size
    refine (get_new B 2 k p 26 _ HN.out hpn (Nat.le_refl _) key (10 * key) 2 .nilIface hk.1 (by omega) HPP.out (fun i => i = bv) (fun Y => Slot Y bv 0 (.int .i64 (c + 1))) W
      (by rintro i rfl; exact ⟨XW.b.lt, by have := XW.hb; omega⟩) (fun a b kk C => C.kept kk (by have := XW.hb; omega)) (by have := XW.bx.lt; have := XW.hB; omega) (by have := XW.hB; omega) (by have := XW.hb; omega)
      XW.tab XW.bx (HP.out.kept HK.out id (fun _ _ _ => id)) (fun W1 K1 => builds_ok 26 _ HEN.out key (10 * key) _ _ W1 (by rintro i rfl; exact Nat.lt_of_lt_of_le XW.b.lt K1.size) (fun a b kk C => C.kept kk (by have := K1.size; omega))
        fun W2 K2 => w11_is bv w.heap.size (w.heap.size + 1) c key .nilIface hc hk W2 ((XW.b.kept K1 (by have := XW.hb; omega)).kept K2 id)
          ((HE0.out.kept K1 (by have := XW.hb; omega)).kept K2 id) ((HE1.out.kept K1 (by have := XW.hb; omega)).kept K2 id) (by omega) (by omega))
      (fun l h q b W1 F1 P1 nb => ffill_ok (10 * key) W1 F1 P1 nb)).mono ?_
    rintro e w3 ⟨rfl, P3, K3, B3⟩
    have HP3 := Lib.hid P3
    have HK3 := Lib.hid ((HK.out.mono (T := fun i => (B + 2 + 7 * p ≤ i ∧ i < B + 9 + 7 * p) ∨ i = bv) fun _ _ h => h.elim).trans K3)
    have HX3 : Hid (Wk w3 B mv bv (c + 1)) := ⟨XW.hB, XW.hm, XW.hb, XW.ne, XW.tab.kept K3 (by have := XW.hb; have := XW.hB; omega) (by have := XW.bx.lt; have := XW.hB; omega), XW.bx.kept K3 (by have := XW.hb; omega), XW.m.kept K3 (by have := XW.hm; have := XW.ne; omega), B3⟩
    clear P3 K3 B3 m0 e0 XW
    go_wp2_with fail
    exact bodyPost_ret (v := .tuple #[.int .i64 (10 * key), .nilIface, .bool true]) (by simp [results, Tryz.results25, go_sem]) rfl ⟨rfl, HP3.out, HX3.out, HK3.out⟩
  · have ea : (#[.int .i64 key, .iface u y] ++ #[.pointer (some ⟨mv, 0, none⟩), .pointer (some ⟨bv, 0, none⟩)] : Array Value) = #[.int .i64 key, .iface u y, .pointer (some ⟨mv, 0, none⟩), .pointer (some ⟨bv, 0, none⟩)] := by simp
    rw [ea]
    clear ea
    have K0 : Kept (fun _ => False) w ((w.alloc (.cells #[.int .i64 key] 2)).alloc (.cells #[.iface u y] 31)) := ((Kept.refl _ w).alloc _).alloc _
    have E0 : Slot ((w.alloc (.cells #[.int .i64 key] 2)).alloc (.cells #[.iface u y] 31)) w.heap.size 0 (.int .i64 key) := ⟨by go_simp, by go_simp, by simp; omega⟩
    have E1 : Slot ((w.alloc (.cells #[.int .i64 key] 2)).alloc (.cells #[.iface u y] 31)) (w.heap.size + 1) 0 (.iface u y) := ⟨by go_simp, by go_simp, by simp⟩
    have HK := Lib.hid K0
    have HE0 := Lib.hid E0
    have HE1 := Lib.hid E1
    have m0 := (HX.out.m.kept K0 id).c
    have e0 := E0.c
    clear K0 E0 E1
    go_enter Tryz.func25, Tryz.ntmps25
    go_wp2_with fail
    generalize (w.alloc (.cells #[.int .i64 key] 2)).alloc (.cells #[.iface u y] 31) = W at HK HE0 HE1 m0 e0 ⊢
    have XW := HX.out.kept HK.out id id id id
    have lw := HX.out.b.lt
    have lW := HK.out.size
    refine (get_new B 2 k p 26 _ HN.out hpn (Nat.le_refl _) key 0 3 (.iface u y) hk.1 (by omega) HPP.out (fun i => i = bv) (fun Y => Slot Y bv 0 (.int .i64 (c + 1))) W
      (by rintro i rfl; exact ⟨XW.b.lt, by have := XW.hb; omega⟩) (fun a b kk C => C.kept kk (by have := XW.hb; omega)) (by have := XW.bx.lt; have := XW.hB; omega) (by have := XW.hB; omega) (by have := XW.hb; omega)
      XW.tab XW.bx (HP.out.kept HK.out id (fun _ _ _ => id)) (fun W1 K1 => builds_err 26 _ HEN.out key (10 * key) u y _ _ W1 (by rintro i rfl; exact Nat.lt_of_lt_of_le XW.b.lt K1.size) (fun a b kk C => C.kept kk (by have := K1.size; omega))
        fun W2 K2 => w11_is bv w.heap.size (w.heap.size + 1) c key (.iface u y) hc hk W2 ((XW.b.kept K1 (by have := XW.hb; omega)).kept K2 id)
          ((HE0.out.kept K1 (by have := XW.hb; omega)).kept K2 id) ((HE1.out.kept K1 (by have := XW.hb; omega)).kept K2 id) (by omega) (by omega))
      (fun l h q b W1 F1 P1 nb => ffill_err 0 u y W1 F1 P1 nb)).mono ?_
    rintro e w3 ⟨rfl, P3, K3, B3⟩
    have HP3 := Lib.hid P3
    have HK3 := Lib.hid ((HK.out.mono (T := fun i => (B + 2 + 7 * p ≤ i ∧ i < B + 9 + 7 * p) ∨ i = bv) fun _ _ h => h.elim).trans K3)
    have HX3 : Hid (Wk w3 B mv bv (c + 1)) := ⟨XW.hB, XW.hm, XW.hb, XW.ne, XW.tab.kept K3 (by have := XW.hb; have := XW.hB; omega) (by have := XW.bx.lt; have := XW.hB; omega), XW.bx.kept K3 (by have := XW.hb; omega), XW.m.kept K3 (by have := XW.hm; have := XW.ne; omega), B3⟩
    clear P3 K3 B3 m0 e0 XW
    go_wp2_with fail
    exact bodyPost_ret (v := .tuple #[.int .i64 0, .iface u y, .bool true]) (by simp [results, Tryz.results25, go_sem]) rfl ⟨rfl, HP3.out, HX3.out, HK3.out⟩

/-- What a Get leaves that has not built. -/
def WAsk (v : Int) (x : Value) (w : World) : Ending → World → Prop := fun e w' => e = .returned (.tuple #[.int .i64 v, x, .bool false]) ∧ Kept (fun _ => False) w w'

set_option maxRecDepth 100000 in
set_option maxHeartbeats 1600000 in
theorem wget_ask (B mv bv : Nat) (c key v : Int) (x : Value) (w : World) (X : Wk w B mv bv c)
    (hg : ∀ W caps, Kept (fun _ => False) w W → Calls Tryz.prog 9 #[.pointer (some ⟨B + 1, 0, none⟩), .pointer none, .int .i64 key, .func (.func 26) #[] caps] W (WAsk v x W)) :
    Calls Tryz.prog 25 (#[.int .i64 key, .nilIface] ++ #[.pointer (some ⟨mv, 0, none⟩), .pointer (some ⟨bv, 0, none⟩)]) w (WAsk v x w) := by
  have hmf : ∀ (fn : Fn) (first cap : Array Value) (w : World), (Instr.makeFunc fn first cap).run Tryz.prog w = .ok (.func fn first cap) w := fun _ _ _ _ => rfl
  have HG := Lib.hid hg
  have ea : (#[.int .i64 key, .nilIface] ++ #[.pointer (some ⟨mv, 0, none⟩), .pointer (some ⟨bv, 0, none⟩)] : Array Value) = #[.int .i64 key, .nilIface, .pointer (some ⟨mv, 0, none⟩), .pointer (some ⟨bv, 0, none⟩)] := by simp
  rw [ea]
  clear ea hg
  have K0 : Kept (fun _ => False) w ((w.alloc (.cells #[.int .i64 key] 2)).alloc (.cells #[.nilIface] 31)) := ((Kept.refl _ w).alloc _).alloc _
  have m0 := (X.m.kept K0 id).c
  have e0 : ((w.alloc (.cells #[.int .i64 key] 2)).alloc (.cells #[.nilIface] 31)).cell? ⟨w.heap.size, 0, none⟩ = some (.int .i64 key) := by go_simp
  have HK := Lib.hid K0
  clear K0 X
  go_enter Tryz.func25, Tryz.ntmps25
  go_wp2_with fail
  generalize (w.alloc (.cells #[.int .i64 key] 2)).alloc (.cells #[.nilIface] 31) = W at HK m0 e0 ⊢
  refine (HG.out W _ HK.out).mono ?_
  rintro e w3 ⟨rfl, K3⟩
  have HK3 := Lib.hid (HK.out.trans K3)
  clear K3 m0 e0
  go_wp2_with fail
  exact bodyPost_ret (v := .tuple #[.int .i64 v, x, .bool false]) (by simp [results, Tryz.results25, go_sem]) rfl ⟨rfl, HK3.out⟩

end Go.Proofs.YtailldgochoklaaGreatDoor

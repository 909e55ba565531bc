/-
  Package future, a nil thread: Map of a filled future.
-/
import Derived.Test.YtlkglgpaadfieaaGreatDoorFut4
namespace Go.Proofs.YtlkglgpaadfieaaGreatDoor
open Go.RowKit

/-- What a Map of a filled future leaves: a future that is filled. -/
def FMapped (w : World) (v : Int) : Ending → World → Prop := fun r w' =>
  ∃ n l h p : Nat, r = .returned (.tuple #[.pointer (some ⟨n + 5, 0, none⟩), .int .i64 0]) ∧ w.heap.size ≤ n ∧ FMapDone n l h p v w' ∧ Kept (fun _ => False) w w'

set_option maxRecDepth 100000 in
set_option maxHeartbeats 1000000 in
theorem fmap_shut {n l h p : Nat} {v m : Int} {x0 x1 : Value} (K : Nat) (caps : Array Value) (hent : ∀ args w, (callFunc K args).run Tryz.prog w = .ok (.enter K args) w) (v' : Int) (w : World) (F : Ftr w n l h p 2 v .nilIface m (-1) x0 x1)
    (hc : ∀ W, Kept (fun _ => False) w W → Calls Tryz.prog K (#[.int .i64 v] ++ caps) W (Ans v' .nilIface (Kept (fun _ => False) W))) :
    Calls Tryz.prog 11 #[.pointer (some ⟨n + 5, 0, none⟩), .pointer none, .func (.func K) #[] caps] w (FMapped w v') := by
  have hent22 := enters_of Tryz.func22 (by kernel_rfl) rfl
  have hmf : ∀ (fn : Fn) (first cap : Array Value) (w : World), (Instr.makeFunc fn first cap).run Tryz.prog w = .ok (.func fn first cap) w := fun _ _ _ _ => rfl
  have hnn : ∀ w : World, (binOp BinOp.eql 34 (.func (.func K) #[] caps) .nilFunc).run Tryz.prog w = .ok (.bool false) w := fun _ => by kernel_rfl
  have sz := F.size
  have K0 : Kept (fun _ => False) w (w.alloc (.cells #[.func (.func K) #[] caps] 34)) := (Kept.refl _ w).alloc _
  have F0 := F.far K0
  have A0 : Slot (w.alloc (.cells #[.func (.func K) #[] caps] 34)) w.heap.size 0 (.func (.func K) #[] caps) := ⟨by go_simp, by go_simp, by simp⟩
  have s0 : Hid ((w.alloc (.cells #[.func (.func K) #[] caps] 34)).heap.size = w.heap.size + 1) := by show _ = _; simp
  have t0 := F0.t0
  have a0 := A0.c
  have HF := Lib.hid F0
  have HA := Lib.hid A0
  have HK := Lib.hid K0
  have HC := Lib.hid hc
  have Hent := Lib.hid hent
  clear F F0 A0 K0 hc hent
  go_enter Tryz.func11, Tryz.ntmps11
  go_wp2_with fail
  generalize w.alloc (.cells #[.func (.func K) #[] caps] 34) = w0 at HF HA HK s0 t0 a0 ⊢
  refine (fnone_is (n + 5) _ _ t0).mono ?_
  rintro e w' ⟨rfl, rfl⟩
  go_wp2_with fail
  refine (fnew_any w0).mono ?_
  rintro r w1 ⟨l', h', p', rfl, s1, G1, K1⟩
  have K2 : Kept (fun _ => False) w1 (w1.alloc (.cells #[.pointer (some ⟨w0.heap.size + 5, 0, none⟩)] 22)) := (Kept.refl _ w1).alloc _
  have B2 : Slot (w1.alloc (.cells #[.pointer (some ⟨w0.heap.size + 5, 0, none⟩)] 22)) w1.heap.size 0 (.pointer (some ⟨w0.heap.size + 5, 0, none⟩)) := ⟨by go_simp, by go_simp, by simp⟩
  have HF2 := Lib.hid (HF.out.far (K1.trans K2))
  have HA2 := Lib.hid (HA.out.kept (K1.trans K2) id)
  have HG2 := Lib.hid (G1.far K2)
  have HK2 := Lib.hid (HK.out.trans (K1.trans K2))
  have HB2 := Lib.hid B2
  have S1 := Lib.hid s1
  clear G1 K1 K2 B2 a0 t0 s1
  go_wp2_with fail
  have nb : ¬ FOwn w0.heap.size w1.heap.size := by rintro ⟨_, h2⟩; have := S1.out; omega
  refine (fthen_shut 22 _ (FOwn w0.heap.size) (fun W => FMapDone w0.heap.size l' h' p' v' W) hent22 _ HF2.out fun W kW => ?_).mono ?_
  · have ea : (#[.pointer none, .int .i64 v, .nilIface] ++ #[.pointer (some ⟨w.heap.size, 0, none⟩), .pointer (some ⟨w1.heap.size, 0, none⟩)] : Array Value) = #[.pointer none, .int .i64 v, .nilIface, .pointer (some ⟨w.heap.size, 0, none⟩), .pointer (some ⟨w1.heap.size, 0, none⟩)] := by simp
    rw [ea]
    exact fmap1_ok w.heap.size w1.heap.size K caps Hent.out v v' W (HA2.out.kept kW id).c (HA2.out.kept kW id).lt (HB2.out.kept kW id).c (HB2.out.kept kW id).lt (HG2.out.far kW) fun W' kW' => HC.out W' ((HK2.out.trans kW).trans kW')
  rintro r w3 ⟨rfl, k3, D⟩
  have HD := Lib.hid D
  have HK3 := Lib.hid (HK2.out.far k3 (by rintro i ⟨h1, h2⟩; have := s0.out; omega))
  have b3 := (HB2.out.kept k3 nb).c
  clear k3 D
  go_wp2_with fail
  go_ret2
  exact ⟨w0.heap.size, l', h', p', rfl, by have := s0.out; omega, HD.out, HK3.out⟩

end Go.Proofs.YtlkglgpaadfieaaGreatDoor

/-
  works() of FutureNone.
-/
import Derived.Test.YtlkglgpaadfieaaGreatDoorFut5
import Derived.Test.YtlkglgpaadfieaaGreatDoorFlt6
namespace Go.Proofs.YtlkglgpaadfieaaGreatDoor
open Go.RowKit

/-- A call that answers b, and leaves all as it was. -/
def Says (b : Bool) (w : World) : Ending → World → Prop := fun e w' => e = .returned (.bool b) ∧ Kept (fun _ => False) w w'

theorem w1_is (c : Nat) (s v s' : Int) (e : Value) (hs : wrap64 (wrap64 (10 * s) + v) = s') (w : World) (C : Slot w c 0 (.int .i64 s)) :
    Calls Tryz.prog 29 (#[.pointer none, .int .i64 v, e] ++ #[.pointer (some ⟨c, 0, none⟩)]) w (FDoes (fun k => k = c) (fun W => Slot W c 0 (.int .i64 s')) w) := by
  have ea : (#[.pointer none, .int .i64 v, e] ++ #[.pointer (some ⟨c, 0, none⟩)] : Array Value) = #[.pointer none, .int .i64 v, e, .pointer (some ⟨c, 0, none⟩)] := by simp
  rw [ea]
  have c0 := C.c
  have c1 := C.fr
  have c2 := C.lt
  have HC := Lib.hid C
  have HS := Lib.hid hs
  clear C hs
  go_enter Tryz.func29, Tryz.ntmps29
  go_wp2
  go_end0
  rw [HS.out]
  exact ⟨rfl, (Kept.refl (fun k => k = c) w).setCell ⟨c, 0, none⟩ (.inl rfl) _, HC.out.set _⟩

theorem w2_is (v v' : Int) (hv : wrap64 (v + 1) = v') (w : World) : Calls Tryz.prog 30 (#[.int .i64 v] ++ #[]) w (Ans v' .nilIface (Kept (fun _ => False) w)) := by
  have ea : (#[.int .i64 v] ++ #[] : Array Value) = #[.int .i64 v] := by simp
  rw [ea]
  have HS := Lib.hid hv
  clear hv
  go_enter Tryz.func30, Tryz.ntmps30
  go_wp2
  go_ret2
  rw [HS.out]
  exact ⟨rfl, Kept.refl _ w⟩

set_option maxRecDepth 100000 in
set_option maxHeartbeats 2000000 in
theorem works_is (w : World) : Calls Tryz.prog 15 #[] w (Says true w) := by
  have h29 := enters_of Tryz.func29 (by kernel_rfl) rfl
  have h30 := enters_of Tryz.func30 (by kernel_rfl) rfl
  have H29 := Lib.hid h29
  have H30 := Lib.hid h30
  have hmf : ∀ (fn : Fn) (first cap : Array Value) (w : World), (Instr.makeFunc fn first cap).run Tryz.prog w = .ok (.func fn first cap) w := fun _ _ _ _ => rfl
  clear h29 h30
  go_enter Tryz.func15, Tryz.ntmps15
  go_wp2_with fail
  refine (fnew_any w).mono ?_
  rintro r w1 ⟨l, h, p, rfl, s1, F1, k1⟩
  have K2 : Kept (fun _ => False) w1 (w1.alloc (.cells #[.int .i64 0] 2)) := (Kept.refl _ w1).alloc _
  have C2 : Slot (w1.alloc (.cells #[.int .i64 0] 2)) w1.heap.size 0 (.int .i64 0) := ⟨by go_simp, by go_simp, by simp⟩
  have HS := Lib.hid s1
  have HF2 := Lib.hid (F1.far K2)
  have HK2 := Lib.hid (k1.trans K2)
  have HC2 := Lib.hid C2
  have s2 : Hid ((w1.alloc (.cells #[.int .i64 0] 2)).heap.size = w1.heap.size + 1) := by show _ = _; simp
  clear F1 k1 K2 C2 s1
  go_wp2_with fail
  generalize w1.alloc (.cells #[.int .i64 0] 2) = w2 at HF2 HK2 HC2 s2 ⊢
  refine (fthen_open 29 #[.pointer (some ⟨w1.heap.size, 0, none⟩)] w2 HF2.out).mono ?_
  rintro r w3 ⟨rfl, q0, u, hq, hu, F3, T3, U3, K3⟩
  have nc : ¬ FOwn w.heap.size w1.heap.size := by rintro ⟨_, h2⟩; have := HS.out; omega
  have HF3 := Lib.hid F3
  have HK3 := Lib.hid (HK2.out.far K3 (by rintro i ⟨h1, h2⟩; omega))
  have HC3 := Lib.hid (HC2.out.kept K3 nc)
  have HT3 := Lib.hid T3
  have HU3 := Lib.hid U3
  have HQ := Lib.hid hq
  have HU := Lib.hid hu
  have HN := Lib.hid nc
  clear F3 T3 U3 K3 HF2 HK2 HC2 hq hu nc
  go_wp2_with fail
  refine (fcomplete_one 5 (fun k => k = w1.heap.size) (fun W => Slot W w1.heap.size 0 (.int .i64 5)) H29.out w3 HF3.out HT3.out HU3.out
    (by rintro ⟨_, h2⟩; have := HQ.out; have := s2.out; have := HS.out; omega) (by rintro ⟨_, h2⟩; have := HU.out; have := s2.out; have := HS.out; omega)
    (fun k hk e => HN.out (e ▸ hk)) (by rintro k rfl; exact HC3.out.lt) fun W hW => ?_).mono ?_
  · exact w1_is w1.heap.size 0 5 5 .nilIface (by unfold wrap64; omega) W (HC3.out.kept hW (by rintro (hk | hk); exact HN.out hk; have := HU.out; have := s2.out; omega))
  rintro r w4 ⟨rfl, F4, K4, C4⟩
  have HF4 := Lib.hid F4
  have HC4 := Lib.hid C4
  have HK4 := Lib.hid (HK3.out.far K4 (by
    rintro i (⟨h1, h2⟩ | rfl | rfl)
    · omega
    · have := HU.out; have := s2.out; have := HS.out; omega
    · have := HS.out; omega))
  clear F4 K4 C4 HF3 HK3 HC3 HT3 HU3
  go_wp2_with fail
  refine (fcomplete_no _ 6 .nilIface _ (fclaim_miss (by decide) _ HF4.out)).mono ?_
  rintro r w' ⟨rfl, rfl⟩
  go_wp2_with fail
  refine (fthen_shut 29 #[.pointer (some ⟨w1.heap.size, 0, none⟩)] (fun k => k = w1.heap.size) (fun W => Slot W w1.heap.size 0 (.int .i64 55)) H29.out _ HF4.out fun W hW => ?_).mono ?_
  · exact w1_is w1.heap.size 5 5 55 .nilIface (by unfold wrap64; omega) W (HC4.out.kept hW id)
  rintro r w5 ⟨rfl, K5, C5⟩
  have HF5 := Lib.hid (HF4.out.kept K5 fun c hc e => HN.out (e ▸ hc))
  have HC5 := Lib.hid C5
  have HK5 := Lib.hid (HK4.out.far K5 (by rintro i rfl; have := HS.out; omega))
  clear K5 C5 HF4 HC4 HK4
  go_wp2_with fail
  refine (fawait_is (by decide) _ HF5.out).mono ?_
  rintro r w6 ⟨rfl, K6⟩
  have HF6 := Lib.hid (HF5.out.far K6)
  have HC6 := Lib.hid (HC5.out.kept K6 id)
  have HK6 := Lib.hid (HK5.out.trans K6)
  clear K6 HF5 HC5 HK5
  go_wp2_with fail
  refine (fmap_shut 30 #[] H30.out 6 _ HF6.out fun W hW => w2_is 5 6 (by unfold wrap64; omega) W).mono ?_
  rintro r w7 ⟨n7, l7, h7, p7, rfl, hn7, F7, K7⟩
  have HF7 := Lib.hid F7
  have HC7 := Lib.hid (HC6.out.kept K7 id)
  have HK7 := Lib.hid (HK6.out.trans K7)
  clear F7 K7 HF6 HC6 HK6 hn7
  go_wp2_with fail
  refine (fpeek_is (by decide) _ HF7.out).mono ?_
  rintro r w8 ⟨rfl, K8⟩
  have c8 := (HC7.out.kept K8 id).c
  have HK8 := Lib.hid (HK7.out.trans K8)
  clear K8 HF7 HC7 HK7
  go_wp2_with fail
  go_ret
  exact ⟨rfl, HK8.out⟩

end Go.Proofs.YtlkglgpaadfieaaGreatDoor

/-
  FaultTells: Wrap, Error by what an error is; nil pointers; works.
-/
import Derived.Test.YthkndllageopoaaDoorFt12
namespace Go.Proofs.YthkndllageopoaaDoor
open Go.RowKit Go.Shelf Go.Extern Go.Extern.Stop Go.Stop

theorem wrap_nil (n : Int) (w : World) : Calls Tryd.prog 12 #[.int .i64 n, .nilIface] w fun e w' => e = .returned .nilIface ∧ Kept (fun _ => False) w w' := by
  go_enter Tryd.func12, Tryd.ntmps12
  go_wp2_with fail
  go_ret
  exact ⟨rfl, Kept.refl _ w⟩

theorem wrap_any (k x n : Int) (t : TypeId) (u : Value) (l : List Int) (w : World) (H : Chain w k x (.iface t u) l) :
    Calls Tryd.prog 12 #[.int .i64 n, .iface t u] w fun e w' => ∃ a, e = .returned (.iface 44 (.pointer (some ⟨a, 0, none⟩))) ∧ Chain w' k x (.iface 44 (.pointer (some ⟨a, 0, none⟩))) (n :: l) ∧ Kept (fun _ => False) w w' := by
  have ne : ∀ w, (binOp .eql 27 (.iface t u) .nilIface).run Tryd.prog w = .ok (.bool false) w := fun w => run_eql_iface_nil w 27 (by kernel_rfl) t u
  have HH := Lib.hid H
  clear H
  go_enter Tryd.func12, Tryd.ntmps12
  go_wp2_with fail
  go_ret
  have KA : Kept (fun _ => False) w (w.alloc (.cells #[.int .i64 n, .iface t u] 57)) := (Kept.refl _ _).alloc _
  exact ⟨w.heap.size, rfl, .at_ w.heap.size n t u l (by go_simp) (by go_simp) (HH.out.kept KA), KA⟩

/-- What Error of an error calls, and answers. -/
theorem err_parts (k x : Int) (hx : I64 x) (t : TypeId) (u : Value) (l : List Int) (hlen : l.length ≤ 2000) (hl : ∀ n ∈ l, I64 n) (w : World) (T : Tab w) (H : Chain w k x (.iface t u) l) (hk : ¬ k = 0) :
    ∃ f, (∀ w2 : World, (Go.method 252 t u "Error").run Tryd.prog w2 = .ok (f, u) w2) ∧ (∀ args (w2 : World), (callFunc f args).run Tryd.prog w2 = .ok (.enter f args) w2) ∧
      ∀ W, Kept (fun _ => False) w W → Calls Tryd.prog f #[u] W (GotText W (fullText k x l)) := by
  rcases chain_split H hk with ⟨a, e⟩ | ⟨rfl, hB, hF, -⟩
  · obtain ⟨rfl, rfl⟩ : t = 44 ∧ u = .pointer (some ⟨a, 0, none⟩) := by cases e; exact ⟨rfl, rfl⟩
    exact ⟨_, Tryd.methodAtError _, enters_of Tryd.func19 (by kernel_rfl) rfl, fun W K => aError_any k x hx l hlen hl a W (H.kept K) (T.kept K)⟩
  · have hft : fullText k x [] = baseText k x := by simp [fullText, headText]
    rw [hft]
    cases hB with
    | bare => exact absurd rfl hF.2
    | failed a x h => exact ⟨_, Tryd.methodFailedError _, enters_of Tryd.func15 (by kernel_rfl) rfl, fun W K => fError_any a x hx W (T.kept K) (still_cell K h)⟩
    | cancelled a x h => exact ⟨_, Tryd.methodCancelledError _, enters_of Tryd.func16 (by kernel_rfl) rfl, fun W K => cError_any a x hx W (T.kept K) (still_cell K h)⟩
    | late a x h => exact ⟨_, Tryd.methodLateError _, enters_of Tryd.func17 (by kernel_rfl) rfl, fun W K => lError_any a x hx W (T.kept K) (still_cell K h)⟩
    | panicked a x h => exact ⟨_, Tryd.methodPanickedError _, enters_of Tryd.func18 (by kernel_rfl) rfl, fun W K => pError_any a W⟩
    | plain a o h => exact ⟨_, Tryd.methodPlainError _, enters_of Tryd.func96 (by kernel_rfl) rfl, fun W K => sError_any a o W (still_cell K h)⟩
    | number x => exact ⟨_, Tryd.methodNumberError _, enters_of Tryd.func39 (by kernel_rfl) rfl, fun W K => nError_any x hx W⟩

def Empty (w : World) : Ending → World → Prop := fun e w' => e = .returned (.string ⟨#[]⟩) ∧ Kept (fun _ => False) w w'
def NilErr (w : World) : Ending → World → Prop := fun e w' => e = .returned .nilIface ∧ Kept (fun _ => False) w w'

theorem fError_nil (w : World) : Calls Tryd.prog 15 #[.pointer none] w (Empty w) := by
  go_enter Tryd.func15, Tryd.ntmps15
  go_wp2_with fail
  go_ret
  exact ⟨rfl, Kept.refl _ w⟩
theorem cError_nil (w : World) : Calls Tryd.prog 16 #[.pointer none] w (Empty w) := by
  go_enter Tryd.func16, Tryd.ntmps16
  go_wp2_with fail
  go_ret
  exact ⟨rfl, Kept.refl _ w⟩
theorem lError_nil (w : World) : Calls Tryd.prog 17 #[.pointer none] w (Empty w) := by
  go_enter Tryd.func17, Tryd.ntmps17
  go_wp2_with fail
  go_ret
  exact ⟨rfl, Kept.refl _ w⟩
theorem pError_nil (w : World) : Calls Tryd.prog 18 #[.pointer none] w (Empty w) := by
  go_enter Tryd.func18, Tryd.ntmps18
  go_wp2_with fail
  go_ret
  exact ⟨rfl, Kept.refl _ w⟩
theorem fUnwrap_nil (w : World) : Calls Tryd.prog 20 #[.pointer none] w (NilErr w) := by
  go_enter Tryd.func20, Tryd.ntmps20
  go_wp2_with fail
  go_ret
  exact ⟨rfl, Kept.refl _ w⟩
theorem cUnwrap_nil (w : World) : Calls Tryd.prog 21 #[.pointer none] w (NilErr w) := by
  go_enter Tryd.func21, Tryd.ntmps21
  go_wp2_with fail
  go_ret
  exact ⟨rfl, Kept.refl _ w⟩
theorem lUnwrap_nil (w : World) : Calls Tryd.prog 22 #[.pointer none] w (NilErr w) := by
  go_enter Tryd.func22, Tryd.ntmps22
  go_wp2_with fail
  go_ret
  exact ⟨rfl, Kept.refl _ w⟩
theorem pUnwrap_nil (w : World) : Calls Tryd.prog 23 #[.pointer none] w (NilErr w) := by
  go_enter Tryd.func23, Tryd.ntmps23
  go_wp2_with fail
  go_ret
  exact ⟨rfl, Kept.refl _ w⟩
theorem aUnwrap_nil (w : World) : Calls Tryd.prog 24 #[.pointer none] w (NilErr w) := by
  go_enter Tryd.func24, Tryd.ntmps24
  go_wp2_with fail
  go_ret
  exact ⟨rfl, Kept.refl _ w⟩

set_option maxRecDepth 100000 in
theorem aError_nil (w : World) : Calls Tryd.prog 19 #[.pointer none] w (Empty w) := by
  go_enter Tryd.func19, Tryd.ntmps19
  go_wp2_with fail
  refine wp_loop_rounds 1 ?_
  rw [rounds_succ]
  have hcv : ∀ w : World, (convert 66 9 (.slice none 0 0)).run Tryd.prog w = .ok (.string ⟨#[]⟩) w := fun w => by kernel_rfl
  go_wp2_with fail
  go_ret
  exact ⟨rfl, Kept.refl _ w⟩

theorem works1_any (w w0 : World) (K : Kept (fun _ => False) w0 w) (F : Fresh w0.heap.size w) : Calls Tryd.prog 35 #[] w (Pan 3 (.int .i64 7) (fun w' => Kept (fun _ => False) w0 w' ∧ Fresh w0.heap.size w')) := by
  go_enter Tryd.func35, Tryd.ntmps35
  go_wp2_with fail
  exact ⟨rfl, rfl, K, F⟩

theorem works_text : fullText 1 (-7) [3] = [51, 58, 32, 102, 97, 105, 108, 101, 100, 32, 45, 55] := by decide +kernel

set_option maxRecDepth 100000 in
set_option maxHeartbeats 1600000 in
theorem works_yes (w : World) (T : Tab w) (hg : ErrorType w) : Calls Tryd.prog 25 #[] w fun e w' => e = .returned (.bool true) ∧ Kept (fun _ => False) w w' := by
  have hent := enters_of Tryd.func35 (by kernel_rfl) rfl
  have nn : ∀ (w : World) (t : TypeId) (u : Value), (binOp .neq 27 (.iface t u) .nilIface).run Tryd.prog w = .ok (.bool true) w := fun w t u => run_neq_iface_nil w 27 (by kernel_rfl) t u
  have mE := Tryd.methodAtError
  have HG := Lib.hid hg
  have HT := Lib.hid T
  clear hg T
  go_enter Tryd.func25, Tryd.ntmps25
  go_wp2_with fail
  have K0 : Kept (fun _ => False) w (w.alloc (.cells #[.int .i64 (-7)] 49)) := (Kept.refl _ _).alloc _
  refine (wrap_any 1 (-7) 3 _ _ [] _ (.base _ (.failed w.heap.size (-7) (by go_simp)))).mono ?_
  rintro e w2 ⟨a, rfl, hC, K1⟩
  have HC := Lib.hid hC
  have HK2 := Lib.hid (K0.trans K1)
  clear hC K1 K0
  go_wp2_with fail
  have KF : Kept (fun _ => False) w2 ((w2.alloc (.cells #[.int .i64 0] 2)).alloc (.cells #[.nilIface] 27)) := ((Kept.refl _ _).alloc _).alloc _
  have F0 : Fresh w2.heap.size ((w2.alloc (.cells #[.int .i64 0] 2)).alloc (.cells #[.nilIface] 27)) := ⟨⟨by go_simp, by go_simp, by simp; omega⟩, ⟨by go_simp, by go_simp, by simp⟩⟩
  refine (catch_panic 35 #[] hent 3 (.int .i64 7) (by decide) _ w2 (works1_any _ w2 KF F0) (fun w1 h => h.2)).mono ?_
  rintro e w3 ⟨w1, ⟨K1, -⟩, rfl, K2, hp, hpl⟩
  have K3 : Kept (fun _ => False) w2 w3 := K1.far K2 (by rintro i (h | h) <;> omega)
  have HK3 := Lib.hid (HK2.out.trans K3)
  have HC3 := Lib.hid (HC.out.kept K3)
  have HK3s := Lib.hid (HK2.out.trans K3).size
  obtain ⟨pb, hpb⟩ : ∃ pb, w1.heap.size = pb := ⟨_, rfl⟩
  rw [hpb] at hp hpl ⊢
  clear K1 K2 K3 HK2 HC KF F0 hpb
  go_wp2_with fail
  have hpl2 := hpl
  have KA : Kept (fun _ => False) w3 (w3.alloc (.cells #[.pointer none] 43)) := (Kept.refl _ _).alloc _
  have SP : Slot (w3.alloc (.cells #[.pointer none] 43)) w3.heap.size 0 (.pointer none) := ⟨by go_simp, by go_simp, by simp⟩
  refine (aError_any 1 (-7) (by unfold I64; omega) [3] (by simp) (by intro n hn; simp at hn; subst hn; unfold I64; omega) a _ (HC3.out.kept KA) (HT.out.kept (HK3.out.trans KA))).mono ?_
  rintro e w4 ⟨rfl, K4⟩
  rw [works_text]
  have K34 := KA.trans K4
  have HK4 := Lib.hid (HK3.out.trans K34)
  have HC4 := Lib.hid (HC3.out.kept K34)
  have SP4 := Lib.hid (SP.kept K4 id)
  have hp4 := still_cell K34 hp
  clear K4 KA SP K34 hp HK3 HC3
  go_wp2_with fail
  refine (class_chain 1 (-7) [3] _ w4 HC4.out (HG.out.kept HK4.out id)).mono ?_
  rintro e w5 ⟨rfl, K5⟩
  have HK5 := Lib.hid (HK4.out.trans K5)
  have SP5 := Lib.hid (SP4.out.kept K5 id)
  have hp5 := still_cell K5 hp4
  clear K5 hp4 HK4 HC4 SP4
  rw [show clsOf 1 (-7) = 23 from rfl]
  go_wp2_with fail
  refine (AsQ 43 (.pointer (some ⟨pb, 0, none⟩)) w3.heap.size true (fun k => k = w3.heap.size) (fun X => Slot X w3.heap.size 0 (.pointer (some ⟨pb, 0, none⟩))) w5 (HG.out.kept HK5.out id) (fun W K ab hab hc => asQ_hit (some ⟨pb, 0, none⟩) w3.heap.size ab (.pointer none) W (SP5.out.kept K id) hc hab)).mono ?_
  rintro e w6 ⟨rfl, K6, S6⟩
  have hpw5 : pb < w5.heap.size := World.block_lt_of_cell? w5 _ hp5
  have hp6 := (K6.cell (p := ⟨pb, 0, none⟩) hpw5 (by simp; omega)).trans hp5
  have s6 := S6.c
  have HK6 := Lib.hid (HK5.out.far K6 (by rintro i rfl; have := HK3s.out; omega))
  have h77 : ∀ w : World, (binOp .eql 20 (.iface 3 (.int .i64 7)) (.iface 3 (.int .i64 7))).run Tryd.prog w = .ok (.bool true) w := fun w => by kernel_rfl
  clear K6 S6 hp5 hpw5
  go_wp2_with fail
  go_ret
  exact ⟨rfl, HK6.out⟩

end Go.Proofs.YthkndllageopoaaDoor

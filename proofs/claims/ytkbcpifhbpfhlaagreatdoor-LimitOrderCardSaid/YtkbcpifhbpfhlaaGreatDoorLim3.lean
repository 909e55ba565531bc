/-
  Package limit, a nil thread: what stops a timer, what is called late, what a future calls.
-/
import Derived.Test.YtkbcpifhbpfhlaaGreatDoorLim2
import Derived.Shelf.Abstract
namespace Go.Proofs.YtkbcpifhbpfhlaaGreatDoor
open Go.RowKit

/-- What a stop leaves that takes its timer away. -/
def LStopped (w : World) (n j b : Nat) (st now busy : Int) (s d : Nat → Int) (f : Nat → Value) : Ending → World → Prop := fun e w' =>
  e = .returned (.tuple #[]) ∧ Clk w' n now busy (put s j (st + 2)) d f ∧ Slot w' (b + 1) 0 .nilFunc ∧ Kept (fun k => Own n k ∨ k = b + 1) w w'

set_option maxRecDepth 100000 in
set_option maxHeartbeats 400000 in
theorem lstop_hit (n j b x : Nat) (now busy due st : Int) (s d : Nat → Int) (f : Nat → Value) (late : Value) (hj : j < 16) (hst : Hid (s j = st)) (hb : Hid (st.tmod 4 = 2)) (h0 : 0 ≤ st) (h1 : st ≤ 4611686018427387904) (ho : ¬ Own n (b + 1)) (w : World) (C : Clk w n now busy s d f) (H : Wired w n j b x due st late) :
    Calls Tryz.prog 50 #[.pointer none, .pointer (some ⟨b, 0, none⟩), .pointer (some ⟨x, 0, none⟩), .pointer (some ⟨b + 1, 0, none⟩)] w (LStopped w n j b st now busy s d f) := by
  have c := H.c.c
  have t0 := H.t.c0
  have t1 := H.t.c1
  have HL := Lib.hid H.l
  have HC := Lib.hid C
  have HO := Lib.hid ho
  have hS := hst.out
  subst hS
  have HS := Lib.hid (stop_hit n j now busy s d f hj hb.out h0 h1 w C)
  clear C H ho
  go_enter Tryz.func50, Tryz.ntmps50
  go_wp2_with fail
  refine HS.out.mono ?_
  rintro e w1 ⟨rfl, C1, K1⟩
  have l1 := HL.out.kept K1 HO.out
  have lc := l1.c
  have lf := l1.fr
  have HL1 := Lib.hid l1
  have HC1 := Lib.hid C1
  have HK1 := Lib.hid K1
  clear l1 C1 K1
  go_wp2_with fail
  first | go_end0 | refine bodyPost_ret (results_none rfl _ _ _) rfl ?_
  exact ⟨rfl, HC1.out.far _ _ HO.out, HL1.out.set _, (HK1.out.mono fun _ _ h => .inl h).setCell _ (.inl (.inr rfl)) _⟩

/-- .. one that finds it gone. -/
def LNothing (w : World) : Ending → World → Prop := fun e w' => e = .returned (.tuple #[]) ∧ Kept (fun _ => False) w w'

set_option maxRecDepth 100000 in
set_option maxHeartbeats 400000 in
theorem lstop_miss (n j b x : Nat) (now busy due st : Int) (s d : Nat → Int) (f : Nat → Value) (late : Value) (hj : j < 16) (hst : Hid (¬ s j = st)) (hb : Hid (st.tmod 4 = 2)) (w : World) (C : Clk w n now busy s d f) (H : Wired w n j b x due st late) :
    Calls Tryz.prog 50 #[.pointer none, .pointer (some ⟨b, 0, none⟩), .pointer (some ⟨x, 0, none⟩), .pointer (some ⟨b + 1, 0, none⟩)] w (LNothing w) := by
  have c := H.c.c
  have t0 := H.t.c0
  have t1 := H.t.c1
  have HS := Lib.hid (stop_miss n j st now busy s d f hj hb.out hst.out w C)
  clear C H
  go_enter Tryz.func50, Tryz.ntmps50
  go_wp2_with fail
  refine HS.out.mono ?_
  rintro e w1 ⟨rfl, k⟩
  have K := Lib.hid (Kept.ofBelow k (Nat.le_refl _) (fun _ => False))
  clear k
  go_wp2_with fail
  first | go_end0 | refine bodyPost_ret (results_none rfl _ _ _) rfl ?_
  exact ⟨rfl, K.out⟩

/-- It ends, and R holds. -/
def LTold (R : World → Prop) : Ending → World → Prop := fun e w' => e = .returned (.tuple #[]) ∧ R w'

/-- What the clock calls: what is late, with its due. -/
theorem lring (R : World → Prop) (K b : Nat) (caps : Array Value) (due : Int) (hent : ∀ args w, (callFunc K args).run Tryz.prog w = .ok (.enter K args) w) (w : World) (L : Slot w (b + 1) 0 (.func (.func K) #[] caps)) (U : Slot w (b + 2) 0 (.int .i64 due))
    (hc : Calls Tryz.prog K (#[.pointer none, .int .i64 due] ++ caps) w (LTold R)) :
    Calls Tryz.prog 49 #[.pointer none, .pointer (some ⟨b + 1, 0, none⟩), .pointer (some ⟨b + 2, 0, none⟩)] w (LTold R) := by
  have l0 := L.c
  have u0 := U.c
  have HC := Lib.hid hc
  clear L U hc
  go_enter Tryz.func49, Tryz.ntmps49
  go_wp2_with fail
  refine HC.out.mono ?_
  rintro e w1 ⟨rfl, r⟩
  have HR := Lib.hid r
  clear r
  go_wp2_with fail
  first | go_end0 | refine bodyPost_ret (results_none rfl _ _ _) rfl ?_
  exact ⟨rfl, HR.out⟩

/-- The future of a Within that was late. -/
def LateAt (w w' : World) (n l h p : Nat) (m : Int) (x0 x1 : Value) : Prop := ∃ y : Nat, Ftr w' n l h p 3 0 (.iface 76 (.pointer (some ⟨y, 0, none⟩))) m (-1) x0 x1 ∧ Kept (FOwn n) w w'

theorem within1_open (g n l h p : Nat) (v0 m due : Int) (e0 x0 x1 : Value) (w : World) (G : Slot w g 0 (.pointer (some ⟨n + 5, 0, none⟩))) (F : Ftr w n l h p 0 v0 e0 m 0 x0 x1) :
    Calls Tryz.prog 24 #[.pointer none, .int .i64 due, .pointer (some ⟨g, 0, none⟩)] w (LTold fun w' => LateAt w w' n l h p m x0 x1) := by
  have g0 := G.c
  have glt := G.lt
  have HK := Lib.hid ((Kept.refl (fun _ => False) w).alloc (.cells #[.int .i64 due] 78))
  have HF := Lib.hid (fcomplete_err 0 76 (.pointer (some ⟨w.heap.size, 0, none⟩)) (w.alloc (.cells #[.int .i64 due] 78)) (F.far HK.out))
  clear G F
  go_enter Tryz.func24, Tryz.ntmps24
  go_wp2_with fail
  refine HF.out.mono ?_
  rintro e w1 ⟨rfl, F1, K1⟩
  have HF1 := Lib.hid F1
  have HK1 := Lib.hid K1
  clear F1 K1
  go_wp2_with fail
  first | go_end0 | refine bodyPost_ret (results_none rfl _ _ _) rfl ?_
  exact ⟨rfl, w.heap.size, HF1.out, (HK.out.mono fun _ _ h => h.elim).trans HK1.out⟩

/-- What a future's function leaves of what was in time: it is filled, the timer is gone. -/
def InTime (n j b ng l h p : Nat) (st now busy v m : Int) (s d : Nat → Int) (f : Nat → Value) (x0 x1 : Value) (w w' : World) : Prop :=
  Ftr w' ng l h p 2 v .nilIface m (-1) x0 x1 ∧ Clk w' n now busy (put s j (st + 2)) d f ∧ Slot w' (b + 1) 0 .nilFunc ∧ Kept (fun k => FOwn ng k ∨ Own n k ∨ k = b + 1) w w'

set_option maxRecDepth 100000 in
set_option maxHeartbeats 400000 in
theorem within2_hit (g bs n j b x ng l h p : Nat) (now busy due st v v0 m : Int) (s d : Nat → Int) (f : Nat → Value) (late e0 x0 x1 : Value) (hj : j < 16) (hst : Hid (s j = st)) (hb : Hid (st.tmod 4 = 2)) (h0 : 0 ≤ st) (h1 : st ≤ 4611686018427387904) (ho : ¬ Own n (b + 1))
    (w : World) (C : Clk w n now busy s d f) (H : Wired w n j b x due st late) (G : Slot w g 0 (.pointer (some ⟨ng + 5, 0, none⟩))) (B : Slot w bs 0 (stopOf b x)) (F : Ftr w ng l h p 0 v0 e0 m 0 x0 x1)
    (a1 : ∀ k, Own n k → ¬ FOwn ng k) (a2 : ¬ FOwn ng b ∧ ¬ FOwn ng (b + 1) ∧ ¬ FOwn ng (b + 2) ∧ ¬ FOwn ng x ∧ ¬ FOwn ng bs) :
    Calls Tryz.prog 25 #[.pointer none, .int .i64 v, .nilIface, .pointer (some ⟨g, 0, none⟩), .pointer (some ⟨bs, 0, none⟩)] w (LTold fun w' => InTime n j b ng l h p st now busy v m s d f x0 x1 w w') := by
  have e49 : ∀ args w, (callFunc 50 args).run Tryz.prog w = .ok (.enter 50 args) w := enters_of Tryz.func50 (by kernel_rfl) rfl
  have g0 := G.c
  have HF := Lib.hid (fcomplete_ok v w F)
  have HC := Lib.hid C
  have HH := Lib.hid H
  have HB := Lib.hid B
  have A1 := Lib.hid a1
  have A2 := Lib.hid a2
  have HO := Lib.hid ho
  clear C H B F G a1 a2 ho
  go_enter Tryz.func25, Tryz.ntmps25
  go_wp2_with fail
  refine HF.out.mono ?_
  rintro e w1 ⟨rfl, F1, K1⟩
  obtain ⟨q1, q2, q3, q4, q5⟩ := A2.out
  have C1 := HC.out.kept K1 A1.out
  have H1 := HH.out.kept K1 q1 q2 q3 q4
  have B1 := HB.out.kept K1 q5
  have b0 := B1.c
  unfold stopOf at b0
  have HS := Lib.hid (lstop_hit n j b x now busy due st s d f late hj hst hb h0 h1 HO.out w1 C1 H1)
  have HF1 := Lib.hid F1
  have HK1 := Lib.hid K1
  clear F1 K1 C1 H1 B1 q1 q2 q3 q4 q5
  go_wp2_with fail
  refine HS.out.mono ?_
  rintro e w2 ⟨rfl, C2, L2, K2⟩
  have HC2 := Lib.hid C2
  have HL2 := Lib.hid L2
  have HK2 := Lib.hid K2
  clear C2 L2 K2
  go_wp2_with fail
  first | go_end0 | refine bodyPost_ret (results_none rfl _ _ _) rfl ?_
  refine ⟨rfl, HF1.out.kept HK2.out ?_, HC2.out, HL2.out, (HK1.out.mono fun _ _ h => .inl h).trans (HK2.out.mono fun _ _ h => .inr h)⟩
  rintro c hc (h | h)
  · exact A1.out c h hc
  · exact A2.out.2.1 (h ▸ hc)

theorem within2_miss (g bs ng l h p : Nat) (v s v0 m hd : Int) (e e0 x0 x1 : Value) (hs : ¬ s = 0) (w : World) (G : Slot w g 0 (.pointer (some ⟨ng + 5, 0, none⟩))) (F : Ftr w ng l h p s v0 e0 m hd x0 x1) :
    Calls Tryz.prog 25 #[.pointer none, .int .i64 v, e, .pointer (some ⟨g, 0, none⟩), .pointer (some ⟨bs, 0, none⟩)] w (LNothing w) := by
  have g0 := G.c
  have HF := Lib.hid (fcomplete_no _ v e w (fclaim_miss hs w F))
  clear G F
  go_enter Tryz.func25, Tryz.ntmps25
  go_wp2_with fail
  refine HF.out.mono ?_
  rintro e w1 ⟨rfl, rfl⟩
  go_wp2_with fail
  first | go_end0 | refine bodyPost_ret (results_none rfl _ _ _) rfl ?_
  exact ⟨rfl, Kept.refl _ _⟩

end Go.Proofs.YtkbcpifhbpfhlaaGreatDoor

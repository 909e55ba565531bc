/-
  Package limit, a nil thread: a timer of Within or of Deadline rings; a limited future is filled.
-/
import Derived.Test.YtkbcpifhbpfhlaaGreatDoorLim5
namespace Go.Proofs.YtkbcpifhbpfhlaaGreatDoor
open Go.RowKit

/-- A limited future that nobody filled, and what hangs on it. -/
structure Hooked (w : World) (I : Ids) : Prop where
  ok : I.Ok
  lt : I.hi ≤ w.heap.size
  f : Ftr w I.nf I.lf I.hf I.pf 0 0 .nilIface 1 1 (.pointer (some ⟨I.q0, 0, none⟩)) (.pointer none)
  gs : Slot w I.g 0 (.pointer (some ⟨I.ng + 5, 0, none⟩))
  q : Two w I.q0 (.pointer (some ⟨I.u, 0, none⟩)) (.int .i64 0)
  u : Slot w I.u 0 (tellOf I.g I.bs)

theorem Hooked.kept {S : Nat → Prop} {w w' : World} {I : Ids} (H : Hooked w I) (k : Kept S w w') (hs : ∀ c, I.Own c → ¬ (I.ng ≤ c ∧ c < I.ng + 6) → ¬ S c) : Hooked w' I := by
  obtain ⟨a1, a2, a3, a4, a5, a6, a7, a8⟩ := H.ok
  have hg : ∀ c, I.ng + 6 ≤ c → c < I.hi → ¬ S c := fun c h1 h2 => hs c (.inr ⟨by omega, h2⟩) (by omega)
  exact ⟨H.ok, Nat.le_trans H.lt k.size, H.f.kept k (fun c hc => hs c (.inl hc) (by have := hc.2; omega)), H.gs.kept k (hg _ (by omega) (by omega)), H.q.kept k (hg _ (by omega) (by omega)), H.u.kept k (hg _ (by omega) (by omega))⟩

theorem Itm.hooked {w : World} {n j : Nat} {I : Ids} {due st : Int} (H : Itm w n j I due st) : Hooked w I := ⟨H.ok, H.lt, H.f, H.gs, H.q, H.u⟩

/-- What Within answered, filled in time. -/
def Came (w : World) (I : Ids) (v : Int) : Prop := Ftr w I.ng I.lg I.hg I.pg 2 v .nilIface 0 (-1) (.pointer none) (.pointer none)

/-- .. late. -/
def TooLate (w : World) (I : Ids) : Prop := ∃ y : Nat, Ftr w I.ng I.lg I.hg I.pg 3 0 (.iface 76 (.pointer (some ⟨y, 0, none⟩))) 0 (-1) (.pointer none) (.pointer none)

/-- What a ring of its timer leaves. -/
def RungItm (w : World) (n j : Nat) (I : Ids) (now busy : Int) (s d : Nat → Int) (f : Nat → Value) : Ending → World → Prop := fun e w' =>
  e = .returned (.bool true) ∧ TooLate w' I ∧ Hooked w' I ∧ Clk w' n now busy (put s j (s j + 2)) d (put f j .nilFunc) ∧ Kept (fun k => Own n k ∨ (I.ng ≤ k ∧ k < I.ng + 6)) w w'

theorem ring_itm (n j : Nat) (I : Ids) (now busy due : Int) (s d : Nat → Int) (f : Nat → Value) (hj : j < 16) (h0 : 0 ≤ s j) (h1 : s j ≤ 4611686018427387904) (hf : f j = ringOf I.b) (w : World) (C : Clk w n now busy s d f) (H : Itm w n j I due (s j)) (hn : ∀ k, Own n k → ¬ I.Own k) :
    Calls Tryz.prog 63 #[.pointer (some ⟨n + 2, 2 + 3 * j, none⟩), .pointer none, .int .i64 (s j)] w (RungItm w n j I now busy s d f) := by
  have e49 : ∀ args w, (callFunc 49 args).run Tryz.prog w = .ok (.enter 49 args) w := enters_of Tryz.func49 (by kernel_rfl) rfl
  have e24 : ∀ args w, (callFunc 24 args).run Tryz.prog w = .ok (.enter 24 args) w := enters_of Tryz.func24 (by kernel_rfl) rfl
  obtain ⟨a1, a2, a3, a4, a5, a6, a7, a8⟩ := H.ok
  have ho : ∀ k, I.ng ≤ k → k < I.hi → ¬ Own n k := fun k h1 h2 h => hn k h (.inr ⟨h1, h2⟩)
  refine (ring_hit (fun w2 => TooLate w2 I ∧ Hooked w2 I ∧ Clk w2 n now busy (put s j (s j + 1)) d (put f j .nilFunc) ∧ Kept (fun k => Own n k ∨ (I.ng ≤ k ∧ k < I.ng + 6)) w w2) 49 #[.pointer (some ⟨I.b + 1, 0, none⟩), .pointer (some ⟨I.b + 2, 0, none⟩)] n j now busy s d f e49 hj h0 h1 hf w C ?_).mono ?_
  · intro w1 C1 K1
    have H1 := H.kept K1 (fun c hc h => hn c h hc)
    refine (lring (fun w2 => LateAt w1 w2 I.ng I.lg I.hg I.pg 0 (.pointer none) (.pointer none)) 24 I.b #[.pointer (some ⟨I.g, 0, none⟩)] due e24 w1 H1.wi.l H1.wi.u (within1_open I.g I.ng I.lg I.hg I.pg 0 0 due .nilIface _ _ w1 H1.gs H1.g)).mono ?_
    rintro e w2 ⟨rfl, y, F2, K2⟩
    have C2 := C1.kept K2 (fun c hc h => ho c h.1 (by have := h.2; omega) hc)
    have HH := H1.hooked.kept K2 (fun c _ h2 h => h2 h)
    exact C2.callPost hj (put_same _ _ _) ⟨⟨y, F2⟩, HH, C2, (K1.mono fun _ _ h => .inl h).trans (K2.mono fun _ _ h => .inr h)⟩
  · rintro e w' ⟨rfl, w2, ⟨⟨y, F2⟩, H2, C2, K2⟩, rfl⟩
    have hk : Kept (fun k => k = n + 3 + 2 * j) w2 (w2.setCell ⟨n + 3 + 2 * j, 0, none⟩ (.int .i64 (s j + 2))) := Kept.one w2 ⟨n + 3 + 2 * j, 0, none⟩ _
    have hq : Own n (n + 3 + 2 * j) := ⟨by omega, by omega⟩
    have C3 := C2.setState j hj (s j + 2)
    rw [put_put] at C3
    exact ⟨rfl, ⟨y, F2.kept hk (fun c hc e => ho c hc.1 (by have := hc.2; omega) (e ▸ hq))⟩, H2.kept hk (fun c hc _ e => hn c (e ▸ hq) hc), C3, K2.trans (hk.mono fun _ _ e => .inl (e ▸ hq))⟩

/-- What a ring of a deadline's timer leaves: the child is cancelled. -/
def RungDead (w : World) (n j : Nat) (J : Jds) (now busy : Int) (s d : Nat → Int) (f : Nat → Value) : Ending → World → Prop := fun e w' =>
  e = .returned (.bool true) ∧ Cel w' J.c 1 ∧ Tk.Hd w' (J.c + 5) J.c (J.c + 4) 1 ∧ Clk w' n now busy (put s j (s j + 2)) d (put f j .nilFunc) ∧ Kept (fun k => Own n k ∨ J.Own k) w w'

theorem deadline2_miss (R : World → Prop) (bs b x : Nat) (a : Int) (w : World) (B : Slot w bs 0 (stopOf b x)) (hc : Calls Tryz.prog 50 #[.pointer none, .pointer (some ⟨b, 0, none⟩), .pointer (some ⟨x, 0, none⟩), .pointer (some ⟨b + 1, 0, none⟩)] w (LTold R)) :
    Calls Tryz.prog 30 #[.pointer none, .int .i64 a, .pointer (some ⟨bs, 0, none⟩)] w (LTold R) := by
  have e50 : ∀ args w, (callFunc 50 args).run Tryz.prog w = .ok (.enter 50 args) w := enters_of Tryz.func50 (by kernel_rfl) rfl
  have b0 := B.c
  unfold stopOf at b0
  have HC := Lib.hid hc
  clear B hc
  go_enter Tryz.func30, Tryz.ntmps30
  go_wp2_with fail
  refine HC.out.mono ?_
  rintro e w1 ⟨rfl, r⟩
  have HR := Lib.hid r
  clear r
  go_wp2_with fail
  first | go_end0 | refine bodyPost_ret (results_none rfl _ _ _) rfl ?_
  exact ⟨rfl, HR.out⟩

theorem deadline1_any (R : World → Prop) (xv c : Nat) (due : Int) (w : World) (X : Slot w xv 0 (.pointer (some ⟨c, 0, none⟩))) (hc : Calls Tryz.prog 29 #[.pointer (some ⟨c, 0, none⟩), .pointer none, .int .i64 1] w (Tk.TrueThen R)) :
    Calls Tryz.prog 28 #[.pointer none, .int .i64 due, .pointer (some ⟨xv, 0, none⟩)] w (LTold R) := by
  have x0 := X.c
  have HC := Lib.hid hc
  clear X hc
  go_enter Tryz.func28, Tryz.ntmps28
  go_wp2_with fail
  refine HC.out.mono ?_
  rintro e w1 ⟨rfl, r⟩
  have HR := Lib.hid r
  clear r
  go_wp2_with fail
  first | go_end0 | refine bodyPost_ret (results_none rfl _ _ _) rfl ?_
  exact ⟨rfl, HR.out⟩

theorem ring_dead (n j : Nat) (J : Jds) (now busy due : Int) (s d : Nat → Int) (f : Nat → Value) (hj : j < 16) (h0 : 0 ≤ s j) (h1 : s j ≤ 4611686018427387904) (hm : (s j).tmod 4 = 2) (hf : f j = ringOf J.b) (w : World) (C : Clk w n now busy s d f) (H : Dead w n j J due (s j)) (hn : ∀ k, Own n k → ¬ J.Own k) :
    Calls Tryz.prog 63 #[.pointer (some ⟨n + 2, 2 + 3 * j, none⟩), .pointer none, .int .i64 (s j)] w (RungDead w n j J now busy s d f) := by
  have e49 : ∀ args w, (callFunc 49 args).run Tryz.prog w = .ok (.enter 49 args) w := enters_of Tryz.func49 (by kernel_rfl) rfl
  have e28 : ∀ args w, (callFunc 28 args).run Tryz.prog w = .ok (.enter 28 args) w := enters_of Tryz.func28 (by kernel_rfl) rfl
  have e30 : ∀ args w, (callFunc 30 args).run Tryz.prog w = .ok (.enter 30 args) w := enters_of Tryz.func30 (by kernel_rfl) rfl
  obtain ⟨a1, a2, a3, a4, a5, a6, a7, a8, a9⟩ := H.ok
  have ho : ∀ k, J.c ≤ k → k < J.hi → ¬ Own n k := fun k h1 h2 h => hn k h ⟨h1, h2⟩
  refine (ring_hit (fun w2 => Cel w2 J.c 1 ∧ Tk.Hd w2 (J.c + 5) J.c (J.c + 4) 1 ∧ Clk w2 n now busy (put s j (s j + 1)) d (put f j .nilFunc) ∧ Kept (fun k => Own n k ∨ J.Own k) w w2) 49 #[.pointer (some ⟨J.b + 1, 0, none⟩), .pointer (some ⟨J.b + 2, 0, none⟩)] n j now busy s d f e49 hj h0 h1 hf w C ?_).mono ?_
  · intro w1 C1 K1
    have H1 := H.kept K1 (fun c hc h => hn c h hc)
    refine (lring (fun w2 => Cel w2 J.c 1 ∧ Tk.Hd w2 (J.c + 5) J.c (J.c + 4) 1 ∧ Clk w2 n now busy (put s j (s j + 1)) d (put f j .nilFunc) ∧ Kept J.Own w1 w2) 28 J.b #[.pointer (some ⟨J.xv, 0, none⟩)] due e28 w1 H1.wi.l H1.wi.u
      (deadline1_any _ J.xv (J.c + 5) due w1 H1.xs (Tk.cancel_one _ w1 (J.c + 5) J.c (J.c + 4) J.l J.h J.p (J.u + 4) J.u 1 1 1 _ _ _ (by omega) rfl rfl H1.hd H1.cel H1.live H1.q H1.u (by omega) (by omega) (by omega) ?_))).mono ?_
    · intro w2 K2 X2 _
      have hown : ∀ c, (c = J.c ∨ c = J.h ∨ c = J.u) → J.Own c := by
        rintro c (rfl | rfl | rfl)
        · exact ⟨by omega, by omega⟩
        · exact ⟨by omega, by omega⟩
        · exact ⟨by omega, by omega⟩
      have K2' : Kept J.Own w1 w2 := K2.mono fun c _ h => hown c h
      have C2 := C1.kept K2' (fun c hc h => ho c h.1 h.2 hc)
      have KA : Kept (fun _ => False) w2 (w2.alloc (.cells #[.pointer none, endOf J.bs] 122)) := (Kept.refl _ _).alloc _
      have hne : Hid (¬ put s j (s j + 1) j = s j) := by
        show ¬ _; rw [put_same]; omega
      refine Tk.part_call _ 30 #[.pointer (some ⟨J.bs, 0, none⟩)] e30 1 w2 (deadline2_miss _ J.bs J.b J.x 1 _ ((H1.ss.kept K2 (by omega)).kept KA id)
        ((lstop_miss n j J.b J.x now busy due (s j) _ d _ _ hj hne hm _ (C2.kept KA fun _ _ => id) ((H1.wi.kept K2 (by omega) (by omega) (by omega) (by omega)).kept KA id id id id)).mono ?_))
      rintro e w3 ⟨rfl, K3⟩
      have KB := KA.trans K3
      exact ⟨rfl, X2.kept KB id, (H1.hd.kept K2 (by omega)).kept KB id, C2.kept KB fun _ _ => id, K2'.trans (KB.mono fun _ _ h => h.elim)⟩
    · rintro e w2 ⟨rfl, X2, D2, C2, K2⟩
      exact C2.callPost hj (put_same _ _ _) ⟨X2, D2, C2, (K1.mono fun _ _ h => .inl h).trans (K2.mono fun _ _ h => .inr h)⟩
  · rintro e w' ⟨rfl, w2, ⟨X2, D2, C2, K2⟩, rfl⟩
    have hk : Kept (fun k => k = n + 3 + 2 * j) w2 (w2.setCell ⟨n + 3 + 2 * j, 0, none⟩ (.int .i64 (s j + 2))) := Kept.one w2 ⟨n + 3 + 2 * j, 0, none⟩ _
    have hq : Own n (n + 3 + 2 * j) := ⟨by omega, by omega⟩
    have C3 := C2.setState j hj (s j + 2)
    rw [put_put] at C3
    exact ⟨rfl, X2.kept hk (fun e => ho _ (by omega) (by omega) (e ▸ hq)), D2.kept hk (fun e => ho _ (by omega) (by omega) (e ▸ hq)), C3, K2.trans (hk.mono fun _ _ e => .inl (e ▸ hq))⟩

/-- What filling a limited future in time leaves. -/
def InTimeItm (w : World) (n j : Nat) (I : Ids) (now busy v : Int) (s d : Nat → Int) (f : Nat → Value) : Ending → World → Prop := fun e w' =>
  e = .returned (.bool true) ∧ (∃ x0 x1, Ftr w' I.nf I.lf I.hf I.pf 2 v .nilIface 1 (-1) x0 x1) ∧ Came w' I v ∧ Clk w' n now busy (put s j (s j + 2)) d f ∧ Kept (fun k => Own n k ∨ I.Own k) w w'

theorem complete_itm (n j : Nat) (I : Ids) (now busy due v : Int) (s d : Nat → Int) (f : Nat → Value) (hj : j < 16) (h0 : 0 ≤ s j) (h1 : s j ≤ 4611686018427387904) (hm : (s j).tmod 4 = 2) (w : World) (C : Clk w n now busy s d f) (H : Itm w n j I due (s j)) (hn : ∀ k, Own n k → ¬ I.Own k) :
    Calls Tryz.prog 16 #[.pointer (some ⟨I.nf + 5, 0, none⟩), .pointer none, .int .i64 v, .nilIface] w (InTimeItm w n j I now busy v s d f) := by
  have e25 : ∀ args w, (callFunc 25 args).run Tryz.prog w = .ok (.enter 25 args) w := enters_of Tryz.func25 (by kernel_rfl) rfl
  obtain ⟨a1, a2, a3, a4, a5, a6, a7, a8⟩ := H.ok
  have hlt := H.lt
  have hcs := C.size
  have ho : ∀ k, I.ng ≤ k → k < I.hi → ¬ Own n k := fun k h1 h2 h => hn k h (.inr ⟨h1, h2⟩)
  have hof : ∀ k, FOwn I.nf k → ¬ Own n k := fun k h1 h => hn k h (.inl h1)
  refine (fcomplete_one v (fun k => FOwn I.ng k ∨ Own n k ∨ k = I.b + 1) (fun w' => Came w' I v ∧ Clk w' n now busy (put s j (s j + 2)) d f) e25 w H.f H.q H.u (fun h => by have := h.2; omega) (fun h => by have := h.2; omega) ?_ ?_ ?_).mono ?_
  · rintro k hk (h | h | h)
    · have := hk.2; have := h.1; omega
    · exact hof k hk h
    · have := hk.2; omega
  · rintro k (h | h | h)
    · have := h.2; omega
    · have := h.2; omega
    · omega
  · intro W KW
    have hin : ∀ k, (I.ng ≤ k ∧ k < I.hi ∧ k ≠ I.u) → ¬ (FOwn I.nf k ∨ k = I.u) := by
      rintro k ⟨h1, h2, h3⟩ (h | h)
      · have := h.2; omega
      · exact h3 h
    have C1 := C.kept KW (fun c hc h => h.elim (fun h => hof c h hc) fun h => ho c (by omega) (by omega) hc)
    have G1 := H.g.kept KW (fun c hc => hin c ⟨hc.1, by have := hc.2; omega, by have := hc.2; omega⟩)
    have W1 := H.wi.kept KW (hin _ (by omega)) (hin _ (by omega)) (hin _ (by omega)) (hin _ (by omega))
    refine (within2_hit I.g I.bs n j I.b I.x I.ng I.lg I.hg I.pg now busy due (s j) v 0 0 s d f _ _ _ _ hj rfl hm h0 h1 (ho _ (by omega) (by omega)) W C1 W1 (H.gs.kept KW (hin _ (by omega))) (H.ss.kept KW (hin _ (by omega))) G1
      (fun k hk h => ho k h.1 (by have := h.2; omega) hk) ⟨fun h => by have := h.2; omega, fun h => by have := h.2; omega, fun h => by have := h.2; omega, fun h => by have := h.2; omega, fun h => by have := h.2; omega⟩).mono ?_
    rintro e w2 ⟨rfl, F2, C2, _, K2⟩
    exact ⟨rfl, K2, F2, C2⟩
  · rintro e w' ⟨rfl, F2, K2, G2, C2⟩
    refine ⟨rfl, ⟨_, _, F2⟩, G2, C2, K2.mono ?_⟩
    rintro k _ (h | h | h | h | h)
    · exact .inr (.inl h)
    · exact .inr (.inr (by omega))
    · exact .inr (.inr ⟨h.1, by have := h.2; omega⟩)
    · exact .inl h
    · exact .inr (.inr (by omega))

end Go.Proofs.YtkbcpifhbpfhlaaGreatDoor

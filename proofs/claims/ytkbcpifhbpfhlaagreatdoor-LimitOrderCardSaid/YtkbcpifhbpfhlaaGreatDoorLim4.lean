/-
  Package limit, a nil thread: Within.
-/
import Derived.Test.YtkbcpifhbpfhlaaGreatDoorLim3
namespace Go.Proofs.YtkbcpifhbpfhlaaGreatDoor
open Go.RowKit

/-- Where what Within makes lies: the future nf that it limits (its list's cells lf, hf, its row pf), the one ng that it answers; the variables g and bs, the timer's b, x; the place q0 and the function u of the first one's list; hi: where it ends. -/
structure Ids where
  nf : Nat
  lf : Nat
  hf : Nat
  pf : Nat
  ng : Nat
  lg : Nat
  hg : Nat
  pg : Nat
  g : Nat
  b : Nat
  x : Nat
  bs : Nat
  q0 : Nat
  u : Nat
  hi : Nat

/-- They lie in this order. -/
structure Ids.Ok (I : Ids) : Prop where
  f : I.nf + 6 ≤ I.ng
  g : I.ng + 6 ≤ I.g
  b : I.g < I.b
  x : I.b + 3 ≤ I.x
  bs : I.x < I.bs
  q0 : I.bs < I.q0 ∧ I.q0 < I.hi
  u : I.bs < I.u ∧ I.u < I.hi
  ne : I.q0 ≠ I.u

def Ids.Own (I : Ids) : Nat → Prop := fun k => (I.nf ≤ k ∧ k < I.nf + 6) ∨ (I.ng ≤ k ∧ k < I.hi)

def lateOf (g : Nat) : Value := .func (.func 24) #[] #[.pointer (some ⟨g, 0, none⟩)]
def tellOf (g bs : Nat) : Value := .func (.func 25) #[] #[.pointer (some ⟨g, 0, none⟩), .pointer (some ⟨bs, 0, none⟩)]

/-- What stands where neither has come. -/
structure Itm (w : World) (n j : Nat) (I : Ids) (due st : Int) : Prop where
  ok : I.Ok
  lt : I.hi ≤ w.heap.size
  f : Ftr w I.nf I.lf I.hf I.pf 0 0 .nilIface 1 1 (.pointer (some ⟨I.q0, 0, none⟩)) (.pointer none)
  g : Ftr w I.ng I.lg I.hg I.pg 0 0 .nilIface 0 0 (.pointer none) (.pointer none)
  gs : Slot w I.g 0 (.pointer (some ⟨I.ng + 5, 0, none⟩))
  wi : Wired w n j I.b I.x due st (lateOf I.g)
  ss : Slot w I.bs 0 (stopOf I.b I.x)
  q : Two w I.q0 (.pointer (some ⟨I.u, 0, none⟩)) (.int .i64 0)
  u : Slot w I.u 0 (tellOf I.g I.bs)

theorem Itm.kept {S : Nat → Prop} {w w' : World} {n j : Nat} {I : Ids} {due st : Int} (H : Itm w n j I due st) (k : Kept S w w') (hs : ∀ c, I.Own c → ¬ S c) : Itm w' n j I due st := by
  obtain ⟨a1, a2, a3, a4, a5, a6, a7, a8⟩ := H.ok
  have hg : ∀ c, I.ng ≤ c → c < I.hi → ¬ S c := fun c h1 h2 => hs c (.inr ⟨h1, h2⟩)
  exact ⟨H.ok, Nat.le_trans H.lt k.size, H.f.kept k (fun c hc => hs c (.inl hc)), H.g.kept k (fun c hc => hg c hc.1 (by have := hc.2; omega)), H.gs.kept k (hg _ (by omega) (by omega)),
    H.wi.kept k (hg _ (by omega) (by omega)) (hg _ (by omega) (by omega)) (hg _ (by omega) (by omega)) (hg _ (by omega) (by omega)), H.ss.kept k (hg _ (by omega) (by omega)), H.q.kept k (hg _ (by omega) (by omega)), H.u.kept k (hg _ (by omega) (by omega))⟩

/-- What Within leaves. -/
def LWithin (w : World) (n j nf lf hf pf : Nat) (now busy due : Int) (s d : Nat → Int) (f : Nat → Value) : Ending → World → Prop := fun e w' =>
  ∃ I : Ids, e = .returned (.tuple #[.pointer (some ⟨I.ng + 5, 0, none⟩), .int .i64 0]) ∧ I.nf = nf ∧ I.lf = lf ∧ I.hf = hf ∧ I.pf = pf ∧ w.heap.size ≤ I.ng ∧ Itm w' n j I due (s j + 2) ∧
    Clk w' n now busy (put s j (s j + 2)) (put d j due) (put f j (ringOf I.b)) ∧ Kept (fun k => Own n k ∨ FOwn nf k) w w'

def LRefused (w : World) (x : Int) : Ending → World → Prop := fun e w' => e = .returned (.tuple #[.pointer none, .int .i64 x]) ∧ Kept (fun _ => False) w w'

theorem within_unmade (c f : Value) (dt : Int) (w : World) (hu : Calls Tryz.prog 21 #[c] w fun e w' => e = .returned (.bool true) ∧ Kept (fun _ => False) w w') :
    Calls Tryz.prog 8 #[.pointer none, c, f, .int .i64 dt] w (LRefused w 2) := by
  have HU := Lib.hid hu
  clear hu
  go_enter Tryz.func8, Tryz.ntmps8
  go_wp2_with fail
  refine HU.out.mono ?_
  rintro e w1 ⟨rfl, k⟩
  have K := Lib.hid k
  clear k
  go_wp2_with fail
  go_ret2
  exact ⟨rfl, K.out⟩

theorem within_nofuture (n : Nat) (now busy : Int) (s d : Nat → Int) (f : Nat → Value) (dt : Int) (w : World) (C : Clk w n now busy s d f) :
    Calls Tryz.prog 8 #[.pointer none, .pointer (some ⟨n + 2, 0, none⟩), .pointer none, .int .i64 dt] w (LRefused w 2) := by
  have HU := Lib.hid (unmade_no n now busy s d f w C)
  clear C
  go_enter Tryz.func8, Tryz.ntmps8
  go_wp2_with fail
  refine HU.out.mono ?_
  rintro e w1 ⟨rfl, k⟩
  have K := Lib.hid k
  clear k
  go_wp2_with fail
  refine (fthen_nil _ _).mono ?_
  rintro e w2 ⟨rfl, rfl⟩
  go_wp2_with fail
  go_ret2
  exact ⟨rfl, K.out⟩

theorem within_low (n nf lf hf pf : Nat) (now busy : Int) (s d : Nat → Int) (f : Nat → Value) (sf vf m hd : Int) (ef x0 x1 : Value) (dt : Int) (hdt : dt < 0) (w : World) (C : Clk w n now busy s d f) (F : Ftr w nf lf hf pf sf vf ef m hd x0 x1) :
    Calls Tryz.prog 8 #[.pointer none, .pointer (some ⟨n + 2, 0, none⟩), .pointer (some ⟨nf + 5, 0, none⟩), .int .i64 dt] w (LRefused w 1) := by
  have HU := Lib.hid (unmade_no n now busy s d f w C)
  have HF := Lib.hid F
  clear C F
  go_enter Tryz.func8, Tryz.ntmps8
  go_wp2_with fail
  refine HU.out.mono ?_
  rintro e w1 ⟨rfl, k⟩
  have K := Lib.hid k
  have HT := Lib.hid (fthen_arg (nf + 5) _ _ (HF.out.far k).t0)
  clear k
  go_wp2_with fail
  refine HT.out.mono ?_
  rintro e w2 ⟨rfl, rfl⟩
  go_wp2_with fail
  go_ret2
  exact ⟨rfl, K.out⟩

set_option maxRecDepth 100000 in
set_option maxHeartbeats 1000000 in
theorem within_made (n j nf lf hf pf : Nat) (now busy : Int) (s d : Nat → Int) (f : Nat → Value) (dt : Int) (hdt : 0 ≤ dt) (h0 : 0 ≤ now) (h1 : now ≤ 4611686018427387904) (hj : j < 16) (hb : ∀ i, i < j → ¬ (s i).tmod 4 = 0)
    (hf0 : (s j).tmod 4 = 0) (hs0 : 0 ≤ s j) (hs1 : s j ≤ 4611686018427387904) (w : World) (C : Clk w n now busy s d f) (F : Ftr w nf lf hf pf 0 0 .nilIface 0 0 (.pointer none) (.pointer none)) (hn : n + 35 ≤ nf) :
    Calls Tryz.prog 8 #[.pointer none, .pointer (some ⟨n + 2, 0, none⟩), .pointer (some ⟨nf + 5, 0, none⟩), .int .i64 dt] w (LWithin w n j nf lf hf pf now busy (later now dt) s d f) := by
  have hmf : ∀ (fn : Fn) (first cap : Array Value) (w : World), (Instr.makeFunc fn first cap).run Tryz.prog w = .ok (.func fn first cap) w := fun _ _ _ _ => rfl
  have HU := Lib.hid (unmade_no n now busy s d f w C)
  have HF := Lib.hid F
  have HC := Lib.hid C
  have HB := Lib.hid hb
  have HF0 := Lib.hid hf0
  have hl : ¬ dt < 0 := by omega
  have sz := F.size
  clear C F hb hf0
  go_enter Tryz.func8, Tryz.ntmps8
  go_wp2_with fail
  refine HU.out.mono ?_
  rintro e w1 ⟨rfl, k1⟩
  have F1 := HF.out.far k1
  have C1 := HC.out.kept k1 fun _ _ => id
  have HT := Lib.hid (fthen_arg (nf + 5) _ _ F1.t0)
  have HF1 := Lib.hid F1
  have HC1 := Lib.hid C1
  have HK1 := Lib.hid k1
  clear k1 F1 C1
  go_wp2_with fail
  refine HT.out.mono ?_
  rintro e w2 ⟨rfl, rfl⟩
  go_wp2_with fail
  refine (fnew_any _).mono ?_
  rintro e w2 ⟨lg, hg, pg, rfl, z2, G2, K2⟩
  have HZ2 := Lib.hid z2
  have HG2 := Lib.hid G2
  have HK2 := Lib.hid K2
  clear z2 G2 K2
  go_wp2_with fail
  have HC2 := Lib.hid ((HC1.out.kept HK2.out fun _ _ => id).alloc (.cells #[.pointer (some ⟨w1.heap.size + 5, 0, none⟩)] 26))
  refine (lset_made n j 24 #[.pointer (some ⟨w2.heap.size, 0, none⟩)] now busy dt s d f h0 h1 hdt hj HB.out HF0.out hs0 hs1 _ HC2.out).mono ?_
  rintro e w3 ⟨x, rfl, x1, x2, W3, C3, K3⟩
  have hbb : (w2.alloc (.cells #[.pointer (some ⟨w1.heap.size + 5, 0, none⟩)] 26)).heap.size = w2.heap.size + 1 := by simp
  rw [hbb] at x1 W3 C3 ⊢
  clear hbb
  have X1 := Lib.hid x1
  have X2 := Lib.hid x2
  have HW3 := Lib.hid W3
  have HC3 := Lib.hid C3
  have HK3 := Lib.hid K3
  clear x1 x2 W3 C3 K3
  go_wp2_with fail
  have KA : Kept (fun _ => False) w2 (w2.alloc (.cells #[.pointer (some ⟨w1.heap.size + 5, 0, none⟩)] 26)) := (Kept.refl _ _).alloc _
  have hz1 : w.heap.size ≤ w1.heap.size := HK1.out.size
  have hz2 := HZ2.out
  have hx1 := X1.out
  have hx2 := X2.out
  have o1 : ∀ c, FOwn nf c → ¬ Own n c := fun c h1 h2 => by have := h1.1; have := h2.2; omega
  have o2 : ∀ c, FOwn w1.heap.size c → ¬ Own n c := fun c h1 h2 => by have := h1.1; have := h2.2; omega
  have o3 : ¬ Own n w2.heap.size := fun h2 => by have := h2.2; omega
  have F3 := ((HF1.out.far HK2.out).far KA).kept HK3.out o1
  have G3 := (HG2.out.far KA).kept HK3.out o2
  have S3 := (slot_new w2 (.pointer (some ⟨w1.heap.size + 5, 0, none⟩)) 26 _ rfl).kept HK3.out o3
  have KB : Kept (fun _ => False) w3 (w3.alloc (.cells #[.func (.func 50) #[] #[.pointer (some ⟨w2.heap.size + 1, 0, none⟩), .pointer (some ⟨x, 0, none⟩), .pointer (some ⟨w2.heap.size + 1 + 1, 0, none⟩)]] 32)) := (Kept.refl _ _).alloc _
  have HF4 := Lib.hid (F3.far KB)
  have HG4 := Lib.hid (G3.far KB)
  have HS4 := Lib.hid (S3.kept KB id)
  have HW4 := Lib.hid (HW3.out.kept KB id id id id)
  have HC4 := Lib.hid (HC3.out.kept KB fun _ _ => id)
  have HB4 := Lib.hid (slot_new w3 (.func (.func 50) #[] #[.pointer (some ⟨w2.heap.size + 1, 0, none⟩), .pointer (some ⟨x, 0, none⟩), .pointer (some ⟨w2.heap.size + 1 + 1, 0, none⟩)]) 32 _ rfl)
  have HK4 := Lib.hid ((((HK1.out.trans HK2.out).trans KA).mono (T := Own n) (fun _ _ h => h.elim)).trans (HK3.out.trans (KB.mono fun _ _ h => h.elim)))
  clear F3 G3 S3 KA KB
  refine (fthen_open 25 #[.pointer (some ⟨w2.heap.size, 0, none⟩), .pointer (some ⟨w3.heap.size, 0, none⟩)] _ HF4.out).mono ?_
  rintro e w5 ⟨rfl, q0, u, g1, g2, F5, Q5, U5, K5⟩
  simp at g1 g2
  have hne : q0 ≠ u := by
    rintro rfl
    have := Q5.c0.symm.trans U5.c
    simp at this
  have p1 : ∀ c, w1.heap.size ≤ c → ¬ FOwn nf c := fun c h1 h2 => by have := h2.2; have := HF1.out.size; omega
  have G5 := HG4.out.kept K5 (fun c h => p1 c h.1)
  have S5 := HS4.out.kept K5 (p1 _ (by omega))
  have W5 := HW4.out.kept K5 (p1 _ (by omega)) (p1 _ (by omega)) (p1 _ (by omega)) (p1 _ (by omega))
  have B5 := HB4.out.kept K5 (p1 _ (by omega))
  have C5 := HC4.out.kept K5 (fun c h1 h2 => o1 c h2 h1)
  have KK := (HK4.out.mono (T := fun k => Own n k ∨ FOwn nf k) fun _ _ h => .inl h).trans (K5.mono fun _ _ h => .inr h)
  have qz := Q5.lt
  have uz := U5.lt
  have HI : Hid (Itm w5 n j ⟨nf, lf, hf, pf, w1.heap.size, lg, hg, pg, w2.heap.size, w2.heap.size + 1, x, w3.heap.size, q0, u, w5.heap.size⟩ (later now dt) (s j + 2)) :=
    ⟨⟨by show nf + 6 ≤ w1.heap.size; have := HF1.out.size; omega, by show w1.heap.size + 6 ≤ w2.heap.size; omega, by show w2.heap.size < w2.heap.size + 1; omega, by show w2.heap.size + 1 + 3 ≤ x; omega, hx2, ⟨by show w3.heap.size < q0; omega, qz⟩, ⟨by show w3.heap.size < u; omega, uz⟩, hne⟩,
      Nat.le_refl _, F5, G5, S5, W5, B5, Q5, U5⟩
  have HC5 := Lib.hid C5
  have HK5 := Lib.hid KK
  have c0 := S5.c
  have HZ1 := Lib.hid hz1
  clear G5 S5 W5 B5 C5 KK F5 Q5 U5 K5 g1 g2 hne p1 o1 o2 o3 hz1 hz2 hx1 hx2 qz uz
  go_wp2_with fail
  go_ret2
  exact ⟨_, rfl, rfl, rfl, rfl, rfl, HZ1.out, HI.out, HC5.out, HK5.out⟩

end Go.Proofs.YtkbcpifhbpfhlaaGreatDoor

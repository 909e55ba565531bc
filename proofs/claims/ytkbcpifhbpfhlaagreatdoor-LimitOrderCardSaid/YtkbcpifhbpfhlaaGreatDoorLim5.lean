/-
  Package limit, a nil thread: Deadline.
-/
import Derived.Test.YtkbcpifhbpfhlaaGreatDoorLim4
import Derived.Test.YtkbcpifhbpfhlaaGreatDoorTok8
namespace Go.Proofs.YtkbcpifhbpfhlaaGreatDoor
open Go.RowKit

/-- Where what Deadline makes lies: the child at c (its list's cells l, h, its row p), the variables xv and bs, the timer's b, x; the function u of the child's list; hi: where it ends. -/
structure Jds where
  c : Nat
  l : Nat
  h : Nat
  p : Nat
  xv : Nat
  b : Nat
  x : Nat
  bs : Nat
  u : Nat
  hi : Nat

structure Jds.Ok (J : Jds) : Prop where
  l : J.c + 1 ≤ J.l ∧ J.l < J.c + 4
  h : J.c + 1 ≤ J.h ∧ J.h < J.c + 4
  p : J.c + 1 ≤ J.p ∧ J.p < J.c + 4
  ne : J.l ≠ J.h ∧ J.l ≠ J.p ∧ J.h ≠ J.p
  xv : J.c + 6 ≤ J.xv
  b : J.xv < J.b
  x : J.b + 3 ≤ J.x
  bs : J.x < J.bs
  u : J.bs < J.u ∧ J.u + 4 < J.hi

def Jds.Own (J : Jds) : Nat → Prop := fun k => J.c ≤ k ∧ k < J.hi

def overOf (xv : Nat) : Value := .func (.func 28) #[] #[.pointer (some ⟨xv, 0, none⟩)]
def endOf (bs : Nat) : Value := .func (.func 30) #[] #[.pointer (some ⟨bs, 0, none⟩)]

/-- What stands of a deadline that has not come. -/
structure Dead (w : World) (n j : Nat) (J : Jds) (due st : Int) : Prop where
  ok : J.Ok
  lt : J.hi ≤ w.heap.size
  cel : Cel w J.c 0
  hd : Tk.Hd w (J.c + 5) J.c (J.c + 4) 1
  live : Tk.Live w (J.c + 4) J.l J.h J.p 1 1 (.pointer (some ⟨J.u + 4, 0, none⟩)) (.pointer none)
  q : Two w (J.u + 4) (.pointer (some ⟨J.u, 0, none⟩)) (.int .i64 0)
  u : Two w J.u (.pointer none) (endOf J.bs)
  xs : Slot w J.xv 0 (.pointer (some ⟨J.c + 5, 0, none⟩))
  wi : Wired w n j J.b J.x due st (overOf J.xv)
  ss : Slot w J.bs 0 (stopOf J.b J.x)

theorem Dead.kept {S : Nat → Prop} {w w' : World} {n j : Nat} {J : Jds} {due st : Int} (H : Dead w n j J due st) (k : Kept S w w') (hs : ∀ c, J.Own c → ¬ S c) : Dead w' n j J due st := by
  obtain ⟨a1, a2, a3, a4, a5, a6, a7, a8, a9⟩ := H.ok
  have hg : ∀ c, J.c ≤ c → c < J.hi → ¬ S c := fun c h1 h2 => hs c ⟨h1, h2⟩
  exact ⟨H.ok, Nat.le_trans H.lt k.size, H.cel.kept k (hg _ (by omega) (by omega)), H.hd.kept k (hg _ (by omega) (by omega)), H.live.kept k (hg _ (by omega) (by omega)) (hg _ (by omega) (by omega)) (hg _ (by omega) (by omega)) (hg _ (by omega) (by omega)),
    H.q.kept k (hg _ (by omega) (by omega)), H.u.kept k (hg _ (by omega) (by omega)), H.xs.kept k (hg _ (by omega) (by omega)),
    H.wi.kept k (hg _ (by omega) (by omega)) (hg _ (by omega) (by omega)) (hg _ (by omega) (by omega)) (hg _ (by omega) (by omega)), H.ss.kept k (hg _ (by omega) (by omega))⟩

/-- What Deadline leaves: the child, its parent's reason as it was. -/
def LDeadline (w : World) (n j kb kl kh kp : Nat) (now busy due : Int) (s d : Nat → Int) (f : Nat → Value) : Ending → World → Prop := fun e w' =>
  ∃ J : Jds, e = .returned (.tuple #[.pointer (some ⟨J.c + 5, 0, none⟩), .int .i64 0]) ∧ w.heap.size ≤ J.c ∧ Dead w' n j J due (s j + 2) ∧
    Clk w' n now busy (put s j (s j + 2)) (put d j due) (put f j (ringOf J.b)) ∧ Kept (fun k => Own n k ∨ k = kl ∨ k = kh ∨ k = kp) w w'

theorem deadline_unmade (c f : Value) (dt : Int) (w : World) (hu : Calls Tryz.prog 21 #[c] w fun e w' => e = .returned (.bool true) ∧ Kept (fun _ => False) w w') :
    Calls Tryz.prog 9 #[.pointer none, c, f, .int .i64 dt] w (LRefused w 2) := by
  have HU := Lib.hid hu
  clear hu
  go_enter Tryz.func9, Tryz.ntmps9
  go_wp2_with fail
  refine HU.out.mono ?_
  rintro e w1 ⟨rfl, k⟩
  have K := Lib.hid k
  clear k
  go_wp2_with fail
  go_ret2
  exact ⟨rfl, K.out⟩

theorem deadline_bare (n k : Nat) (now busy : Int) (s d : Nat → Int) (f : Nat → Value) (dt : Int) (w : World) (C : Clk w n now busy s d f) (h : w.cell? ⟨k, 0, none⟩ = some (.pointer none)) (hk : k < w.heap.size) :
    Calls Tryz.prog 9 #[.pointer none, .pointer (some ⟨n + 2, 0, none⟩), .pointer (some ⟨k, 0, none⟩), .int .i64 dt] w (LRefused w 2) := by
  have HU := Lib.hid (unmade_no n now busy s d f w C)
  clear C
  go_enter Tryz.func9, Tryz.ntmps9
  go_wp2_with fail
  refine HU.out.mono ?_
  rintro e w1 ⟨rfl, k1⟩
  have K := Lib.hid k1
  have h1 : w1.cell? ⟨k, 0, none⟩ = some (.pointer none) := (k1.cell (p := ⟨k, 0, none⟩) hk id).trans h
  clear k1
  go_wp2_with fail
  refine (Tk.on_bare k _ _ h1).mono ?_
  rintro e w2 ⟨rfl, rfl⟩
  go_wp2_with fail
  go_ret2
  exact ⟨rfl, K.out⟩

theorem deadline_low (n k r b : Nat) (now busy kd : Int) (s d : Nat → Int) (f : Nat → Value) (dt : Int) (hdt : dt < 0) (w : World) (C : Clk w n now busy s d f) (H : Tk.Hd w k r b kd) :
    Calls Tryz.prog 9 #[.pointer none, .pointer (some ⟨n + 2, 0, none⟩), .pointer (some ⟨k, 0, none⟩), .int .i64 dt] w (LRefused w 1) := by
  have HU := Lib.hid (unmade_no n now busy s d f w C)
  have HH := Lib.hid H
  clear C H
  go_enter Tryz.func9, Tryz.ntmps9
  go_wp2_with fail
  refine HU.out.mono ?_
  rintro e w1 ⟨rfl, k1⟩
  have K := Lib.hid k1
  have HT := Lib.hid (Tk.on_arg k _ _ (HH.out.kept k1 id).k0)
  clear k1
  go_wp2_with fail
  refine HT.out.mono ?_
  rintro e w2 ⟨rfl, rfl⟩
  go_wp2_with fail
  go_ret2
  exact ⟨rfl, K.out⟩

set_option maxRecDepth 100000 in
set_option maxHeartbeats 1000000 in
theorem deadline_made (n j k r kb kl kh kp : Nat) (now busy : Int) (s d : Nat → Int) (f : Nat → Value) (dt : Int) (hdt : 0 ≤ dt) (h0 : 0 ≤ now) (h1 : now ≤ 4611686018427387904) (hj : j < 16) (hb : ∀ i, i < j → ¬ (s i).tmod 4 = 0)
    (hf0 : (s j).tmod 4 = 0) (hs0 : 0 ≤ s j) (hs1 : s j ≤ 4611686018427387904) (w : World) (C : Clk w n now busy s d f) (H : Tk.Hd w k r kb 0) (L : Tk.Live w kb kl kh kp 0 0 (.pointer none) (.pointer none))
    (hl : ¬ Own n kl) (hh : ¬ Own n kh) (hp : ¬ Own n kp) :
    Calls Tryz.prog 9 #[.pointer none, .pointer (some ⟨n + 2, 0, none⟩), .pointer (some ⟨k, 0, none⟩), .int .i64 dt] w (LDeadline w n j kb kl kh kp now busy (later now dt) s d f) := by
  have hmf : ∀ (fn : Fn) (first cap : Array Value) (w : World), (Instr.makeFunc fn first cap).run Tryz.prog w = .ok (.func fn first cap) w := fun _ _ _ _ => rfl
  have HU := Lib.hid (unmade_no n now busy s d f w C)
  have HH := Lib.hid H
  have HL := Lib.hid L
  have HC := Lib.hid C
  have HB := Lib.hid hb
  have HF0 := Lib.hid hf0
  have HO : Hid (¬ Own n kl ∧ ¬ Own n kh ∧ ¬ Own n kp) := ⟨hl, hh, hp⟩
  have hlo : ¬ dt < 0 := by omega
  have sz := C.size
  clear C H L hb hf0 hl hh hp
  go_enter Tryz.func9, Tryz.ntmps9
  go_wp2_with fail
  refine HU.out.mono ?_
  rintro e w1 ⟨rfl, k1⟩
  have H1 := HH.out.kept k1 id
  have L1 := HL.out.kept k1 id id id id
  have HC1 := Lib.hid (HC.out.kept k1 fun _ _ => id)
  have HT := Lib.hid (Tk.on_arg k _ _ H1.k0)
  have HX := Lib.hid (Tk.child_takes w1 k r kb kl kh kp 0 _ (by omega) (by omega) H1 L1)
  have HK1 := Lib.hid k1
  clear k1 H1 L1
  go_wp2_with fail
  refine HT.out.mono ?_
  rintro e w2 ⟨rfl, hw⟩
  obtain rfl := hw.symm
  go_wp2_with fail
  refine HX.out.mono ?_
  rintro e w2 ⟨l', h', p', rfl, z2, N2, _, _, _, K2⟩
  have HZ2 := Lib.hid z2
  have HN2 := Lib.hid N2
  have HK2 := Lib.hid K2
  clear z2 N2 K2
  go_wp2_with fail
  have q2 : ∀ c, Own n c → ¬ (c = kl ∨ c = kh ∨ c = kp) := by
    rintro c hc (rfl | rfl | rfl)
    · exact HO.out.1 hc
    · exact HO.out.2.1 hc
    · exact HO.out.2.2 hc
  have HC2 := Lib.hid ((HC1.out.kept HK2.out q2).alloc (.cells #[.pointer (some ⟨w1.heap.size + 5, 0, none⟩)] 24))
  refine (lset_made n j 28 #[.pointer (some ⟨w2.heap.size, 0, none⟩)] now busy dt s d f h0 h1 hdt hj HB.out HF0.out hs0 hs1 _ HC2.out).mono ?_
  rintro e w3 ⟨x, rfl, x1, x2, W3, C3, K3⟩
  have hbb : (w2.alloc (.cells #[.pointer (some ⟨w1.heap.size + 5, 0, none⟩)] 24)).heap.size = w2.heap.size + 1 := by simp
  rw [hbb] at x1 W3 C3 ⊢
  have X1 := Lib.hid x1
  have X2 := Lib.hid x2
  have HW3 := Lib.hid W3
  have HC3 := Lib.hid C3
  have HK3 := Lib.hid K3
  have S3 := (slot_new w2 (.pointer (some ⟨w1.heap.size + 5, 0, none⟩)) 24 _ rfl).kept K3 (fun h2 => by have := h2.2; have := HK1.out.size; have := HZ2.out; omega)
  have s0 := S3.c
  have slt := S3.lt
  have HS3 := Lib.hid S3
  clear hbb x1 x2 W3 C3 K3 S3
  go_wp2_with fail
  have KA : Kept (fun _ => False) w2 (w2.alloc (.cells #[.pointer (some ⟨w1.heap.size + 5, 0, none⟩)] 24)) := (Kept.refl _ _).alloc _
  have hz1 : w.heap.size ≤ w1.heap.size := HK1.out.size
  have hz2 := HZ2.out
  have hx1 := X1.out
  have hx2 := X2.out
  have o2 : ∀ c, w1.heap.size ≤ c → ¬ Own n c := fun c h1 h2 => by have := h2.2; omega
  have N3 := (HN2.out.kept KA fun _ _ _ => id).kept HK3.out fun c h1 _ => o2 c h1
  have S3 := HS3.out
  have KB : Kept (fun _ => False) w3 (w3.alloc (.cells #[.func (.func 50) #[] #[.pointer (some ⟨w2.heap.size + 1, 0, none⟩), .pointer (some ⟨x, 0, none⟩), .pointer (some ⟨w2.heap.size + 1 + 1, 0, none⟩)]] 32)) := (Kept.refl _ _).alloc _
  have N4 := N3.kept KB fun _ _ _ => id
  have HS4 := Lib.hid (S3.kept KB id)
  have HW4 := Lib.hid (HW3.out.kept KB id id id id)
  have HC4 := Lib.hid (HC3.out.kept KB fun _ _ => id)
  have HB4 := Lib.hid (slot_new w3 (.func (.func 50) #[] #[.pointer (some ⟨w2.heap.size + 1, 0, none⟩), .pointer (some ⟨x, 0, none⟩), .pointer (some ⟨w2.heap.size + 1 + 1, 0, none⟩)]) 32 _ rfl)
  have HK4 := Lib.hid (((HK1.out.mono (T := fun k => Own n k ∨ k = kl ∨ k = kh ∨ k = kp) (fun _ _ h => h.elim)).trans (HK2.out.mono fun _ _ h => .inr h)).trans ((KA.mono fun _ _ h => h.elim).trans ((HK3.out.mono fun _ _ h => .inl h).trans (KB.mono fun _ _ h => h.elim))))
  have HN4 := Lib.hid N4
  have HY := Lib.hid (Tk.on_first _ (w1.heap.size + 5) w1.heap.size (w1.heap.size + 4) l' h' p' _ (.pointer none) (.func 30) #[] #[.pointer (some ⟨w3.heap.size, 0, none⟩)] N4.hd N4.live)
  clear N3 S3 KA KB N4 q2 hz2 hx1 hx2 hz1 o2
  go_wp2_with fail
  refine HY.out.mono ?_
  rintro e w5 ⟨rfl, z5, L5, Q5, U5, K5⟩
  have hz1 : w.heap.size ≤ w1.heap.size := HK1.out.size
  have hz2 := HZ2.out
  have hx1 := X1.out
  have hx2 := X2.out
  have hbb : (w3.alloc (.cells #[.func (.func 50) #[] #[.pointer (some ⟨w2.heap.size + 1, 0, none⟩), .pointer (some ⟨x, 0, none⟩), .pointer (some ⟨w2.heap.size + 1 + 1, 0, none⟩)]] 32)).heap.size = w3.heap.size + 1 := by simp
  rw [hbb] at z5 L5 Q5 U5
  obtain ⟨a0, a1, a2, a3, a4, a5, a6, a7⟩ := HN4.out
  have p1 : ∀ c, (c = w1.heap.size ∨ w1.heap.size + 4 ≤ c) → ¬ (c = l' ∨ c = h' ∨ c = p') := fun c h1 h2 => by omega
  have HI : Hid (Dead w5 n j ⟨w1.heap.size, l', h', p', w2.heap.size, w2.heap.size + 1, x, w3.heap.size, w3.heap.size + 1, w5.heap.size⟩ (later now dt) (s j + 2)) :=
    ⟨⟨a1, a2, a3, a4, by show w1.heap.size + 6 ≤ w2.heap.size; omega, by show w2.heap.size < w2.heap.size + 1; omega, by show w2.heap.size + 1 + 3 ≤ x; omega, hx2, ⟨by show w3.heap.size < w3.heap.size + 1; omega, by show w3.heap.size + 1 + 4 < w5.heap.size; omega⟩⟩, Nat.le_refl _,
      a5.kept K5 (p1 _ (.inl rfl)), a7.kept K5 (p1 _ (.inr (by omega))), L5, Q5, U5, HS4.out.kept K5 (p1 _ (.inr (by omega))),
      HW4.out.kept K5 (p1 _ (.inr (by omega))) (p1 _ (.inr (by omega))) (p1 _ (.inr (by omega))) (p1 _ (.inr (by omega))), HB4.out.kept K5 (p1 _ (.inr (by omega)))⟩
  have HC5 := Lib.hid (HC4.out.kept K5 fun c h1 h2 => by have := h1.2; omega)
  have HK5 := Lib.hid (HK4.out.via K5 fun i hi => .inr (by omega))
  have c0 := HI.out.xs.c
  have HZ1 := Lib.hid hz1
  clear z5 L5 Q5 U5 K5 a0 a1 a2 a3 a4 a5 a6 a7 p1 hbb hz1 hz2 hx1 hx2 s0 slt
  go_wp2_with fail
  go_ret2
  exact ⟨_, rfl, HZ1.out, HI.out, HC5.out, HK5.out⟩

end Go.Proofs.YtkbcpifhbpfhlaaGreatDoor

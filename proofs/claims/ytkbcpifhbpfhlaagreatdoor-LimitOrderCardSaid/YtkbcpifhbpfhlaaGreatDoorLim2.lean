/-
  Package limit, a nil thread: set, and what it answers.
-/
import Derived.Test.YtkbcpifhbpfhlaaGreatDoorLim1
namespace Go.Proofs.YtkbcpifhbpfhlaaGreatDoor
open Go.RowKit

/-- The variables of a timer that set laid into slot j: the clock, what is called late, the due; the timer. -/
structure Wired (w : World) (n j b x : Nat) (due st : Int) (late : Value) : Prop where
  c : Slot w b 0 (.pointer (some ⟨n + 2, 0, none⟩))
  l : Slot w (b + 1) 0 late
  u : Slot w (b + 2) 0 (.int .i64 due)
  t : Two w x (.int .i64 j) (.int .i64 st)

theorem Wired.kept {S : Nat → Prop} {w w' : World} {n j b x : Nat} {due st : Int} {late : Value} (H : Wired w n j b x due st late) (k : Kept S w w') (h1 : ¬ S b) (h2 : ¬ S (b + 1)) (h3 : ¬ S (b + 2)) (h4 : ¬ S x) : Wired w' n j b x due st late :=
  ⟨H.c.kept k h1, H.l.kept k h2, H.u.kept k h3, H.t.kept k h4⟩

/-- What set answers: what stops its timer. -/
def stopOf (b x : Nat) : Value := .func (.func 50) #[] #[.pointer (some ⟨b, 0, none⟩), .pointer (some ⟨x, 0, none⟩), .pointer (some ⟨b + 1, 0, none⟩)]

/-- What the clock has of its timer. -/
def ringOf (b : Nat) : Value := .func (.func 49) #[] #[.pointer (some ⟨b + 1, 0, none⟩), .pointer (some ⟨b + 2, 0, none⟩)]

def LSet (w : World) (n j : Nat) (now busy due : Int) (s d : Nat → Int) (f : Nat → Value) (late : Value) : Ending → World → Prop := fun e w' =>
  ∃ x : Nat, e = .returned (.tuple #[.func (.func 50) #[] #[.pointer (some ⟨w.heap.size, 0, none⟩), .pointer (some ⟨x, 0, none⟩), .pointer (some ⟨w.heap.size + 1, 0, none⟩)], .int .i64 0]) ∧ w.heap.size + 3 ≤ x ∧ x < w'.heap.size ∧ Wired w' n j w.heap.size x due (s j + 2) late ∧
    Clk w' n now busy (put s j (s j + 2)) (put d j due) (put f j (ringOf w.heap.size)) ∧ Kept (Own n) w w'

theorem slot_new (w : World) (v : Value) (t : TypeId) (b : Nat) (hb : b = w.heap.size) : Slot (w.alloc (.cells #[v] t)) b 0 v := by
  subst hb; exact ⟨by simp, by simp, by simp⟩

theorem Slot.alloc {w : World} {p s : Nat} {v : Value} (h : Slot w p s v) (o : Obj) : Slot (w.alloc o) p s v :=
  h.kept (S := fun _ => False) ((Kept.refl _ w).alloc o) id

theorem set_at' (n j : Nat) (due now busy : Int) (s d : Nat → Int) (f : Nat → Value) (g : Fn) (q1 q2 : Array Value) (h0 : 0 ≤ due) (h1 : due ≤ 4611686018427387904) (hj : j < 16) (hb : ∀ i, i < j → ¬ (s i).tmod 4 = 0)
    (hf : (s j).tmod 4 = 0) (hs0 : 0 ≤ s j) (hs1 : s j ≤ 4611686018427387904) (t : Value) (ht : t = .pointer none) (w : World) (C : Clk w n now busy s d f) :
    Calls Tryz.prog 45 #[.pointer (some ⟨n + 2, 0, none⟩), t, .int .i64 due, .func g q1 q2] w (SetPost w n j now busy due s d f (.func g q1 q2)) := by
  subst ht; exact set_at n j due now busy s d f g q1 q2 h0 h1 hj hb hf hs0 hs1 w C

set_option maxRecDepth 100000 in
set_option maxHeartbeats 800000 in
theorem lset_made (n j K : Nat) (caps : Array Value) (now busy dt : Int) (s d : Nat → Int) (f : Nat → Value) (h0 : 0 ≤ now) (h1 : now ≤ 4611686018427387904) (h2 : 0 ≤ dt) (hj : j < 16) (hb : ∀ i, i < j → ¬ (s i).tmod 4 = 0)
    (hf : (s j).tmod 4 = 0) (hs0 : 0 ≤ s j) (hs1 : s j ≤ 4611686018427387904) (w : World) (C : Clk w n now busy s d f) :
    Calls Tryz.prog 23 #[.pointer none, .pointer (some ⟨n + 2, 0, none⟩), .int .i64 dt, .func (.func K) #[] caps] w (LSet w n j now busy (later now dt) s d f (.func (.func K) #[] caps)) := by
  have hmf : ∀ (fn : Fn) (first cap : Array Value) (w : World), (Instr.makeFunc fn first cap).run Tryz.prog w = .ok (.func fn first cap) w := fun _ _ _ _ => rfl
  have hl := later_le now dt h0 h1 h2
  have L0 := Lib.hid hl
  have HB := Lib.hid hb
  have HN := Lib.hid (now_made n now busy s d f _ ((C.alloc (.cells #[.pointer (some ⟨n + 2, 0, none⟩)] 22)).alloc (.cells #[.func (.func K) #[] caps] 79)))
  have HS := Lib.hid (set_at n j (later now dt) now busy s d f (.func 49) #[] #[.pointer (some ⟨w.heap.size + 1, 0, none⟩), .pointer (some ⟨w.heap.size + 2, 0, none⟩)] hl.1 hl.2 hj hb hf hs0 hs1 _ (((C.alloc (.cells #[.pointer (some ⟨n + 2, 0, none⟩)] 22)).alloc (.cells #[.func (.func K) #[] caps] 79)).alloc (.cells #[.int .i64 (later now dt)] 2)))
  have HD := Lib.hid (behind_any now dt h0 h1 h2)
  have sz := C.size
  clear hl hb C hf
  go_enter Tryz.func23, Tryz.ntmps23
  go_wp2_with fail
  refine HN.out.mono ?_
  rintro e w' ⟨rfl, rfl⟩
  go_wp2_with fail
  refine (HD.out _).mono ?_
  rintro e w' ⟨rfl, rfl⟩
  go_wp2_with fail
  refine HS.out.mono ?_
  rintro e w4 ⟨rfl, C4, K4⟩
  have o0 : ¬ Own n w.heap.size := fun h => by have := h.2; omega
  have o1 : ¬ Own n (w.heap.size + 1) := fun h => by have := h.2; omega
  have o2 : ¬ Own n (w.heap.size + 2) := fun h => by have := h.2; omega
  have s0 := (((slot_new w (.pointer (some ⟨n + 2, 0, none⟩)) 22 _ rfl).alloc (.cells #[.func (.func K) #[] caps] 79)).alloc (.cells #[.int .i64 (later now dt)] 2)).kept K4 o0
  have s1 := ((slot_new (w.alloc (.cells #[.pointer (some ⟨n + 2, 0, none⟩)] 22)) (.func (.func K) #[] caps) 79 (w.heap.size + 1) (by simp)).alloc (.cells #[.int .i64 (later now dt)] 2)).kept K4 o1
  have s2 := (slot_new ((w.alloc (.cells #[.pointer (some ⟨n + 2, 0, none⟩)] 22)).alloc (.cells #[.func (.func K) #[] caps] 79)) (.int .i64 (later now dt)) 2 (w.heap.size + 2) (by simp)).kept K4 o2
  have S0 := Lib.hid s0
  have S1 := Lib.hid s1
  have S2 := Lib.hid s2
  have z4 : w.heap.size + 3 ≤ w4.heap.size := by have := K4.size; simp at this; omega
  have Z4 := Lib.hid z4
  have KK : Kept (Own n) w w4 := (((Kept.refl (Own n) w).alloc _).alloc _).alloc _ |>.trans K4
  have HK := Lib.hid KK
  have HC4 := Lib.hid C4
  clear s0 s1 s2 z4 KK C4 K4 o0 o1 o2
  go_wp2_with fail
  go_ret2
  refine ⟨w4.heap.size, rfl, Z4.out, by simp, ⟨S0.out.alloc _, S1.out.alloc _, S2.out.alloc _, ?_⟩, HC4.out.alloc _, HK.out.alloc _⟩
  refine ⟨?_, ?_, ?_, ?_, by simp⟩ <;> go_simp

end Go.Proofs.YtkbcpifhbpfhlaaGreatDoor

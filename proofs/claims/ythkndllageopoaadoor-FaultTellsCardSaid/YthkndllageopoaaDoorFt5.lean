/-
  FaultTells: Numbers and the reference's; sameInts.
-/
import Derived.Test.YthkndllageopoaaDoorFt4
import Derived.Deep.AppendLies
import Derived.Deep.OwnRows
import Derived.OwnWalk
namespace Go.Proofs.YthkndllageopoaaDoor
open Go.RowKit

theorem Tryd.infoInt : (Tryd.prog.info? 3).map (fun i => (i.zero, i.size, i.bytes)) = some (some (.int .i64 0), 1, 8) := by kernel_rfl

theorem own_kept {S : Nat → Prop} {w w' : World} {base n : Nat} {e : TypeId} {size : Nat} {v : Value} {xs : List Value} (h : w.ownsRow base e size v n xs) (k : Kept S w w') (hs : ∀ g, v.ownBlock = some g → ¬ S g) : w'.ownsRow base e size v n xs := by
  refine ⟨h.1, ?_⟩
  rcases h.2 with hn | ⟨g, cap, cur, rfl, hb, hg, rest⟩
  · exact .inl hn
  · exact .inr ⟨g, cap, cur, rfl, hb, (k.block g (Array.getElem?_eq_some_iff.1 hg).1 (hs g rfl)).trans hg, rest⟩

theorem kept_grown {w w' : World} {row : Option Nat} (h : w.grownBy w' row) : Kept (fun b => row = some b) w w' :=
  ⟨h.os, h.tape, h.output, h.size, fun k hk hs => h.block k hk fun e => hs e.symm⟩

theorem add_none (b o j : Nat) : (⟨b, o, none⟩ : Addr).add j = ⟨b, o + j, none⟩ := by unfold Addr.add; split <;> simp_all

/-- Numbers as cells. -/
def intsOf (l : List Int) : List Value := l.map fun n => .int .i64 n

theorem intsOf_append (l m : List Int) : intsOf (l ++ m) = intsOf l ++ intsOf m := by simp [intsOf]

/-- v is a row of the call's own that holds the numbers. -/
def IntsRow (w : World) (B : Nat) (v : Value) (l : List Int) : Prop := w.ownsRow B 3 1 v l.length (intsOf l)

/-- v reads as the numbers. -/
def Reads (w : World) (v : Value) (l : List Int) : Prop := ∃ (ao : Option Addr) (sb so c : Nat), v = .slice ao l.length c ∧ (ao = none → l = [] ∧ c = 0) ∧ ∀ i (h : i < l.length), ao = some ⟨sb, so, none⟩ ∧ w.cell? ⟨sb, so + i, none⟩ = some (.int .i64 (l[i]))

theorem Reads.kept {w w' : World} {v : Value} {l : List Int} (H : Reads w v l) (K : Kept (fun _ => False) w w') : Reads w' v l := by
  obtain ⟨ao, sb, so, c, hv, hn, h⟩ := H
  exact ⟨ao, sb, so, c, hv, hn, fun i hi => ⟨(h i hi).1, still_cell K (h i hi).2⟩⟩

theorem IntsRow.reads {w : World} {B : Nat} {v : Value} {l : List Int} (H : IntsRow w B v l) : Reads w v l := by
  rcases H.2 with ⟨hv, hn⟩ | ⟨g, cap, cur, hv, _⟩
  · exact ⟨none, 0, 0, 0, by rw [hv]; rw [hn], fun _ => ⟨List.eq_nil_of_length_eq_zero hn, rfl⟩, fun i hi => by omega⟩
  · subst hv
    refine ⟨some ⟨g, 0, none⟩, g, 0, cap, rfl, fun h => (by cases h), fun i hi => ⟨rfl, ?_⟩⟩
    rw [Nat.zero_add]
    exact (World.ownsRow.cellAt H i (by omega)).trans (by simp [intsOf, hi])

theorem IntsRow.kept {S : Nat → Prop} {w w' : World} {B : Nat} {v : Value} {l : List Int} (H : IntsRow w B v l) (K : Kept S w w') (hs : ∀ g, B ≤ g → g < w.heap.size → ¬ S g) : IntsRow w' B v l :=
  own_kept H K fun g hg => hs g (World.ownsRow.lt H g hg).1 (World.ownsRow.lt H g hg).2

theorem IntsRow.shape {w : World} {B : Nat} {v : Value} {l : List Int} (H : IntsRow w B v l) : ∃ a c, v = .slice a l.length c := by
  rcases H.2 with ⟨rfl, hn⟩ | ⟨g, cap, _, rfl, _⟩
  · exact ⟨none, 0, by rw [hn]⟩
  · exact ⟨_, _, rfl⟩

/-- The numbers of an error. -/
def numsOf (k x : Int) (l : List Int) : List Int := l ++ if k = 6 then [x] else []

def GotInts (w : World) (l : List Int) : Ending → World → Prop := fun e w' => ∃ v, e = .returned v ∧ IntsRow w' w.heap.size v l ∧ Kept (fun _ => False) w w'

/-- Where the loop of Numbers stands. -/
def NumsRel (w wr : World) (k x : Int) (full : List Int) (g : Nat) (ev lv : Value) : Prop :=
  ∃ d, ((∃ l, Chain w k x ev l ∧ d ++ numsOf k x l = full ∧ g = l.length + 1) ∨ (ev = .nilIface ∧ d = full ∧ g = 0)) ∧ IntsRow wr w.heap.size lv d ∧ Kept (fun _ => False) w wr

theorem nums_cons (k x n : Int) (l : List Int) : numsOf k x (n :: l) = n :: numsOf k x l := rfl

set_option maxRecDepth 100000 in
set_option maxHeartbeats 1600000 in
theorem numbers_chain (k x : Int) (l : List Int) (hl : l.length ≤ 2000) (v : Value) (w : World) (H : Chain w k x v l) (hg : ErrorType w) : Calls Tryd.prog 9 #[v] w (GotInts w (numsOf k x l)) := by
  obtain ⟨i0, hi, hz0, hz1, hz2⟩ := info_parts Tryd.infoInt
  have HG := Lib.hid hg
  have HH := Lib.hid H
  have hfull : (numsOf k x l).length ≤ 2001 := by unfold numsOf; rw [List.length_append]; split <;> simp <;> omega
  have HF := Lib.hid hfull
  clear hg H hfull
  go_enter Tryd.func9, Tryd.ntmps9
  go_wp2_with fail
  go_loopg [0, 3] (l.length + 1) (fun g ev lv wr => NumsRel w wr k x (numsOf k x l) g ev lv)
  case atStart => exact ⟨[], .inl ⟨l, HH.out, rfl, rfl⟩, World.ownsRow_nil _ _ _ _, Kept.refl _ _⟩
  case round =>
    obtain ⟨d, hor, hR, hK⟩ := hrel
    have XR := Lib.hid hR
    have XK := Lib.hid hK
    have T0 : Slot (wr.alloc (.cells #[.pointer none] 44)) wr.heap.size 0 (.pointer none) := ⟨by simp, by simp, by simp⟩
    have HT := Lib.hid T0
    have KA := Lib.hid ((Kept.refl (fun _ => False) wr).alloc (.cells #[.pointer none] 44))
    have hwz : Hid (w.heap.size ≤ wr.heap.size) := hK.size
    clear hR hK T0
    rcases hor with ⟨l', hC, hd, hgk⟩ | ⟨rfl, hd, hgk⟩
    · cases hC with
      | at_ a n t u l2 h0 h1 h2 =>
        have HC := Lib.hid h2
        have HD := Lib.hid hd
        have HGK := Lib.hid hgk
        have H1 := Lib.hid h1
        have H0 := Lib.hid h0
        clear h2 hd hgk h1 h0
        go_wp2_with fail
        refine (findsA_at (some ⟨a, 0, none⟩) wr.heap.size _ _ HT.out (HG.out.kept (XK.out.trans KA.out) fun h => h)).mono ?_
        rintro e w3 ⟨rfl, K3, T3⟩
        have hww := hwz.out
        have kk : Kept (fun _ => False) w w3 := (XK.out.trans KA.out).far K3 (by rintro i rfl; exact hww)
        have R3 := own_kept (XR.out.kept KA.out fun _ _ _ h => h) K3 fun g hg e => by
          have := (World.ownsRow.lt XR.out g hg).2; omega
        have t3 := T3.c
        have c0 := still_cell kk H0.out
        have c1 := still_cell kk H1.out
        have hz3 : w.heap.size ≤ w3.heap.size := kk.size
        have hd1 : d.length ≤ 2001 := by
          have := congrArg List.length HD.out
          rw [List.length_append] at this
          have := HF.out
          omega
        have HR3 := Lib.hid R3
        have HK3 := Lib.hid kk
        have HT3 := Lib.hid T3
        clear T3 R3 kk K3
        go_wp2_with (at_builtin; go_loud (refine wpList_append_lies _ rfl _ _ 22 rfl w.heap.size 3 i0 (.int .i64 0) 1 8 Tryd.underlying22 hi hz0 hz1 hz2 rfl (by decide) _ _ _ rfl (HR3.out.alloc _) ⟨w3.heap.size, 0, none⟩ 1 1 [.int .i64 n] rfl rfl ?c1 ?c2 ?c3 ?c4 ?c5 ?c6 _ rfl ?_))
        case c1 =>
          intro j u hj
          match j, hj with
          | 0, hj => simp at hj; subst hj; simp [Addr.add]
        case c2 => intro u hu; simp at hu; subst hu; rfl
        case c3 => decide
        case c4 => first | (simp only [maxLen]; omega) | (simp [maxLen]; omega)
        case c5 => first | omega | (simp; omega)
        case c6 => simp; omega
        intro g cap w4 own4 grown4 lies4 _
        have KB := Lib.hid ((Kept.refl (fun _ => False) w3).alloc (.cells #[.int .i64 n] 3))
        have KG := kept_grown grown4
        have T4 := (HT3.out.kept KB.out fun h => h).kept KG fun e => by have := (World.ownsRow.lt XR.out _ e).2; omega
        have K4 : Kept (fun _ => False) w w4 := (HK3.out.trans KB.out).far KG fun g hg => (World.ownsRow.lt XR.out g hg).1
        have t4 := T4.c
        have e1 := still_cell K4 H1.out
        have HO4 := Lib.hid own4
        have HK4 := Lib.hid K4
        clear KG T4 K4 own4 grown4 lies4 c0 c1 t3
        go_wp2_with fail
        go_roundg (gk - 1)
        case measure => have := HGK.out; simp at this; omega
        case rel =>
          refine ⟨d ++ [n], .inl ⟨l2, HC.out, ?_, by have := HGK.out; simp at this; omega⟩, ?_, HK4.out⟩
          · rw [← HD.out, nums_cons, List.append_assoc]; rfl
          · have := HO4.out
            unfold IntsRow
            rw [List.length_append, intsOf_append]
            exact this
      | base v hB =>
        by_cases h6 : k = 6
        · subst h6
          cases hB with
          | bare a x h0 h1 =>
            have HD := Lib.hid hd
            have HGK := Lib.hid hgk
            have H1 := Lib.hid h1
            have H0 := Lib.hid h0
            clear hd hgk h1 h0
            go_wp2_with fail
            refine (findsA_at (some ⟨a, 0, none⟩) wr.heap.size _ _ HT.out (HG.out.kept (XK.out.trans KA.out) fun h => h)).mono ?_
            rintro e w3 ⟨rfl, K3, T3⟩
            have hww := hwz.out
            have kk : Kept (fun _ => False) w w3 := (XK.out.trans KA.out).far K3 (by rintro i rfl; exact hww)
            have R3 := own_kept (XR.out.kept KA.out fun _ _ _ h => h) K3 fun g hg e => by
              have := (World.ownsRow.lt XR.out g hg).2; omega
            have t3 := T3.c
            have c0 := still_cell kk H0.out
            have c1 := still_cell kk H1.out
            have hz3 : w.heap.size ≤ w3.heap.size := kk.size
            have hd1 : d.length ≤ 2001 := by
              have := congrArg List.length HD.out
              rw [List.length_append] at this
              have := HF.out
              omega
            have HR3 := Lib.hid R3
            have HK3 := Lib.hid kk
            have HT3 := Lib.hid T3
            clear T3 R3 kk K3
            go_wp2_with (at_builtin; go_loud (refine wpList_append_lies _ rfl _ _ 22 rfl w.heap.size 3 i0 (.int .i64 0) 1 8 Tryd.underlying22 hi hz0 hz1 hz2 rfl (by decide) _ _ _ rfl (HR3.out.alloc _) ⟨w3.heap.size, 0, none⟩ 1 1 [.int .i64 x] rfl rfl ?c1 ?c2 ?c3 ?c4 ?c5 ?c6 _ rfl ?_))
            case c1 =>
              intro j u hj
              match j, hj with
              | 0, hj => simp at hj; subst hj; simp [Addr.add]
            case c2 => intro u hu; simp at hu; subst hu; rfl
            case c3 => decide
            case c4 => first | (simp only [maxLen]; omega) | (simp [maxLen]; omega)
            case c5 => first | omega | (simp; omega)
            case c6 => simp; omega
            intro g cap w4 own4 grown4 lies4 _
            have KB := Lib.hid ((Kept.refl (fun _ => False) w3).alloc (.cells #[.int .i64 x] 3))
            have KG := kept_grown grown4
            have T4 := (HT3.out.kept KB.out fun h => h).kept KG fun e => by have := (World.ownsRow.lt XR.out _ e).2; omega
            have K4 : Kept (fun _ => False) w w4 := (HK3.out.trans KB.out).far KG fun g hg => (World.ownsRow.lt XR.out g hg).1
            have t4 := T4.c
            have e1 := still_cell K4 H1.out
            have HO4 := Lib.hid own4
            have HK4 := Lib.hid K4
            clear KG T4 K4 own4 grown4 lies4 c0 c1 t3
            go_wp2_with fail
            go_roundg 0
            case measure => have := HGK.out; simp at this; omega
            case rel =>
              refine ⟨d ++ [x], .inr ⟨rfl, HD.out, rfl⟩, ?_, HK4.out⟩
              have := HO4.out
              unfold IntsRow
              rw [List.length_append, intsOf_append]
              exact this
        · have HD := Lib.hid hd
          clear hd hgk
          go_wp2_with fail
          refine (findsA_no k x _ wr.heap.size _ (hB.kept (XK.out.trans KA.out)) h6 (HG.out.kept (XK.out.trans KA.out) fun h => h)).mono ?_
          rintro e w3 ⟨rfl, K3, _⟩
          have HK3 := Lib.hid K3
          clear K3
          go_wp2_with fail
          go_ret
          refine ⟨_, rfl, ?_, (XK.out.trans KA.out).trans HK3.out⟩
          have e1 : numsOf k x [] = [] := by unfold numsOf; rw [if_neg h6]; rfl
          have := HD.out
          rw [e1, List.append_nil] at this
          rw [← this]
          exact (XR.out.kept KA.out fun _ _ _ h => h).kept HK3.out fun _ _ _ h => h
    · have HD := Lib.hid hd
      clear hd hgk
      go_wp2_with fail
      refine (findsA_nil wr.heap.size _).mono ?_
      rintro e w3 ⟨rfl, K3, _⟩
      have HK3 := Lib.hid K3
      clear K3
      go_wp2_with fail
      go_ret
      refine ⟨_, rfl, ?_, (XK.out.trans KA.out).trans HK3.out⟩
      rw [← HD.out]
      exact (XR.out.kept KA.out fun _ _ _ h => h).kept HK3.out fun _ _ _ h => h

end Go.Proofs.YthkndllageopoaaDoor

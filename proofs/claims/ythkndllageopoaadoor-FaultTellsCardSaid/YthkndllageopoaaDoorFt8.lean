/-
  FaultTells: the reference's texts.
-/
import Derived.Test.YthkndllageopoaaDoorFt7
import Derived.BigQuiet
namespace Go.Proofs.YthkndllageopoaaDoor
open Go.RowKit Go.Shelf

/-- The text of an error that wraps nothing. -/
def baseText (k x : Int) : List UInt8 :=
  if k = 1 then [102, 97, 105, 108, 101, 100, 32] ++ Lib.itoa x else if k = 2 then [99, 97, 110, 99, 101, 108, 108, 101, 100, 32] ++ Lib.itoa x else if k = 3 then [108, 97, 116, 101, 32] ++ Lib.itoa x
  else if k = 4 then [112, 97, 110, 105, 99] else if k = 5 then [112, 108, 97, 105, 110] else if k = 6 then Lib.itoa x ++ [58, 32] else if k = 7 then errnoText x else []

theorem errno_len (x : Int) : (errnoText x).length ≤ 26 := by
  unfold errnoText
  rw [List.length_append]
  have := digs_len 20 x.toNat []
  simp at this ⊢
  omega

theorem base_len (k x : Int) (hx : I64 x) : (baseText k x).length ≤ 31 := by
  have h1 := itoa_len x hx
  have h2 := errno_len x
  unfold baseText
  repeat' split
  all_goals first | (simp; omega) | simp | omega

/-- What an error is wrapped by, as a text. -/
def headText (l : List Int) : List UInt8 := l.flatMap fun n => Lib.itoa n ++ [58, 32]

theorem headText_append (l m : List Int) : headText (l ++ m) = headText l ++ headText m := by simp [headText]
theorem headText_one (n : Int) : headText [n] = Lib.itoa n ++ [58, 32] := by simp [headText]
theorem headText_cons (n : Int) (l : List Int) : headText (n :: l) = Lib.itoa n ++ [58, 32] ++ headText l := by simp [headText]

theorem head_len : ∀ (l : List Int), (∀ n ∈ l, I64 n) → (headText l).length ≤ 23 * l.length
  | [], _ => by simp [headText]
  | n :: l, h => by
    have h1 := itoa_len n (h n (by simp))
    have h2 := head_len l fun m hm => h m (by simp [hm])
    rw [headText_cons, List.length_append, List.length_append, List.length_cons]
    simp
    omega

def fullText (k x : Int) (l : List Int) : List UInt8 := headText l ++ baseText k x

set_option maxHeartbeats 1600000 in
theorem rtext_any (k x : Int) (hx : I64 x) (sl : Value) (ao : Option Addr) (m c : Nat) (hsl : sl = .slice ao m c) (lo : 0 ≤ k) (hi : k < 8) (w : World) (T : Tab w) : Calls Tryd.prog 29 #[.agg #[.int .i64 k, .int .i64 x, sl]] w (GotText w (baseText k x)) := by
  subst hsl
  have hk : k = 0 ∨ k = 1 ∨ k = 2 ∨ k = 3 ∨ k = 4 ∨ k = 5 ∨ k = 6 ∨ k = 7 := by omega
  have hb := itoa_len x hx
  have hb1 : ¬ 9223372036854775807 < 7 + (Lib.itoa x).length := by omega
  have hb2 : ¬ 9223372036854775807 < 10 + (Lib.itoa x).length := by omega
  have hb3 : ¬ 9223372036854775807 < 5 + (Lib.itoa x).length := by omega
  have hb4 : ¬ 9223372036854775807 < (Lib.itoa x).length + 2 := by omega
  have HX := Lib.hid hx
  clear hx
  have KB := fun k : Int => Lib.hid ((Kept.refl (fun _ => False) w).alloc (.cells #[.int .i64 k, .int .i64 x, .slice ao m c] 24))
  have HF := fun k : Int => Lib.hid (formatInt_any x HX.out _ (T.kept (KB k).out))
  go_enter Tryd.func29, Tryd.ntmps29
  rcases hk with rfl | rfl | rfl | rfl | rfl | rfl | rfl | rfl
  · go_wp2_with fail
    go_ret
    exact ⟨rfl, (KB 0).out⟩
  · go_wp2_with fail
    refine (HF 1).out.mono ?_
    rintro e w2 ⟨rfl, K⟩
    have HK := Lib.hid K
    clear K
    go_wp2_with fail
    go_ret
    refine ⟨?_, (KB 1).out.trans HK.out⟩
    show Ending.returned (.string (⟨[102, 97, 105, 108, 101, 100, 32].toArray⟩ ++ ⟨(Lib.itoa x).toArray⟩)) = _
    rw [bytes_app]; rfl
  · go_wp2_with fail
    refine (HF 2).out.mono ?_
    rintro e w2 ⟨rfl, K⟩
    have HK := Lib.hid K
    clear K
    go_wp2_with fail
    go_ret
    refine ⟨?_, (KB 2).out.trans HK.out⟩
    show Ending.returned (.string (⟨[99, 97, 110, 99, 101, 108, 108, 101, 100, 32].toArray⟩ ++ ⟨(Lib.itoa x).toArray⟩)) = _
    rw [bytes_app]; rfl
  · go_wp2_with fail
    refine (HF 3).out.mono ?_
    rintro e w2 ⟨rfl, K⟩
    have HK := Lib.hid K
    clear K
    go_wp2_with fail
    go_ret
    refine ⟨?_, (KB 3).out.trans HK.out⟩
    show Ending.returned (.string (⟨[108, 97, 116, 101, 32].toArray⟩ ++ ⟨(Lib.itoa x).toArray⟩)) = _
    rw [bytes_app]; rfl
  · go_wp2_with fail
    go_ret
    exact ⟨rfl, (KB 4).out⟩
  · go_wp2_with fail
    go_ret
    exact ⟨rfl, (KB 5).out⟩
  · go_wp2_with fail
    refine (HF 6).out.mono ?_
    rintro e w2 ⟨rfl, K⟩
    have HK := Lib.hid K
    clear K
    go_wp2_with fail
    go_ret
    refine ⟨?_, (KB 6).out.trans HK.out⟩
    show Ending.returned (.string (⟨(Lib.itoa x).toArray⟩ ++ ⟨[58, 32].toArray⟩)) = _
    rw [bytes_app]; rfl
  · have HN := Lib.hid (nError_any x HX.out (w.alloc (.cells #[.int .i64 7, .int .i64 x, .slice ao m c] 24)))
    go_wp2_with fail
    refine HN.out.mono ?_
    rintro e w2 ⟨rfl, K⟩
    have HK := Lib.hid K
    clear K
    go_wp2_with fail
    go_ret
    exact ⟨rfl, (KB 7).out.trans HK.out⟩

/-- Where the loop of Text stands. -/
def TextRel (w wr : World) (k x : Int) (ao : Option Addr) (c : Nat) (ats : List Int) (g : Nat) (sv iv : Value) : Prop :=
  ∃ i, i + g = ats.length ∧ iv = .int .i64 (i : Nat) ∧ sv = .string ⟨(headText (ats.take i)).toArray⟩ ∧ wr.cell? ⟨w.heap.size, 0, none⟩ = some (.int .i64 k) ∧ wr.cell? ⟨w.heap.size, 1, none⟩ = some (.int .i64 x) ∧ wr.cell? ⟨w.heap.size, 2, none⟩ = some (.slice ao ats.length c) ∧ Kept (fun _ => False) w wr

set_option maxRecDepth 100000 in
set_option maxHeartbeats 1600000 in
theorem rText_any (k x : Int) (hx : I64 x) (sl : Value) (ats : List Int) (hlen : ats.length ≤ 2000) (hats : ∀ n ∈ ats, I64 n) (h0 : k = 0 → ats = []) (lo : 0 ≤ k) (hi : k < 8) (w : World) (hR : Reads w sl ats) (T : Tab w) :
    Calls Tryd.prog 11 #[.agg #[.int .i64 k, .int .i64 x, sl]] w (GotText w (fullText k x ats)) := by
  obtain ⟨ao, sb, so, c, rfl, _, hcell⟩ := hR
  have HC := Lib.hid hcell
  have HX := Lib.hid hx
  have HA := Lib.hid hats
  have HT := Lib.hid T
  have H0 : Hid (0 < ats.length → (k != 0) = true) := by
    show _ → _
    intro h
    have : ¬ k = 0 := fun e => by rw [h0 e] at h; simp at h
    simpa using this
  clear hcell hx hats T h0
  go_enter Tryd.func11, Tryd.ntmps11
  go_wp2_with fail
  go_loopg [3, 4] ats.length (fun g sv iv wr => TextRel w wr k x ao c ats g sv iv)
  case atStart => exact ⟨0, by omega, rfl, rfl, by go_simp, by go_simp, by go_simp, (Kept.refl _ _).alloc _⟩
  case round =>
    obtain ⟨i, hig, rfl, rfl, b0, b1, b2, hK⟩ := hrel
    have HK := Lib.hid hK
    have BX := Lib.hid (And.intro b0 (And.intro b1 b2))
    clear hK
    by_cases hil : i < ats.length
    · have hkn := H0.out (by omega)
      have i0 : (i : Int) < ats.length := by omega
      have i1 : (0 : Int) ≤ (i : Int) := by omega
      have hi2 : i < 2000 := by omega
      have hcl : w.cell? ⟨sb, so + i, none⟩ = some (.int .i64 (ats[i])) := (HC.out i hil).2
      obtain rfl : ao = some ⟨sb, so, none⟩ := (HC.out i hil).1
      have hcr := still_cell HK.out hcl
      have hxi : I64 ats[i] := HA.out _ (List.getElem_mem hil)
      have HIS := Lib.hid (ris_any k x (.slice (some ⟨sb, so, none⟩) ats.length c) _ _ _ rfl)
      have HIT := fun w' (K : Kept (fun _ => False) w w') => itoa_any ats[i] hxi w' (HT.out.kept K)
      have HB := Lib.hid (itoa_len _ hxi)
      have HH := Lib.hid (head_len (ats.take i) fun n hn => HA.out n (List.mem_of_mem_take hn))
      have HTL : (ats.take i).length = i := List.length_take_of_le (by omega)
      rw [HTL] at HH
      have q1 : ¬ 9223372036854775807 < (headText (ats.take i)).length + (Lib.itoa ats[i]).length := by have := HB.out; have := HH.out; omega
      have q2 : ¬ 9223372036854775807 < (headText (ats.take i) ++ Lib.itoa ats[i]).length + 2 := by rw [List.length_append]; have := HB.out; have := HH.out; omega
      have q3 : ¬ 9223372036854775807 < (headText (ats.take i)).length + (Lib.itoa ats[i]).length + 2 := by have := HB.out; have := HH.out; omega
      have q4 : ¬ 9223372036854775807 < (headText (ats.take i)).length + ((Lib.itoa ats[i]).length + 2) := by have := HB.out; have := HH.out; omega
      go_wp2_with fail
      refine (HIS.out wr).mono ?_
      rintro e w2 ⟨rfl, K2⟩
      have hcr2 := still_cell K2 hcr
      have d0 := still_cell K2 b0
      have d1 := still_cell K2 b1
      have d2 := still_cell K2 b2
      have HK2 := Lib.hid (HK.out.trans K2)
      have HI2 := Lib.hid (HIT w2 HK2.out)
      clear HIT K2
      go_wp2_with fail
      refine HI2.out.mono ?_
      rintro e w3 ⟨rfl, K3⟩
      have e0 := still_cell K3 d0
      have e1 := still_cell K3 d1
      have e2 := still_cell K3 d2
      have HK3 := Lib.hid (HK2.out.trans K3)
      clear K3
      go_wp2_with fail
      go_roundg (gk - 1)
      case measure => omega
      refine ⟨i + 1, by omega, by push_cast; rfl, ?_, e0, e1, e2, HK3.out⟩
      rw [List.take_succ_eq_append_getElem hil, headText_append, headText_one]
      rw [bytes_app (headText _) (Lib.itoa _)]
      show Value.string (⟨(headText (List.take i ats) ++ Lib.itoa ats[i]).toArray⟩ ++ ⟨([58, 32] : List UInt8).toArray⟩) = _
      rw [bytes_app (headText _ ++ Lib.itoa _) [58, 32], List.append_assoc]
    · have hie := Lib.hid (show i = ats.length by omega)
      have i0 : decide ((i : Int) < ats.length) = false := decide_eq_false (by omega)
      have HRT := Lib.hid (rtext_any k x HX.out (.slice ao ats.length c) ao ats.length c rfl lo hi wr (HT.out.kept HK.out))
      have HB := Lib.hid (base_len k x HX.out)
      have HH := Lib.hid (head_len ats HA.out)
      have HTK := Lib.hid (show ats.take i = ats by rw [hie.out, List.take_length])
      have q1 : ¬ 9223372036854775807 < (headText (ats.take i)).length + (baseText k x).length := by rw [HTK.out]; have := HB.out; have := HH.out; omega
      go_wp2_with fail
      refine HRT.out.mono ?_
      rintro e w2 ⟨rfl, K2⟩
      have HK2 := Lib.hid (HK.out.trans K2)
      clear K2
      go_wp2_with fail
      go_ret
      refine ⟨?_, HK2.out⟩
      rw [bytes_app, HTK.out]
      rfl

end Go.Proofs.YthkndllageopoaaDoor

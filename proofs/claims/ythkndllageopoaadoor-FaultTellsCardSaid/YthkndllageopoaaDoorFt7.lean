/-
  FaultTells: texts of numbers; the texts of errors that wrap nothing.
-/
import Derived.Test.YthkndllageopoaaDoorFt6
import Derived.Test.YthkndllageopoaaDoorShelf
import Derived.Lib.ItoaLen
import Derived.Deep.LoopGhost
namespace Go.Proofs.YthkndllageopoaaDoor
open Go.RowKit Go.Shelf

/-- A number that an int64 holds. -/
def I64 (x : Int) : Prop := -9223372036854775808 ≤ x ∧ x ≤ 9223372036854775807

/-- The library's table. -/
def Tab (w : World) : Prop := Lib.TabIs Tryd.prog w "internal/strconv.uint64pow10" .u64 Lib.pow10Tab

theorem Tab.kept {w w' : World} (h : Tab w) (K : Kept (fun _ => False) w w') : Tab w' :=
  ((Lib.tabBelow_of_tabIs h).on (K.below (Nat.le_refl _) fun _ h => h.elim)).here

/-- A string of bytes. -/
def str (l : List UInt8) : Value := .string ⟨l.toArray⟩

def GotText (w : World) (l : List UInt8) : Ending → World → Prop := fun e w' => e = .returned (.string ⟨l.toArray⟩) ∧ Kept (fun _ => False) w w'

theorem formatInt_any (x : Int) (hx : I64 x) (w : World) (T : Tab w) : Calls Tryd.prog 30 #[.int .i64 x, .int .i64 10] w (GotText w (Lib.itoa x)) := by
  refine (Tryd.strconv_FormatInt_10 x hx.1 hx.2 w T).mono ?_
  rintro e w' ⟨rfl, k, os, rfl⟩
  exact ⟨rfl, Kept.ofBelow (Lib.below_grow w.heap.size w (Nat.le_refl _) k os) (Nat.le_refl _) _⟩

theorem itoa_any (x : Int) (hx : I64 x) (w : World) (T : Tab w) : Calls Tryd.prog 28 #[.int .i64 x] w (GotText w (Lib.itoa x)) := by
  refine (Tryd.strconv_Itoa x hx.1 hx.2 w T).mono ?_
  rintro e w' ⟨rfl, k, os, rfl⟩
  exact ⟨rfl, Kept.ofBelow (Lib.below_grow w.heap.size w (Nat.le_refl _) k os) (Nat.le_refl _) _⟩

theorem bytes_app (a b : List UInt8) : (⟨a.toArray⟩ : ByteArray) ++ ⟨b.toArray⟩ = ⟨(a ++ b).toArray⟩ := by
  apply ByteArray.ext
  simp

theorem itoa_len (x : Int) (hx : I64 x) : (Lib.itoa x).length ≤ 21 := Lib.itoa_length_le x hx.1 hx.2

theorem fError_any (a : Nat) (x : Int) (hx : I64 x) (w : World) (T : Tab w) (h : w.cell? ⟨a, 0, none⟩ = some (.int .i64 x)) : Calls Tryd.prog 15 #[.pointer (some ⟨a, 0, none⟩)] w (GotText w ([102, 97, 105, 108, 101, 100, 32] ++ Lib.itoa x)) := by
  have HF := Lib.hid (formatInt_any x hx w T)
  have hb := itoa_len x hx
  have hb2 : ¬ 9223372036854775807 < 7 + (Lib.itoa x).length := by omega
  go_enter Tryd.func15, Tryd.ntmps15
  go_wp2_with fail
  refine HF.out.mono ?_
  rintro e w2 ⟨rfl, K⟩
  have HK := Lib.hid K
  clear K
  go_wp2_with fail
  go_ret
  refine ⟨?_, HK.out⟩
  show Ending.returned (.string (⟨[102, 97, 105, 108, 101, 100, 32].toArray⟩ ++ ⟨(Lib.itoa x).toArray⟩)) = _
  rw [bytes_app]; rfl

theorem cError_any (a : Nat) (x : Int) (hx : I64 x) (w : World) (T : Tab w) (h : w.cell? ⟨a, 0, none⟩ = some (.int .i64 x)) : Calls Tryd.prog 16 #[.pointer (some ⟨a, 0, none⟩)] w (GotText w ([99, 97, 110, 99, 101, 108, 108, 101, 100, 32] ++ Lib.itoa x)) := by
  have HF := Lib.hid (formatInt_any x hx w T)
  have hb := itoa_len x hx
  have hb2 : ¬ 9223372036854775807 < 10 + (Lib.itoa x).length := by omega
  go_enter Tryd.func16, Tryd.ntmps16
  go_wp2_with fail
  refine HF.out.mono ?_
  rintro e w2 ⟨rfl, K⟩
  have HK := Lib.hid K
  clear K
  go_wp2_with fail
  go_ret
  refine ⟨?_, HK.out⟩
  show Ending.returned (.string (⟨[99, 97, 110, 99, 101, 108, 108, 101, 100, 32].toArray⟩ ++ ⟨(Lib.itoa x).toArray⟩)) = _
  rw [bytes_app]; rfl

theorem lError_any (a : Nat) (x : Int) (hx : I64 x) (w : World) (T : Tab w) (h : w.cell? ⟨a, 0, none⟩ = some (.int .i64 x)) : Calls Tryd.prog 17 #[.pointer (some ⟨a, 0, none⟩)] w (GotText w ([108, 97, 116, 101, 32] ++ Lib.itoa x)) := by
  have HF := Lib.hid (formatInt_any x hx w T)
  have hb := itoa_len x hx
  have hb2 : ¬ 9223372036854775807 < 5 + (Lib.itoa x).length := by omega
  go_enter Tryd.func17, Tryd.ntmps17
  go_wp2_with fail
  refine HF.out.mono ?_
  rintro e w2 ⟨rfl, K⟩
  have HK := Lib.hid K
  clear K
  go_wp2_with fail
  go_ret
  refine ⟨?_, HK.out⟩
  show Ending.returned (.string (⟨[108, 97, 116, 101, 32].toArray⟩ ++ ⟨(Lib.itoa x).toArray⟩)) = _
  rw [bytes_app]; rfl

theorem pError_any (a : Nat) (w : World) : Calls Tryd.prog 18 #[.pointer (some ⟨a, 0, none⟩)] w (GotText w [112, 97, 110, 105, 99]) := by
  go_enter Tryd.func18, Tryd.ntmps18
  go_wp2_with fail
  go_ret
  exact ⟨rfl, Kept.refl _ _⟩

theorem sError_any (a o : Nat) (w : World) (h : w.cell? ⟨a, o, none⟩ = some (.string ⟨#[112, 108, 97, 105, 110]⟩)) : Calls Tryd.prog 96 #[.pointer (some ⟨a, o, none⟩)] w (GotText w [112, 108, 97, 105, 110]) := by
  go_enter Tryd.func96, Tryd.ntmps96
  go_wp2_with fail
  go_ret
  exact ⟨rfl, Kept.refl _ _⟩

/-- The digits of a number, put ahead of s. -/
def digs : Nat → Nat → List UInt8 → List UInt8
  | 0, _, s => s
  | f + 1, n, s => if n = 0 then s else digs f (n / 10) (UInt8.ofNat (48 + n % 10) :: s)

/-- The text of a number that refuses. -/
def errnoText (x : Int) : List UInt8 := [101, 114, 114, 111, 114, 32] ++ digs 20 x.toNat []

theorem or10 (d : Nat) (h : d < 10) : d = 0 ∨ d = 1 ∨ d = 2 ∨ d = 3 ∨ d = 4 ∨ d = 5 ∨ d = 6 ∨ d = 7 ∨ d = 8 ∨ d = 9 := by omega

theorem run_rune (d : Nat) (h : d < 10) (w : World) : (Go.convert 3 21 (.int .i64 (48 + (d : Int)))).run Tryd.prog w = .ok (.int .i32 (48 + (d : Int))) w := by
  rcases or10 d h with rfl | rfl | rfl | rfl | rfl | rfl | rfl | rfl | rfl | rfl <;> kernel_rfl

theorem run_digit (d : Nat) (h : d < 10) (w : World) : (Go.convert 21 9 (.int .i32 (48 + (d : Int)))).run Tryd.prog w = .ok (.string ⟨[UInt8.ofNat (48 + d)].toArray⟩) w := by
  rcases or10 d h with rfl | rfl | rfl | rfl | rfl | rfl | rfl | rfl | rfl | rfl <;> kernel_rfl

theorem digs_zero (g : Nat) (s : List UInt8) : digs g 0 s = s := by cases g <;> simp [digs]

theorem digs_len : ∀ (g n : Nat) (s : List UInt8), (digs g n s).length ≤ s.length + g
  | 0, _, _ => Nat.le_refl _
  | g + 1, n, s => by
    unfold digs
    split
    · omega
    · have := digs_len g (n / 10) (UInt8.ofNat (48 + n % 10) :: s)
      rw [List.length_cons] at this
      omega

def DigRel (w wr : World) (full : List UInt8) (g : Nat) (sv nv : Value) : Prop :=
  ∃ (n : Nat) (s : List UInt8), nv = .int .i64 (n : Nat) ∧ sv = .string ⟨s.toArray⟩ ∧ digs g n s = full ∧ n < 10 ^ g ∧ (n : Int) ≤ 9223372036854775807 ∧ s.length + g ≤ 20 ∧ wr = w

set_option maxRecDepth 100000 in
set_option maxHeartbeats 800000 in
theorem nError_any (x : Int) (hx : I64 x) (w : World) : Calls Tryd.prog 39 #[.int .i64 x] w (GotText w (errnoText x)) := by
  have hx2 := hx.2
  go_enter Tryd.func39, Tryd.ntmps39
  by_cases h0 : x ≤ 0
  · have e1 : x.toNat = 0 := by omega
    have hx0 : ¬ 0 < x := by omega
    have E1 := Lib.hid e1
    clear e1
    go_wp2_with fail
    refine wp_loop_rounds 1 ?_
    rw [rounds_succ]
    go_wp2_with fail
    go_ret
    unfold errnoText
    rw [E1.out, digs_zero]
    exact ⟨rfl, Kept.refl _ _⟩
  · obtain ⟨n, rfl⟩ : ∃ n : Nat, x = n := ⟨x.toNat, by omega⟩
    have hn : n < 10 ^ 20 := by omega
    have HN := Lib.hid hn
    have HX := Lib.hid hx2
    clear hn hx hx2 h0
    go_wp2_with fail
    go_loopg [3, 4] 20 (fun g sv nv wr => DigRel w wr (digs 20 n []) g sv nv)
    case atStart => exact ⟨n, [], rfl, rfl, rfl, HN.out, HX.out, by simp, rfl⟩
    case round =>
      obtain ⟨m, s, rfl, rfl, hd, hm, hmx, hs, rfl⟩ := hrel
      by_cases hm0 : m = 0
      · subst hm0
        have hf : Hid (digs 20 n [] = s) := by show _ = _; rw [← hd, digs_zero]
        have hs2 : s.length ≤ 20 := by omega
        have hb2 : ¬ 9223372036854775807 < 6 + s.length := by omega
        clear hd hm hs hmx
        go_wp2_with fail
        go_ret
        unfold errnoText
        rw [show ((n : Int)).toNat = n from rfl, hf.out]
        refine ⟨?_, Kept.refl _ _⟩
        show Ending.returned (.string (⟨[101, 114, 114, 111, 114, 32].toArray⟩ ++ ⟨s.toArray⟩)) = _
        rw [bytes_app]
      · obtain ⟨f, rfl⟩ : ∃ f, gk = f + 1 := ⟨gk - 1, by
          rcases Nat.eq_zero_or_pos gk with h | h
          · subst h; simp at hm; omega
          · omega⟩
        obtain ⟨q, hq⟩ : ∃ q, m / 10 = q := ⟨_, rfl⟩
        obtain ⟨d, hdd⟩ : ∃ d, m % 10 = d := ⟨_, rfl⟩
        obtain ⟨b, hb⟩ : ∃ b : UInt8, UInt8.ofNat (48 + d) = b := ⟨_, rfl⟩
        have h1 : (m : Int).tmod 10 = (d : Int) := by rw [Int.tmod_eq_emod_of_nonneg (by omega)]; omega
        have h2 : (m : Int).tdiv 10 = (q : Int) := by rw [Int.tdiv_eq_ediv_of_nonneg (by omega)]; omega
        have hdg : d < 10 := by omega
        have r1 := run_rune d hdg
        have r2 := run_digit d hdg
        rw [hb] at r2
        have hmi : 0 < (m : Int) := by omega
        have hd2 : Hid (digs f q (b :: s) = digs 20 n []) := by
          show _ = _
          rw [← hd, ← hq, ← hb, ← hdd]
          show _ = if m = 0 then s else _
          rw [if_neg hm0]
        have hm2 : Hid (q < 10 ^ f) := by
          show _ < _
          rw [Nat.pow_succ] at hm
          omega
        have hs3 : Hid (s.length + 1 + f ≤ 20) := by show _ ≤ _; omega
        have hb2 : ¬ 9223372036854775807 < 1 + s.length := by omega
        have hqx : Hid ((q : Int) ≤ 9223372036854775807) := by show _ ≤ _; omega
        clear hd hm hs hm0 hq hdd hb hmx
        go_wp2_with fail
        go_roundg f
        case measure => omega
        case rel =>
          refine ⟨q, b :: s, by congr 1; have := hqx.out; unfold wrap64; omega, ?_, hd2.out, hm2.out, hqx.out, by have := hs3.out; rw [List.length_cons]; omega, rfl⟩
          show Value.string (⟨[b].toArray⟩ ++ ⟨s.toArray⟩) = _
          rw [bytes_app]; rfl

end Go.Proofs.YthkndllageopoaaDoor

/-
  best: which level is worth most.
-/
import Derived.Test.YthkakojkffgmbaaPrio5
namespace Go.Proofs.Ythkakojkffgmbaa
open Go.RowKit

/-- Level m is what a Take is to choose: of the greatest worth, the lowest such. -/
structure Best (L R : Nat) (S : Nat → LS) (m : Nat) : Prop where
  lt : m < L
  full : Full R (S m)
  below : ∀ n, n < m → Full R (S n) → wth R n (S n) < wth R m (S m)
  above : ∀ n, m < n → n < L → Full R (S n) → wth R n (S n) ≤ wth R m (S m)

/-- What best has found once it has gone over the levels below j. -/
def BestAt (L R m : Nat) (S : Nat → LS) (j : Nat) (lev is : Value) : Prop :=
  (j ≤ m ∧ ((lev = .int .i64 (0 : Nat) ∧ is = .bool false) ∨ ∃ l : Nat, l < j ∧ Full R (S l) ∧ lev = .int .i64 l ∧ is = .bool true)) ∨ (m < j ∧ lev = .int .i64 m ∧ is = .bool true)

def BestRel (w : World) (F B L R m : Nat) (S : Nat → LS) (lev is c : Value) (wr : World) : Prop := ∃ j : Nat, j ≤ 8 ∧ c = .int .i64 j ∧ BestAt L R m S j lev is ∧ Fnd wr F B L R 0 S ∧ Kept (fun _ => False) w wr

theorem run_claim_nil (g : Fn) (q1 q2 : Array Value) (w : World) : (binOp BinOp.eql 49 (.func g q1 q2) .nilFunc).run Try.prog w = .ok (.bool false) w := by kernel_rfl

theorem run_nil_nil (w : World) : (binOp BinOp.eql 49 .nilFunc .nilFunc).run Try.prog w = .ok (.bool true) w := by kernel_rfl

set_option maxRecDepth 100000 in
set_option maxHeartbeats 800000 in
theorem best_some {w : World} {F B L R m : Nat} {S : Nat → LS} (hL : L ≤ 8) (f : Fnd w F B L R 0 S) (hb : Best L R S m) :
    Calls Try.prog 16 #[.pointer (some ⟨F, 0, none⟩)] w fun e w' => e = .returned (.tuple #[.int .i64 m, .bool true]) ∧ Kept (fun _ => False) w w' := by
  have HF := Lib.hid f
  have HB := Lib.hid hb
  have hm := hb.lt
  clear f hb
  have hnil := run_claim_nil (.func 21)
  have hnil2 := run_nil_nil
  go_enter Try.func16, Try.ntmps16
  go_wp2_with fail
  go_loopw [2, 3, 9] (fun lev is c wr => BestRel w F B L R m S lev is c wr) (fun _ _ c _ => 8 - (intOf c).toNat)
  case atStart => exact ⟨0, by omega, rfl, .inl ⟨by omega, .inl ⟨rfl, rfl⟩⟩, HF.out, Kept.refl _ _⟩
  case round =>
    obtain ⟨j, hj, rfl, HA, HF2, HK⟩ := hrel
    by_cases hlt : j < 8
    · have i1 : (j : Int) < 8 := by omega
      have i2 : (0 : Int) ≤ (j : Int) := by omega
      by_cases hf : j < L ∧ Full R (S j)
      · obtain ⟨hjL, hf⟩ := hf
        obtain ⟨T0, _, T2⟩ := HF2.on j (Nat.zero_le _) hjL hf
        have c0 := T0.c
        have c2 := T2.c
        have X := Lib.hid HF2
        have XK := Lib.hid HK
        have Hf := Lib.hid hf
        clear HF2 HK hf T0 T2
        have KD : Kept (fun _ => False) wr wr.drew := (Kept.refl _ _).drew
        have XD := Lib.hid (X.out.kept KD (fun e => e))
        have KW := Lib.hid (XK.out.trans KD)
        clear KD
        rcases HA with ⟨hjm, ⟨rfl, rfl⟩ | ⟨l, hl, fl, rfl, rfl⟩⟩ | ⟨hmj, rfl, rfl⟩
        · go_wp2_with fail
          go_region
          go_wp2_with fail
          go_roundw
          case rel =>
            refine ⟨j + 1, by omega, by go_num, ?_, XD.out, KW.out⟩
            by_cases e : j = m
            · subst e; exact .inr ⟨by omega, rfl, rfl⟩
            · exact .inl ⟨by omega, .inr ⟨j, by omega, Hf.out, rfl, rfl⟩⟩
          case measure => simp [intOf]; omega
        · obtain ⟨T3, _, _⟩ := X.out.on l (Nat.zero_le _) (by omega) fl
          have c3 := T3.c
          have i3 : (l : Int) < 8 := by omega
          have i4 : (0 : Int) ≤ (l : Int) := by omega
          have Fl := Lib.hid fl
          clear T3 fl
          by_cases g : wth R l (S l) < wth R j (S j)
          · go_wp2_with fail
            go_region
            go_wp2_with fail
            go_roundw
            case rel =>
              refine ⟨j + 1, by omega, by go_num, ?_, XD.out, KW.out⟩
              by_cases e : j = m
              · subst e; exact .inr ⟨by omega, rfl, rfl⟩
              · exact .inl ⟨by omega, .inr ⟨j, by omega, Hf.out, rfl, rfl⟩⟩
            case measure => simp [intOf]; omega
          · have g' : decide (wth R l (S l) < wth R j (S j)) = false := by simpa using g
            have G := Lib.hid g
            clear g
            go_wp2_with fail
            go_region
            go_wp2_with fail
            go_roundw
            case rel =>
              refine ⟨j + 1, by omega, by go_num, ?_, XD.out, KW.out⟩
              by_cases e : j = m
              · subst e; exact absurd (HB.out.below l hl Fl.out) (by have := G.out; omega)
              · exact .inl ⟨by omega, .inr ⟨l, by omega, Fl.out, rfl, rfl⟩⟩
            case measure => simp [intOf]; omega
        · obtain ⟨T3, _, _⟩ := X.out.on m (Nat.zero_le _) hm HB.out.full
          have c3 := T3.c
          have i3 : (m : Int) < 8 := by omega
          have i4 : (0 : Int) ≤ (m : Int) := by omega
          have le := HB.out.above j hmj hjL Hf.out
          have g' : decide (wth R m (S m) < wth R j (S j)) = false := by simpa using le
          clear T3 le
          go_wp2_with fail
          go_region
          go_wp2_with fail
          go_roundw
          case rel => exact ⟨j + 1, by omega, by go_num, .inr ⟨by omega, rfl, rfl⟩, XD.out, KW.out⟩
          case measure => simp [intOf]; omega
      · have hoff : j < 0 ∨ L ≤ j ∨ ¬ Full R (S j) := by
          by_cases e : j < L
          · exact .inr (.inr fun g => hf ⟨e, g⟩)
          · exact .inr (.inl (by omega))
        have hne : j ≠ m := fun e => hf (by subst e; exact ⟨hm, HB.out.full⟩)
        obtain ⟨T0, _, T2⟩ := HF2.off j hlt hoff
        have c0 := T0.c
        have c2 := T2.c
        have XA := Lib.hid HA
        have KD : Kept (fun _ => False) wr wr.drew := (Kept.refl _ _).drew
        have XD := Lib.hid (HF2.kept KD (fun e => e))
        have KW := Lib.hid (HK.trans KD)
        clear HF2 HK hf T0 T2 KD HA hoff
        go_wp2_with fail
        go_region
        go_wp2_with fail
        go_roundw
        case rel =>
          refine ⟨j + 1, by omega, by go_num, ?_, XD.out, KW.out⟩
          rcases XA.out with ⟨h1, ⟨h2, h3⟩ | ⟨l, hl, fl, h2, h3⟩⟩ | ⟨h1, h2, h3⟩
          · exact .inl ⟨by omega, .inl ⟨h2, h3⟩⟩
          · exact .inl ⟨by omega, .inr ⟨l, by omega, fl, h2, h3⟩⟩
          · exact .inr ⟨by omega, h2, h3⟩
        case measure => simp [intOf]; omega
    · obtain rfl : j = 8 := by omega
      have hA : u2 = .int .i64 m ∧ u3 = .bool true := by
        rcases HA with ⟨h1, _⟩ | ⟨_, h2, h3⟩
        · omega
        · exact ⟨h2, h3⟩
      obtain ⟨rfl, rfl⟩ := hA
      have XK := Lib.hid HK
      clear HF2 HK HA
      go_wp2_with fail
      go_ret2
      exact ⟨rfl, XK.out⟩

set_option maxRecDepth 100000 in
set_option maxHeartbeats 800000 in
theorem best_none {w : World} {F B L R : Nat} {S : Nat → LS} (f : Fnd w F B L R 0 S) (hb : ∀ n, n < L → ¬ Full R (S n)) :
    Calls Try.prog 16 #[.pointer (some ⟨F, 0, none⟩)] w fun e w' => e = .returned (.tuple #[.int .i64 0, .bool false]) ∧ Kept (fun _ => False) w w' := by
  have HF := Lib.hid f
  have HB := Lib.hid hb
  clear f hb
  have hnil2 := run_nil_nil
  go_enter Try.func16, Try.ntmps16
  go_wp2_with fail
  go_loopw [2, 3, 9] (fun lev is c wr => ∃ j : Nat, j ≤ 8 ∧ c = .int .i64 j ∧ lev = .int .i64 0 ∧ is = .bool false ∧ Fnd wr F B L R 0 S ∧ Kept (fun _ => False) w wr) (fun _ _ c _ => 8 - (intOf c).toNat)
  case atStart => exact ⟨0, by omega, rfl, rfl, rfl, HF.out, Kept.refl _ _⟩
  case round =>
    obtain ⟨j, hj, rfl, rfl, rfl, HF2, HK⟩ := hrel
    by_cases hlt : j < 8
    · have i1 : (j : Int) < 8 := by omega
      have i2 : (0 : Int) ≤ (j : Int) := by omega
      have hoff : j < 0 ∨ L ≤ j ∨ ¬ Full R (S j) := by
        by_cases e : j < L
        · exact .inr (.inr (HB.out j e))
        · exact .inr (.inl (by omega))
      obtain ⟨T0, _, T2⟩ := HF2.off j hlt hoff
      have c0 := T0.c
      have c2 := T2.c
      have KD : Kept (fun _ => False) wr wr.drew := (Kept.refl _ _).drew
      have XD := Lib.hid (HF2.kept KD (fun e => e))
      have KW := Lib.hid (HK.trans KD)
      clear HF2 HK T0 T2 KD hoff
      go_wp2_with fail
      go_region
      go_wp2_with fail
      go_roundw
      case rel => exact ⟨j + 1, by omega, by go_num, rfl, rfl, XD.out, KW.out⟩
      case measure => simp [intOf]; omega
    · obtain rfl : j = 8 := by omega
      have XK := Lib.hid HK
      clear HF2 HK
      go_wp2_with fail
      go_ret2
      exact ⟨rfl, XK.out⟩

end Go.Proofs.Ythkakojkffgmbaa

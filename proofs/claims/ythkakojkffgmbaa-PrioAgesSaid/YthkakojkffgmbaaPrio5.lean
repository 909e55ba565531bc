/-
  What a Take finds: look.
-/
import Derived.Test.YthkakojkffgmbaaPrio4
import Derived.Test.YthkakojkffgmbaaRegInv
import Derived.Laws.EntriesVeiled
namespace Go.Proofs.Ythkakojkffgmbaa
open Go.RowKit

/-- What stands first on a level is there to be taken. -/
def Full (R : Nat) (s : LS) : Prop := s.tu (s.b % R) = s.b + 1

/-- What is worth what stands first on level n. -/
def wth (R n : Nat) (s : LS) : Int := 64 * (n : Int) - s.ti (s.b % R)

/-- What the block F of a Take holds once the levels from j on are looked at. -/
structure Fnd (w : World) (F B L R j : Nat) (S : Nat → LS) : Prop where
  on : ∀ n, j ≤ n → n < L → Full R (S n) → Slot w F n (.int .i64 (wth R n (S n))) ∧ Slot w F (8 + n) (.int .i64 (S n).b) ∧ Slot w F (16 + n) (.func (.func 21) #[.pointer (some ⟨B, n * 3, none⟩)] #[])
  off : ∀ n, n < 8 → (n < j ∨ L ≤ n ∨ ¬ Full R (S n)) → Slot w F n (.int .i64 0) ∧ Slot w F (8 + n) (.int .i64 0) ∧ Slot w F (16 + n) .nilFunc

theorem Fnd.kept {X : Nat → Prop} {w w' : World} {F B L R j : Nat} {S : Nat → LS} (h : Fnd w F B L R j S) (K : Kept X w w') (hX : ¬ X F) : Fnd w' F B L R j S :=
  ⟨fun n a b c => ⟨(h.on n a b c).1.kept K hX, (h.on n a b c).2.1.kept K hX, (h.on n a b c).2.2.kept K hX⟩, fun n a b => ⟨(h.off n a b).1.kept K hX, (h.off n a b).2.1.kept K hX, (h.off n a b).2.2.kept K hX⟩⟩

theorem worth_any (n : Nat) (k : Int) (h0 : 0 ≤ k) (h1 : k < 1000000) (hn : n < 8) (w : World) : Calls Try.prog 29 #[.int .i64 n, .int .i64 k] w fun e w' => e = .returned (.int .i64 (64 * (n : Int) - k)) ∧ w = w' := by
  have z1 : wrap64 (64 * (n : Int)) = 64 * (n : Int) := by unfold wrap64; omega
  have z2 : wrap64 (64 * (n : Int) - k) = 64 * (n : Int) - k := by unfold wrap64; omega
  go_enter Try.func29, Try.ntmps29
  go_wp2
  go_ret
  exact ⟨rfl, rfl⟩

/-- A region as far as it has come up. -/
def InvLook (w0 : World) (F B n b : Nat) (ti : Int) (fr : Value → Value → Value → Value → Value → Value → Value → Value → Value → Value → Value → Value → Value → Value → Value → Value → Value → Value → Value → Value → Value → Act) (l : Array Bool) (a : Act) (w : World) : Prop :=
  ∃ (x35 x36 x37 x38 x39 x40 x41 x42 x43 x44 x45 x46 x47 x48 x49 x50 x51 x52 x53 x54 x55 y15 y19 y23 : Value), a = fr x35 x36 x37 x38 x39 x40 x41 x42 x43 x44 x45 x46 x47 x48 x49 x50 x51 x52 x53 x54 x55 ∧ Kept (fun b => b = F) w0 w ∧ Slot w F (n) y15 ∧ Slot w F (8 + n) y19 ∧ Slot w F (16 + n) y23 ∧ (∀ q v, q ≠ n → q ≠ 8 + n → q ≠ 16 + n → Slot w0 F q v → Slot w F q v) ∧
    (On l 0 → x35 = .pointer (some ⟨F, 0, none⟩)) ∧ (On l 1 → x36 = .int .i64 n) ∧ (On l 2 → x37 = .pointer (some ⟨F, 0, none⟩)) ∧ (On l 3 → x38 = .int .i64 n) ∧ (On l 4 → x39 = .pointer (some ⟨F, 0, none⟩)) ∧ (On l 5 → x40 = .int .i64 n) ∧ (On l 6 → x41 = .int .i64 n) ∧ (On l 7 → x42 = .int .i64 ti) ∧ (On l 8 → x43 = .int .i64 (64 * (n : Int) - ti)) ∧ (On l 9 → x44 = .int .i64 (b : Nat)) ∧ (On l 10 → x45 = .pointer (some ⟨B, n * 3, none⟩)) ∧ (On l 11 → x46 = .func (.func 21) #[.pointer (some ⟨B, n * 3, none⟩)] #[]) ∧ (On l 12 → x47 = .pointer (some ⟨F, 0, none⟩)) ∧ (On l 13 → x48 = .pointer (some ⟨F, 0, none⟩)) ∧ (On l 14 → x49 = .pointer (some ⟨F, n, none⟩)) ∧ (On l 15 → y15 = .int .i64 (64 * (n : Int) - ti)) ∧ (On l 16 → x50 = .pointer (some ⟨F, 0, none⟩)) ∧ (On l 17 → x51 = .pointer (some ⟨F, 8, none⟩)) ∧ (On l 18 → x52 = .pointer (some ⟨F, 8 + n, none⟩)) ∧ (On l 19 → y19 = .int .i64 (b : Nat)) ∧ (On l 20 → x53 = .pointer (some ⟨F, 0, none⟩)) ∧ (On l 21 → x54 = .pointer (some ⟨F, 16, none⟩)) ∧ (On l 22 → x55 = .pointer (some ⟨F, 16 + n, none⟩)) ∧ (On l 23 → y23 = .func (.func 21) #[.pointer (some ⟨B, n * 3, none⟩)] #[])

/-- How far a look is. -/
def LookRel (w : World) (F lo hi P bk B L R : Nat) (id : Nat → Ids) (k : Int) (S : Nat → LS) (c : Value) (wr : World) : Prop :=
  ∃ j : Nat, j ≤ L ∧ c = .int .i64 ((j : Int) - 1) ∧ Prs wr lo hi P bk B L R id k S ∧ Fnd wr F B L R j S ∧ Kept (fun b => b = F) w wr

set_option maxRecDepth 100000 in
set_option maxHeartbeats 800000 in
theorem look_any {w : World} {F lo hi P bk B L R : Nat} {id : Nat → Ids} {k : Int} {S : Nat → LS} (h : Prs w lo hi P bk B L R id k S) (hR : Pw R) (hL : L ≤ 8) (hF : hi ≤ F ∨ F < lo)
    (hb : ∀ n, n < L → (S n).b < 4611686018427387904) (hk : ∀ n, n < L → ∀ i, 0 ≤ (S n).ti i ∧ (S n).ti i < 1000000) (f : Fnd w F B L R L S) :
    Calls Try.prog 15 #[.pointer (some ⟨P, 0, none⟩), .pointer none, .pointer (some ⟨F, 0, none⟩)] w fun e w' => e = .returned (.tuple #[]) ∧ Prs w' lo hi P bk B L R id k S ∧ Fnd w' F B L R 0 S ∧ Kept (fun b => b = F) w w' := by
  have h1 := h.h1.c
  have H := Lib.hid h
  have HFn := Lib.hid f
  have z0 : wrap64 ((L : Int) - 1) = (L : Int) - 1 := by unfold wrap64; omega
  clear h f
  go_enter Try.func15, Try.ntmps15
  go_wp2_with fail
  clear h1
  go_loopw [6] (fun c wr => LookRel w F lo hi P bk B L R id k S c wr) (fun c _ => (intOf c + 1).toNat)
  case atStart => exact ⟨L, Nat.le_refl _, rfl, H.out, HFn.out, Kept.refl _ _⟩
  case round =>
    obtain ⟨j, hj, rfl, HP, HF2, HK⟩ := hrel
    have z1 : wrap64 ((j : Int) - 1 - 1) = (j : Int) - 1 - 1 := by unfold wrap64; omega
    by_cases hlt : 0 < j
    · obtain ⟨n, rfl⟩ : ∃ n, j = n + 1 := ⟨j - 1, by omega⟩
      have hn : n < L := by omega
      have e1 : ((n + 1 : Nat) : Int) - 1 = (n : Int) := by omega
      rw [e1] at z1 ⊢
      have h1 := HP.h1.c
      have g0 : (0 : Int) ≤ (n : Int) := by omega
      have g1 : (n : Int) < L := by omega
      have X := Lib.hid HP
      have XF := Lib.hid HF2
      have XK := Lib.hid HK
      clear HP HF2 HK
      by_cases hf : Full R (S n)
      · have Hf := Lib.hid hf
        clear hf
        go_wp2_with fail
        refine (first_yes (X.out.lv n hn) hR (hb n hn) Hf.out).mono ?_
        rintro e W ⟨rfl, K⟩
        have XW := Lib.hid (X.out.kept K (fun _ _ _ e => e))
        have FW := Lib.hid (XF.out.kept K (fun e => e))
        have KW := Lib.hid (XK.out.trans (keptNo K))
        clear K X XF XK
        have t0 := (hk n hn ((S n).b % R)).1
        have t1 := (hk n hn ((S n).b % R)).2
        have t2 : n < 8 := by omega
        have i1 : (n : Int) < 8 := by omega
        go_wp2_with fail
        have T0 := (FW.out.off n t2 (.inl (by omega))).1
        have T1 := (FW.out.off n t2 (.inl (by omega))).2.1
        have T2 := (FW.out.off n t2 (.inl (by omega))).2.2
        refine region_inv (InvLook W F B n (S n).b ((S n).ti ((S n).b % R)) (fun x35 x36 x37 x38 x39 x40 x41 x42 x43 x44 x45 x46 x47 x48 x49 x50 x51 x52 x53 x54 x55 => ⟨#[.pointer (some ⟨P, 0, none⟩), .pointer none, .pointer (some ⟨F, 0, none⟩), undef, undef, undef, .int .i64 n, .pointer (some ⟨B, n * 3, none⟩), .int .i64 (S n).b, .int .i64 ((S n).ti ((S n).b % R)), .bool true, .pointer (some ⟨P, 0, none⟩), .pointer (some ⟨P, 0, none⟩), .pointer (some ⟨P, 1, none⟩), .slice (some ⟨B, 0, none⟩) L L, .int .i64 L, .int .i64 ((L : Int) - 1), .int .i64 n, .bool true, u19, u20, .pointer (some ⟨P, 0, none⟩), .pointer (some ⟨P, 0, none⟩), .pointer (some ⟨P, 1, none⟩), .slice (some ⟨B, 0, none⟩) L L, .int .i64 n, .pointer (some ⟨B, n * 3, none⟩), .tuple #[.int .i64 (S n).b, .int .i64 ((S n).ti ((S n).b % R)), .bool true], .pointer (some ⟨B, n * 3, none⟩), .pointer none, .tuple #[.int .i64 (S n).b, .int .i64 ((S n).ti ((S n).b % R)), .bool true], .int .i64 (S n).b, .int .i64 ((S n).ti ((S n).b % R)), .bool true, .bool true, x35, x36, x37, x38, x39, x40, x41, x42, x43, x44, x45, x46, x47, x48, x49, x50, x51, x52, x53, x54, x55], []⟩)) (by kernel_rfl) (by kernel_rfl) ?_ ?_ ?_
        · exact ⟨_, _, _, _, _, _, _, _, _, _, _, _, _, _, _, _, _, _, _, _, _, _, _, _, rfl, (Kept.refl _ W).drew, (T0).kept (Kept.refl (fun _ => False) W).drew (fun e => e), (T1).kept (Kept.refl (fun _ => False) W).drew (fun e => e), (T2).kept (Kept.refl (fun _ => False) W).drew (fun e => e), fun q v _ _ _ hq => hq.kept (Kept.refl (fun _ => False) W).drew (fun e => e), by simp [On], by simp [On], by simp [On], by simp [On], by simp [On], by simp [On], by simp [On], by simp [On], by simp [On], by simp [On], by simp [On], by simp [On], by simp [On], by simp [On], by simp [On], by simp [On], by simp [On], by simp [On], by simp [On], by simp [On], by simp [On], by simp [On], by simp [On], by simp [On]⟩
        · intro i o l a wx K hi hs hl hall ⟨x35, x36, x37, x38, x39, x40, x41, x42, x43, x44, x45, x46, x47, x48, x49, x50, x51, x52, x53, x54, x55, y15, y19, y23, ha, KK, s15, s19, s23, RR, f0, f1, f2, f3, f4, f5, f6, f7, f8, f9, f10, f11, f12, f13, f14, f15, f16, f17, f18, f19, f20, f21, f22, f23⟩ hK
          subst ha
          have hlt : i < 24 := by simpa using (Array.getElem?_eq_some_iff.1 hi).1
          match i, hi, hl, hlt with
            | 0, hi, hl, _ =>
              simp at hi
              subst hi
              go_simp
              exact hK _ _ ⟨_, x36, x37, x38, x39, x40, x41, x42, x43, x44, x45, x46, x47, x48, x49, x50, x51, x52, x53, x54, x55, y15, y19, y23, rfl, KK, s15, s19, s23, RR, fun _ => rfl, fun h => f1 ((on_other (by decide)).1 h), fun h => f2 ((on_other (by decide)).1 h), fun h => f3 ((on_other (by decide)).1 h), fun h => f4 ((on_other (by decide)).1 h), fun h => f5 ((on_other (by decide)).1 h), fun h => f6 ((on_other (by decide)).1 h), fun h => f7 ((on_other (by decide)).1 h), fun h => f8 ((on_other (by decide)).1 h), fun h => f9 ((on_other (by decide)).1 h), fun h => f10 ((on_other (by decide)).1 h), fun h => f11 ((on_other (by decide)).1 h), fun h => f12 ((on_other (by decide)).1 h), fun h => f13 ((on_other (by decide)).1 h), fun h => f14 ((on_other (by decide)).1 h), fun h => f15 ((on_other (by decide)).1 h), fun h => f16 ((on_other (by decide)).1 h), fun h => f17 ((on_other (by decide)).1 h), fun h => f18 ((on_other (by decide)).1 h), fun h => f19 ((on_other (by decide)).1 h), fun h => f20 ((on_other (by decide)).1 h), fun h => f21 ((on_other (by decide)).1 h), fun h => f22 ((on_other (by decide)).1 h), fun h => f23 ((on_other (by decide)).1 h)⟩
            | 1, hi, hl, _ =>
              simp at hi
              subst hi
              go_simp
              exact hK _ _ ⟨x35, _, x37, x38, x39, x40, x41, x42, x43, x44, x45, x46, x47, x48, x49, x50, x51, x52, x53, x54, x55, y15, y19, y23, rfl, KK, s15, s19, s23, RR, fun h => f0 ((on_other (by decide)).1 h), fun _ => rfl, fun h => f2 ((on_other (by decide)).1 h), fun h => f3 ((on_other (by decide)).1 h), fun h => f4 ((on_other (by decide)).1 h), fun h => f5 ((on_other (by decide)).1 h), fun h => f6 ((on_other (by decide)).1 h), fun h => f7 ((on_other (by decide)).1 h), fun h => f8 ((on_other (by decide)).1 h), fun h => f9 ((on_other (by decide)).1 h), fun h => f10 ((on_other (by decide)).1 h), fun h => f11 ((on_other (by decide)).1 h), fun h => f12 ((on_other (by decide)).1 h), fun h => f13 ((on_other (by decide)).1 h), fun h => f14 ((on_other (by decide)).1 h), fun h => f15 ((on_other (by decide)).1 h), fun h => f16 ((on_other (by decide)).1 h), fun h => f17 ((on_other (by decide)).1 h), fun h => f18 ((on_other (by decide)).1 h), fun h => f19 ((on_other (by decide)).1 h), fun h => f20 ((on_other (by decide)).1 h), fun h => f21 ((on_other (by decide)).1 h), fun h => f22 ((on_other (by decide)).1 h), fun h => f23 ((on_other (by decide)).1 h)⟩
            | 2, hi, hl, _ =>
              simp at hi
              subst hi
              go_simp
              exact hK _ _ ⟨x35, x36, _, x38, x39, x40, x41, x42, x43, x44, x45, x46, x47, x48, x49, x50, x51, x52, x53, x54, x55, y15, y19, y23, rfl, KK, s15, s19, s23, RR, fun h => f0 ((on_other (by decide)).1 h), fun h => f1 ((on_other (by decide)).1 h), fun _ => rfl, fun h => f3 ((on_other (by decide)).1 h), fun h => f4 ((on_other (by decide)).1 h), fun h => f5 ((on_other (by decide)).1 h), fun h => f6 ((on_other (by decide)).1 h), fun h => f7 ((on_other (by decide)).1 h), fun h => f8 ((on_other (by decide)).1 h), fun h => f9 ((on_other (by decide)).1 h), fun h => f10 ((on_other (by decide)).1 h), fun h => f11 ((on_other (by decide)).1 h), fun h => f12 ((on_other (by decide)).1 h), fun h => f13 ((on_other (by decide)).1 h), fun h => f14 ((on_other (by decide)).1 h), fun h => f15 ((on_other (by decide)).1 h), fun h => f16 ((on_other (by decide)).1 h), fun h => f17 ((on_other (by decide)).1 h), fun h => f18 ((on_other (by decide)).1 h), fun h => f19 ((on_other (by decide)).1 h), fun h => f20 ((on_other (by decide)).1 h), fun h => f21 ((on_other (by decide)).1 h), fun h => f22 ((on_other (by decide)).1 h), fun h => f23 ((on_other (by decide)).1 h)⟩
            | 3, hi, hl, _ =>
              simp at hi
              subst hi
              go_simp
              exact hK _ _ ⟨x35, x36, x37, _, x39, x40, x41, x42, x43, x44, x45, x46, x47, x48, x49, x50, x51, x52, x53, x54, x55, y15, y19, y23, rfl, KK, s15, s19, s23, RR, fun h => f0 ((on_other (by decide)).1 h), fun h => f1 ((on_other (by decide)).1 h), fun h => f2 ((on_other (by decide)).1 h), fun _ => rfl, fun h => f4 ((on_other (by decide)).1 h), fun h => f5 ((on_other (by decide)).1 h), fun h => f6 ((on_other (by decide)).1 h), fun h => f7 ((on_other (by decide)).1 h), fun h => f8 ((on_other (by decide)).1 h), fun h => f9 ((on_other (by decide)).1 h), fun h => f10 ((on_other (by decide)).1 h), fun h => f11 ((on_other (by decide)).1 h), fun h => f12 ((on_other (by decide)).1 h), fun h => f13 ((on_other (by decide)).1 h), fun h => f14 ((on_other (by decide)).1 h), fun h => f15 ((on_other (by decide)).1 h), fun h => f16 ((on_other (by decide)).1 h), fun h => f17 ((on_other (by decide)).1 h), fun h => f18 ((on_other (by decide)).1 h), fun h => f19 ((on_other (by decide)).1 h), fun h => f20 ((on_other (by decide)).1 h), fun h => f21 ((on_other (by decide)).1 h), fun h => f22 ((on_other (by decide)).1 h), fun h => f23 ((on_other (by decide)).1 h)⟩
            | 4, hi, hl, _ =>
              simp at hi
              subst hi
              go_simp
              exact hK _ _ ⟨x35, x36, x37, x38, _, x40, x41, x42, x43, x44, x45, x46, x47, x48, x49, x50, x51, x52, x53, x54, x55, y15, y19, y23, rfl, KK, s15, s19, s23, RR, fun h => f0 ((on_other (by decide)).1 h), fun h => f1 ((on_other (by decide)).1 h), fun h => f2 ((on_other (by decide)).1 h), fun h => f3 ((on_other (by decide)).1 h), fun _ => rfl, fun h => f5 ((on_other (by decide)).1 h), fun h => f6 ((on_other (by decide)).1 h), fun h => f7 ((on_other (by decide)).1 h), fun h => f8 ((on_other (by decide)).1 h), fun h => f9 ((on_other (by decide)).1 h), fun h => f10 ((on_other (by decide)).1 h), fun h => f11 ((on_other (by decide)).1 h), fun h => f12 ((on_other (by decide)).1 h), fun h => f13 ((on_other (by decide)).1 h), fun h => f14 ((on_other (by decide)).1 h), fun h => f15 ((on_other (by decide)).1 h), fun h => f16 ((on_other (by decide)).1 h), fun h => f17 ((on_other (by decide)).1 h), fun h => f18 ((on_other (by decide)).1 h), fun h => f19 ((on_other (by decide)).1 h), fun h => f20 ((on_other (by decide)).1 h), fun h => f21 ((on_other (by decide)).1 h), fun h => f22 ((on_other (by decide)).1 h), fun h => f23 ((on_other (by decide)).1 h)⟩
            | 5, hi, hl, _ =>
              simp at hi
              subst hi
              go_simp
              exact hK _ _ ⟨x35, x36, x37, x38, x39, _, x41, x42, x43, x44, x45, x46, x47, x48, x49, x50, x51, x52, x53, x54, x55, y15, y19, y23, rfl, KK, s15, s19, s23, RR, fun h => f0 ((on_other (by decide)).1 h), fun h => f1 ((on_other (by decide)).1 h), fun h => f2 ((on_other (by decide)).1 h), fun h => f3 ((on_other (by decide)).1 h), fun h => f4 ((on_other (by decide)).1 h), fun _ => rfl, fun h => f6 ((on_other (by decide)).1 h), fun h => f7 ((on_other (by decide)).1 h), fun h => f8 ((on_other (by decide)).1 h), fun h => f9 ((on_other (by decide)).1 h), fun h => f10 ((on_other (by decide)).1 h), fun h => f11 ((on_other (by decide)).1 h), fun h => f12 ((on_other (by decide)).1 h), fun h => f13 ((on_other (by decide)).1 h), fun h => f14 ((on_other (by decide)).1 h), fun h => f15 ((on_other (by decide)).1 h), fun h => f16 ((on_other (by decide)).1 h), fun h => f17 ((on_other (by decide)).1 h), fun h => f18 ((on_other (by decide)).1 h), fun h => f19 ((on_other (by decide)).1 h), fun h => f20 ((on_other (by decide)).1 h), fun h => f21 ((on_other (by decide)).1 h), fun h => f22 ((on_other (by decide)).1 h), fun h => f23 ((on_other (by decide)).1 h)⟩
            | 6, hi, hl, _ =>
              simp at hi
              subst hi
              go_simp
              exact hK _ _ ⟨x35, x36, x37, x38, x39, x40, _, x42, x43, x44, x45, x46, x47, x48, x49, x50, x51, x52, x53, x54, x55, y15, y19, y23, rfl, KK, s15, s19, s23, RR, fun h => f0 ((on_other (by decide)).1 h), fun h => f1 ((on_other (by decide)).1 h), fun h => f2 ((on_other (by decide)).1 h), fun h => f3 ((on_other (by decide)).1 h), fun h => f4 ((on_other (by decide)).1 h), fun h => f5 ((on_other (by decide)).1 h), fun _ => rfl, fun h => f7 ((on_other (by decide)).1 h), fun h => f8 ((on_other (by decide)).1 h), fun h => f9 ((on_other (by decide)).1 h), fun h => f10 ((on_other (by decide)).1 h), fun h => f11 ((on_other (by decide)).1 h), fun h => f12 ((on_other (by decide)).1 h), fun h => f13 ((on_other (by decide)).1 h), fun h => f14 ((on_other (by decide)).1 h), fun h => f15 ((on_other (by decide)).1 h), fun h => f16 ((on_other (by decide)).1 h), fun h => f17 ((on_other (by decide)).1 h), fun h => f18 ((on_other (by decide)).1 h), fun h => f19 ((on_other (by decide)).1 h), fun h => f20 ((on_other (by decide)).1 h), fun h => f21 ((on_other (by decide)).1 h), fun h => f22 ((on_other (by decide)).1 h), fun h => f23 ((on_other (by decide)).1 h)⟩
            | 7, hi, hl, _ =>
              simp at hi
              subst hi
              go_simp
              exact hK _ _ ⟨x35, x36, x37, x38, x39, x40, x41, _, x43, x44, x45, x46, x47, x48, x49, x50, x51, x52, x53, x54, x55, y15, y19, y23, rfl, KK, s15, s19, s23, RR, fun h => f0 ((on_other (by decide)).1 h), fun h => f1 ((on_other (by decide)).1 h), fun h => f2 ((on_other (by decide)).1 h), fun h => f3 ((on_other (by decide)).1 h), fun h => f4 ((on_other (by decide)).1 h), fun h => f5 ((on_other (by decide)).1 h), fun h => f6 ((on_other (by decide)).1 h), fun _ => rfl, fun h => f8 ((on_other (by decide)).1 h), fun h => f9 ((on_other (by decide)).1 h), fun h => f10 ((on_other (by decide)).1 h), fun h => f11 ((on_other (by decide)).1 h), fun h => f12 ((on_other (by decide)).1 h), fun h => f13 ((on_other (by decide)).1 h), fun h => f14 ((on_other (by decide)).1 h), fun h => f15 ((on_other (by decide)).1 h), fun h => f16 ((on_other (by decide)).1 h), fun h => f17 ((on_other (by decide)).1 h), fun h => f18 ((on_other (by decide)).1 h), fun h => f19 ((on_other (by decide)).1 h), fun h => f20 ((on_other (by decide)).1 h), fun h => f21 ((on_other (by decide)).1 h), fun h => f22 ((on_other (by decide)).1 h), fun h => f23 ((on_other (by decide)).1 h)⟩
            | 8, hi, hl, _ =>
              simp at hi
              subst hi
              have hn6 : On l 6 := hall { on := 6, ground := .data } (by simp) (by rfl)
              obtain rfl := f6 hn6
              have hn7 : On l 7 := hall { on := 7, ground := .data } (by simp) (by rfl)
              obtain rfl := f7 hn7
              go_simp
              refine (worth_any n _ t0 t1 t2 _).mono ?_
              rintro e w' ⟨rfl, rfl⟩
              exact hK _ _ ⟨x35, x36, x37, x38, x39, x40, _, _, _, x44, x45, x46, x47, x48, x49, x50, x51, x52, x53, x54, x55, y15, y19, y23, rfl, KK, s15, s19, s23, RR, fun h => f0 ((on_other (by decide)).1 h), fun h => f1 ((on_other (by decide)).1 h), fun h => f2 ((on_other (by decide)).1 h), fun h => f3 ((on_other (by decide)).1 h), fun h => f4 ((on_other (by decide)).1 h), fun h => f5 ((on_other (by decide)).1 h), fun _ => rfl, fun _ => rfl, fun _ => rfl, fun h => f9 ((on_other (by decide)).1 h), fun h => f10 ((on_other (by decide)).1 h), fun h => f11 ((on_other (by decide)).1 h), fun h => f12 ((on_other (by decide)).1 h), fun h => f13 ((on_other (by decide)).1 h), fun h => f14 ((on_other (by decide)).1 h), fun h => f15 ((on_other (by decide)).1 h), fun h => f16 ((on_other (by decide)).1 h), fun h => f17 ((on_other (by decide)).1 h), fun h => f18 ((on_other (by decide)).1 h), fun h => f19 ((on_other (by decide)).1 h), fun h => f20 ((on_other (by decide)).1 h), fun h => f21 ((on_other (by decide)).1 h), fun h => f22 ((on_other (by decide)).1 h), fun h => f23 ((on_other (by decide)).1 h)⟩
            | 9, hi, hl, _ =>
              simp at hi
              subst hi
              go_simp
              exact hK _ _ ⟨x35, x36, x37, x38, x39, x40, x41, x42, x43, _, x45, x46, x47, x48, x49, x50, x51, x52, x53, x54, x55, y15, y19, y23, rfl, KK, s15, s19, s23, RR, fun h => f0 ((on_other (by decide)).1 h), fun h => f1 ((on_other (by decide)).1 h), fun h => f2 ((on_other (by decide)).1 h), fun h => f3 ((on_other (by decide)).1 h), fun h => f4 ((on_other (by decide)).1 h), fun h => f5 ((on_other (by decide)).1 h), fun h => f6 ((on_other (by decide)).1 h), fun h => f7 ((on_other (by decide)).1 h), fun h => f8 ((on_other (by decide)).1 h), fun _ => rfl, fun h => f10 ((on_other (by decide)).1 h), fun h => f11 ((on_other (by decide)).1 h), fun h => f12 ((on_other (by decide)).1 h), fun h => f13 ((on_other (by decide)).1 h), fun h => f14 ((on_other (by decide)).1 h), fun h => f15 ((on_other (by decide)).1 h), fun h => f16 ((on_other (by decide)).1 h), fun h => f17 ((on_other (by decide)).1 h), fun h => f18 ((on_other (by decide)).1 h), fun h => f19 ((on_other (by decide)).1 h), fun h => f20 ((on_other (by decide)).1 h), fun h => f21 ((on_other (by decide)).1 h), fun h => f22 ((on_other (by decide)).1 h), fun h => f23 ((on_other (by decide)).1 h)⟩
            | 10, hi, hl, _ =>
              simp at hi
              subst hi
              go_simp
              exact hK _ _ ⟨x35, x36, x37, x38, x39, x40, x41, x42, x43, x44, _, x46, x47, x48, x49, x50, x51, x52, x53, x54, x55, y15, y19, y23, rfl, KK, s15, s19, s23, RR, fun h => f0 ((on_other (by decide)).1 h), fun h => f1 ((on_other (by decide)).1 h), fun h => f2 ((on_other (by decide)).1 h), fun h => f3 ((on_other (by decide)).1 h), fun h => f4 ((on_other (by decide)).1 h), fun h => f5 ((on_other (by decide)).1 h), fun h => f6 ((on_other (by decide)).1 h), fun h => f7 ((on_other (by decide)).1 h), fun h => f8 ((on_other (by decide)).1 h), fun h => f9 ((on_other (by decide)).1 h), fun _ => rfl, fun h => f11 ((on_other (by decide)).1 h), fun h => f12 ((on_other (by decide)).1 h), fun h => f13 ((on_other (by decide)).1 h), fun h => f14 ((on_other (by decide)).1 h), fun h => f15 ((on_other (by decide)).1 h), fun h => f16 ((on_other (by decide)).1 h), fun h => f17 ((on_other (by decide)).1 h), fun h => f18 ((on_other (by decide)).1 h), fun h => f19 ((on_other (by decide)).1 h), fun h => f20 ((on_other (by decide)).1 h), fun h => f21 ((on_other (by decide)).1 h), fun h => f22 ((on_other (by decide)).1 h), fun h => f23 ((on_other (by decide)).1 h)⟩
            | 11, hi, hl, _ =>
              simp at hi
              subst hi
              have hn10 : On l 10 := hall { on := 10, ground := .data } (by simp) (by rfl)
              obtain rfl := f10 hn10
              go_simp
              exact hK _ _ ⟨x35, x36, x37, x38, x39, x40, x41, x42, x43, x44, _, _, x47, x48, x49, x50, x51, x52, x53, x54, x55, y15, y19, y23, rfl, KK, s15, s19, s23, RR, fun h => f0 ((on_other (by decide)).1 h), fun h => f1 ((on_other (by decide)).1 h), fun h => f2 ((on_other (by decide)).1 h), fun h => f3 ((on_other (by decide)).1 h), fun h => f4 ((on_other (by decide)).1 h), fun h => f5 ((on_other (by decide)).1 h), fun h => f6 ((on_other (by decide)).1 h), fun h => f7 ((on_other (by decide)).1 h), fun h => f8 ((on_other (by decide)).1 h), fun h => f9 ((on_other (by decide)).1 h), fun _ => rfl, fun _ => rfl, fun h => f12 ((on_other (by decide)).1 h), fun h => f13 ((on_other (by decide)).1 h), fun h => f14 ((on_other (by decide)).1 h), fun h => f15 ((on_other (by decide)).1 h), fun h => f16 ((on_other (by decide)).1 h), fun h => f17 ((on_other (by decide)).1 h), fun h => f18 ((on_other (by decide)).1 h), fun h => f19 ((on_other (by decide)).1 h), fun h => f20 ((on_other (by decide)).1 h), fun h => f21 ((on_other (by decide)).1 h), fun h => f22 ((on_other (by decide)).1 h), fun h => f23 ((on_other (by decide)).1 h)⟩
            | 12, hi, hl, _ =>
              simp at hi
              subst hi
              have hn0 : On l 0 := hall { on := 0, ground := .data } (by simp) (by rfl)
              obtain rfl := f0 hn0
              go_simp
              exact hK _ _ ⟨_, x36, x37, x38, x39, x40, x41, x42, x43, x44, x45, x46, _, x48, x49, x50, x51, x52, x53, x54, x55, y15, y19, y23, rfl, KK, s15, s19, s23, RR, fun _ => rfl, fun h => f1 ((on_other (by decide)).1 h), fun h => f2 ((on_other (by decide)).1 h), fun h => f3 ((on_other (by decide)).1 h), fun h => f4 ((on_other (by decide)).1 h), fun h => f5 ((on_other (by decide)).1 h), fun h => f6 ((on_other (by decide)).1 h), fun h => f7 ((on_other (by decide)).1 h), fun h => f8 ((on_other (by decide)).1 h), fun h => f9 ((on_other (by decide)).1 h), fun h => f10 ((on_other (by decide)).1 h), fun h => f11 ((on_other (by decide)).1 h), fun _ => rfl, fun h => f13 ((on_other (by decide)).1 h), fun h => f14 ((on_other (by decide)).1 h), fun h => f15 ((on_other (by decide)).1 h), fun h => f16 ((on_other (by decide)).1 h), fun h => f17 ((on_other (by decide)).1 h), fun h => f18 ((on_other (by decide)).1 h), fun h => f19 ((on_other (by decide)).1 h), fun h => f20 ((on_other (by decide)).1 h), fun h => f21 ((on_other (by decide)).1 h), fun h => f22 ((on_other (by decide)).1 h), fun h => f23 ((on_other (by decide)).1 h)⟩
            | 13, hi, hl, _ =>
              simp at hi
              subst hi
              have hn12 : On l 12 := hall { on := 12, ground := .data } (by simp) (by rfl)
              obtain rfl := f12 hn12
              go_simp
              exact hK _ _ ⟨x35, x36, x37, x38, x39, x40, x41, x42, x43, x44, x45, x46, _, _, x49, x50, x51, x52, x53, x54, x55, y15, y19, y23, rfl, KK, s15, s19, s23, RR, fun h => f0 ((on_other (by decide)).1 h), fun h => f1 ((on_other (by decide)).1 h), fun h => f2 ((on_other (by decide)).1 h), fun h => f3 ((on_other (by decide)).1 h), fun h => f4 ((on_other (by decide)).1 h), fun h => f5 ((on_other (by decide)).1 h), fun h => f6 ((on_other (by decide)).1 h), fun h => f7 ((on_other (by decide)).1 h), fun h => f8 ((on_other (by decide)).1 h), fun h => f9 ((on_other (by decide)).1 h), fun h => f10 ((on_other (by decide)).1 h), fun h => f11 ((on_other (by decide)).1 h), fun _ => rfl, fun _ => rfl, fun h => f14 ((on_other (by decide)).1 h), fun h => f15 ((on_other (by decide)).1 h), fun h => f16 ((on_other (by decide)).1 h), fun h => f17 ((on_other (by decide)).1 h), fun h => f18 ((on_other (by decide)).1 h), fun h => f19 ((on_other (by decide)).1 h), fun h => f20 ((on_other (by decide)).1 h), fun h => f21 ((on_other (by decide)).1 h), fun h => f22 ((on_other (by decide)).1 h), fun h => f23 ((on_other (by decide)).1 h)⟩
            | 14, hi, hl, _ =>
              simp at hi
              subst hi
              have hn13 : On l 13 := hall { on := 13, ground := .data } (by simp) (by rfl)
              obtain rfl := f13 hn13
              have hn1 : On l 1 := hall { on := 1, ground := .data } (by simp) (by rfl)
              obtain rfl := f1 hn1
              go_simp
              exact hK _ _ ⟨x35, _, x37, x38, x39, x40, x41, x42, x43, x44, x45, x46, x47, _, _, x50, x51, x52, x53, x54, x55, y15, y19, y23, rfl, KK, s15, s19, s23, RR, fun h => f0 ((on_other (by decide)).1 h), fun _ => rfl, fun h => f2 ((on_other (by decide)).1 h), fun h => f3 ((on_other (by decide)).1 h), fun h => f4 ((on_other (by decide)).1 h), fun h => f5 ((on_other (by decide)).1 h), fun h => f6 ((on_other (by decide)).1 h), fun h => f7 ((on_other (by decide)).1 h), fun h => f8 ((on_other (by decide)).1 h), fun h => f9 ((on_other (by decide)).1 h), fun h => f10 ((on_other (by decide)).1 h), fun h => f11 ((on_other (by decide)).1 h), fun h => f12 ((on_other (by decide)).1 h), fun _ => rfl, fun _ => rfl, fun h => f15 ((on_other (by decide)).1 h), fun h => f16 ((on_other (by decide)).1 h), fun h => f17 ((on_other (by decide)).1 h), fun h => f18 ((on_other (by decide)).1 h), fun h => f19 ((on_other (by decide)).1 h), fun h => f20 ((on_other (by decide)).1 h), fun h => f21 ((on_other (by decide)).1 h), fun h => f22 ((on_other (by decide)).1 h), fun h => f23 ((on_other (by decide)).1 h)⟩
            | 15, hi, hl, _ =>
              simp at hi
              subst hi
              have hn14 : On l 14 := hall { on := 14, ground := .data } (by simp) (by rfl)
              obtain rfl := f14 hn14
              have hn8 : On l 8 := hall { on := 8, ground := .data } (by simp) (by rfl)
              obtain rfl := f8 hn8
              have sc := s15.c
              have sf := s15.fr
              have sl := s15.lt
              go_simp
              exact hK _ _ ⟨x35, x36, x37, x38, x39, x40, x41, x42, _, x44, x45, x46, x47, x48, _, x50, x51, x52, x53, x54, x55, _, y19, y23, rfl, KK.setCell ⟨F, n, none⟩ (.inl rfl) _, s15.set _, s19.beside _ (by omega), s23.beside _ (by omega), fun q v g15 g19 g23 hq => (RR q v g15 g19 g23 hq).beside _ g15, fun h => f0 ((on_other (by decide)).1 h), fun h => f1 ((on_other (by decide)).1 h), fun h => f2 ((on_other (by decide)).1 h), fun h => f3 ((on_other (by decide)).1 h), fun h => f4 ((on_other (by decide)).1 h), fun h => f5 ((on_other (by decide)).1 h), fun h => f6 ((on_other (by decide)).1 h), fun h => f7 ((on_other (by decide)).1 h), fun _ => rfl, fun h => f9 ((on_other (by decide)).1 h), fun h => f10 ((on_other (by decide)).1 h), fun h => f11 ((on_other (by decide)).1 h), fun h => f12 ((on_other (by decide)).1 h), fun h => f13 ((on_other (by decide)).1 h), fun _ => rfl, fun _ => rfl, fun h => f16 ((on_other (by decide)).1 h), fun h => f17 ((on_other (by decide)).1 h), fun h => f18 ((on_other (by decide)).1 h), fun h => f19 ((on_other (by decide)).1 h), fun h => f20 ((on_other (by decide)).1 h), fun h => f21 ((on_other (by decide)).1 h), fun h => f22 ((on_other (by decide)).1 h), fun h => f23 ((on_other (by decide)).1 h)⟩
            | 16, hi, hl, _ =>
              simp at hi
              subst hi
              have hn2 : On l 2 := hall { on := 2, ground := .data } (by simp) (by rfl)
              obtain rfl := f2 hn2
              go_simp
              exact hK _ _ ⟨x35, x36, _, x38, x39, x40, x41, x42, x43, x44, x45, x46, x47, x48, x49, _, x51, x52, x53, x54, x55, y15, y19, y23, rfl, KK, s15, s19, s23, RR, fun h => f0 ((on_other (by decide)).1 h), fun h => f1 ((on_other (by decide)).1 h), fun _ => rfl, fun h => f3 ((on_other (by decide)).1 h), fun h => f4 ((on_other (by decide)).1 h), fun h => f5 ((on_other (by decide)).1 h), fun h => f6 ((on_other (by decide)).1 h), fun h => f7 ((on_other (by decide)).1 h), fun h => f8 ((on_other (by decide)).1 h), fun h => f9 ((on_other (by decide)).1 h), fun h => f10 ((on_other (by decide)).1 h), fun h => f11 ((on_other (by decide)).1 h), fun h => f12 ((on_other (by decide)).1 h), fun h => f13 ((on_other (by decide)).1 h), fun h => f14 ((on_other (by decide)).1 h), fun h => f15 ((on_other (by decide)).1 h), fun _ => rfl, fun h => f17 ((on_other (by decide)).1 h), fun h => f18 ((on_other (by decide)).1 h), fun h => f19 ((on_other (by decide)).1 h), fun h => f20 ((on_other (by decide)).1 h), fun h => f21 ((on_other (by decide)).1 h), fun h => f22 ((on_other (by decide)).1 h), fun h => f23 ((on_other (by decide)).1 h)⟩
            | 17, hi, hl, _ =>
              simp at hi
              subst hi
              have hn16 : On l 16 := hall { on := 16, ground := .data } (by simp) (by rfl)
              obtain rfl := f16 hn16
              go_simp
              exact hK _ _ ⟨x35, x36, x37, x38, x39, x40, x41, x42, x43, x44, x45, x46, x47, x48, x49, _, _, x52, x53, x54, x55, y15, y19, y23, rfl, KK, s15, s19, s23, RR, fun h => f0 ((on_other (by decide)).1 h), fun h => f1 ((on_other (by decide)).1 h), fun h => f2 ((on_other (by decide)).1 h), fun h => f3 ((on_other (by decide)).1 h), fun h => f4 ((on_other (by decide)).1 h), fun h => f5 ((on_other (by decide)).1 h), fun h => f6 ((on_other (by decide)).1 h), fun h => f7 ((on_other (by decide)).1 h), fun h => f8 ((on_other (by decide)).1 h), fun h => f9 ((on_other (by decide)).1 h), fun h => f10 ((on_other (by decide)).1 h), fun h => f11 ((on_other (by decide)).1 h), fun h => f12 ((on_other (by decide)).1 h), fun h => f13 ((on_other (by decide)).1 h), fun h => f14 ((on_other (by decide)).1 h), fun h => f15 ((on_other (by decide)).1 h), fun _ => rfl, fun _ => rfl, fun h => f18 ((on_other (by decide)).1 h), fun h => f19 ((on_other (by decide)).1 h), fun h => f20 ((on_other (by decide)).1 h), fun h => f21 ((on_other (by decide)).1 h), fun h => f22 ((on_other (by decide)).1 h), fun h => f23 ((on_other (by decide)).1 h)⟩
            | 18, hi, hl, _ =>
              simp at hi
              subst hi
              have hn17 : On l 17 := hall { on := 17, ground := .data } (by simp) (by rfl)
              obtain rfl := f17 hn17
              have hn3 : On l 3 := hall { on := 3, ground := .data } (by simp) (by rfl)
              obtain rfl := f3 hn3
              go_simp
              exact hK _ _ ⟨x35, x36, x37, _, x39, x40, x41, x42, x43, x44, x45, x46, x47, x48, x49, x50, _, _, x53, x54, x55, y15, y19, y23, rfl, KK, s15, s19, s23, RR, fun h => f0 ((on_other (by decide)).1 h), fun h => f1 ((on_other (by decide)).1 h), fun h => f2 ((on_other (by decide)).1 h), fun _ => rfl, fun h => f4 ((on_other (by decide)).1 h), fun h => f5 ((on_other (by decide)).1 h), fun h => f6 ((on_other (by decide)).1 h), fun h => f7 ((on_other (by decide)).1 h), fun h => f8 ((on_other (by decide)).1 h), fun h => f9 ((on_other (by decide)).1 h), fun h => f10 ((on_other (by decide)).1 h), fun h => f11 ((on_other (by decide)).1 h), fun h => f12 ((on_other (by decide)).1 h), fun h => f13 ((on_other (by decide)).1 h), fun h => f14 ((on_other (by decide)).1 h), fun h => f15 ((on_other (by decide)).1 h), fun h => f16 ((on_other (by decide)).1 h), fun _ => rfl, fun _ => rfl, fun h => f19 ((on_other (by decide)).1 h), fun h => f20 ((on_other (by decide)).1 h), fun h => f21 ((on_other (by decide)).1 h), fun h => f22 ((on_other (by decide)).1 h), fun h => f23 ((on_other (by decide)).1 h)⟩
            | 19, hi, hl, _ =>
              simp at hi
              subst hi
              have hn18 : On l 18 := hall { on := 18, ground := .data } (by simp) (by rfl)
              obtain rfl := f18 hn18
              have hn9 : On l 9 := hall { on := 9, ground := .data } (by simp) (by rfl)
              obtain rfl := f9 hn9
              have sc := s19.c
              have sf := s19.fr
              have sl := s19.lt
              go_simp
              exact hK _ _ ⟨x35, x36, x37, x38, x39, x40, x41, x42, x43, _, x45, x46, x47, x48, x49, x50, x51, _, x53, x54, x55, y15, _, y23, rfl, KK.setCell ⟨F, 8 + n, none⟩ (.inl rfl) _, s15.beside _ (by omega), s19.set _, s23.beside _ (by omega), fun q v g15 g19 g23 hq => (RR q v g15 g19 g23 hq).beside _ g19, fun h => f0 ((on_other (by decide)).1 h), fun h => f1 ((on_other (by decide)).1 h), fun h => f2 ((on_other (by decide)).1 h), fun h => f3 ((on_other (by decide)).1 h), fun h => f4 ((on_other (by decide)).1 h), fun h => f5 ((on_other (by decide)).1 h), fun h => f6 ((on_other (by decide)).1 h), fun h => f7 ((on_other (by decide)).1 h), fun h => f8 ((on_other (by decide)).1 h), fun _ => rfl, fun h => f10 ((on_other (by decide)).1 h), fun h => f11 ((on_other (by decide)).1 h), fun h => f12 ((on_other (by decide)).1 h), fun h => f13 ((on_other (by decide)).1 h), fun h => f14 ((on_other (by decide)).1 h), fun h => f15 ((on_other (by decide)).1 h), fun h => f16 ((on_other (by decide)).1 h), fun h => f17 ((on_other (by decide)).1 h), fun _ => rfl, fun _ => rfl, fun h => f20 ((on_other (by decide)).1 h), fun h => f21 ((on_other (by decide)).1 h), fun h => f22 ((on_other (by decide)).1 h), fun h => f23 ((on_other (by decide)).1 h)⟩
            | 20, hi, hl, _ =>
              simp at hi
              subst hi
              have hn4 : On l 4 := hall { on := 4, ground := .data } (by simp) (by rfl)
              obtain rfl := f4 hn4
              go_simp
              exact hK _ _ ⟨x35, x36, x37, x38, _, x40, x41, x42, x43, x44, x45, x46, x47, x48, x49, x50, x51, x52, _, x54, x55, y15, y19, y23, rfl, KK, s15, s19, s23, RR, fun h => f0 ((on_other (by decide)).1 h), fun h => f1 ((on_other (by decide)).1 h), fun h => f2 ((on_other (by decide)).1 h), fun h => f3 ((on_other (by decide)).1 h), fun _ => rfl, fun h => f5 ((on_other (by decide)).1 h), fun h => f6 ((on_other (by decide)).1 h), fun h => f7 ((on_other (by decide)).1 h), fun h => f8 ((on_other (by decide)).1 h), fun h => f9 ((on_other (by decide)).1 h), fun h => f10 ((on_other (by decide)).1 h), fun h => f11 ((on_other (by decide)).1 h), fun h => f12 ((on_other (by decide)).1 h), fun h => f13 ((on_other (by decide)).1 h), fun h => f14 ((on_other (by decide)).1 h), fun h => f15 ((on_other (by decide)).1 h), fun h => f16 ((on_other (by decide)).1 h), fun h => f17 ((on_other (by decide)).1 h), fun h => f18 ((on_other (by decide)).1 h), fun h => f19 ((on_other (by decide)).1 h), fun _ => rfl, fun h => f21 ((on_other (by decide)).1 h), fun h => f22 ((on_other (by decide)).1 h), fun h => f23 ((on_other (by decide)).1 h)⟩
            | 21, hi, hl, _ =>
              simp at hi
              subst hi
              have hn20 : On l 20 := hall { on := 20, ground := .data } (by simp) (by rfl)
              obtain rfl := f20 hn20
              go_simp
              exact hK _ _ ⟨x35, x36, x37, x38, x39, x40, x41, x42, x43, x44, x45, x46, x47, x48, x49, x50, x51, x52, _, _, x55, y15, y19, y23, rfl, KK, s15, s19, s23, RR, fun h => f0 ((on_other (by decide)).1 h), fun h => f1 ((on_other (by decide)).1 h), fun h => f2 ((on_other (by decide)).1 h), fun h => f3 ((on_other (by decide)).1 h), fun h => f4 ((on_other (by decide)).1 h), fun h => f5 ((on_other (by decide)).1 h), fun h => f6 ((on_other (by decide)).1 h), fun h => f7 ((on_other (by decide)).1 h), fun h => f8 ((on_other (by decide)).1 h), fun h => f9 ((on_other (by decide)).1 h), fun h => f10 ((on_other (by decide)).1 h), fun h => f11 ((on_other (by decide)).1 h), fun h => f12 ((on_other (by decide)).1 h), fun h => f13 ((on_other (by decide)).1 h), fun h => f14 ((on_other (by decide)).1 h), fun h => f15 ((on_other (by decide)).1 h), fun h => f16 ((on_other (by decide)).1 h), fun h => f17 ((on_other (by decide)).1 h), fun h => f18 ((on_other (by decide)).1 h), fun h => f19 ((on_other (by decide)).1 h), fun _ => rfl, fun _ => rfl, fun h => f22 ((on_other (by decide)).1 h), fun h => f23 ((on_other (by decide)).1 h)⟩
            | 22, hi, hl, _ =>
              simp at hi
              subst hi
              have hn21 : On l 21 := hall { on := 21, ground := .data } (by simp) (by rfl)
              obtain rfl := f21 hn21
              have hn5 : On l 5 := hall { on := 5, ground := .data } (by simp) (by rfl)
              obtain rfl := f5 hn5
              go_simp
              exact hK _ _ ⟨x35, x36, x37, x38, x39, _, x41, x42, x43, x44, x45, x46, x47, x48, x49, x50, x51, x52, x53, _, _, y15, y19, y23, rfl, KK, s15, s19, s23, RR, fun h => f0 ((on_other (by decide)).1 h), fun h => f1 ((on_other (by decide)).1 h), fun h => f2 ((on_other (by decide)).1 h), fun h => f3 ((on_other (by decide)).1 h), fun h => f4 ((on_other (by decide)).1 h), fun _ => rfl, fun h => f6 ((on_other (by decide)).1 h), fun h => f7 ((on_other (by decide)).1 h), fun h => f8 ((on_other (by decide)).1 h), fun h => f9 ((on_other (by decide)).1 h), fun h => f10 ((on_other (by decide)).1 h), fun h => f11 ((on_other (by decide)).1 h), fun h => f12 ((on_other (by decide)).1 h), fun h => f13 ((on_other (by decide)).1 h), fun h => f14 ((on_other (by decide)).1 h), fun h => f15 ((on_other (by decide)).1 h), fun h => f16 ((on_other (by decide)).1 h), fun h => f17 ((on_other (by decide)).1 h), fun h => f18 ((on_other (by decide)).1 h), fun h => f19 ((on_other (by decide)).1 h), fun h => f20 ((on_other (by decide)).1 h), fun _ => rfl, fun _ => rfl, fun h => f23 ((on_other (by decide)).1 h)⟩
            | 23, hi, hl, _ =>
              simp at hi
              subst hi
              have hn22 : On l 22 := hall { on := 22, ground := .data } (by simp) (by rfl)
              obtain rfl := f22 hn22
              have hn11 : On l 11 := hall { on := 11, ground := .data } (by simp) (by rfl)
              obtain rfl := f11 hn11
              have sc := s23.c
              have sf := s23.fr
              have sl := s23.lt
              go_simp
              exact hK _ _ ⟨x35, x36, x37, x38, x39, x40, x41, x42, x43, x44, x45, _, x47, x48, x49, x50, x51, x52, x53, x54, _, y15, y19, _, rfl, KK.setCell ⟨F, 16 + n, none⟩ (.inl rfl) _, s15.beside _ (by omega), s19.beside _ (by omega), s23.set _, fun q v g15 g19 g23 hq => (RR q v g15 g19 g23 hq).beside _ g23, fun h => f0 ((on_other (by decide)).1 h), fun h => f1 ((on_other (by decide)).1 h), fun h => f2 ((on_other (by decide)).1 h), fun h => f3 ((on_other (by decide)).1 h), fun h => f4 ((on_other (by decide)).1 h), fun h => f5 ((on_other (by decide)).1 h), fun h => f6 ((on_other (by decide)).1 h), fun h => f7 ((on_other (by decide)).1 h), fun h => f8 ((on_other (by decide)).1 h), fun h => f9 ((on_other (by decide)).1 h), fun h => f10 ((on_other (by decide)).1 h), fun _ => rfl, fun h => f12 ((on_other (by decide)).1 h), fun h => f13 ((on_other (by decide)).1 h), fun h => f14 ((on_other (by decide)).1 h), fun h => f15 ((on_other (by decide)).1 h), fun h => f16 ((on_other (by decide)).1 h), fun h => f17 ((on_other (by decide)).1 h), fun h => f18 ((on_other (by decide)).1 h), fun h => f19 ((on_other (by decide)).1 h), fun h => f20 ((on_other (by decide)).1 h), fun h => f21 ((on_other (by decide)).1 h), fun _ => rfl, fun _ => rfl⟩
        · intro ls a wx hon ⟨x35, x36, x37, x38, x39, x40, x41, x42, x43, x44, x45, x46, x47, x48, x49, x50, x51, x52, x53, x54, x55, y15, y19, y23, ha, KK, s15, s19, s23, RR, f0, f1, f2, f3, f4, f5, f6, f7, f8, f9, f10, f11, f12, f13, f14, f15, f16, f17, f18, f19, f20, f21, f22, f23⟩
          subst ha
          have e15 := f15 (hon 15 (by simp))
          have e19 := f19 (hon 19 (by simp))
          have e23 := f23 (hon 23 (by simp))
          rw [e15] at s15
          rw [e19] at s19
          rw [e23] at s23
          have HP2 := Lib.hid (XW.out.kept KK (fun b h1 h2 e => by omega))
          have HK2 := Lib.hid (KW.out.trans KK)
          have HF3 : Hid (Fnd wx F B L R n S) := Lib.hid ⟨fun m a b c => by
              by_cases e : m = n
              · subst e; exact ⟨s15, s19, s23⟩
              · obtain ⟨a1, a2, a3⟩ := FW.out.on m (by omega) b c
                exact ⟨RR m _ e (by omega) (by omega) a1, RR (8 + m) _ (by omega) (by omega) (by omega) a2, RR (16 + m) _ (by omega) (by omega) (by omega) a3⟩,
            fun m a b => by
              by_cases e : m = n
              · subst e
                rcases b with b | b | b
                · omega
                · omega
                · exact absurd Hf.out b
              · obtain ⟨a1, a2, a3⟩ := FW.out.off m a (by rcases b with b | b | b; exact .inl (by omega); exact .inr (.inl b); exact .inr (.inr b))
                exact ⟨RR m _ e (by omega) (by omega) a1, RR (8 + m) _ (by omega) (by omega) (by omega) a2, RR (16 + m) _ (by omega) (by omega) (by omega) a3⟩⟩
          clear RR s15 s19 s23 e15 e19 e23 f0 f1 f2 f3 f4 f5 f6 f7 f8 f9 f10 f11 f12 f13 f14 f15 f16 f17 f18 f19 f20 f21 f22 f23 KK hon T0 T1 T2
          go_wp2_with fail
          go_roundw
          case rel => exact ⟨n, by omega, rfl, HP2.out, HF3.out, HK2.out⟩
          case measure => simp [intOf]
      · have Hf := Lib.hid hf
        clear hf
        go_wp2_with fail
        refine (first_no (X.out.lv n hn) hR (hb n hn) Hf.out).mono ?_
        rintro e W ⟨rfl, K⟩
        have XW := Lib.hid (X.out.kept K (fun _ _ _ e => e))
        have FW := Lib.hid (XF.out.kept K (fun e => e))
        have KW := Lib.hid (XK.out.trans (keptNo K))
        clear K X XF XK
        go_wp2_with fail
        go_roundw
        case rel => exact ⟨n, by omega, rfl, XW.out, ⟨fun m a b c => by
            by_cases e : m = n
            · subst e; exact absurd c Hf.out
            · exact FW.out.on m (by omega) b c, fun m a b => FW.out.off m a (by
              by_cases e : m = n
              · subst e; exact .inr (.inr Hf.out)
              · rcases b with b | b | b
                · exact .inl (by omega)
                · exact .inr (.inl b)
                · exact .inr (.inr b))⟩, KW.out⟩
        case measure => simp [intOf]
    · obtain rfl : j = 0 := by omega
      have X := Lib.hid HP
      have XF := Lib.hid HF2
      have XK := Lib.hid HK
      clear HP HF2 HK
      go_wp2_with fail
      go_end0
      exact ⟨rfl, X.out, XF.out, XK.out⟩

end Go.Proofs.Ythkakojkffgmbaa

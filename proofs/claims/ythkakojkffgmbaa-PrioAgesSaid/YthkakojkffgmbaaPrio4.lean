/-
  A Prio in a world; Put.
-/
import Derived.Test.YthkakojkffgmbaaPrio3
namespace Go.Proofs.Ythkakojkffgmbaa
open Go.RowKit

/-- A Prio: its block P, its tickets' cell bk, its levels in block B; all of its blocks lie between lo and hi. -/
structure Prs (w : World) (lo hi P bk B L R : Nat) (id : Nat → Ids) (k : Int) (S : Nat → LS) : Prop where
  h0 : Slot w P 0 (.pointer (some ⟨bk, 0, none⟩))
  h1 : Slot w P 1 (.slice (some ⟨B, 0, none⟩) L L)
  ck : Cel w bk k
  lv : ∀ n, n < L → Lvl w B n R (id n) (S n)
  dj : ∀ n m, n < m → m < L → (id n).hi ≤ (id m).lo
  up : ∀ n, n < L → P < (id n).lo ∧ bk < (id n).lo ∧ B < (id n).lo ∧ (id n).hi ≤ hi
  lP : lo ≤ P ∧ P < hi
  lk : lo ≤ bk ∧ bk < hi
  lB : lo ≤ B ∧ B < hi
  kP : bk ≠ P
  kB : bk ≠ B
  PB : P ≠ B

/-- What its calls may write. -/
def Owns (lo hi : Nat) : Nat → Prop := fun b => lo ≤ b ∧ b < hi

theorem Prs.own {w : World} {lo hi P bk B L R : Nat} {id : Nat → Ids} {k : Int} {S : Nat → LS} (h : Prs w lo hi P bk B L R id k S) (n : Nat) (hn : n < L) (b : Nat) (hb : Own (id n) b) : Owns lo hi b := by
  have u := h.up n hn
  have l := h.lP
  exact ⟨by have := hb.1; omega, by have := hb.2; omega⟩

theorem Prs.kept {X : Nat → Prop} {w w' : World} {lo hi P bk B L R : Nat} {id : Nat → Ids} {k : Int} {S : Nat → LS} (h : Prs w lo hi P bk B L R id k S) (K : Kept X w w') (hX : ∀ b, lo ≤ b → b < hi → ¬ X b) : Prs w' lo hi P bk B L R id k S :=
  ⟨h.h0.kept K (hX _ h.lP.1 h.lP.2), h.h1.kept K (hX _ h.lP.1 h.lP.2), h.ck.kept K (hX _ h.lk.1 h.lk.2),
    fun n hn => (h.lv n hn).kept K (hX _ h.lB.1 h.lB.2) (fun b h1 h2 => by have o := h.own n hn b ⟨h1, h2⟩; exact hX b o.1 o.2), h.dj, h.up, h.lP, h.lk, h.lB, h.kP, h.kB, h.PB⟩

theorem Prs.level {w w' : World} {lo hi P bk B L R : Nat} {id : Nat → Ids} {k : Int} {S : Nat → LS} (h : Prs w lo hi P bk B L R id k S) (n : Nat) (hn : n < L) (s : LS) (hl : Lvl w' B n R (id n) s) (K : Kept (Own (id n)) w w') : Prs w' lo hi P bk B L R id k (put S n s) := by
  have u := h.up n hn
  have nP : ¬ Own (id n) P := fun e => by have := e.1; omega
  have nk : ¬ Own (id n) bk := fun e => by have := e.1; omega
  have nB : ¬ Own (id n) B := fun e => by have := e.1; omega
  refine ⟨h.h0.kept K nP, h.h1.kept K nP, h.ck.kept K nk, fun m hm => ?_, h.dj, h.up, h.lP, h.lk, h.lB, h.kP, h.kB, h.PB⟩
  by_cases e : m = n
  · subst e; rw [put_same]; exact hl
  · rw [put_other _ _ _ _ e]
    refine (h.lv m hm).kept K nB (fun b h1 h2 hb => ?_)
    have a1 := hb.1
    have a2 := hb.2
    rcases Nat.lt_or_gt_of_ne e with q | q
    · have := h.dj m n q hn; omega
    · have := h.dj n m q hm; omega

theorem Prs.ticket {w : World} {lo hi P bk B L R : Nat} {id : Nat → Ids} {k : Int} {S : Nat → LS} (h : Prs w lo hi P bk B L R id k S) (x : Int) : Prs (w.setCell ⟨bk, 0, none⟩ (.int .i64 x)) lo hi P bk B L R id x S := by
  have K : Kept (fun b => b = bk) w (w.setCell ⟨bk, 0, none⟩ (.int .i64 x)) := (Kept.refl (fun b => b = bk) w).setCell ⟨bk, 0, none⟩ (.inl rfl) _
  exact ⟨h.h0.kept K h.kP.symm, h.h1.kept K h.kP.symm, h.ck.set x, fun n hn => (h.lv n hn).kept K h.kB.symm (fun b h1 _ e => by have := h.up n hn; omega), h.dj, h.up, h.lP, h.lk, h.lB, h.kP, h.kB, h.PB⟩

theorem pnone_no (P bk : Nat) (w : World) (h0 : w.cell? ⟨P, 0, none⟩ = some (.pointer (some ⟨bk, 0, none⟩))) : Calls Try.prog 11 #[.pointer (some ⟨P, 0, none⟩)] w fun e w' => e = .returned (.bool false) ∧ w = w' := by
  go_enter Try.func11, Try.ntmps11
  go_wp2
  go_ret
  exact ⟨rfl, rfl⟩

theorem put_arg {w : World} {lo hi P bk B L R : Nat} {id : Nat → Ids} {k : Int} {S : Nat → LS} (h : Prs w lo hi P bk B L R id k S) (n : Nat) (hn : L ≤ n) (v : Int) :
    Calls Try.prog 7 #[.pointer (some ⟨P, 0, none⟩), .pointer none, .int .i64 n, .int .i64 v] w fun e w' => e = .returned (.int .i64 1) ∧ w = w' := by
  have h0 := h.h0.c
  have h1 := h.h1.c
  clear h
  have g0 : decide ((n : Int) < 0) = false := by simp
  have g1 : decide ((L : Int) ≤ (n : Int)) = true := by simpa using hn
  go_enter Try.func7, Try.ntmps7
  go_wp2_with fail
  refine (pnone_no P bk w h0).mono ?_
  rintro e w' ⟨rfl, rfl⟩
  go_wp2_with fail
  go_ret
  exact ⟨rfl, rfl⟩

set_option maxHeartbeats 800000 in
theorem put_ok {w : World} {lo hi P bk B L R : Nat} {id : Nat → Ids} {k : Int} {S : Nat → LS} (h : Prs w lo hi P bk B L R id k S) (hR : Pw R) (n : Nat) (hn : n < L) (hp : (S n).a < 4611686018427387904)
    (ht : (S n).tu ((S n).a % R) = (S n).a) (hk0 : 0 ≤ k) (hk1 : k < 4611686018427387904) (v : Int) :
    Calls Try.prog 7 #[.pointer (some ⟨P, 0, none⟩), .pointer none, .int .i64 n, .int .i64 v] w fun e w' => e = .returned (.int .i64 0) ∧
      Prs w' lo hi P bk B L R id (k + 1) (put S n ⟨(S n).a + 1, (S n).b, put (S n).tu ((S n).a % R) ((S n).a + 1), put (S n).ti ((S n).a % R) (k + 1), put (S n).sl ((S n).a % R) v⟩) ∧ Kept (Owns lo hi) w w' := by
  have h0 := h.h0.c
  have h1 := h.h1.c
  have u := h.up n hn
  have hB : B < (id n).lo ∨ (id n).hi ≤ B := .inl u.2.2.1
  have g0 : decide ((n : Int) < 0) = false := by simp
  have g1 : decide ((L : Int) ≤ (n : Int)) = false := by simpa using hn
  have i1 : (n : Int) < L := by omega
  have i2 : (0 : Int) ≤ (n : Int) := by omega
  have z1 : wrap64 (k + 1) = k + 1 := by unfold wrap64; omega
  have H := Lib.hid h
  have HT := Lib.hid ht
  clear h ht u
  go_enter Try.func7, Try.ntmps7
  go_wp2_with fail
  refine (pnone_no P bk w h0).mono ?_
  rintro e w' ⟨rfl, rfl⟩
  go_wp2_with fail
  refine (vacant_ok (H.out.lv n hn) hB hR hp HT.out).mono ?_
  rintro e W ⟨rfl, LW, K⟩
  have PW := H.out.level n hn _ LW K
  have KW : Kept (Owns lo hi) w W := K.mono (fun b _ => H.out.own n hn b)
  clear LW K
  have h0' := PW.h0.c
  have C := PW.ck
  have HP := Lib.hid PW
  have HK := Lib.hid KW
  clear PW KW
  go_wp2_with fail
  refine (add_free bk k 1 _ C.c0 C.c1 C.c2 C.fr).mono ?_
  rintro e w1 ⟨rfl, hw⟩
  rw [z1] at hw
  have P1 := HP.out.ticket (k + 1)
  rw [← hw] at P1
  have K1 : Kept (Owns lo hi) w w1 := by rw [hw]; exact HK.out.setCell ⟨bk, 0, none⟩ (.inl H.out.lk) _
  clear hw C h0' HP HK
  have HP1 := Lib.hid P1
  have HK1 := Lib.hid K1
  clear P1 K1
  rw [z1]
  go_wp2_with fail
  have L1 := HP1.out.lv n hn
  rw [put_same] at L1
  refine (lay_any L1 hB hR (S n).a hp (k + 1) v).mono ?_
  rintro e w2 ⟨rfl, L2, K2⟩
  go_wp2_with fail
  go_ret
  refine ⟨rfl, ?_, ?_⟩
  · have := HP1.out.level n hn _ L2 K2
    have e : put (put S n { S n with a := (S n).a + 1 }) n ⟨(S n).a + 1, (S n).b, put (S n).tu ((S n).a % R) ((S n).a + 1), put (S n).ti ((S n).a % R) (k + 1), put (S n).sl ((S n).a % R) v⟩ = put S n ⟨(S n).a + 1, (S n).b, put (S n).tu ((S n).a % R) ((S n).a + 1), put (S n).ti ((S n).a % R) (k + 1), put (S n).sl ((S n).a % R) v⟩ := by
      funext m; unfold put; split <;> rfl
    rw [← e]
    exact this
  · exact HK1.out.trans (K2.mono (fun b _ => H.out.own n hn b))

end Go.Proofs.Ythkakojkffgmbaa

/-
  Package join, a nil thread: two futures on which All, Any and Quorum hang are completed.
-/
import Derived.Test.YtfbanlpmkfgpjaaGreatDoorJoin9
namespace Go.Proofs.YtfbanlpmkfgpjaaGreatDoor
open Go.RowKit

/-- The closures' functions. -/
def FA (G bj be bl : Nat) : Value := .func (.func 19) #[] #[.pointer (some ⟨bj, 0, none⟩), .pointer (some ⟨be, 0, none⟩), .pointer (some ⟨bl, 0, none⟩), .pointer (some ⟨G + 6, 0, none⟩), .pointer (some ⟨G + 7, 0, none⟩)]
def FN (bg be bl bn : Nat) : Value := .func (.func 24) #[] #[.pointer (some ⟨bg, 0, none⟩), .pointer (some ⟨be, 0, none⟩), .pointer (some ⟨bl, 0, none⟩), .pointer (some ⟨bn, 0, none⟩)]
def FQ (n : Nat) : Value := .func (.func 26) #[] #[.pointer (some ⟨n + 11, 0, none⟩), .pointer (some ⟨n + 7, 0, none⟩), .pointer (some ⟨n + 6, 0, none⟩), .pointer (some ⟨n + 12, 0, none⟩), .pointer (some ⟨n + 8, 0, none⟩)]

/-- A closure's function, and its number's box. -/
structure CB (W : World) (bf s j : Nat) (F : Value) : Prop where
  f : Slot W bf 0 F
  box : Slot W (s + 6 * j) 0 (.int .i64 j)

theorem CB.kept {S : Nat → Prop} {W W' : World} {bf s j : Nat} {F : Value} (C : CB W bf s j F) (k : Kept S W W') (h1 : ¬ S bf) (h2 : ¬ S (s + 6 * j)) : CB W' bf s j F := ⟨C.f.kept k h1, C.box.kept k h2⟩

theorem hent_hang1 : ∀ args w, (callFunc 39 args).run Tryz.prog w = .ok (.enter 39 args) w := fun args w => enters_of Tryz.func39 (by kernel_rfl) rfl (args := args) (w := w)
theorem hent_all1 : ∀ args w, (callFunc 19 args).run Tryz.prog w = .ok (.enter 19 args) w := fun args w => enters_of Tryz.func19 (by kernel_rfl) rfl (args := args) (w := w)
theorem hent_any1 : ∀ args w, (callFunc 24 args).run Tryz.prog w = .ok (.enter 24 args) w := fun args w => enters_of Tryz.func24 (by kernel_rfl) rfl (args := args) (w := w)
theorem hent_quorum1 : ∀ args w, (callFunc 26 args).run Tryz.prog w = .ok (.enter 26 args) w := fun args w => enters_of Tryz.func26 (by kernel_rfl) rfl (args := args) (w := w)

/-- What completing one of them may write. -/
def Wr (B j G1 hi1 lo2 hi2 n s1 s2 s3 : Nat) : Nat → Prop := fun k => FOwn B k ∨ (k = s1 + 6 * j + 1 ∨ k = s2 + 6 * j + 1 ∨ k = s3 + 6 * j + 1) ∨ ((G1 ≤ k ∧ k < hi1) ∨ (lo2 ≤ k ∧ k < hi2) ∨ (n ≤ k ∧ k < n + 13))

/-- The closures' two arguments. -/
def capsOf (bf1 bf2 bf3 s1 s2 s3 j : Nat) : Nat → Array Value
  | 0 => #[.pointer (some ⟨bf1, 0, none⟩), .pointer (some ⟨s1 + 6 * j, 0, none⟩)]
  | 1 => #[.pointer (some ⟨bf2, 0, none⟩), .pointer (some ⟨s2 + 6 * j, 0, none⟩)]
  | _ => #[.pointer (some ⟨bf3, 0, none⟩), .pointer (some ⟨s3 + 6 * j, 0, none⟩)]

set_option maxHeartbeats 1600000 in
theorem step_b {B lb hb pb G1 l1 h1 p1 V jb bj E be L bl hi1 bf1 s1 G2 l2 h2 p2 bg be2 bl2 bn2 lo2 hi2 bf2 s2 n l3 h3 p3 bf3 s3 : Nat} {vs : Nat → Int} {xb : Nat → Value} (W : World)
    (FB : Ftr W B lb hb pb 0 0 .nilIface 3 3 xb) (x0 : xb 0 = .pointer (some ⟨s1 + 6 * 1 + 5, 0, none⟩)) (x1 : xb 1 = .pointer (some ⟨s2 + 6 * 1 + 5, 0, none⟩)) (x2 : xb 2 = .pointer (some ⟨s3 + 6 * 1 + 5, 0, none⟩))
    (e1 : CE W bf1 s1 0 1 (FA G1 bj be bl)) (e2 : CE W bf2 s2 1 1 (FN bg be2 bl2 bn2)) (e3 : CE W bf3 s3 2 1 (FQ n))
    (ca : CA W G1 l1 h1 p1 V jb bj E be L bl hi1 vs 2) (cn : CN W G2 l2 h2 p2 bg lo2 hi2 0 0 0) (cq : CQ W n l3 h3 p3 0 0 0 0)
    (o : B + 6 ≤ G1 ∧ hi1 ≤ bf1 ∧ bf1 < s1 ∧ s1 + 12 ≤ lo2 ∧ hi2 ≤ bf2 ∧ bf2 < s2 ∧ s2 + 12 ≤ n ∧ n + 13 ≤ bf3 ∧ bf3 < s3 ∧ s3 + 12 ≤ W.heap.size ∧ G1 ≤ hi1 ∧ lo2 ≤ hi2) :
    Calls Tryz.prog 17 #[.pointer (some ⟨B + 5, 0, none⟩), .pointer none, .int .i64 2, .nilIface] W fun r W' => r = .returned (.bool true) ∧ Kept (Wr B 1 G1 hi1 lo2 hi2 n s1 s2 s3) W W' ∧
      CA W' G1 l1 h1 p1 V jb bj E be L bl hi1 (put vs 1 2) (2 + -1) ∧ CN W' G2 l2 h2 p2 bg lo2 hi2 2 2 (-1) ∧ CQ W' n l3 h3 p3 (0 + 1) 0 0 0 := by
  obtain ⟨o1, o2, o3, o4, o5, o6, o7, o8, o9, o10, o11, o12⟩ := o
  let S : Nat → Prop := fun k => (G1 ≤ k ∧ k < hi1) ∨ (lo2 ≤ k ∧ k < hi2) ∨ (n ≤ k ∧ k < n + 13)
  let Bs : World → Prop := fun W => CB W bf1 s1 1 (FA G1 bj be bl) ∧ CB W bf2 s2 1 (FN bg be2 bl2 bn2) ∧ CB W bf3 s3 1 (FQ n)
  let Pr : Nat → World → Prop := fun i W => match i with
    | 0 => Bs W ∧ CA W G1 l1 h1 p1 V jb bj E be L bl hi1 vs 2 ∧ CN W G2 l2 h2 p2 bg lo2 hi2 0 0 0 ∧ CQ W n l3 h3 p3 0 0 0 0
    | 1 => Bs W ∧ CA W G1 l1 h1 p1 V jb bj E be L bl hi1 (put vs 1 2) (2 + -1) ∧ CN W G2 l2 h2 p2 bg lo2 hi2 0 0 0 ∧ CQ W n l3 h3 p3 0 0 0 0
    | 2 => Bs W ∧ CA W G1 l1 h1 p1 V jb bj E be L bl hi1 (put vs 1 2) (2 + -1) ∧ CN W G2 l2 h2 p2 bg lo2 hi2 2 2 (-1) ∧ CQ W n l3 h3 p3 0 0 0 0
    | _ => Bs W ∧ CA W G1 l1 h1 p1 V jb bj E be L bl hi1 (put vs 1 2) (2 + -1) ∧ CN W G2 l2 h2 p2 bg lo2 hi2 2 2 (-1) ∧ CQ W n l3 h3 p3 (0 + 1) 0 0 0
  have hB : ∀ {T : Nat → Prop} {W W' : World}, Bs W → Kept T W W' → (∀ k, T k → S k) → Bs W' := fun hb k ht =>
    ⟨hb.1.kept k (fun t => by have := ht _ t; simp only [S] at this; omega) (fun t => by have := ht _ t; simp only [S] at this; omega), hb.2.1.kept k (fun t => by have := ht _ t; simp only [S] at this; omega) (fun t => by have := ht _ t; simp only [S] at this; omega), hb.2.2.kept k (fun t => by have := ht _ t; simp only [S] at this; omega) (fun t => by have := ht _ t; simp only [S] at this; omega)⟩
  refine (fcomplete_three (K := 39) 2 (capsOf bf1 bf2 bf3 s1 s2 s3 1) S Pr hent_hang1 W FB x0 x1 x2 e1.two e2.two e3.two e1.fn e2.fn e3.fn ?_ ?_ ?_ ?_ ?_ ?_ (by omega) (by omega) (by omega) ?_ ?_ ?_ ?_ ?_).mono ?_
  iterate 6 (rintro ⟨h1, h2⟩; omega)
  · rintro k ⟨h1, h2⟩ hs
    simp only [S] at hs
    omega
  · intro k hs
    simp only [S] at hs
    omega
  · intro i W W' hp k
    have kf : ∀ b : Nat, ¬ (fun _ : Nat => False) b := fun _ => id
    match i, hp with
    | 0, hp => exact ⟨hB hp.1 k (fun _ h => h.elim), hp.2.1.kept k (fun _ _ _ => id), hp.2.2.1.kept k (fun _ _ _ => id), hp.2.2.2.kept k (fun _ _ _ => id)⟩
    | 1, hp => exact ⟨hB hp.1 k (fun _ h => h.elim), hp.2.1.kept k (fun _ _ _ => id), hp.2.2.1.kept k (fun _ _ _ => id), hp.2.2.2.kept k (fun _ _ _ => id)⟩
    | 2, hp => exact ⟨hB hp.1 k (fun _ h => h.elim), hp.2.1.kept k (fun _ _ _ => id), hp.2.2.1.kept k (fun _ _ _ => id), hp.2.2.2.kept k (fun _ _ _ => id)⟩
    | (q + 3), hp => exact ⟨hB hp.1 k (fun _ h => h.elim), hp.2.1.kept k (fun _ _ _ => id), hp.2.2.1.kept k (fun _ _ _ => id), hp.2.2.2.kept k (fun _ _ _ => id)⟩
  · intro W' k
    have nb : ∀ b, (b = bf1 ∨ b = bf2 ∨ b = bf3 ∨ b = s1 + 6 * 1 ∨ b = s2 + 6 * 1 ∨ b = s3 + 6 * 1 ∨ (G1 ≤ b ∧ b < hi1) ∨ (lo2 ≤ b ∧ b < hi2) ∨ (n ≤ b ∧ b < n + 13)) → ¬ (FOwn B b ∨ b = s1 + 6 * 1 + 1 ∨ b = s2 + 6 * 1 + 1 ∨ b = s3 + 6 * 1 + 1) := by
      rintro b hb (⟨h1, h2⟩ | h | h | h) <;> omega
    exact ⟨⟨⟨e1.f.kept k (nb _ (by omega)), e1.box.kept k (nb _ (by omega))⟩, ⟨e2.f.kept k (nb _ (by omega)), e2.box.kept k (nb _ (by omega))⟩, ⟨e3.f.kept k (nb _ (by omega)), e3.box.kept k (nb _ (by omega))⟩⟩, ca.kept k (fun b h1 h2 => nb _ (by omega)), cn.kept k (fun b h1 h2 => nb _ (by omega)), cq.kept k (fun b h1 h2 => nb _ (by omega))⟩
  · intro i hi W hp
    match i, hi, hp with
    | 0, _, ⟨hb, ha, hn, hq⟩ =>
      have y := ha.lie
      have u := ha.up
      have ea : (#[.pointer none, .int .i64 2, .nilIface] ++ capsOf bf1 bf2 bf3 s1 s2 s3 1 0 : Array Value) = #[.pointer none, .int .i64 2, .nilIface, .pointer (some ⟨bf1, 0, none⟩), .pointer (some ⟨s1 + 6 * 1, 0, none⟩)] := by simp [capsOf]
      rw [ea]
      refine (hang1_is bf1 (s1 + 6 * 1) 19 1 2 .nilIface _ (fun W' => Kept S W W' ∧ Pr 1 W') hent_all1 W hb.1.f.c hb.1.box.c ?_).mono ?_
      · have eb : (#[.pointer none, .int .i64 1, .int .i64 2, .nilIface] ++ #[.pointer (some ⟨bj, 0, none⟩), .pointer (some ⟨be, 0, none⟩), .pointer (some ⟨bl, 0, none⟩), .pointer (some ⟨G1 + 6, 0, none⟩), .pointer (some ⟨G1 + 7, 0, none⟩)] : Array Value) = #[.pointer none, .int .i64 1, .int .i64 2, .nilIface, .pointer (some ⟨bj, 0, none⟩), .pointer (some ⟨be, 0, none⟩), .pointer (some ⟨bl, 0, none⟩), .pointer (some ⟨G1 + 6, 0, none⟩), .pointer (some ⟨G1 + 7, 0, none⟩)] := by simp
        rw [eb]
        refine (all1_more G1 V jb bj E be L bl 2 1 2 2 vs (by decide) (by decide) (by decide) (by decide) W ha.jn ha.el y).mono ?_
        rintro r W' ⟨hr, k, J', X'⟩
        have k' : Kept S W W' := k.mono fun b _ e => by simp only [S]; have := y.v; have := y.e; have := y.l; omega
        refine ⟨hr, k', hB hb k' (fun _ h => h), ⟨ha.fut.kept k (fun b ⟨h1, h2⟩ e => by have := y.v; have := y.e; have := y.l; omega), J', X', y, u⟩, hn.kept k (fun b h1 h2 e => by have := y.v; have := y.e; have := y.l; omega), hq.kept k (fun b h1 h2 e => by have := y.v; have := y.e; have := y.l; omega)⟩
      · rintro r W' ⟨hr, k, hp⟩; exact ⟨hr, k, hp⟩
    | 1, _, ⟨hb, ha, hn, hq⟩ =>
      have u := hn.up
      have ea : (#[.pointer none, .int .i64 2, .nilIface] ++ capsOf bf1 bf2 bf3 s1 s2 s3 1 1 : Array Value) = #[.pointer none, .int .i64 2, .nilIface, .pointer (some ⟨bf2, 0, none⟩), .pointer (some ⟨s2 + 6 * 1, 0, none⟩)] := by simp [capsOf]
      rw [ea]
      refine (hang1_is bf2 (s2 + 6 * 1) 24 1 2 .nilIface _ (fun W' => Kept S W W' ∧ Pr 2 W') hent_any1 W hb.2.1.f.c hb.2.1.box.c ?_).mono ?_
      · have eb : (#[.pointer none, .int .i64 1, .int .i64 2, .nilIface] ++ #[.pointer (some ⟨bg, 0, none⟩), .pointer (some ⟨be2, 0, none⟩), .pointer (some ⟨bl2, 0, none⟩), .pointer (some ⟨bn2, 0, none⟩)] : Array Value) = #[.pointer none, .int .i64 1, .int .i64 2, .nilIface, .pointer (some ⟨bg, 0, none⟩), .pointer (some ⟨be2, 0, none⟩), .pointer (some ⟨bl2, 0, none⟩), .pointer (some ⟨bn2, 0, none⟩)] := by simp
        rw [eb]
        refine (any1_ok G2 l2 h2 p2 bg 1 be2 bl2 bn2 2 _ W hn.g.c hn.fut).mono ?_
        rintro r W' ⟨hr, F', k⟩
        have k' : Kept S W W' := k.mono fun b _ e => by simp only [S]; have := e.1; have := e.2; omega
        refine ⟨hr, k', hB hb k' (fun _ h => h), ha.kept k (fun b h1 h2 e => by have := e.1; have := e.2; omega), ⟨F', hn.g.kept k hn.ne, hn.ne, u⟩, hq.kept k (fun b h1 h2 e => by have := e.1; have := e.2; omega)⟩
      · rintro r W' ⟨hr, k, hp⟩; exact ⟨hr, k, hp⟩
    | 2, _, ⟨hb, ha, hn, hq⟩ =>
      have ea : (#[.pointer none, .int .i64 2, .nilIface] ++ capsOf bf1 bf2 bf3 s1 s2 s3 1 2 : Array Value) = #[.pointer none, .int .i64 2, .nilIface, .pointer (some ⟨bf3, 0, none⟩), .pointer (some ⟨s3 + 6 * 1, 0, none⟩)] := by simp [capsOf]
      rw [ea]
      refine (hang1_is bf3 (s3 + 6 * 1) 26 1 2 .nilIface _ (fun W' => Kept S W W' ∧ Pr 3 W') hent_quorum1 W hb.2.2.f.c hb.2.2.box.c ?_).mono ?_
      · have eb : (#[.pointer none, .int .i64 1, .int .i64 2, .nilIface] ++ #[.pointer (some ⟨n + 11, 0, none⟩), .pointer (some ⟨n + 7, 0, none⟩), .pointer (some ⟨n + 6, 0, none⟩), .pointer (some ⟨n + 12, 0, none⟩), .pointer (some ⟨n + 8, 0, none⟩)] : Array Value) = #[.pointer none, .int .i64 1, .int .i64 2, .nilIface, .pointer (some ⟨n + 11, 0, none⟩), .pointer (some ⟨n + 7, 0, none⟩), .pointer (some ⟨n + 6, 0, none⟩), .pointer (some ⟨n + 12, 0, none⟩), .pointer (some ⟨n + 8, 0, none⟩)] := by simp
        rw [eb]
        refine (quorum1_more n 2 1 2 2 0 0 (by decide) W hq.q).mono ?_
        rintro r W' ⟨hr, q', k⟩
        have k' : Kept S W W' := k.mono fun b _ e => by simp only [S]; omega
        refine ⟨hr, k', hB hb k' (fun _ h => h), ha.kept k (fun b h1 h2 e => by have := ha.up; omega), hn.kept k (fun b h1 h2 e => by omega), ⟨hq.fut.kept k (fun b ⟨h1, h2⟩ e => by omega), q'⟩⟩
      · rintro r W' ⟨hr, k, hp⟩; exact ⟨hr, k, hp⟩
  · rintro r W' ⟨hr, F, k, hp⟩
    exact ⟨hr, k, hp.2.1, hp.2.2.1, hp.2.2.2⟩

set_option maxHeartbeats 1600000 in
theorem step_a {B lb hb pb G1 l1 h1 p1 V jb bj E be L bl hi1 bf1 s1 G2 l2 h2 p2 bg be2 bl2 bn2 lo2 hi2 bf2 s2 n l3 h3 p3 bf3 s3 : Nat} {vs : Nat → Int} {xb : Nat → Value} (W : World)
    (FB : Ftr W B lb hb pb 0 0 .nilIface 3 3 xb) (x0 : xb 0 = .pointer (some ⟨s1 + 6 * 0 + 5, 0, none⟩)) (x1 : xb 1 = .pointer (some ⟨s2 + 6 * 0 + 5, 0, none⟩)) (x2 : xb 2 = .pointer (some ⟨s3 + 6 * 0 + 5, 0, none⟩))
    (e1 : CE W bf1 s1 0 0 (FA G1 bj be bl)) (e2 : CE W bf2 s2 1 0 (FN bg be2 bl2 bn2)) (e3 : CE W bf3 s3 2 0 (FQ n))
    (ca : CA W G1 l1 h1 p1 V jb bj E be L bl hi1 vs 1) (cn : CN W G2 l2 h2 p2 bg lo2 hi2 2 2 (-1)) (cq : CQ W n l3 h3 p3 1 0 0 0)
    (o : B + 6 ≤ G1 ∧ hi1 ≤ bf1 ∧ bf1 < s1 ∧ s1 + 12 ≤ lo2 ∧ hi2 ≤ bf2 ∧ bf2 < s2 ∧ s2 + 12 ≤ n ∧ n + 13 ≤ bf3 ∧ bf3 < s3 ∧ s3 + 12 ≤ W.heap.size ∧ G1 ≤ hi1 ∧ lo2 ≤ hi2) :
    Calls Tryz.prog 17 #[.pointer (some ⟨B + 5, 0, none⟩), .pointer none, .int .i64 1, .nilIface] W fun r W' => r = .returned (.bool true) ∧ Kept (Wr B 0 G1 hi1 lo2 hi2 n s1 s2 s3) W W' ∧
      CD W' G1 l1 h1 p1 V jb bj hi1 (put vs 0 1) ∧ CN W' G2 l2 h2 p2 bg lo2 hi2 2 2 (-1) ∧ Ftr W' n l3 h3 p3 2 2 .nilIface 0 (-1) (fun _ => .pointer none) := by
  obtain ⟨o1, o2, o3, o4, o5, o6, o7, o8, o9, o10, o11, o12⟩ := o
  let S : Nat → Prop := fun k => (G1 ≤ k ∧ k < hi1) ∨ (lo2 ≤ k ∧ k < hi2) ∨ (n ≤ k ∧ k < n + 13)
  let Bs : World → Prop := fun W => CB W bf1 s1 0 (FA G1 bj be bl) ∧ CB W bf2 s2 0 (FN bg be2 bl2 bn2) ∧ CB W bf3 s3 0 (FQ n)
  let Pr : Nat → World → Prop := fun i W => match i with
    | 0 => Bs W ∧ CA W G1 l1 h1 p1 V jb bj E be L bl hi1 vs 1 ∧ CN W G2 l2 h2 p2 bg lo2 hi2 2 2 (-1) ∧ CQ W n l3 h3 p3 1 0 0 0
    | 1 => Bs W ∧ CD W G1 l1 h1 p1 V jb bj hi1 (put vs 0 1) ∧ CN W G2 l2 h2 p2 bg lo2 hi2 2 2 (-1) ∧ CQ W n l3 h3 p3 1 0 0 0
    | 2 => Bs W ∧ CD W G1 l1 h1 p1 V jb bj hi1 (put vs 0 1) ∧ CN W G2 l2 h2 p2 bg lo2 hi2 2 2 (-1) ∧ CQ W n l3 h3 p3 1 0 0 0
    | _ => Bs W ∧ CD W G1 l1 h1 p1 V jb bj hi1 (put vs 0 1) ∧ CN W G2 l2 h2 p2 bg lo2 hi2 2 2 (-1) ∧ Ftr W n l3 h3 p3 2 2 .nilIface 0 (-1) (fun _ => .pointer none)
  have hB : ∀ {T : Nat → Prop} {W W' : World}, Bs W → Kept T W W' → (∀ k, T k → S k) → Bs W' := fun hb k ht =>
    ⟨hb.1.kept k (fun t => by have := ht _ t; simp only [S] at this; omega) (fun t => by have := ht _ t; simp only [S] at this; omega), hb.2.1.kept k (fun t => by have := ht _ t; simp only [S] at this; omega) (fun t => by have := ht _ t; simp only [S] at this; omega), hb.2.2.kept k (fun t => by have := ht _ t; simp only [S] at this; omega) (fun t => by have := ht _ t; simp only [S] at this; omega)⟩
  refine (fcomplete_three (K := 39) 1 (capsOf bf1 bf2 bf3 s1 s2 s3 0) S Pr hent_hang1 W FB x0 x1 x2 e1.two e2.two e3.two e1.fn e2.fn e3.fn ?_ ?_ ?_ ?_ ?_ ?_ (by omega) (by omega) (by omega) ?_ ?_ ?_ ?_ ?_).mono ?_
  iterate 6 (rintro ⟨h1, h2⟩; omega)
  · rintro k ⟨h1, h2⟩ hs
    simp only [S] at hs
    omega
  · intro k hs
    simp only [S] at hs
    omega
  · intro i W W' hp k
    have kf : ∀ b : Nat, ¬ (fun _ : Nat => False) b := fun _ => id
    match i, hp with
    | 0, hp => exact ⟨hB hp.1 k (fun _ h => h.elim), hp.2.1.kept k (fun _ _ _ => id), hp.2.2.1.kept k (fun _ _ _ => id), hp.2.2.2.kept k (fun _ _ _ => id)⟩
    | 1, hp => exact ⟨hB hp.1 k (fun _ h => h.elim), hp.2.1.kept k (fun _ _ _ => id), hp.2.2.1.kept k (fun _ _ _ => id), hp.2.2.2.kept k (fun _ _ _ => id)⟩
    | 2, hp => exact ⟨hB hp.1 k (fun _ h => h.elim), hp.2.1.kept k (fun _ _ _ => id), hp.2.2.1.kept k (fun _ _ _ => id), hp.2.2.2.kept k (fun _ _ _ => id)⟩
    | (q + 3), hp => exact ⟨hB hp.1 k (fun _ h => h.elim), hp.2.1.kept k (fun _ _ _ => id), hp.2.2.1.kept k (fun _ _ _ => id), hp.2.2.2.kept k (fun _ _ => id)⟩
  · intro W' k
    have nb : ∀ b, (b = bf1 ∨ b = bf2 ∨ b = bf3 ∨ b = s1 + 6 * 0 ∨ b = s2 + 6 * 0 ∨ b = s3 + 6 * 0 ∨ (G1 ≤ b ∧ b < hi1) ∨ (lo2 ≤ b ∧ b < hi2) ∨ (n ≤ b ∧ b < n + 13)) → ¬ (FOwn B b ∨ b = s1 + 6 * 0 + 1 ∨ b = s2 + 6 * 0 + 1 ∨ b = s3 + 6 * 0 + 1) := by
      rintro b hb (⟨h1, h2⟩ | h | h | h) <;> omega
    exact ⟨⟨⟨e1.f.kept k (nb _ (by omega)), e1.box.kept k (nb _ (by omega))⟩, ⟨e2.f.kept k (nb _ (by omega)), e2.box.kept k (nb _ (by omega))⟩, ⟨e3.f.kept k (nb _ (by omega)), e3.box.kept k (nb _ (by omega))⟩⟩, ca.kept k (fun b h1 h2 => nb _ (by omega)), cn.kept k (fun b h1 h2 => nb _ (by omega)), cq.kept k (fun b h1 h2 => nb _ (by omega))⟩
  · intro i hi W hp
    match i, hi, hp with
    | 0, _, ⟨hb, ha, hn, hq⟩ =>
      have y := ha.lie
      have u := ha.up
      have ea : (#[.pointer none, .int .i64 1, .nilIface] ++ capsOf bf1 bf2 bf3 s1 s2 s3 0 0 : Array Value) = #[.pointer none, .int .i64 1, .nilIface, .pointer (some ⟨bf1, 0, none⟩), .pointer (some ⟨s1 + 6 * 0, 0, none⟩)] := by simp [capsOf]
      rw [ea]
      refine (hang1_is bf1 (s1 + 6 * 0) 19 0 1 .nilIface _ (fun W' => Kept S W W' ∧ Pr 1 W') hent_all1 W hb.1.f.c hb.1.box.c ?_).mono ?_
      · have eb : (#[.pointer none, .int .i64 0, .int .i64 1, .nilIface] ++ #[.pointer (some ⟨bj, 0, none⟩), .pointer (some ⟨be, 0, none⟩), .pointer (some ⟨bl, 0, none⟩), .pointer (some ⟨G1 + 6, 0, none⟩), .pointer (some ⟨G1 + 7, 0, none⟩)] : Array Value) = #[.pointer none, .int .i64 0, .int .i64 1, .nilIface, .pointer (some ⟨bj, 0, none⟩), .pointer (some ⟨be, 0, none⟩), .pointer (some ⟨bl, 0, none⟩), .pointer (some ⟨G1 + 6, 0, none⟩), .pointer (some ⟨G1 + 7, 0, none⟩)] := by simp
        rw [eb]
        refine (all1_last G1 V jb bj E be L bl 0 l1 h1 p1 1 vs _ (by decide) W ha.jn ha.el y ha.fut).mono ?_
        rintro r W' ⟨hr, k, J', F'⟩
        have k' : Kept S W W' := k.mono fun b _ e => by simp only [S]; have := y.v; have := y.e; have := y.l; rcases e with e | e | e | ⟨e1, e2⟩ <;> omega
        refine ⟨hr, k', hB hb k' (fun _ h => h), ⟨F', J', u.1, y.v, y.j, y.b⟩, hn.kept k (fun b h1 h2 e => by have := y.v; have := y.e; have := y.l; rcases e with e | e | e | ⟨e1, e2⟩ <;> omega), hq.kept k (fun b h1 h2 e => by have := y.v; have := y.e; have := y.l; rcases e with e | e | e | ⟨e1, e2⟩ <;> omega)⟩
      · rintro r W' ⟨hr, k, hp⟩; exact ⟨hr, k, hp⟩
    | 1, _, ⟨hb, ha, hn, hq⟩ =>
      have u := hn.up
      have ea : (#[.pointer none, .int .i64 1, .nilIface] ++ capsOf bf1 bf2 bf3 s1 s2 s3 0 1 : Array Value) = #[.pointer none, .int .i64 1, .nilIface, .pointer (some ⟨bf2, 0, none⟩), .pointer (some ⟨s2 + 6 * 0, 0, none⟩)] := by simp [capsOf]
      rw [ea]
      refine (hang1_is bf2 (s2 + 6 * 0) 24 0 1 .nilIface _ (fun W' => Kept S W W' ∧ Pr 2 W') hent_any1 W hb.2.1.f.c hb.2.1.box.c ?_).mono ?_
      · have eb : (#[.pointer none, .int .i64 0, .int .i64 1, .nilIface] ++ #[.pointer (some ⟨bg, 0, none⟩), .pointer (some ⟨be2, 0, none⟩), .pointer (some ⟨bl2, 0, none⟩), .pointer (some ⟨bn2, 0, none⟩)] : Array Value) = #[.pointer none, .int .i64 0, .int .i64 1, .nilIface, .pointer (some ⟨bg, 0, none⟩), .pointer (some ⟨be2, 0, none⟩), .pointer (some ⟨bl2, 0, none⟩), .pointer (some ⟨bn2, 0, none⟩)] := by simp
        rw [eb]
        refine (any1_late G2 l2 h2 p2 bg 0 be2 bl2 bn2 1 2 2 0 (-1) .nilIface _ (by decide) W hn.g.c hn.fut).mono ?_
        rintro r W' ⟨hr, rfl⟩
        exact ⟨hr, Kept.refl _ _, hb, ha, hn, hq⟩
      · rintro r W' ⟨hr, k, hp⟩; exact ⟨hr, k, hp⟩
    | 2, _, ⟨hb, ha, hn, hq⟩ =>
      have ea : (#[.pointer none, .int .i64 1, .nilIface] ++ capsOf bf1 bf2 bf3 s1 s2 s3 0 2 : Array Value) = #[.pointer none, .int .i64 1, .nilIface, .pointer (some ⟨bf3, 0, none⟩), .pointer (some ⟨s3 + 6 * 0, 0, none⟩)] := by simp [capsOf]
      rw [ea]
      refine (hang1_is bf3 (s3 + 6 * 0) 26 0 1 .nilIface _ (fun W' => Kept S W W' ∧ Pr 3 W') hent_quorum1 W hb.2.2.f.c hb.2.2.box.c ?_).mono ?_
      · have eb : (#[.pointer none, .int .i64 0, .int .i64 1, .nilIface] ++ #[.pointer (some ⟨n + 11, 0, none⟩), .pointer (some ⟨n + 7, 0, none⟩), .pointer (some ⟨n + 6, 0, none⟩), .pointer (some ⟨n + 12, 0, none⟩), .pointer (some ⟨n + 8, 0, none⟩)] : Array Value) = #[.pointer none, .int .i64 0, .int .i64 1, .nilIface, .pointer (some ⟨n + 11, 0, none⟩), .pointer (some ⟨n + 7, 0, none⟩), .pointer (some ⟨n + 6, 0, none⟩), .pointer (some ⟨n + 12, 0, none⟩), .pointer (some ⟨n + 8, 0, none⟩)] := by simp
        rw [eb]
        refine (quorum1_last n 2 0 l3 h3 p3 1 2 1 0 _ (by decide) W hq.q hq.fut).mono ?_
        rintro r W' ⟨hr, F', k⟩
        have k' : Kept S W W' := k.mono fun b _ e => by simp only [S]; rcases e with e | ⟨e1, e2⟩ <;> omega
        refine ⟨hr, k', hB hb k' (fun _ h => h), ha.kept k (fun b h1 h2 e => by rcases e with e | ⟨e1, e2⟩ <;> omega), hn.kept k (fun b h1 h2 e => by rcases e with e | ⟨e1, e2⟩ <;> omega), F'⟩
      · rintro r W' ⟨hr, k, hp⟩; exact ⟨hr, k, hp⟩
  · rintro r W' ⟨hr, F, k, hp⟩
    exact ⟨hr, k, hp.2.1, hp.2.2.1, hp.2.2.2⟩

end Go.Proofs.YtfbanlpmkfgpjaaGreatDoor

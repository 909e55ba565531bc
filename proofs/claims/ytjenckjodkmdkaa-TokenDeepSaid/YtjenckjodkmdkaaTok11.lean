/-
  treadlelaw11.TokenDeep: a row of tokens, each one's child; its Cancel.
-/
import Derived.Test.YtjenckjodkmdkaaTok10
namespace Go.Proofs.Ytjenckjodkmdkaa
open Go.RowKit

/-- The blocks of a token: itself, its reason, its list with its cells and its row; the two places and the two parts; the variable of its function. -/
structure Tk where
  k : Nat
  r : Nat
  b : Nat
  l : Nat
  h : Nat
  p : Nat
  q0 : Nat
  q1 : Nat
  g0 : Nat
  g1 : Nat
  f : Nat

/-- Token j, with its list's state. -/
structure Base (w : World) (lab : Nat → Nat) (j : Nat) (T : Tk) (n hd : Int) (x0 x1 : Value) : Prop where
  lk : lab T.k = 16 * (j + 1) + 1
  lr : lab T.r = 16 * (j + 1) + 2
  lb : lab T.b = 16 * (j + 1) + 3
  ll : lab T.l = 16 * (j + 1) + 4
  lh : lab T.h = 16 * (j + 1) + 5
  lp : lab T.p = 16 * (j + 1) + 6
  head : Hd w T.k T.r T.b j
  cel : Cel w T.r 0
  live : Live w T.b T.l T.h T.p n hd x0 x1

/-- Its first part: a child. -/
structure Ch (w : World) (lab : Nat → Nat) (j : Nat) (T : Tk) (next : Nat) : Prop where
  lq : lab T.q0 = 16 * (j + 1) + 7
  lg : lab T.g0 = 16 * (j + 1) + 9
  place : Two w T.q0 (.pointer (some ⟨T.g0, 0, none⟩)) (.int .i64 0)
  part : Two w T.g0 (.pointer (some ⟨next, 0, none⟩)) .nilFunc

/-- Its last part: the function. -/
structure Fu (w : World) (lab : Nat → Nat) (oB cB j : Nat) (T : Tk) (ahead : Int) : Prop where
  lq : lab T.q1 = 16 * (j + 1) + 8
  lg : lab T.g1 = 16 * (j + 1) + 10
  lf : lab T.f = 16 * (j + 1) + 11
  place : Two w T.q1 (.pointer (some ⟨T.g1, 0, none⟩)) (.int .i64 ahead)
  part : Two w T.g1 (.pointer none) (.func (.func 8) #[] #[.pointer (some ⟨oB, 0, none⟩), .pointer (some ⟨cB, 0, none⟩), .pointer (some ⟨T.f, 0, none⟩)])
  var : Slot w T.f 0 (.int .i64 j)

theorem Base.carry {S : Nat → Prop} {w w' : World} {lab lab' : Nat → Nat} {j : Nat} {T : Tk} {n hd : Int} {x0 x1 : Value} (B : Base w lab j T n hd x0 x1) (k : Kept S w w') (hs : ∀ c, lab c / 16 = j + 1 → ¬ S c) (hl : ∀ c, c < w.heap.size → lab c ≠ 0 → lab' c = lab c) : Base w' lab' j T n hd x0 x1 := by
  have lk := B.lk
  have lr := B.lr
  have lb := B.lb
  have ll := B.ll
  have lh := B.lh
  have lp := B.lp
  exact ⟨(hl _ B.head.lt (by omega)).trans lk, (hl _ B.cel.lt (by omega)).trans lr, (hl _ B.live.lt (by omega)).trans lb, (hl _ B.live.l.lt (by omega)).trans ll, (hl _ B.live.h.lt (by omega)).trans lh, (hl _ B.live.s0.lt (by omega)).trans lp,
    B.head.kept k (hs _ (by omega)), B.cel.kept k (hs _ (by omega)), B.live.kept k (hs _ (by omega)) (hs _ (by omega)) (hs _ (by omega)) (hs _ (by omega))⟩

theorem Ch.carry {S : Nat → Prop} {w w' : World} {lab lab' : Nat → Nat} {j : Nat} {T : Tk} {next : Nat} (C : Ch w lab j T next) (k : Kept S w w') (hs : ∀ c, lab c % 16 = 7 ∨ lab c % 16 = 9 → lab c / 16 = j + 1 → ¬ S c) (hl : ∀ c, c < w.heap.size → lab c ≠ 0 → lab' c = lab c) : Ch w' lab' j T next := by
  have lq := C.lq
  have lg := C.lg
  exact ⟨(hl _ C.place.lt (by omega)).trans lq, (hl _ C.part.lt (by omega)).trans lg, C.place.kept k (hs _ (by omega) (by omega)), C.part.kept k (hs _ (by omega) (by omega))⟩

theorem Fu.carry {S : Nat → Prop} {w w' : World} {lab lab' : Nat → Nat} {oB cB j : Nat} {T : Tk} {ahead : Int} (F : Fu w lab oB cB j T ahead) (k : Kept S w w') (hs : ∀ c, lab c / 16 = j + 1 → ¬ S c) (hl : ∀ c, c < w.heap.size → lab c ≠ 0 → lab' c = lab c) : Fu w' lab' oB cB j T ahead := by
  have lq := F.lq
  have lg := F.lg
  have lf := F.lf
  exact ⟨(hl _ F.place.lt (by omega)).trans lq, (hl _ F.part.lt (by omega)).trans lg, (hl _ F.var.lt (by omega)).trans lf, F.place.kept k (hs _ (by omega)), F.part.kept k (hs _ (by omega)), F.var.kept k (hs _ (by omega))⟩

/-- Token j of L as it stands ahead of the Cancel. -/
structure Alive (w : World) (lab : Nat → Nat) (L oB cB : Nat) (D : Nat → Tk) (j : Nat) : Prop where
  mid : j + 1 < L → Base w lab j (D j) 2 2 (.pointer (some ⟨(D j).q0, 0, none⟩)) (.pointer (some ⟨(D j).q1, 0, none⟩)) ∧ Ch w lab j (D j) (D (j + 1)).k ∧ Fu w lab oB cB j (D j) 1
  fin : j + 1 = L → Base w lab j (D j) 1 1 (.pointer (some ⟨(D j).q1, 0, none⟩)) (.pointer none) ∧ Fu w lab oB cB j (D j) 0

theorem Alive.carry {S : Nat → Prop} {w w' : World} {lab lab' : Nat → Nat} {L oB cB : Nat} {D : Nat → Tk} {j : Nat} (A : Alive w lab L oB cB D j) (k : Kept S w w') (hs : ∀ c, lab c / 16 = j + 1 → ¬ S c) (hl : ∀ c, c < w.heap.size → lab c ≠ 0 → lab' c = lab c) : Alive w' lab' L oB cB D j :=
  ⟨fun h => ⟨(A.mid h).1.carry k hs hl, (A.mid h).2.1.carry k (fun c _ => hs c) hl, (A.mid h).2.2.carry k hs hl⟩, fun h => ⟨(A.fin h).1.carry k hs hl, (A.fin h).2.carry k hs hl⟩⟩

theorem Alive.kept {S : Nat → Prop} {w w' : World} {lab : Nat → Nat} {L oB cB : Nat} {D : Nat → Tk} {j : Nat} (A : Alive w lab L oB cB D j) (k : Kept S w w') (hs : ∀ c, lab c / 16 = j + 1 → ¬ S c) : Alive w' lab L oB cB D j :=
  A.carry k hs fun _ _ _ => rfl

/-- What the Cancel of token i leaves. -/
structure Gone (w : World) (lab : Nat → Nat) (L : Nat) (D : Nat → Tk) (c oB cB : Nat) (x : Int) (i : Nat) (o : Int) (cf : Nat → Int) (w' : World) : Prop where
  kept : Kept (fun b => 16 * (i + 1) ≤ lab b ∨ lab b = 1 ∨ lab b = 2) w w'
  is : ∀ j, i ≤ j → j < L → w'.cell? ⟨(D j).k, 0, none⟩ = some (.pointer (some ⟨(D j).r, 0, none⟩))
  cel : ∀ j, i ≤ j → j < L → Cel w' (D j).r x
  glob : Glob w' lab L c oB cB (o + (L - i)) (fun j => if i ≤ j then o + (L - j) else cf j)

theorem ent8 : ∀ args w, (callFunc 8 args).run Try.prog w = .ok (.enter 8 args) w := enters_of Try.func8 (by kernel_rfl) rfl

theorem ne_lab (lab : Nat → Nat) {a b : Nat} (h : lab a ≠ lab b) : a ≠ b := fun e => h (by rw [e])

set_option maxHeartbeats 800000 in
theorem gone_last (lab : Nat → Nat) (L : Nat) (D : Nat → Tk) (c oB cB : Nat) (x : Int) (hx : 1 ≤ x) (i : Nat) (hi : i + 1 = L) (w : World) (o : Int) (cf : Nat → Int) (o0 : 0 ≤ o) (o1 : o ≤ 500)
    (A : Alive w lab L oB cB D i) (G : Glob w lab L c oB cB o cf) :
    Calls Try.prog 9 #[.pointer (some ⟨(D i).k, 0, none⟩), .pointer none, .int .i64 x] w (TrueThen (Gone w lab L D c oB cB x i o cf)) := by
  obtain ⟨B, F⟩ := A.fin hi
  have lk := B.lk
  have lr := B.lr
  have lb := B.lb
  have ll := B.ll
  have lh := B.lh
  have lp := B.lp
  have lq := F.lq
  have lg := F.lg
  have lf := F.lf
  refine cancel_one (Gone w lab L D c oB cB x i o cf) w (D i).k (D i).r (D i).b (D i).l (D i).h (D i).p (D i).q1 (D i).g1 i x 1 _ _ _ hx rfl rfl B.head B.cel B.live F.place F.part
    ⟨ne_lab lab (by omega), ne_lab lab (by omega), ne_lab lab (by omega), ne_lab lab (by omega), ne_lab lab (by omega)⟩ ⟨ne_lab lab (by omega), ne_lab lab (by omega)⟩ ⟨ne_lab lab (by omega), ne_lab lab (by omega)⟩ ?_
  intro w1 k cr _
  refine part_call _ 8 _ ent8 x w1 ?_
  generalize hw2 : w1.alloc (.cells #[.pointer none, .func (.func 8) #[] #[.pointer (some ⟨oB, 0, none⟩), .pointer (some ⟨cB, 0, none⟩), .pointer (some ⟨(D i).f, 0, none⟩)]] 46) = w2
  have ka : Kept (fun _ => False) w1 w2 := hw2 ▸ (Kept.refl _ _).alloc _
  have hs : ∀ b, lab b = 16 * (i + 1) + 1 ∨ lab b = 16 * (i + 1) + 11 ∨ lab b < 16 → ¬ (b = (D i).r ∨ b = (D i).h ∨ b = (D i).g1) := by
    intro b hb e
    rcases e with rfl | rfl | rfl <;> omega
  have G2 := (G.kept k fun b h _ => hs b (.inr (.inr h))).kept ka fun _ _ _ => id
  have F2 := (F.var.kept k (hs _ (.inr (.inl lf)))).kept ka id
  refine (note_glob w2 lab L c oB cB (D i).f i o x cf (by omega) o0 (by omega) G2 F2 (by omega)).mono ?_
  rintro e w3 ⟨rfl, K3, G3⟩
  refine ⟨rfl, ?_, ?_, ?_, ?_⟩
  · refine ((k.mono fun b _ e => ?_).trans (ka.mono fun _ _ f => f.elim)).trans (K3.mono fun b _ e => .inr e)
    rcases e with rfl | rfl | rfl <;> (left; omega)
  · intro j h1 h2
    obtain rfl : j = i := by omega
    exact ((((B.head.kept k (hs _ (.inl lk))).kept ka id).kept K3 (by omega))).k0
  · intro j h1 h2
    obtain rfl : j = i := by omega
    exact (cr.kept ka id).kept K3 (by omega)
  · refine G3.congr (by omega) fun j hj => ?_
    by_cases e : j = i
    · subst e; rw [put_same, if_pos (Nat.le_refl _)]; omega
    · rw [put_other _ _ _ _ e, if_neg (by omega)]

set_option maxHeartbeats 1600000 in
theorem gone_mid (lab : Nat → Nat) (L : Nat) (D : Nat → Tk) (c oB cB : Nat) (x : Int) (hx : 1 ≤ x) (hL : L ≤ 100) (i : Nat) (hi : i + 1 < L) (w : World) (o : Int) (cf : Nat → Int) (o0 : 0 ≤ o) (o1 : o ≤ 500)
    (hz : ∀ b, w.heap.size ≤ b → lab b = 0) (A : ∀ j, i ≤ j → j < L → Alive w lab L oB cB D j) (G : Glob w lab L c oB cB o cf)
    (IH : ∀ (w : World), (∀ b, w.heap.size ≤ b → lab b = 0) → (∀ j, i + 1 ≤ j → j < L → Alive w lab L oB cB D j) → Glob w lab L c oB cB o cf →
      Calls Try.prog 9 #[.pointer (some ⟨(D (i + 1)).k, 0, none⟩), .pointer none, .int .i64 x] w (TrueThen (Gone w lab L D c oB cB x (i + 1) o cf))) :
    Calls Try.prog 9 #[.pointer (some ⟨(D i).k, 0, none⟩), .pointer none, .int .i64 x] w (TrueThen (Gone w lab L D c oB cB x i o cf)) := by
  obtain ⟨B, C, F⟩ := (A i (Nat.le_refl _) (by omega)).mid hi
  have lk := B.lk
  have lr := B.lr
  have lb := B.lb
  have ll := B.ll
  have lh := B.lh
  have lp := B.lp
  have lq0 := C.lq
  have lg0 := C.lg
  have lq := F.lq
  have lg := F.lg
  have lf := F.lf
  refine cancel_two (fun b => 16 * (i + 1 + 1) ≤ lab b ∨ lab b = 1 ∨ lab b = 2)
    (fun w2 => Kept (fun b => 16 * (i + 1) ≤ lab b ∨ lab b = 1 ∨ lab b = 2) w w2 ∧ Cel w2 (D i).r x ∧ Slot w2 (D i).f 0 (.int .i64 i) ∧ Hd w2 (D i).k (D i).r (D i).b i ∧
      (∀ j, i + 1 ≤ j → j < L → w2.cell? ⟨(D j).k, 0, none⟩ = some (.pointer (some ⟨(D j).r, 0, none⟩)) ∧ Cel w2 (D j).r x ∧ (D j).k < w2.heap.size ∧ lab (D j).k / 16 = j + 1 ∧ lab (D j).r / 16 = j + 1) ∧ Glob w2 lab L c oB cB (o + (L - ((i + 1 : Nat) : Int))) (fun j => if i + 1 ≤ j then o + (L - j) else cf j))
    (Gone w lab L D c oB cB x i o cf) w (D i).k (D i).r (D i).b (D i).l (D i).h (D i).p (D i).q0 (D i).q1 (D i).g0 (D i).g1 i x 2 _ _ _ _ hx rfl rfl rfl rfl B.head B.cel B.live C.place F.place C.part F.part
    ⟨ne_lab lab (by omega), ne_lab lab (by omega), ne_lab lab (by omega), ne_lab lab (by omega), ne_lab lab (by omega)⟩ ⟨ne_lab lab (by omega), ne_lab lab (by omega)⟩ ⟨ne_lab lab (by omega), ne_lab lab (by omega)⟩ ⟨ne_lab lab (by omega), ne_lab lab (by omega)⟩ ⟨ne_lab lab (by omega), ne_lab lab (by omega)⟩ (ne_lab lab (by omega)) (fun b hb => by have := hz b hb; omega) ?_ ?_
  · intro w1 k cr
    refine part_child _ (D (i + 1)).k x w1 _ ?_
    generalize hw2 : w1.alloc (.cells #[.pointer (some ⟨(D (i + 1)).k, 0, none⟩), .nilFunc] 46) = w2
    have ka : Kept (fun _ => False) w1 w2 := hw2 ▸ (Kept.refl _ _).alloc _
    have hs : ∀ b, lab b = 16 * (i + 1) + 1 ∨ lab b = 16 * (i + 1) + 11 ∨ lab b < 16 ∨ 16 * (i + 1 + 1) ≤ lab b → ¬ (b = (D i).r ∨ b = (D i).h ∨ b = (D i).g0 ∨ b = (D i).g1) := by
      intro b hb e
      rcases e with rfl | rfl | rfl | rfl <;> omega
    have G2 := (G.kept k fun b h _ => hs b (.inr (.inr (.inl h)))).kept ka fun _ _ _ => id
    have A2 : ∀ j, i + 1 ≤ j → j < L → Alive w2 lab L oB cB D j := fun j h1 h2 => ((A j (by omega) h2).kept k fun b hb => hs b (.inr (.inr (.inr (by omega))))).kept ka fun _ _ => id
    have z2 : w.heap.size ≤ w2.heap.size := Nat.le_trans k.size ka.size
    refine (IH w2 (fun b hb => hz b (by omega)) A2 G2).mono ?_
    rintro e w3 ⟨rfl, N⟩
    refine ⟨true, rfl, ?_, ?_, ?_, ?_, ?_, ?_, N.glob⟩
    · exact (ka.mono fun _ _ f => f.elim).trans N.kept
    · refine ((k.mono fun b _ e => ?_).trans (ka.mono fun _ _ f => f.elim)).trans (N.kept.mono fun b _ e => by omega)
      rcases e with rfl | rfl | rfl | rfl <;> (left; omega)
    · exact (cr.kept ka id).kept N.kept (by omega)
    · exact ((F.var.kept k (hs _ (.inr (.inl lf)))).kept ka id).kept N.kept (by omega)
    · exact ((B.head.kept k (hs _ (.inl lk))).kept ka id).kept N.kept (by omega)
    · intro j h1 h2
      have AJ := A2 j h1 h2
      have hlt : (D j).k < w2.heap.size ∧ lab (D j).k / 16 = j + 1 ∧ lab (D j).r / 16 = j + 1 := by
        by_cases e : j + 1 < L
        · have b := (AJ.mid e).1; have := b.lk; have := b.lr; exact ⟨b.head.lt, by omega, by omega⟩
        · have b := (AJ.fin (by omega)).1; have := b.lk; have := b.lr; exact ⟨b.head.lt, by omega, by omega⟩
      exact ⟨N.is j h1 h2, N.cel j h1 h2, Nat.lt_of_lt_of_le hlt.1 N.kept.size, hlt.2⟩
  · rintro w1 w2 ⟨K1, C1, F1, H1, J1, G1⟩ ka
    refine part_call _ 8 _ ent8 x w2 ?_
    generalize hw3 : w2.alloc (.cells #[.pointer none, .func (.func 8) #[] #[.pointer (some ⟨oB, 0, none⟩), .pointer (some ⟨cB, 0, none⟩), .pointer (some ⟨(D i).f, 0, none⟩)]] 46) = w3
    have kb : Kept (fun _ => False) w1 w3 := ka.trans (hw3 ▸ (Kept.refl _ _).alloc _)
    refine (note_glob w3 lab L c oB cB (D i).f i _ x _ (by omega) (by omega) (by omega) (G1.kept kb fun _ _ _ => id) (F1.kept kb id) (by omega)).mono ?_
    rintro e w4 ⟨rfl, K4, G4⟩
    refine ⟨rfl, ?_, ?_, ?_, ?_⟩
    · exact (K1.trans (kb.mono fun _ _ f => f.elim)).trans (K4.mono fun b _ e => .inr e)
    · intro j h1 h2
      by_cases e : j = i
      · subst e; exact ((H1.kept kb id).kept K4 (by omega)).k0
      · obtain ⟨a, _, lt, b, _⟩ := J1 j (by omega) h2
        exact (K4.cell (p := ⟨(D j).k, 0, none⟩) (Nat.lt_of_lt_of_le lt kb.size) (by show ¬ (lab (D j).k = 1 ∨ lab (D j).k = 2); omega)).trans ((kb.cell (p := ⟨(D j).k, 0, none⟩) lt id).trans a)
    · intro j h1 h2
      by_cases e : j = i
      · subst e; exact (C1.kept kb id).kept K4 (by omega)
      · obtain ⟨_, a, _, _, b⟩ := J1 j (by omega) h2
        exact (a.kept kb id).kept K4 (by omega)
    · refine G4.congr (by omega) fun j hj => ?_
      by_cases e : j = i
      · subst e; rw [put_same, if_pos (Nat.le_refl _)]; omega
      · rw [put_other _ _ _ _ e]
        by_cases e2 : i + 1 ≤ j
        · rw [if_pos e2, if_pos (by omega)]
        · rw [if_neg e2, if_neg (by omega)]

theorem gone (lab : Nat → Nat) (L : Nat) (D : Nat → Tk) (c oB cB : Nat) (x : Int) (hx : 1 ≤ x) (hL : L ≤ 100) (o : Int) (cf : Nat → Int) (o0 : 0 ≤ o) (o1 : o ≤ 500) : ∀ (m i : Nat), i + m + 1 = L → ∀ (w : World),
    (∀ b, w.heap.size ≤ b → lab b = 0) → (∀ j, i ≤ j → j < L → Alive w lab L oB cB D j) → Glob w lab L c oB cB o cf →
    Calls Try.prog 9 #[.pointer (some ⟨(D i).k, 0, none⟩), .pointer none, .int .i64 x] w (TrueThen (Gone w lab L D c oB cB x i o cf)) := by
  intro m
  induction m with
  | zero => intro i hi w _ A G; exact gone_last lab L D c oB cB x hx i (by omega) w o cf o0 o1 (A i (Nat.le_refl _) (by omega)) G
  | succ m ih => intro i hi w hz A G; exact gone_mid lab L D c oB cB x hx hL i (by omega) w o cf o0 o1 hz A G (ih (i + 1) (by omega))

end Go.Proofs.Ytjenckjodkmdkaa

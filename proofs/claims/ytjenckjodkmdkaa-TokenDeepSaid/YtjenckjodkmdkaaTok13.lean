/-
  treadlelaw11.TokenDeep: the row at its beginning; the row while its functions are set.
-/
import Derived.Test.YtjenckjodkmdkaaTok12
namespace Go.Proofs.Ytjenckjodkmdkaa
open Go.RowKit

/-- The labels of the first token. -/
def lab0 (s l h p : Nat) : Nat → Nat := fun b =>
  if b = s + 5 then 17 else if b = s then 18 else if b = s + 4 then 19 else if b = l then 20 else if b = h then 21 else if b = p then 22 else 0

theorem up_start {w w1 : World} {s l h p : Nat} (es : w.heap.size = s) (e1 : w1.heap.size = s + 6) (N : New w1 s l h p 0) (k : Kept (fun _ => False) w w1) :
    Up w (w1.alloc (.cells #[.pointer (some ⟨s + 5, 0, none⟩)] 23)) (lab0 s l h p) (fun _ => { k := s + 5, r := s, b := s + 4, l := l, h := h, p := p, q0 := 0, q1 := 0, g0 := 0, g1 := 0, f := 0 }) 0 w1.heap.size 1 := by
  have sl := N.sl
  have sh := N.sh
  have sp := N.sp
  have ne := N.ne
  have ka : Kept (fun _ => False) w1 (w1.alloc (.cells #[.pointer (some ⟨s + 5, 0, none⟩)] 23)) := (Kept.refl _ _).alloc _
  have hz : ∀ b, s + 6 ≤ b → lab0 s l h p b = 0 := fun b hb => by
    unfold lab0; rw [if_neg (by omega), if_neg (by omega), if_neg (by omega), if_neg (by omega), if_neg (by omega), if_neg (by omega)]
  refine ⟨⟨fun b hb => hz b (by have := ka.size; omega), fun j hj => by omega, ⟨?_, ?_, ?_, ?_, ?_, ?_, N.hd.kept ka id, N.r.kept ka id, N.live.kept ka id id id id⟩⟩, ?_, hz _ (by omega), fun b hb => ?_, k.trans ka⟩
  · show lab0 s l h p (s + 5) = 17
    unfold lab0; rw [if_pos rfl]
  · show lab0 s l h p s = 18
    unfold lab0; rw [if_neg (by omega), if_pos rfl]
  · show lab0 s l h p (s + 4) = 19
    unfold lab0; rw [if_neg (by omega), if_neg (by omega), if_pos rfl]
  · show lab0 s l h p l = 20
    unfold lab0; rw [if_neg (by omega), if_neg (by omega), if_neg (by omega), if_pos rfl]
  · show lab0 s l h p h = 21
    unfold lab0; rw [if_neg (by omega), if_neg (by omega), if_neg (by omega), if_neg (by omega), if_pos rfl]
  · show lab0 s l h p p = 22
    unfold lab0; rw [if_neg (by omega), if_neg (by omega), if_neg (by omega), if_neg (by omega), if_neg (by omega), if_pos rfl]
  · have h := World.ownsRow_lit (base := w.heap.size) (e := 23) (size := 1) w1 #[.pointer (some ⟨s + 5, 0, none⟩)] 1 (by omega) (by decide) rfl
    exact h
  · unfold lab0; rw [if_neg (by omega), if_neg (by omega), if_neg (by omega), if_neg (by omega), if_neg (by omega), if_neg (by omega)]

/-- Where loop 2 stands: the first i of L tokens have their function. -/
structure Mix (w0 w : World) (lab : Nat → Nat) (D : Nat → Tk) (L i c oB cB g : Nat) : Prop where
  z : ∀ b, w.heap.size ≤ b → lab b = 0
  low : ∀ b, b < w0.heap.size → lab b = 0
  done : ∀ j, j < i → Alive w lab L oB cB D j
  mid : ∀ j, i ≤ j → j + 1 < L → Base w lab j (D j) 1 1 (.pointer (some ⟨(D j).q0, 0, none⟩)) (.pointer none) ∧ Ch w lab j (D j) (D (j + 1)).k
  last : ∀ j, i ≤ j → j + 1 = L → Base w lab j (D j) 0 0 (.pointer none) (.pointer none)
  glob : Glob w lab L c oB cB 0 (fun _ => 0)
  all : ∀ j, j < L → Slot w g j (.pointer (some ⟨(D j).k, 0, none⟩))
  lg : lab g = 4
  kept : Kept (fun _ => False) w0 w

theorem Mix.carry {S : Nat → Prop} {w0 w w' : World} {lab : Nat → Nat} {D : Nat → Tk} {L i c oB cB g : Nat} (M : Mix w0 w lab D L i c oB cB g) (k : Kept S w w') (hs : ∀ b, lab b ≠ 0 → ¬ S b) (h0 : ∀ b, S b → w0.heap.size ≤ b) : Mix w0 w' lab D L i c oB cB g :=
  ⟨fun b hb => M.z b (Nat.le_trans k.size hb), M.low, fun j hj => (M.done j hj).kept k fun b hb => hs b (by omega), fun j h1 h2 => ⟨(M.mid j h1 h2).1.carry k (fun b hb => hs b (by omega)) fun _ _ _ => rfl, (M.mid j h1 h2).2.carry k (fun b _ hb => hs b (by omega)) fun _ _ _ => rfl⟩,
    fun j h1 h2 => (M.last j h1 h2).carry k (fun b hb => hs b (by omega)) fun _ _ _ => rfl, M.glob.kept k fun b _ hb => hs b hb, fun j hj => (M.all j hj).kept k (hs g (by have := M.lg; omega)), M.lg,
    Kept.ofBelow (Kept.below (B := w0.heap.size) (M.kept.mono (T := fun c => w0.heap.size ≤ c) (fun _ _ f => f.elim) |>.trans (k.mono fun c _ e => h0 c e)) (Nat.le_refl _) fun _ h => h) (Nat.le_refl _) _⟩

/-- The labels of what is counted. -/
def labG (lab : Nat → Nat) (s g : Nat) : Nat → Nat := fun b =>
  if b = g then 4 else if b = s then 1 else if b = s + 1 then 2 else if b = s + 2 then 3 else lab b

theorem labG_old (lab : Nat → Nat) (s g b : Nat) (hg : lab g = 0) (hb : b < s ∨ s + 2 < b) (h : lab b ≠ 0 ∨ b ≠ g) : labG lab s g b = lab b := by
  have : b ≠ g := by
    rcases h with h | h
    · intro e; rw [e] at h; exact h hg
    · exact h
  unfold labG; rw [if_neg this, if_neg (by omega), if_neg (by omega), if_neg (by omega)]

theorem mix_start {w0 w w' : World} {lab : Nat → Nat} {D : Nat → Tk} {n g cap s : Nat} (X : Up w0 w lab D n g cap) (es : w.heap.size = s) (k : Kept (fun _ => False) w w') (es' : s + 3 ≤ w'.heap.size)
    (O : Slot w' s 0 (.int .i64 0)) (B : Slot w' (s + 2) 0 (.slice (some ⟨s + 1, 0, none⟩) (n + 1) (n + 1))) (C : ∀ j, j < n + 1 → Slot w' (s + 1) j (.int .i64 0)) :
    Mix w0 w' (labG lab s g) D (n + 1) 0 (s + 1) s (s + 2) g := by
  have gz : g < s := es ▸ (X.own.lt g rfl).2
  have gl : w0.heap.size ≤ g := (X.own.lt g rfl).1
  have hl : ∀ c, c < w.heap.size → lab c ≠ 0 → labG lab s g c = lab c := fun c hc h => labG_old _ _ _ _ X.lg (.inl (by omega)) (.inl h)
  refine ⟨fun b hb => ?_, fun b hb => ?_, fun j hj => by omega, fun j _ hj => ⟨(X.grow.mid j (by omega)).1.carry k (fun _ _ => id) hl, (X.grow.mid j (by omega)).2.carry k (fun _ _ _ => id) hl⟩, fun j _ hj => ?_, ⟨?_, ?_, ?_, O, B, C⟩, fun j hj => ?_, ?_, X.kept.trans k⟩
  · rw [labG_old _ _ _ _ X.lg (.inr (by omega)) (.inr (by omega))]; exact X.grow.z b (by omega)
  · have := X.kept.size
    rw [labG_old _ _ _ _ X.lg (.inl (by omega)) (.inr (by omega))]; exact X.low b hb
  · obtain rfl : j = n := by omega
    exact X.grow.last.carry k (fun _ _ => id) hl
  · unfold labG; rw [if_neg (by omega), if_pos rfl]
  · unfold labG; rw [if_neg (by omega), if_neg (by omega), if_pos rfl]
  · unfold labG; rw [if_neg (by omega), if_neg (by omega), if_neg (by omega), if_pos rfl]
  · have h1 := X.own.cellAt j (by omega)
    rw [rowOf_at D (n + 1) j hj] at h1
    exact (show Slot w g j _ from ⟨h1, X.own.frozenAt j, (X.own.lt g rfl).2⟩).kept k id
  · unfold labG; rw [if_pos rfl]

/-- The labels behind an OnCancel. -/
def labF (lab : Nat → Nat) (s f i : Nat) : Nat → Nat := fun b =>
  if b = f then 16 * (i + 1) + 11 else if b = s + 4 then 16 * (i + 1) + 8 else if b = s then 16 * (i + 1) + 10 else lab b

theorem labF_old (lab : Nat → Nat) (s f i b : Nat) (hf : lab f = 0) (hb : b < s ∨ s + 4 < b) (h : lab b ≠ 0 ∨ b ≠ f) : labF lab s f i b = lab b := by
  have : b ≠ f := by
    rcases h with h | h
    · intro e; rw [e] at h; exact h hf
    · exact h
  unfold labF; rw [if_neg this, if_neg (by omega), if_neg (by omega)]

def onD (D : Nat → Tk) (s f i : Nat) : Nat → Tk := put D i { D i with q1 := s + 4, g1 := s, f := f }

theorem onD_k (D : Nat → Tk) (s f i j : Nat) : (onD D s f i j).k = (D j).k := by
  unfold onD
  by_cases e : j = i
  · subst e; rw [put_same]
  · rw [put_other _ _ _ _ e]

theorem onD_at (D : Nat → Tk) (s f i : Nat) : onD D s f i i = { D i with q1 := s + 4, g1 := s, f := f } := by unfold onD; rw [put_same]

theorem onD_other (D : Nat → Tk) (s f i j : Nat) (h : j ≠ i) : onD D s f i j = D j := by unfold onD; rw [put_other _ _ _ _ h]

theorem Alive.congr {w : World} {lab : Nat → Nat} {L oB cB : Nat} {D D' : Nat → Tk} {j : Nat} (A : Alive w lab L oB cB D j) (h1 : D' j = D j) (h2 : (D' (j + 1)).k = (D (j + 1)).k) : Alive w lab L oB cB D' j :=
  ⟨fun h => by rw [h1, h2]; exact A.mid h, fun h => by rw [h1]; exact A.fin h⟩

set_option maxHeartbeats 800000 in
theorem mix_on {w0 w w' : World} {lab : Nat → Nat} {D : Nat → Tk} {L i c oB cB g s f : Nat} {m a : Int} {x0 x1 : Value} (M : Mix w0 w lab D L i c oB cB g) (hi : i < L) (es : w.heap.size = s) (es' : w'.heap.size = s + 5) (F : Slot w f 0 (.int .i64 i)) (hf : lab f = 0) (hf0 : w0.heap.size ≤ f)
    (Lv : Live w' (D i).b (D i).l (D i).h (D i).p m m x0 x1) (Q : Two w' (s + 4) (.pointer (some ⟨s, 0, none⟩)) (.int .i64 a)) (U : Two w' s (.pointer none) (.func (.func 8) #[] #[.pointer (some ⟨oB, 0, none⟩), .pointer (some ⟨cB, 0, none⟩), .pointer (some ⟨f, 0, none⟩)]))
    (k : Kept (fun c => c = (D i).l ∨ c = (D i).h ∨ c = (D i).p) w w')
    (hc : (i + 1 < L ∧ m = 2 ∧ a = 1 ∧ x0 = .pointer (some ⟨(D i).q0, 0, none⟩) ∧ x1 = .pointer (some ⟨s + 4, 0, none⟩)) ∨ (i + 1 = L ∧ m = 1 ∧ a = 0 ∧ x0 = .pointer (some ⟨s + 4, 0, none⟩) ∧ x1 = .pointer none)) :
    Mix w0 w' (labF lab s f i) (onD D s f i) L (i + 1) c oB cB g := by
  obtain ⟨n', hd', y0, y1, B⟩ : ∃ n' hd' y0 y1, Base w lab i (D i) n' hd' y0 y1 := by
    by_cases e : i + 1 < L
    · exact ⟨_, _, _, _, (M.mid i (Nat.le_refl _) e).1⟩
    · exact ⟨_, _, _, _, M.last i (Nat.le_refl _) (by omega)⟩
  have lk := B.lk
  have lr := B.lr
  have lb := B.lb
  have ll := B.ll
  have lh := B.lh
  have lp := B.lp
  have fz := F.lt
  have zs : w0.heap.size ≤ s := es ▸ M.kept.size
  have hs : ∀ b, lab b / 16 ≠ i + 1 → ¬ (b = (D i).l ∨ b = (D i).h ∨ b = (D i).p) := by
    rintro b hb (rfl | rfl | rfl) <;> omega
  have hl : ∀ c, c < w.heap.size → lab c ≠ 0 → labF lab s f i c = lab c := fun c hc h => labF_old _ _ _ _ _ hf (.inl (by omega)) (.inl h)
  have ek := onD_k D s f i
  have B' : Base w' (labF lab s f i) i (onD D s f i i) m m x0 x1 := by
    rw [onD_at]
    exact ⟨(hl _ B.head.lt (by omega)).trans lk, (hl _ B.cel.lt (by omega)).trans lr, (hl _ B.live.lt (by omega)).trans lb, (hl _ B.live.l.lt (by omega)).trans ll, (hl _ B.live.h.lt (by omega)).trans lh, (hl _ B.live.s0.lt (by omega)).trans lp,
      B.head.kept k (by rintro (e | e | e) <;> (rw [e] at lk; omega)), B.cel.kept k (by rintro (e | e | e) <;> (rw [e] at lr; omega)), Lv⟩
  have F' : Fu w' (labF lab s f i) oB cB i (onD D s f i i) a := by
    rw [onD_at]
    refine ⟨?_, ?_, ?_, Q, U, F.kept k (hs f (by omega))⟩
    · show labF lab s f i (s + 4) = _
      unfold labF; rw [if_neg (by omega), if_pos rfl]
    · show labF lab s f i s = _
      unfold labF; rw [if_neg (by omega), if_neg (by omega), if_pos rfl]
    · show labF lab s f i f = _
      unfold labF; rw [if_pos rfl]
  refine ⟨fun b hb => ?_, fun b hb => ?_, fun j hj => ?_, fun j h1 h2 => ?_, fun j h1 h2 => ?_, ?_, fun j hj => ?_, ?_, ?_⟩
  · rw [labF_old _ _ _ _ _ hf (.inr (by omega)) (.inr (by omega))]; exact M.z b (by omega)
  · rw [labF_old _ _ _ _ _ hf (.inl (by omega)) (.inr (by omega))]; exact M.low b hb
  · by_cases e : j = i
    · subst e
      rcases hc with ⟨h1, rfl, rfl, rfl, rfl⟩ | ⟨h1, rfl, rfl, rfl, rfl⟩
      · refine ⟨fun _ => ⟨?_, ?_, F'⟩, fun h => by omega⟩
        · have := B'; rw [onD_at] at this ⊢; exact this
        · rw [ek, onD_at]
          have C := (M.mid j (Nat.le_refl _) h1).2
          have lq := C.lq
          have lg := C.lg
          exact ⟨(hl _ C.place.lt (by omega)).trans lq, (hl _ C.part.lt (by omega)).trans lg, C.place.kept k (by rintro (e | e | e) <;> (rw [e] at lq; omega)), C.part.kept k (by rintro (e | e | e) <;> (rw [e] at lg; omega))⟩
      · refine ⟨fun h => by omega, fun _ => ⟨?_, F'⟩⟩
        have := B'; rw [onD_at] at this ⊢; exact this
    · exact ((M.done j (by omega)).carry k (fun b hb => hs b (by omega)) hl).congr (onD_other _ _ _ _ _ e) (ek _)
  · rw [onD_other _ _ _ _ _ (show j ≠ i by omega), ek]
    exact ⟨(M.mid j (by omega) h2).1.carry k (fun b hb => hs b (by omega)) hl, (M.mid j (by omega) h2).2.carry k (fun b _ hb => hs b (by omega)) hl⟩
  · rw [onD_other _ _ _ _ _ (show j ≠ i by omega)]
    exact (M.last j (by omega) h2).carry k (fun b hb => hs b (by omega)) hl
  · have G := M.glob
    have lo := G.lo
    have lc := G.lc
    have lcb := G.lb
    exact ⟨(hl _ G.ord.lt (by omega)).trans lo, (hl _ (G.row i hi).lt (by omega)).trans lc, (hl _ G.box.lt (by omega)).trans lcb, G.ord.kept k (hs _ (by omega)), G.box.kept k (hs _ (by omega)), fun j hj => (G.row j hj).kept k (hs _ (by omega))⟩
  · rw [ek]; exact (M.all j hj).kept k (hs _ (by have := M.lg; omega))
  · exact (hl _ (M.all i hi).lt (by have := M.lg; omega)).trans M.lg
  · refine Kept.ofBelow (Kept.below (B := w0.heap.size) (M.kept.mono (T := fun c => w0.heap.size ≤ c) (fun _ _ f => f.elim) |>.trans (k.mono fun b _ e => ?_)) (Nat.le_refl _) fun _ h => h) (Nat.le_refl _) _
    refine Nat.le_of_not_lt fun hb => ?_
    have := M.low b hb
    rcases e with rfl | rfl | rfl <;> omega

theorem made_slot {w : World} {b n : Nat} {t : TypeId} (h : w.heap[b]? = some (.cells (madeCells #[.int .i64 0] n) t)) (j : Nat) (hj : j < n) : Slot w b j (.int .i64 0) := by
  refine ⟨?_, ?_, (Array.getElem?_eq_some_iff.1 h).1⟩
  · simp [World.cell?, h, madeCells, hj, Nat.mod_one]
  · simp [World.frozen?, h]

/-- Where loop 2 stands, with k rounds to come: f points to the variable. -/
def OnRel (w0 wr : World) (L k c oB cB g : Nat) (f : Value) : Prop := ∃ i lab D fb, i + k = L ∧ f = .pointer (some ⟨fb, 0, none⟩) ∧ Slot wr fb 0 (.int .i64 i) ∧ lab fb = 0 ∧ w0.heap.size ≤ fb ∧ Mix w0 wr lab D L i c oB cB g

theorem on_begin {w0 w : World} {lab : Nat → Nat} {D : Nat → Tk} {n g cap L : Nat} (X : Up w0 w lab D n g cap) (eL : L = n + 1) :
    OnRel w0 ((((w.alloc (.cells #[.int .i64 0] 3)).alloc (.cells (madeCells #[.int .i64 0] L) 3)).alloc (.cells #[.slice (some ⟨w.heap.size + 1, 0, none⟩) L L] 29)).alloc (.cells #[.int .i64 0] 3)) L L (w.heap.size + 1) w.heap.size (w.heap.size + 1 + 1) g (.pointer (some ⟨w.heap.size + 1 + 1 + 1, 0, none⟩)) := by
  subst eL
  have gz : g < w.heap.size := (X.own.lt g rfl).2
  have zz := X.kept.size
  have k1 : Kept (fun _ => False) w (w.alloc (.cells #[.int .i64 0] 3)) := (Kept.refl _ _).alloc _
  have k2 := k1.alloc (.cells (madeCells #[.int .i64 0] (n + 1)) 3)
  have k3 := k2.alloc (.cells #[.slice (some ⟨w.heap.size + 1, 0, none⟩) (n + 1) (n + 1)] 29)
  have k4 := k3.alloc (.cells #[.int .i64 0] 3)
  refine ⟨0, labG lab w.heap.size g, D, w.heap.size + 1 + 1 + 1, by omega, rfl, ⟨?_, ?_, ?_⟩, ?_, by omega, mix_start X rfl k4 (by simp) ⟨?_, ?_, ?_⟩ ⟨?_, ?_, ?_⟩ fun j hj => made_slot (n := n + 1) (t := 3) ?_ j hj⟩
  · go_simp
  · go_simp
  · simp
  · rw [labG_old _ _ _ _ X.lg (.inr (by omega)) (.inr (by omega))]; exact X.grow.z _ (by omega)
  · go_simp
  · go_simp
  · simp; omega
  · go_simp
  · go_simp
  · simp
  · refine block_old _ _ _ (by simp) (block_old _ _ _ (by simp) (block_last _ _ _ (by simp)))

theorem Alive.is {w : World} {lab : Nat → Nat} {L oB cB : Nat} {D : Nat → Tk} {j : Nat} (A : Alive w lab L oB cB D j) (hj : j < L) : w.cell? ⟨(D j).k, 0, none⟩ = some (.pointer (some ⟨(D j).r, 0, none⟩)) ∧ Cel w (D j).r 0 ∧ lab (D j).k / 16 = j + 1 ∧ lab (D j).r / 16 = j + 1 ∧ (D j).k < w.heap.size := by
  by_cases e : j + 1 < L
  · have b := (A.mid e).1; have := b.lk; have := b.lr; exact ⟨b.head.k0, b.cel, by omega, by omega, b.head.lt⟩
  · have b := (A.fin (by omega)).1; have := b.lk; have := b.lr; exact ⟨b.head.k0, b.cel, by omega, by omega, b.head.lt⟩

/-- What stands ahead of loop 3: each token's reason, and when its function was called. -/
structure Fin (w0 w : World) (D : Nat → Tk) (L c cB g : Nat) (want turn : Nat → Int) : Prop where
  is : ∀ j, j < L → w.cell? ⟨(D j).k, 0, none⟩ = some (.pointer (some ⟨(D j).r, 0, none⟩))
  cel : ∀ j, j < L → Cel w (D j).r (want j)
  box : Slot w cB 0 (.slice (some ⟨c, 0, none⟩) L L)
  row : ∀ j, j < L → Slot w c j (.int .i64 (turn j))
  all : ∀ j, j < L → Slot w g j (.pointer (some ⟨(D j).k, 0, none⟩))
  kept : Kept (fun _ => False) w0 w

theorem fin_below {w0 w : World} {lab : Nat → Nat} {D : Nat → Tk} {L c oB cB g : Nat} (M : Mix w0 w lab D L L c oB cB g) : Fin w0 w D L c cB g (fun _ => 0) (fun _ => 0) :=
  ⟨fun j hj => ((M.done j hj).is hj).1, fun j hj => ((M.done j hj).is hj).2.1, M.glob.box, M.glob.row, M.all, M.kept⟩

theorem fin_gone {w0 w w' : World} {lab : Nat → Nat} {D : Nat → Tk} {L c oB cB g i : Nat} {x : Int} (M : Mix w0 w lab D L L c oB cB g) (N : Gone w lab L D c oB cB x i 0 (fun _ => 0) w') :
    Fin w0 w' D L c cB g (fun j => if i ≤ j then x else 0) (fun j => if i ≤ j then (L : Int) - j else 0) := by
  refine ⟨fun j hj => ?_, fun j hj => ?_, N.glob.box, fun j hj => ?_, fun j hj => (M.all j hj).kept N.kept (by have := M.lg; omega), ?_⟩
  · by_cases e : i ≤ j
    · exact N.is j e hj
    · obtain ⟨a, _, b, _, lt⟩ := (M.done j hj).is hj
      exact (N.kept.cell (p := ⟨(D j).k, 0, none⟩) lt (by show ¬ (16 * (i + 1) ≤ lab (D j).k ∨ lab (D j).k = 1 ∨ lab (D j).k = 2); omega)).trans a
  · by_cases e : i ≤ j
    · simp only [if_pos e]; exact N.cel j e hj
    · simp only [if_neg e]
      obtain ⟨_, a, _, b, _⟩ := (M.done j hj).is hj
      exact a.kept N.kept (by omega)
  · have h := N.glob.row j hj
    by_cases e : i ≤ j
    · simp only [if_pos e] at h ⊢
      rw [show (0 : Int) + ((L : Int) - j) = (L : Int) - j by omega] at h; exact h
    · simp only [if_neg e] at h ⊢; exact h
  · refine Kept.ofBelow (Kept.below (B := w0.heap.size) (M.kept.mono (T := fun c => w0.heap.size ≤ c) (fun _ _ f => f.elim) |>.trans (N.kept.mono fun b _ e => ?_)) (Nat.le_refl _) fun _ h => h) (Nat.le_refl _) _
    refine Nat.le_of_not_lt fun hb => ?_
    have := M.low b hb
    omega

/-- What the end of the law needs. -/
def EndRel (w0 w : World) (D : Nat → Tk) (L c cB g i : Nat) (x : Int) : Prop :=
  Fin w0 w D L c cB g (fun j => if 1 ≤ x ∧ i ≤ j then x else 0) (fun j => if 1 ≤ x ∧ i ≤ j then (L : Int) - j else 0)

theorem end_below {w0 w : World} {lab : Nat → Nat} {D : Nat → Tk} {L c oB cB g i : Nat} {x : Int} (hx : ¬ 1 ≤ x) (M : Mix w0 w lab D L L c oB cB g) : EndRel w0 w D L c cB g i x := by
  have h := fin_below M
  unfold EndRel
  simp only [hx, false_and, if_false]
  exact h

theorem end_gone {w0 w w' : World} {lab : Nat → Nat} {D : Nat → Tk} {L c oB cB g i : Nat} {x : Int} (hx : 1 ≤ x) (M : Mix w0 w lab D L L c oB cB g) (N : Gone w lab L D c oB cB x i 0 (fun _ => 0) w') : EndRel w0 w' D L c cB g i x := by
  have h := fin_gone M N
  unfold EndRel
  simp only [hx, true_and]
  exact h

end Go.Proofs.Ytjenckjodkmdkaa

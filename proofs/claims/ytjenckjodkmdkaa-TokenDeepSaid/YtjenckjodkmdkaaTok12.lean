/-
  treadlelaw11.TokenDeep: the row while it grows.
-/
import Derived.Test.YtjenckjodkmdkaaTok11
import Derived.Deep.AppendLies
namespace Go.Proofs.Ytjenckjodkmdkaa
open Go.RowKit

/-- Tokens 0 to n, each one's child; nobody has a function yet. -/
structure Grow (w : World) (lab : Nat → Nat) (D : Nat → Tk) (n : Nat) : Prop where
  z : ∀ b, w.heap.size ≤ b → lab b = 0
  mid : ∀ j, j < n → Base w lab j (D j) 1 1 (.pointer (some ⟨(D j).q0, 0, none⟩)) (.pointer none) ∧ Ch w lab j (D j) (D (j + 1)).k
  last : Base w lab n (D n) 0 0 (.pointer none) (.pointer none)

theorem Grow.kept {S : Nat → Prop} {w w' : World} {lab : Nat → Nat} {D : Nat → Tk} {n : Nat} (G : Grow w lab D n) (k : Kept S w w') (hs : ∀ b, lab b ≠ 0 → ¬ S b) : Grow w' lab D n :=
  ⟨fun b hb => G.z b (Nat.le_trans k.size hb), fun j hj => ⟨(G.mid j hj).1.carry k (fun c h => hs c (by omega)) fun _ _ _ => rfl, (G.mid j hj).2.carry k (fun c _ h => hs c (by omega)) fun _ _ _ => rfl⟩,
    G.last.carry k (fun c h => hs c (by omega)) fun _ _ _ => rfl⟩

/-- The labels behind a Child. -/
def labUp (lab : Nat → Nat) (s l h p n : Nat) : Nat → Nat := fun b =>
  if b < s then lab b else if b = s + 5 then 16 * (n + 2) + 1 else if b = s then 16 * (n + 2) + 2 else if b = s + 4 then 16 * (n + 2) + 3 else if b = l then 16 * (n + 2) + 4 else if b = h then 16 * (n + 2) + 5
  else if b = p then 16 * (n + 2) + 6 else if b = s + 10 then 16 * (n + 1) + 7 else if b = s + 6 then 16 * (n + 1) + 9 else 0

def upD (D : Nat → Tk) (s l h p n : Nat) : Nat → Tk :=
  put (put D n { D n with q0 := s + 10, g0 := s + 6 }) (n + 1) { k := s + 5, r := s, b := s + 4, l := l, h := h, p := p, q0 := 0, q1 := 0, g0 := 0, g1 := 0, f := 0 }

theorem upD_old (D : Nat → Tk) (s l h p n j : Nat) (hj : j < n) : upD D s l h p n j = D j := by
  unfold upD; rw [put_other _ _ _ _ (by omega), put_other _ _ _ _ (by omega)]

theorem upD_at (D : Nat → Tk) (s l h p n : Nat) : upD D s l h p n n = { D n with q0 := s + 10, g0 := s + 6 } := by
  unfold upD; rw [put_other _ _ _ _ (by omega), put_same]

theorem upD_new (D : Nat → Tk) (s l h p n : Nat) : upD D s l h p n (n + 1) = { k := s + 5, r := s, b := s + 4, l := l, h := h, p := p, q0 := 0, q1 := 0, g0 := 0, g1 := 0, f := 0 } := by
  unfold upD; rw [put_same]

theorem upD_k (D : Nat → Tk) (s l h p n j : Nat) (hj : j ≤ n) : (upD D s l h p n j).k = (D j).k := by
  by_cases e : j = n
  · subst e; rw [upD_at]
  · rw [upD_old _ _ _ _ _ _ _ (by omega)]

theorem labUp_old (lab : Nat → Nat) (s l h p n b : Nat) (hb : b < s) : labUp lab s l h p n b = lab b := by unfold labUp; rw [if_pos hb]

theorem labUp_k (lab : Nat → Nat) (s l h p n : Nat) : labUp lab s l h p n (s + 5) = 16 * (n + 2) + 1 := by
  unfold labUp; rw [if_neg (by omega), if_pos rfl]

theorem labUp_r (lab : Nat → Nat) (s l h p n : Nat) : labUp lab s l h p n (s) = 16 * (n + 2) + 2 := by
  unfold labUp; rw [if_neg (by omega), if_neg (by omega), if_pos rfl]

theorem labUp_b (lab : Nat → Nat) (s l h p n : Nat) : labUp lab s l h p n (s + 4) = 16 * (n + 2) + 3 := by
  unfold labUp; rw [if_neg (by omega), if_neg (by omega), if_neg (by omega), if_pos rfl]

theorem labUp_l (lab : Nat → Nat) (s l h p n : Nat) (sl : s + 1 ≤ l ∧ l < s + 4) : labUp lab s l h p n (l) = 16 * (n + 2) + 4 := by
  unfold labUp; rw [if_neg (by omega), if_neg (by omega), if_neg (by omega), if_neg (by omega), if_pos rfl]

theorem labUp_h (lab : Nat → Nat) (s l h p n : Nat) (sh : s + 1 ≤ h ∧ h < s + 4) (ne : l ≠ h ∧ l ≠ p ∧ h ≠ p) : labUp lab s l h p n (h) = 16 * (n + 2) + 5 := by
  unfold labUp; rw [if_neg (by omega), if_neg (by omega), if_neg (by omega), if_neg (by omega), if_neg (by omega), if_pos rfl]

theorem labUp_p (lab : Nat → Nat) (s l h p n : Nat) (sp : s + 1 ≤ p ∧ p < s + 4) (ne : l ≠ h ∧ l ≠ p ∧ h ≠ p) : labUp lab s l h p n (p) = 16 * (n + 2) + 6 := by
  unfold labUp; rw [if_neg (by omega), if_neg (by omega), if_neg (by omega), if_neg (by omega), if_neg (by omega), if_neg (by omega), if_pos rfl]

theorem labUp_q (lab : Nat → Nat) (s l h p n : Nat) (sl : s + 1 ≤ l ∧ l < s + 4) (sh : s + 1 ≤ h ∧ h < s + 4) (sp : s + 1 ≤ p ∧ p < s + 4) : labUp lab s l h p n (s + 10) = 16 * (n + 1) + 7 := by
  unfold labUp; rw [if_neg (by omega), if_neg (by omega), if_neg (by omega), if_neg (by omega), if_neg (by omega), if_neg (by omega), if_neg (by omega), if_pos rfl]

theorem labUp_g (lab : Nat → Nat) (s l h p n : Nat) (sl : s + 1 ≤ l ∧ l < s + 4) (sh : s + 1 ≤ h ∧ h < s + 4) (sp : s + 1 ≤ p ∧ p < s + 4) : labUp lab s l h p n (s + 6) = 16 * (n + 1) + 9 := by
  unfold labUp; rw [if_neg (by omega), if_neg (by omega), if_neg (by omega), if_neg (by omega), if_neg (by omega), if_neg (by omega), if_neg (by omega), if_neg (by omega), if_pos rfl]

theorem labUp_z (lab : Nat → Nat) (s l h p n b : Nat) (sl : s + 1 ≤ l ∧ l < s + 4) (sh : s + 1 ≤ h ∧ h < s + 4) (sp : s + 1 ≤ p ∧ p < s + 4) (hb : s + 11 ≤ b) : labUp lab s l h p n b = 0 := by
  unfold labUp; rw [if_neg (by omega), if_neg (by omega), if_neg (by omega), if_neg (by omega), if_neg (by omega), if_neg (by omega), if_neg (by omega), if_neg (by omega), if_neg (by omega)]

theorem grow_up {w w' : World} {lab : Nat → Nat} {D : Nat → Tk} {n s l h p : Nat} (G : Grow w lab D n) (es : w.heap.size = s) (es' : w'.heap.size = s + 11) (N : New w' s l h p (n + 1))
    (L : Live w' (D n).b (D n).l (D n).h (D n).p 1 1 (.pointer (some ⟨s + 10, 0, none⟩)) (.pointer none)) (Q : Two w' (s + 10) (.pointer (some ⟨s + 6, 0, none⟩)) (.int .i64 0)) (U : Two w' (s + 6) (.pointer (some ⟨s + 5, 0, none⟩)) .nilFunc)
    (k : Kept (fun c => c = (D n).l ∨ c = (D n).h ∨ c = (D n).p) w w') : Grow w' (labUp lab s l h p n) (upD D s l h p n) (n + 1) := by
  have sl := N.sl
  have sh := N.sh
  have sp := N.sp
  have ne := N.ne
  have B := G.last
  have lk := B.lk
  have lr := B.lr
  have lb := B.lb
  have ll := B.ll
  have lh := B.lh
  have lp := B.lp
  have hl : ∀ c, c < w.heap.size → lab c ≠ 0 → labUp lab s l h p n c = lab c := fun c hc _ => labUp_old _ _ _ _ _ _ _ (by omega)
  have kz : (D n).k < s := es ▸ B.head.lt
  have rz : (D n).r < s := es ▸ B.cel.lt
  have bz : (D n).b < s := es ▸ B.live.lt
  have lz : (D n).l < s := es ▸ B.live.l.lt
  have hz : (D n).h < s := es ▸ B.live.h.lt
  have pz : (D n).p < s := es ▸ B.live.s0.lt
  refine ⟨fun b hb => ?_, fun j hj => ?_, ?_⟩
  · exact labUp_z _ _ _ _ _ _ _ sl sh sp (by omega)
  · by_cases e : j = n
    · subst e
      rw [upD_at, upD_new]
      refine ⟨⟨?_, ?_, ?_, ?_, ?_, ?_, ?_, ?_, L⟩, ⟨?_, ?_, Q, U⟩⟩
      · rw [labUp_old _ _ _ _ _ _ _ kz]; exact lk
      · rw [labUp_old _ _ _ _ _ _ _ rz]; exact lr
      · rw [labUp_old _ _ _ _ _ _ _ bz]; exact lb
      · rw [labUp_old _ _ _ _ _ _ _ lz]; exact ll
      · rw [labUp_old _ _ _ _ _ _ _ hz]; exact lh
      · rw [labUp_old _ _ _ _ _ _ _ pz]; exact lp
      · exact B.head.kept k (by rintro (e | e | e) <;> (rw [e] at lk; omega))
      · exact B.cel.kept k (by rintro (e | e | e) <;> (rw [e] at lr; omega))
      · rw [labUp_q _ _ _ _ _ _ sl sh sp]
      · rw [labUp_g _ _ _ _ _ _ sl sh sp]
    · have hjn : j < n := by omega
      rw [upD_old _ _ _ _ _ _ _ hjn, upD_k _ _ _ _ _ _ _ (show j + 1 ≤ n by omega)]
      refine ⟨(G.mid j hjn).1.carry k ?_ hl, (G.mid j hjn).2.carry k ?_ hl⟩
      · rintro c hc (rfl | rfl | rfl) <;> omega
      · rintro c _ hc (rfl | rfl | rfl) <;> omega
  · rw [upD_new]
    exact ⟨labUp_k _ _ _ _ _ _, labUp_r _ _ _ _ _ _, labUp_b _ _ _ _ _ _, labUp_l _ _ _ _ _ _ sl, labUp_h _ _ _ _ _ _ sh ne, labUp_p _ _ _ _ _ _ sp ne, N.hd, N.r, N.live⟩

/-- The row of the tokens' pointers. -/
def rowOf (D : Nat → Tk) (n : Nat) : List Value := (List.range n).map fun j => .pointer (some ⟨(D j).k, 0, none⟩)

theorem rowOf_succ (D : Nat → Tk) (n : Nat) : rowOf D (n + 1) = rowOf D n ++ [.pointer (some ⟨(D n).k, 0, none⟩)] := by
  unfold rowOf; rw [List.range_succ, List.map_append]; rfl

theorem rowOf_congr {D D' : Nat → Tk} {n : Nat} (h : ∀ j, j < n → (D' j).k = (D j).k) : rowOf D' n = rowOf D n := by
  unfold rowOf; exact List.map_congr_left fun j hj => by rw [h j (List.mem_range.1 hj)]

theorem rowOf_at (D : Nat → Tk) (n j : Nat) (h : j < n) : (rowOf D n)[j]? = some (.pointer (some ⟨(D j).k, 0, none⟩)) := by
  unfold rowOf; simp [h]

theorem own_kept {S : Nat → Prop} {w w' : World} {base n : Nat} {e : TypeId} {size : Nat} {v : Value} {xs : List Value} (h : w.ownsRow base e size v n xs) (k : Kept S w w') (hs : ∀ g, v.ownBlock = some g → ¬ S g) : w'.ownsRow base e size v n xs := by
  refine ⟨h.1, ?_⟩
  rcases h.2 with hn | ⟨g, cap, cur, rfl, hb, hg, rest⟩
  · exact .inl hn
  · exact .inr ⟨g, cap, cur, rfl, hb, (k.block g (Array.getElem?_eq_some_iff.1 hg).1 (hs g rfl)).trans hg, rest⟩

theorem kept_grown {w w' : World} {row : Option Nat} (h : w.grownBy w' row) : Kept (fun b => row = some b) w w' :=
  ⟨h.os, h.tape, h.output, h.size, fun k hk hs => h.block k hk fun e => hs e.symm⟩

/-- Where loop 1 stands: tokens 0 to n, and the row g of pointers to them. -/
structure Up (w0 : World) (w : World) (lab : Nat → Nat) (D : Nat → Tk) (n g cap : Nat) : Prop where
  grow : Grow w lab D n
  own : w.ownsRow w0.heap.size 23 1 (.slice (some ⟨g, 0, none⟩) (n + 1) cap) (n + 1) (rowOf D (n + 1))
  lg : lab g = 0
  low : ∀ b, b < w0.heap.size → lab b = 0
  kept : Kept (fun _ => False) w0 w

theorem Up.child {w0 w w' : World} {lab : Nat → Nat} {D : Nat → Tk} {n g cap s l h p : Nat} (X : Up w0 w lab D n g cap) (es : w.heap.size = s) (es' : w'.heap.size = s + 11) (N : New w' s l h p (n + 1))
    (L : Live w' (D n).b (D n).l (D n).h (D n).p 1 1 (.pointer (some ⟨s + 10, 0, none⟩)) (.pointer none)) (Q : Two w' (s + 10) (.pointer (some ⟨s + 6, 0, none⟩)) (.int .i64 0)) (U : Two w' (s + 6) (.pointer (some ⟨s + 5, 0, none⟩)) .nilFunc)
    (k : Kept (fun c => c = (D n).l ∨ c = (D n).h ∨ c = (D n).p) w w') :
    Grow w' (labUp lab s l h p n) (upD D s l h p n) (n + 1) ∧ w'.ownsRow w0.heap.size 23 1 (.slice (some ⟨g, 0, none⟩) (n + 1) cap) (n + 1) (rowOf (upD D s l h p n) (n + 1)) ∧
      labUp lab s l h p n g = 0 ∧ g < s ∧ (∀ b, b < w0.heap.size → labUp lab s l h p n b = 0) ∧ Kept (fun _ => False) w0 w' ∧ w0.heap.size ≤ s := by
  have gz : g < s := es ▸ (X.own.lt g rfl).2
  have zz : w0.heap.size ≤ s := es ▸ X.kept.size
  have ll := X.grow.last.ll
  have lh := X.grow.last.lh
  have lp := X.grow.last.lp
  have lg := X.lg
  refine ⟨grow_up X.grow es es' N L Q U k, ?_, ?_, gz, ?_, ?_, zz⟩
  · rw [rowOf_congr (D := D) fun j hj => upD_k _ _ _ _ _ _ _ (by omega)]
    refine own_kept X.own k fun b hb => ?_
    have : b = g := by simpa [Value.ownBlock] using hb.symm
    subst this
    rintro (e | e | e) <;> (rw [e] at lg; omega)
  · rw [labUp_old _ _ _ _ _ _ _ gz]; exact lg
  · intro b hb; rw [labUp_old _ _ _ _ _ _ _ (by omega)]; exact X.low b hb
  · refine Kept.ofBelow (Kept.below (B := w0.heap.size) (X.kept.mono (T := fun c => w0.heap.size ≤ c) (fun _ _ f => f.elim) |>.trans (k.mono fun c _ e => ?_)) (Nat.le_refl _) fun _ h => h) (Nat.le_refl _) _
    refine Nat.le_of_not_lt fun hc => ?_
    have := X.low c hc
    rcases e with rfl | rfl | rfl <;> omega

theorem Up.next {w0 w w2 : World} {lab : Nat → Nat} {D : Nat → Tk} {n g cap g' cap' s l h p : Nat} {o : Obj} (G : Grow w (labUp lab s l h p n) (upD D s l h p n) (n + 1))
    (own : w.ownsRow w0.heap.size 23 1 (.slice (some ⟨g, 0, none⟩) (n + 1) cap) (n + 1) (rowOf (upD D s l h p n) (n + 1))) (lg : labUp lab s l h p n g = 0) (low : ∀ b, b < w0.heap.size → labUp lab s l h p n b = 0) (k : Kept (fun _ => False) w0 w)
    (own2 : w2.ownsRow w0.heap.size 23 1 (.slice (some ⟨g', 0, none⟩) (n + 1 + 1) cap') (n + 1 + 1) (rowOf (upD D s l h p n) (n + 1) ++ [.pointer (some ⟨s + 5, 0, none⟩)]))
    (grown : (w.alloc o).grownBy w2 (Value.slice (some ⟨g, 0, none⟩) (n + 1) cap).ownBlock) (hg : (Value.slice (some ⟨g, 0, none⟩) (n + 1) cap).ownBlock = some g' ∨ g' = w.heap.size + 1) :
    Up w0 w2 (labUp lab s l h p n) (upD D s l h p n) (n + 1) g' cap' := by
  have ka : Kept (fun _ => False) w (w.alloc o) := (Kept.refl _ _).alloc _
  have kg : Kept (fun b => b = g) (w.alloc o) w2 := (kept_grown grown).mono fun b _ e => by simpa [Value.ownBlock] using e.symm
  have gz := own.lt g rfl
  refine ⟨(G.kept ka fun _ _ => id).kept kg fun b hb e => hb (by rw [e]; exact lg), ?_, ?_, low, ?_⟩
  · rw [rowOf_succ _ (n + 1), upD_new]; exact own2
  · rcases hg with e | e
    · have : g' = g := by simpa [Value.ownBlock] using e.symm
      rw [this]; exact lg
    · exact G.z _ (by omega)
  · exact Kept.ofBelow (Kept.below (B := w0.heap.size) ((k.mono (T := fun c => w0.heap.size ≤ c) (fun _ _ f => f.elim) |>.trans (ka.mono fun _ _ f => f.elim)).trans (kg.mono fun c _ e => by omega)) (Nat.le_refl _) fun _ h => h) (Nat.le_refl _) _

end Go.Proofs.Ytjenckjodkmdkaa

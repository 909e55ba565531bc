/-
  LimitOrder: what stands in memory.
-/
import Derived.Test.YtkbcpifhbpfhlaaGreatDoorOrd3
namespace Go.Proofs.YtkbcpifhbpfhlaaGreatDoor
open Go.RowKit

/-- A row of pointers. -/
def rowP (p : Nat → Nat) (i : Nat) : List Value := (List.range i).map fun k => .pointer (some ⟨p k, 0, none⟩)

theorem rowP_succ (p : Nat → Nat) (i : Nat) : rowP p (i + 1) = rowP p i ++ [.pointer (some ⟨p i, 0, none⟩)] := by
  unfold rowP; rw [List.range_succ, List.map_append]; rfl

theorem rowP_at (p : Nat → Nat) (i k : Nat) (h : k < i) : (rowP p i)[k]? = some (.pointer (some ⟨p k, 0, none⟩)) := by
  unfold rowP; simp [h]

theorem rowP_congr {p q : Nat → Nat} {i : Nat} (h : ∀ k, k < i → p k = q k) : rowP p i = rowP q i := by
  unfold rowP; exact List.map_congr_left fun a ha => by rw [h a (List.mem_range.1 ha)]

/-- While the futures are made: ic of them, iF in the one row, iG in the other. -/
structure LayO (w0 w : World) (n B ic iF iG : Nat) (ids : Nat → Ids) (d : Nat → Int) (fv gv : Value) : Prop where
  lays : Lays n ic ids
  items : ∀ k, k < ic → Itm w n k (ids k) (d k) 2
  clk : ∃ dd f, Clk w n 0 0 (sts ic fun _ => false) dd f ∧ (∀ k, k < ic → dd k = d k) ∧ ∀ k, k < ic → f k = ringOf (ids k).b
  base : n + 35 ≤ B ∧ B ≤ w.heap.size
  ownF : w.ownsRow B 26 1 fv iF (rowP (fun k => (ids k).nf + 5) iF)
  ownG : w.ownsRow B 26 1 gv iG (rowP (fun k => (ids k).ng + 5) iG)
  farF : ∀ g, fv.ownBlock = some g → gv.ownBlock ≠ some g ∧ ∀ k, k < ic → ¬ (ids k).Own g
  farG : ∀ g, gv.ownBlock = some g → ∀ k, k < ic → ¬ (ids k).Own g
  kept : Kept (fun _ => False) w0 w
  n0 : w0.heap.size = n

theorem layO_start {w0 w : World} {n : Nat} {ids : Nat → Ids} {d : Nat → Int} (hn : w0.heap.size = n) (C : Clk w n 0 0 (fun _ => 0) (fun _ => 0) (fun _ => .nilFunc)) (K : Kept (fun _ => False) w0 w) :
    LayO w0 w n w.heap.size 0 0 0 ids d (.slice none 0 0) (.slice none 0 0) :=
  ⟨⟨fun _ h => by omega, fun _ h => by omega, fun _ _ _ h => by omega⟩, fun _ h => by omega, ⟨_, _, by rw [sts_zero]; exact C, fun _ h => by omega, fun _ h => by omega⟩, ⟨C.size, Nat.le_refl _⟩, World.ownsRow_nil _ _ _ _, World.ownsRow_nil _ _ _ _,
    fun g h => (by cases h), fun g h => (by cases h), K, hn⟩

theorem LayO.still {w0 w w' : World} {n B ic iF iG : Nat} {ids : Nat → Ids} {d : Nat → Int} {fv gv : Value} (X : LayO w0 w n B ic iF iG ids d fv gv) (k : Kept (fun _ => False) w w') : LayO w0 w' n B ic iF iG ids d fv gv := by
  obtain ⟨dd, f, C, h1, h2⟩ := X.clk
  exact ⟨X.lays, fun j hj => (X.items j hj).kept k fun _ _ h => h, ⟨dd, f, C.kept k fun _ _ h => h, h1, h2⟩, ⟨X.base.1, Nat.le_trans X.base.2 k.size⟩, own_kept X.ownF k fun _ _ h => h, own_kept X.ownG k fun _ _ h => h, X.farF, X.farG, X.kept.trans k, X.n0⟩

/-- Behind a Within. -/
theorem layO_within {w0 w w2 w3 : World} {n B i : Nat} {ids : Nat → Ids} {d dd : Nat → Int} {f : Nat → Value} {fv gv : Value} {I : Ids} (X : LayO w0 w n B i i i ids d fv gv) (K2 : Kept (fun _ => False) w w2) (hsz : w.heap.size + 6 ≤ w2.heap.size)
    (e1 : I.nf = w.heap.size) (g1 : w2.heap.size ≤ I.ng) (H : Itm w3 n i I (d i) 2) (C : Clk w3 n 0 0 (put (sts i fun _ => false) i 2) (put dd i (d i)) (put f i (ringOf I.b))) (hd : ∀ k, k < i → dd k = d k) (hf : ∀ k, k < i → f k = ringOf (ids k).b)
    (K : Kept (fun k => Own n k ∨ FOwn w.heap.size k) w2 w3) : LayO w0 w3 n B (i + 1) i i (put ids i I) d fv gv := by
  have hb := X.base
  have ho : ∀ c, n + 35 ≤ c → c < w.heap.size → ¬ (Own n c ∨ FOwn w.heap.size c) := by
    rintro c h1 h2 (h | h)
    · have := h.2; omega
    · have := h.1; omega
  have hid : ∀ k, k < i → ∀ c, (ids k).Own c → n + 35 ≤ c ∧ c < w.heap.size := by
    intro k hk c hc
    have l := X.lays.low k hk
    have o := (X.lays.ok k hk).le
    have t := (X.items k hk).lt
    rcases hc with hc | hc <;> omega
  refine ⟨⟨fun k hk => ?_, fun k hk => ?_, fun j k hjk hk => ?_⟩, fun k hk => ?_, ⟨_, _, by rw [sts_next _ _ rfl] at C; exact C, fun k hk => ?_, fun k hk => ?_⟩, ⟨hb.1, by have := K2.size; have := K.size; omega⟩, ?_, ?_, fun g hg => ⟨(X.farF g hg).1, fun k hk => ?_⟩, fun g hg k hk => ?_, ?_, X.n0⟩
  · by_cases e : k = i
    · subst e; rw [put_same]; exact H.ok
    · rw [put_other _ _ _ _ e]; exact X.lays.ok k (by omega)
  · by_cases e : k = i
    · subst e; rw [put_same, e1]; omega
    · rw [put_other _ _ _ _ e]; exact X.lays.low k (by omega)
  · by_cases e : k = i
    · subst e; rw [put_same, put_other _ _ _ _ (by omega), e1]; exact (X.items j hjk).lt
    · rw [put_other _ _ _ _ e, put_other _ _ _ _ (by omega)]; exact X.lays.ord j k hjk (by omega)
  · by_cases e : k = i
    · subst e; rw [put_same]; exact H
    · rw [put_other _ _ _ _ e]
      refine ((X.items k (by omega)).kept K2 fun _ _ h => h).kept K fun c hc => ?_
      have := hid k (by omega) c hc
      exact ho c this.1 this.2
  · by_cases e : k = i
    · subst e; rw [put_same]
    · rw [put_other _ _ _ _ e]; exact hd k (by omega)
  · by_cases e : k = i
    · subst e; rw [put_same, put_same]
    · rw [put_other _ _ _ _ e, put_other _ _ _ _ e]; exact hf k (by omega)
  · rw [rowP_congr (q := fun k => (ids k).nf + 5) fun k hk => by rw [put_other _ _ _ _ (by omega)]]
    exact own_kept (own_kept X.ownF K2 fun _ _ h => h) K fun g hg => ho g (by have := (X.ownF.lt g hg).1; omega) (X.ownF.lt g hg).2
  · rw [rowP_congr (q := fun k => (ids k).ng + 5) fun k hk => by rw [put_other _ _ _ _ (by omega)]]
    exact own_kept (own_kept X.ownG K2 fun _ _ h => h) K fun g hg => ho g (by have := (X.ownG.lt g hg).1; omega) (X.ownG.lt g hg).2
  · by_cases e : k = i
    · subst e; rw [put_same]
      have := (X.ownF.lt g hg).2
      rintro (h | h) <;> omega
    · rw [put_other _ _ _ _ e]; exact (X.farF g hg).2 k (by omega)
  · by_cases e : k = i
    · subst e; rw [put_same]
      have := (X.ownG.lt g hg).2
      rintro (h | h) <;> omega
    · rw [put_other _ _ _ _ e]; exact X.farG g hg k (by omega)
  · refine (X.kept.trans K2).far K ?_
    have := X.n0
    rintro c (h | h)
    · have := h.1; omega
    · have := h.1; omega

/-- Behind the first append. -/
theorem layO_appF {w0 w w' : World} {n B i g cap : Nat} {ids : Nat → Ids} {d : Nat → Int} {fv gv : Value} {o : Obj} (X : LayO w0 w n B (i + 1) i i ids d fv gv)
    (own' : w'.ownsRow B 26 1 (.slice (some ⟨g, 0, none⟩) (i + 1) cap) (i + 1) (rowP (fun k => (ids k).nf + 5) i ++ [.pointer (some ⟨(ids i).nf + 5, 0, none⟩)])) (grown' : (w.alloc o).grownBy w' fv.ownBlock) (lies' : fv.ownBlock = some g ∨ g = w.heap.size + 1) :
    LayO w0 w' n B (i + 1) (i + 1) i ids d (.slice (some ⟨g, 0, none⟩) (i + 1) cap) gv := by
  have hb := X.base
  have ka : Kept (fun _ => False) w (w.alloc o) := (Kept.refl _ _).alloc _
  have k : Kept (fun b => fv.ownBlock = some b) w w' := (ka.mono fun _ _ f => f.elim).trans (kept_grown grown')
  obtain ⟨dd, f, C, h1, h2⟩ := X.clk
  refine ⟨X.lays, fun j hj => (X.items j hj).kept k fun c hc e => (X.farF c e).2 j hj hc, ⟨dd, f, C.kept k fun c hc e => by have := (X.ownF.lt c e).1; have := hc.2; omega, h1, h2⟩, ⟨hb.1, Nat.le_trans hb.2 k.size⟩, by rw [rowP_succ]; exact own', own_kept X.ownG k fun g hg e => (X.farF g e).1 hg, fun g' hg' => ?_, X.farG, X.kept.far k fun c e => by have := (X.ownF.lt c e).1; have := X.n0; omega, X.n0⟩
  obtain rfl : g' = g := by simpa [Value.ownBlock] using hg'.symm
  rcases lies' with e | e
  · exact X.farF _ e
  · refine ⟨fun hg => ?_, fun j hj hc => ?_⟩
    · have := (X.ownG.lt _ hg).2; omega
    · have := (X.items j hj).lt
      have := (X.lays.ok j hj).le
      rcases hc with hc | hc <;> omega

/-- Behind the second one. -/
theorem layO_appG {w0 w w' : World} {n B i g cap : Nat} {ids : Nat → Ids} {d : Nat → Int} {fv gv : Value} {o : Obj} (X : LayO w0 w n B (i + 1) (i + 1) i ids d fv gv)
    (own' : w'.ownsRow B 26 1 (.slice (some ⟨g, 0, none⟩) (i + 1) cap) (i + 1) (rowP (fun k => (ids k).ng + 5) i ++ [.pointer (some ⟨(ids i).ng + 5, 0, none⟩)])) (grown' : (w.alloc o).grownBy w' gv.ownBlock) (lies' : gv.ownBlock = some g ∨ g = w.heap.size + 1) :
    LayO w0 w' n B (i + 1) (i + 1) (i + 1) ids d fv (.slice (some ⟨g, 0, none⟩) (i + 1) cap) := by
  have hb := X.base
  have ka : Kept (fun _ => False) w (w.alloc o) := (Kept.refl _ _).alloc _
  have k : Kept (fun b => gv.ownBlock = some b) w w' := (ka.mono fun _ _ f => f.elim).trans (kept_grown grown')
  obtain ⟨dd, f, C, h1, h2⟩ := X.clk
  have hgg : ∀ g', (Value.slice (some ⟨g, 0, none⟩) (i + 1) cap).ownBlock = some g' → g' = g := fun g' h => by simpa [Value.ownBlock] using h.symm
  refine ⟨X.lays, fun j hj => (X.items j hj).kept k fun c hc e => X.farG c e j hj hc, ⟨dd, f, C.kept k fun c hc e => by have := (X.ownG.lt c e).1; have := hc.2; omega, h1, h2⟩, ⟨hb.1, Nat.le_trans hb.2 k.size⟩, own_kept X.ownF k fun g hg e => (X.farF g hg).1 e, by rw [rowP_succ]; exact own', fun g' hg' => ⟨fun h => ?_, (X.farF g' hg').2⟩, fun g' hg' j hj hc => ?_, X.kept.far k fun c e => by have := (X.ownG.lt c e).1; have := X.n0; omega, X.n0⟩
  · obtain rfl := hgg g' h
    rcases lies' with e | e
    · exact (X.farF _ hg').1 e
    · have := (X.ownF.lt _ hg').2; omega
  · obtain rfl := hgg g' hg'
    rcases lies' with e | e
    · exact X.farG _ e j hj hc
    · have := (X.items j hj).lt
      have := (X.lays.ok j hj).le
      rcases hc with hc | hc <;> omega

/-- All that stands: the rows at fB, gB; the row eB, in which er is written; en: what it has come to. -/
structure Stand (w0 w : World) (n fB gB eB m : Nat) (ids : Nat → Ids) (d : Nat → Int) (er en : Nat → Nat) (now : Int) : Prop where
  lays : Lays n m ids
  rn : n + 35 ≤ fB ∧ n + 35 ≤ gB ∧ n + 35 ≤ eB ∧ fB ≠ eB ∧ gB ≠ eB
  far : ∀ i, i < m → ¬ (ids i).Own fB ∧ ¬ (ids i).Own gB ∧ ¬ (ids i).Own eB
  rf : ∀ k, k < m → Slot w fB k (.pointer (some ⟨(ids k).nf + 5, 0, none⟩))
  rg : ∀ k, k < m → Slot w gB k (.pointer (some ⟨(ids k).ng + 5, 0, none⟩))
  re : ∀ k, k < m → Slot w eB k (.int .i64 (er k : Nat))
  st : Stts w n m ids d en
  clk : Clks w n m ids now 0 d en
  kept : Kept (fun _ => False) w0 w
  n0 : w0.heap.size = n

theorem Stand.still {w0 w w' : World} {n fB gB eB m : Nat} {ids : Nat → Ids} {d : Nat → Int} {er en : Nat → Nat} {now : Int} (X : Stand w0 w n fB gB eB m ids d er en now) (k : Kept (fun _ => False) w w') : Stand w0 w' n fB gB eB m ids d er en now :=
  ⟨X.lays, X.rn, X.far, fun j hj => (X.rf j hj).kept k id, fun j hj => (X.rg j hj).kept k id, fun j hj => (X.re j hj).kept k id, X.st.kept X.lays k fun _ _ _ _ h => h, X.clk.kept k fun _ _ h => h, X.kept.trans k, X.n0⟩

theorem Stand.congr {w0 w : World} {n fB gB eB m : Nat} {ids : Nat → Ids} {d : Nat → Int} {er er' en en' : Nat → Nat} {now : Int} (X : Stand w0 w n fB gB eB m ids d er en now) (h1 : ∀ k, k < m → er k = er' k) (h2 : ∀ k, k < m → en k = en' k) : Stand w0 w n fB gB eB m ids d er' en' now :=
  ⟨X.lays, X.rn, X.far, X.rf, X.rg, fun j hj => by rw [← h1 j hj]; exact X.re j hj, X.st.congr h2, X.clk.congr h2, X.kept, X.n0⟩

theorem Stand.turn {w0 w w' : World} {n fB gB eB m : Nat} {ids : Nat → Ids} {d : Nat → Int} {er en en' : Nat → Nat} {now now' : Int} (X : Stand w0 w n fB gB eB m ids d er en now) (k : Kept (AllOwn n m ids) w w') (S : Stts w' n m ids d en') (C : Clks w' n m ids now' 0 d en') :
    Stand w0 w' n fB gB eB m ids d er en' now' := by
  obtain ⟨r1, r2, r3, r4, r5⟩ := X.rn
  have ho : ∀ b, n + 35 ≤ b → (∀ i, i < m → ¬ (ids i).Own b) → ¬ AllOwn n m ids b := by
    rintro b h1 h2 (h | ⟨i, hi, h⟩)
    · have := h.2; omega
    · exact h2 i hi h
  refine ⟨X.lays, X.rn, X.far, fun j hj => (X.rf j hj).kept k (ho _ r1 fun i hi => (X.far i hi).1), fun j hj => (X.rg j hj).kept k (ho _ r2 fun i hi => (X.far i hi).2.1), fun j hj => (X.re j hj).kept k (ho _ r3 fun i hi => (X.far i hi).2.2), S, C, X.kept.far k ?_, X.n0⟩
  have h0 := X.n0
  rintro c (h | ⟨i, hi, h⟩)
  · have := h.1; omega
  · have := X.lays.low i hi
    have := (X.lays.ok i hi).le
    rcases h with h | h <;> omega

/-- Behind a fill. -/
theorem Stand.fill {w0 w w' : World} {n fB gB eB m i : Nat} {ids : Nat → Ids} {d : Nat → Int} {er en : Nat → Nat} {now : Int} (X : Stand w0 w n fB gB eB m ids d er en now) (hi : i < m) (e : Nat) (k : Kept (fun c => Own n c ∨ (ids i).Own c) w w') (S : Stt w' n i (ids i) (d i) e)
    (C : ∃ f, Clk w' n now 0 (sts m (ovf (put en i e))) d f ∧ ∀ j, j < m → put en i e j = 0 → f j = ringOf (ids j).b) : Stand w0 w' n fB gB eB m ids d er (put en i e) now :=
  X.turn (k.mono fun c _ h => h.imp_right fun h => ⟨i, hi, h⟩) (X.st.move X.lays hi k S) C

/-- The row is written. -/
theorem Stand.mark {w0 w : World} {n fB gB eB m i : Nat} {ids : Nat → Ids} {d : Nat → Int} {er en : Nat → Nat} {now : Int} (X : Stand w0 w n fB gB eB m ids d er en now) (hi : i < m) (x : Nat) (xi : Int) (hx : xi = x) : Stand w0 (w.setCell ⟨eB, i, none⟩ (.int .i64 xi)) n fB gB eB m ids d (put er i x) en now := by
  subst hx
  obtain ⟨r1, r2, r3, r4, r5⟩ := X.rn
  have k : Kept (fun b => b = eB) w (w.setCell ⟨eB, i, none⟩ (.int .i64 (x : Nat))) := Kept.one w ⟨eB, i, none⟩ _
  refine ⟨X.lays, X.rn, X.far, fun j hj => (X.rf j hj).kept k r4, fun j hj => (X.rg j hj).kept k r5, fun j hj => ?_, X.st.kept X.lays k fun i hi c hc e => (X.far i hi).2.2 (e ▸ hc), X.clk.kept k fun c hc e => by have := hc.2; omega, X.kept.far k fun c e => by have := X.n0; omega, X.n0⟩
  by_cases e : j = i
  · subst e; rw [put_same]; exact (X.re j hj).set _
  · rw [put_other _ _ _ _ e]; exact (X.re j hj).beside _ e

theorem made_slot {w : World} {b n : Nat} {t : TypeId} (h : w.heap[b]? = some (.cells (madeCells #[.int .i64 0] n) t)) (j : Nat) (hj : j < n) : Slot w b j (.int .i64 (0 : Nat)) := by
  refine ⟨?_, ?_, (Array.getElem?_eq_some_iff.1 h).1⟩
  · simp [World.cell?, h, madeCells, hj, Nat.mod_one]
  · simp [World.frozen?, h]

/-- Behind the first loop, and the row that was made. -/
theorem layO_end {w0 w : World} {n B m : Nat} {ids : Nat → Ids} {d : Nat → Int} {fv gv : Value} (X : LayO w0 w n B m m m ids d fv gv) (t : TypeId) :
    ∃ fB gB dd, (0 < m → (∃ cap, fv = .slice (some ⟨fB, 0, none⟩) m cap) ∧ ∃ cap, gv = .slice (some ⟨gB, 0, none⟩) m cap) ∧ (∀ k, k < m → dd k = d k) ∧ Stand w0 (w.alloc (.cells (madeCells #[.int .i64 0] m) t)) n fB gB w.heap.size m ids dd (fun _ => 0) (fun _ => 0) 0 := by
  obtain ⟨dd, f, C, h1, h2⟩ := X.clk
  have hb := X.base
  have ka : Kept (fun _ => False) w (w.alloc (.cells (madeCells #[.int .i64 0] m) t)) := (Kept.refl _ _).alloc _
  have far0 : ∀ b, w.heap.size ≤ b → ∀ i, i < m → ¬ (ids i).Own b := by
    intro b hb i hi hc
    have := (X.items i hi).lt
    have := (X.lays.ok i hi).le
    rcases hc with hc | hc <;> omega
  have keyF : ∃ fB, (0 < m → ∃ cap, fv = .slice (some ⟨fB, 0, none⟩) m cap) ∧ n + 35 ≤ fB ∧ fB ≠ w.heap.size ∧ ∀ i, i < m → ¬ (ids i).Own fB := by
    by_cases hm : 0 < m
    · rcases X.ownF.2 with ⟨_, h⟩ | ⟨g, cap, cur, hv, _⟩
      · omega
      · have hg : fv.ownBlock = some g := by rw [hv]; rfl
        have := X.ownF.lt g hg
        exact ⟨g, fun _ => ⟨cap, hv⟩, by omega, by omega, (X.farF g hg).2⟩
    · exact ⟨w.heap.size + 1, fun h => absurd h hm, by omega, by omega, fun i hi => by omega⟩
  have keyG : ∃ gB, (0 < m → ∃ cap, gv = .slice (some ⟨gB, 0, none⟩) m cap) ∧ n + 35 ≤ gB ∧ gB ≠ w.heap.size ∧ ∀ i, i < m → ¬ (ids i).Own gB := by
    by_cases hm : 0 < m
    · rcases X.ownG.2 with ⟨_, h⟩ | ⟨g, cap, cur, hv, _⟩
      · omega
      · have hg : gv.ownBlock = some g := by rw [hv]; rfl
        have := X.ownG.lt g hg
        exact ⟨g, fun _ => ⟨cap, hv⟩, by omega, by omega, X.farG g hg⟩
    · exact ⟨w.heap.size + 1, fun h => absurd h hm, by omega, by omega, fun i hi => by omega⟩
  obtain ⟨fB, f1, f2, f3, f4⟩ := keyF
  obtain ⟨gB, g1, g2, g3, g4⟩ := keyG
  refine ⟨fB, gB, dd, fun h => ⟨f1 h, g1 h⟩, h1, X.lays, ⟨f2, g2, by omega, f3, g3⟩, fun i hi => ⟨f4 i hi, g4 i hi, far0 _ (Nat.le_refl _) i hi⟩, fun k hk => ?_, fun k hk => ?_, fun k hk => made_slot (n := m) (t := t) (block_last _ _ _ rfl) k hk,
    fun i hi => .inl ⟨rfl, by rw [h1 i hi]; exact (X.items i hi).kept ka fun _ _ h => h⟩, ⟨f, C.kept ka fun _ _ h => h, fun j hj _ => h2 j hj⟩, X.kept.trans ka, X.n0⟩
  · obtain ⟨cap, hv⟩ := f1 (by omega)
    have ho := X.ownF
    rw [hv] at ho
    exact Slot.kept (w := w) ⟨(ho.cellAt k (by omega)).trans (rowP_at _ m k hk), ho.frozenAt _, (ho.lt fB rfl).2⟩ ka id
  · obtain ⟨cap, hv⟩ := g1 (by omega)
    have ho := X.ownG
    rw [hv] at ho
    exact Slot.kept (w := w) ⟨(ho.cellAt k (by omega)).trans (rowP_at _ m k hk), ho.frozenAt _, (ho.lt gB rfl).2⟩ ka id

end Go.Proofs.YtkbcpifhbpfhlaaGreatDoor

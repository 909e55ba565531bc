/-
  LimitOrder: all futures; an Advance.
-/
import Derived.Test.YtkbcpifhbpfhlaaGreatDoorOrd2
namespace Go.Proofs.YtkbcpifhbpfhlaaGreatDoor
open Go.RowKit

/-- Nobody's blocks are another's. -/
structure Lays (n m : Nat) (ids : Nat → Ids) : Prop where
  ok : ∀ i, i < m → (ids i).Ok
  low : ∀ i, i < m → n + 35 ≤ (ids i).nf
  ord : ∀ i j, i < j → j < m → (ids i).hi ≤ (ids j).nf

theorem Lays.own {n m : Nat} {ids : Nat → Ids} (L : Lays n m ids) {i : Nat} (hi : i < m) : ∀ k, Own n k → ¬ (ids i).Own k := own_ids (L.ok i hi) (L.low i hi)

theorem ids_apart {I J : Ids} (oi : I.Ok) (oj : J.Ok) (h : I.hi ≤ J.nf) : ∀ k, I.Own k → ¬ J.Own k := by
  have a := oi.le
  have b := oj.le
  rintro k (h1 | h1) (h2 | h2) <;> omega

theorem Lays.apart {n m : Nat} {ids : Nat → Ids} (L : Lays n m ids) {i j : Nat} (hi : i < m) (hj : j < m) (ne : i ≠ j) : ∀ k, (ids i).Own k → ¬ (ids j).Own k := by
  rcases Nat.lt_or_gt_of_ne ne with h | h
  · exact ids_apart (L.ok i hi) (L.ok j hj) (L.ord i j h hj)
  · exact fun k h1 h2 => ids_apart (L.ok j hj) (L.ok i hi) (L.ord j i h hi) k h2 h1

def Stts (w : World) (n m : Nat) (ids : Nat → Ids) (d : Nat → Int) (en : Nat → Nat) : Prop := ∀ i, i < m → Stt w n i (ids i) (d i) (en i)

def Clks (w : World) (n m : Nat) (ids : Nat → Ids) (now busy : Int) (d : Nat → Int) (en : Nat → Nat) : Prop :=
  ∃ f, Clk w n now busy (sts m (ovf en)) d f ∧ ∀ j, j < m → en j = 0 → f j = ringOf (ids j).b

theorem Stts.kept {S : Nat → Prop} {w w' : World} {n m : Nat} {ids : Nat → Ids} {d : Nat → Int} {en : Nat → Nat} (X : Stts w n m ids d en) (L : Lays n m ids) (k : Kept S w w') (hs : ∀ i, i < m → ∀ c, (ids i).Own c → ¬ S c) : Stts w' n m ids d en :=
  fun i hi => (X i hi).kept (L.ok i hi) k (hs i hi)

theorem Stts.move {w w' : World} {n m : Nat} {ids : Nat → Ids} {d : Nat → Int} {en : Nat → Nat} (X : Stts w n m ids d en) (L : Lays n m ids) {i e : Nat} (hi : i < m) (k : Kept (fun c => Own n c ∨ (ids i).Own c) w w') (H : Stt w' n i (ids i) (d i) e) : Stts w' n m ids d (put en i e) := by
  intro j hj
  by_cases h : j = i
  · subst h; rw [put_same]; exact H
  · rw [put_other _ _ _ _ h]
    refine (X j hj).kept (L.ok j hj) k ?_
    rintro c hc (h1 | h1)
    · exact L.own hj c h1 hc
    · exact L.apart hj hi h c hc h1

theorem Stts.congr {w : World} {n m : Nat} {ids : Nat → Ids} {d : Nat → Int} {en en' : Nat → Nat} (X : Stts w n m ids d en) (h : ∀ i, i < m → en i = en' i) : Stts w n m ids d en' :=
  fun i hi => by rw [← h i hi]; exact X i hi

theorem sts_congr {m : Nat} {ov ov' : Nat → Bool} (h : ∀ i, i < m → ov i = ov' i) : sts m ov = sts m ov' := by
  funext i; unfold sts
  by_cases hi : i < m
  · rw [if_pos hi, if_pos hi, h i hi]
  · rw [if_neg hi, if_neg hi]

theorem Clks.congr {w : World} {n m : Nat} {ids : Nat → Ids} {now busy : Int} {d : Nat → Int} {en en' : Nat → Nat} (X : Clks w n m ids now busy d en) (h : ∀ i, i < m → en i = en' i) : Clks w n m ids now busy d en' := by
  obtain ⟨f, C, hf⟩ := X
  refine ⟨f, ?_, fun j hj he => hf j hj (by rw [h j hj]; exact he)⟩
  rw [← sts_congr (ov := ovf en) fun i hi => by unfold ovf; rw [h i hi]]
  exact C

theorem Clks.kept {S : Nat → Prop} {w w' : World} {n m : Nat} {ids : Nat → Ids} {now busy : Int} {d : Nat → Int} {en : Nat → Nat} (X : Clks w n m ids now busy d en) (k : Kept S w w') (hs : ∀ c, Own n c → ¬ S c) : Clks w' n m ids now busy d en := by
  obtain ⟨f, C, hf⟩ := X
  exact ⟨f, C.kept k hs, hf⟩

/-- All blocks of the clock and of the futures. -/
def AllOwn (n m : Nat) (ids : Nat → Ids) : Nat → Prop := fun k => Own n k ∨ ∃ i, i < m ∧ (ids i).Own k

/-- What it has come to behind an Advance. -/
def fin (en : Nat → Nat) (d : Nat → Int) (t : Int) : Nat → Nat := fun i => if en i = 0 ∧ d i ≤ t then 2 else en i

/-- Behind r rings of an Advance that began in W0. -/
def LRinging (W0 : World) (n m : Nat) (ids : Nat → Ids) (t : Int) (d : Nat → Int) (en0 : Nat → Nat) (r : Nat) (w : World) : Prop :=
  ∃ en, Stts w n m ids d en ∧ Clks w n m ids t 1 d en ∧ left (ovf en) d t m + r = left (ovf en0) d t m ∧ (∀ i, i < m → en i = en0 i ∨ (en0 i = 0 ∧ d i ≤ t ∧ en i = 2)) ∧ Kept (AllOwn n m ids) W0 w

theorem lring_next (W0 : World) (n m : Nat) (ids : Nat → Ids) (t : Int) (d : Nat → Int) (en0 : Nat → Nat) (r : Nat) (w : World) (hm : m ≤ 16) (L : Lays n m ids) (hr : r < left (ovf en0) d t m) (X : LRinging W0 n m ids t d en0 r w) :
    ∃ s f j, Clk w n t 1 s d f ∧ j < 16 ∧ look s d t 16 = some j ∧ Calls Tryz.prog 63 #[.pointer (some ⟨n + 2, 2 + 3 * j, none⟩), .pointer none, .int .i64 (s j)] w (RungOne (LRinging W0 n m ids t d en0) (r + 1)) := by
  obtain ⟨en, S, ⟨f, C, hf⟩, hl, he, K⟩ := X
  obtain ⟨j, hj⟩ : ∃ j, look (sts m (ovf en)) d t 16 = some j := by
    cases h : look (sts m (ovf en)) d t 16 with
    | some j => exact ⟨j, rfl⟩
    | none =>
      have h0 := left_zero (ov := ovf en) (d := d) (t := t) (k := m) fun i hi hv => look_none h i (by omega) ((sts_set m _ i).2 ⟨hi, hv⟩)
      omega
  obtain ⟨_, h2, h3, _⟩ := look_some hj
  obtain ⟨hjm, hjv⟩ := (sts_set m (ovf en) j).1 h2
  have he0 := ovf_false hjv
  have hs : sts m (ovf en) j = 2 := sts_two hjm hjv
  have hI : Itm w n j (ids j) (d j) 2 := by
    rcases S j hjm with ⟨_, H⟩ | ⟨h, _⟩ | ⟨h, _⟩
    · exact H
    · omega
    · omega
  refine ⟨_, f, j, C, by omega, hj, (ring_itm n j (ids j) t 1 (d j) (sts m (ovf en)) d f (by omega) (by rw [hs]; decide) (by rw [hs]; decide) (hf j hjm he0) w C (by rw [hs]; exact hI) (L.own hjm)).mono ?_⟩
  rintro e w' ⟨rfl, T, H, C', K'⟩
  rw [hs, show (2 : Int) + 2 = 4 from rfl, sts_put hjm, ← ovf_put en j 2 (by omega)] at C'
  have K2 : Kept (fun c => Own n c ∨ (ids j).Own c) w w' := K'.mono fun c _ h => h.imp_right fun h => .inr ⟨h.1, by have := h.2; have := (L.ok j hjm).le; omega⟩
  refine ⟨rfl, put en j 2, S.move L hjm K2 (.inr (.inr ⟨rfl, .inl H, T⟩)), ⟨_, C', fun i hi hz => ?_⟩, ?_, fun i hi => ?_, K.trans (K2.mono fun c _ h => h.imp_right fun h => ⟨j, hjm, h⟩)⟩
  · have ne : i ≠ j := fun e => by subst e; rw [put_same] at hz; omega
    rw [put_other _ _ _ _ ne] at hz ⊢
    exact hf i hi hz
  · rw [ovf_put en j 2 (by omega)]
    have := left_put (t := t) hjv h3 hjm
    omega
  · by_cases ne : i = j
    · subst ne
      rw [put_same]
      refine .inr ⟨?_, h3, rfl⟩
      rcases he i hi with h | h
      · omega
      · exact h.1
    · rw [put_other _ _ _ _ ne]; exact he i hi

/-- What an Advance leaves. -/
def AdvLimit (W0 : World) (n m : Nat) (ids : Nat → Ids) (t : Int) (d : Nat → Int) (en : Nat → Nat) : Ending → World → Prop := fun e w' =>
  e = .returned (.tuple #[.int .i64 (left (ovf en) d t m : Nat), .int .i64 0]) ∧ Stts w' n m ids d (fin en d t) ∧ Clks w' n m ids t 0 d (fin en d t) ∧ Kept (AllOwn n m ids) W0 w'

theorem adv_limit (W0 : World) (n m : Nat) (ids : Nat → Ids) (now dt t : Int) (d : Nat → Int) (en : Nat → Nat) (hm : m ≤ 16) (L : Lays n m ids) (h0 : 0 ≤ now) (h1 : now ≤ 4611686018427387904) (h2 : 0 ≤ dt) (ht : later now dt = t)
    (S : Stts W0 n m ids d en) (C : Clks W0 n m ids now 0 d en) :
    Calls Tryz.prog 11 #[.pointer (some ⟨n + 2, 0, none⟩), .pointer none, .int .i64 dt] W0 (AdvLimit W0 n m ids t d en) := by
  have hle := left_le (ovf en) d t m
  obtain ⟨f, C, hf⟩ := C
  refine (adv_made (LRinging W0 n m ids t d en) n (left (ovf en) d t m) now dt (sts m (ovf en)) d f h0 h1 h2 (by omega) W0 C ?_ ?_ ?_).mono ?_
  · intro w1 C1 K1
    rw [ht] at C1
    exact ⟨en, S.kept L K1 fun i hi c hc h => L.own hi c h hc, ⟨f, C1, hf⟩, rfl, fun _ _ => .inl rfl, K1.mono fun _ _ h => .inl h⟩
  · intro r w hr X
    rw [ht]
    obtain ⟨s, f', j, a, b, c, e⟩ := lring_next W0 n m ids t d en r w hm L hr X
    exact ⟨s, d, f', j, a, b, c, e⟩
  · rintro w ⟨en', S', ⟨f', C', hf'⟩, hl, _⟩
    rw [ht]
    refine ⟨_, _, _, C', .inl ?_⟩
    cases h : look (sts m (ovf en')) d t 16 with
    | none => rfl
    | some j =>
      obtain ⟨_, h2, h3, _⟩ := look_some h
      obtain ⟨hj, hv⟩ := (sts_set m _ j).1 h2
      have := left_pos hv h3 hj
      omega
  · rintro e w' ⟨rfl, w1, ⟨en', S', ⟨f', C', hf'⟩, hl, he, K'⟩, rfl⟩
    have k : Kept (fun b => b = n + 1) w1 (w1.setCell ⟨n + 1, 0, none⟩ (.int .i64 0)) := Kept.one w1 ⟨n + 1, 0, none⟩ _
    have ho : Own n (n + 1) := ⟨by omega, by omega⟩
    have hfin : ∀ i, i < m → en' i = fin en d t i := by
      intro i hi
      unfold fin
      rcases he i hi with h | h
      · by_cases hc : en i = 0 ∧ d i ≤ t
        · have := left_pos (ov := ovf en') (d := d) (t := t) (ovf_zero (h.trans hc.1)) hc.2 hi
          omega
        · rw [if_neg hc, h]
      · rw [if_pos ⟨h.1, h.2.1⟩, h.2.2]
    refine ⟨rfl, (S'.kept L k fun i hi c hc e => L.own hi c (e ▸ ho) hc).congr hfin, Clks.congr ⟨f', C'.setBusy 0, hf'⟩ hfin, K'.trans (k.mono fun b _ e => .inl (e ▸ ho))⟩

end Go.Proofs.YtkbcpifhbpfhlaaGreatDoor

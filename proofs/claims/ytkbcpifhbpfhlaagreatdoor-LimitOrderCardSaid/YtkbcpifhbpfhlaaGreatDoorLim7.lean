/-
  Package limit, a nil thread: an Advance by which a limited future and a deadline come due.
-/
import Derived.Test.YtkbcpifhbpfhlaaGreatDoorLim6
namespace Go.Proofs.YtkbcpifhbpfhlaaGreatDoor
open Go.RowKit

/-- What such an Advance leaves. -/
def AdvTwo (w : World) (n : Nat) (I : Ids) (J : Jds) : Ending → World → Prop := fun e w' =>
  e = .returned (.tuple #[.int .i64 2, .int .i64 0]) ∧ TooLate w' I ∧ Cel w' J.c 1 ∧ Tk.Hd w' (J.c + 5) J.c (J.c + 4) 1 ∧ Kept (fun k => Own n k ∨ (I.ng ≤ k ∧ k < I.ng + 6) ∨ J.Own k) w w'

/-- Behind r rings. -/
def TwoAt (w0 : World) (n i j : Nat) (I : Ids) (J : Jds) (m d1 d2 : Int) (s d : Nat → Int) (f : Nat → Value) (r : Nat) (w : World) : Prop :=
  Kept (fun k => Own n k ∨ (I.ng ≤ k ∧ k < I.ng + 6) ∨ J.Own k) w0 w ∧
    (r = 0 → Clk w n m 1 s d f ∧ Itm w n i I d1 (s i) ∧ Dead w n j J d2 (s j)) ∧
    (r = 1 → Clk w n m 1 (put s i (s i + 2)) d (put f i .nilFunc) ∧ TooLate w I ∧ Dead w n j J d2 (s j)) ∧
    (r = 2 → Clk w n m 1 (put (put s i (s i + 2)) j (s j + 2)) d (put (put f i .nilFunc) j .nilFunc) ∧ TooLate w I ∧ Cel w J.c 1 ∧ Tk.Hd w (J.c + 5) J.c (J.c + 4) 1)

theorem TooLate.kept {S : Nat → Prop} {w w' : World} {I : Ids} (H : TooLate w I) (k : Kept S w w') (hs : ∀ c, I.ng ≤ c → c < I.ng + 6 → ¬ S c) : TooLate w' I :=
  H.elim fun y F => ⟨y, F.kept k fun c hc => hs c hc.1 hc.2⟩

theorem adv_two (n i j : Nat) (I : Ids) (J : Jds) (now dt d1 d2 : Int) (s d : Nat → Int) (f : Nat → Value) (h0 : 0 ≤ now) (h1 : now ≤ 4611686018427387904) (h2 : 0 ≤ dt) (hi : i < 16) (hj : j < 16) (hij : j ≠ i)
    (si : 0 ≤ s i ∧ s i ≤ 4611686018427387904) (sj : 0 ≤ s j ∧ s j ≤ 4611686018427387904 ∧ (s j).tmod 4 = 2) (l1 : look s d (later now dt) 16 = some i) (l2 : look (put s i (s i + 2)) d (later now dt) 16 = some j) (l3 : look (put (put s i (s i + 2)) j (s j + 2)) d (later now dt) 16 = none)
    (fi : f i = ringOf I.b) (fj : f j = ringOf J.b) (w : World) (C : Clk w n now 0 s d f) (H : Itm w n i I d1 (s i)) (D : Dead w n j J d2 (s j))
    (hI : ∀ k, Own n k → ¬ I.Own k) (hJ : ∀ k, Own n k → ¬ J.Own k) (hIJ : ∀ k, I.Own k → ¬ J.Own k) :
    Calls Tryz.prog 11 #[.pointer (some ⟨n + 2, 0, none⟩), .pointer none, .int .i64 dt] w (AdvTwo w n I J) := by
  obtain ⟨a1, a2, a3, a4, a5, a6, a7, a8⟩ := H.ok
  have hin : ∀ k, I.ng ≤ k → k < I.ng + 6 → I.Own k := fun k h1 h2 => .inr ⟨h1, by omega⟩
  obtain ⟨b1, b2, b3, b4, b5, b6, b7, b8, b9⟩ := D.ok
  have qj : ∀ k, J.Own k → ¬ (Own n k ∨ (I.ng ≤ k ∧ k < I.ng + 6)) := by
    rintro k hk (h | h)
    · exact hJ k h hk
    · exact hIJ k (hin k h.1 h.2) hk
  refine (adv_made (TwoAt w n i j I J (later now dt) d1 d2 s d f) n 2 now dt s d f h0 h1 h2 (by omega) w C ?_ ?_ ?_).mono ?_
  · intro w1 C1 K1
    exact ⟨K1.mono fun _ _ h => .inl h, fun _ => ⟨C1, H.kept K1 fun c hc h => hI c h hc, D.kept K1 fun c hc h => hJ c h hc⟩, fun h => by omega, fun h => by omega⟩
  · rintro r w1 hr ⟨K1, R0, R1, _⟩
    rcases (show r = 0 ∨ r = 1 by omega) with rfl | rfl
    · obtain ⟨C1, H1, D1⟩ := R0 rfl
      refine ⟨s, d, f, i, C1, hi, l1, (ring_itm n i I _ 1 d1 s d f hi si.1 si.2 fi w1 C1 H1 hI).mono ?_⟩
      rintro e w2 ⟨rfl, T2, _, C2, K2⟩
      refine ⟨rfl, K1.trans (K2.mono ?_), fun h => by omega, fun _ => ⟨C2, T2, D1.kept K2 fun c hc h => qj c hc h⟩, fun h => by omega⟩
      rintro k _ (h | h)
      · exact .inl h
      · exact .inr (.inl h)
    · obtain ⟨C1, T1, D1⟩ := R1 rfl
      have e1 : put s i (s i + 2) j = s j := put_other _ _ _ _ hij
      have e2 : put f i Value.nilFunc j = ringOf J.b := (put_other _ _ _ _ hij).trans fj
      refine ⟨_, d, _, j, C1, hj, l2, (ring_dead n j J _ 1 d2 _ d _ hj (by rw [e1]; exact sj.1) (by rw [e1]; exact sj.2.1) (by rw [e1]; exact sj.2.2) e2 w1 C1 (by rw [e1]; exact D1) hJ).mono ?_⟩
      rintro e w2 ⟨rfl, X2, D2, C2, K2⟩
      rw [e1] at C2
      refine ⟨rfl, K1.trans (K2.mono ?_), fun h => by omega, fun h => by omega, fun _ => ⟨C2, T1.kept K2 ?_, X2, D2⟩⟩
      · rintro k _ (h | h)
        · exact .inl h
        · exact .inr (.inr h)
      · rintro c h1 h2 (h | h)
        · exact hI c h (hin c h1 h2)
        · exact hIJ c (hin c h1 h2) h
  · rintro w1 ⟨_, _, _, R2⟩
    exact ⟨_, _, _, (R2 rfl).1, .inl l3⟩
  · rintro e w' ⟨rfl, w1, ⟨K1, _, _, R2⟩, rfl⟩
    obtain ⟨C1, T1, X1, D1⟩ := R2 rfl
    have hk : Kept (fun k => k = n + 1) w1 (w1.setCell ⟨n + 1, 0, none⟩ (.int .i64 0)) := Kept.one w1 ⟨n + 1, 0, none⟩ _
    have ho : Own n (n + 1) := ⟨by omega, by omega⟩
    exact ⟨rfl, T1.kept hk fun c h1 h2 h => hI _ ho (h ▸ hin c h1 h2), X1.kept hk fun h => hJ _ ho (h ▸ ⟨by omega, by omega⟩), D1.kept hk fun h => hJ _ ho (h ▸ ⟨by omega, by omega⟩), K1.trans (hk.mono fun _ _ h => .inl (h ▸ ho))⟩

end Go.Proofs.YtkbcpifhbpfhlaaGreatDoor

/-
  LimitOrder: what stands of one of the futures; it is filled, or looked at.
-/
import Derived.Test.YtkbcpifhbpfhlaaGreatDoorOrd1
namespace Go.Proofs.YtkbcpifhbpfhlaaGreatDoor
open Go.RowKit

/-- A limited future that was filled. -/
def Full (w : World) (I : Ids) : Prop := ∃ (v : Int) (e x0 x1 : Value), Ftr w I.nf I.lf I.hf I.pf 2 v e 1 (-1) x0 x1

theorem Full.kept {S : Nat → Prop} {w w' : World} {I : Ids} (H : Full w I) (k : Kept S w w') (hs : ∀ c, FOwn I.nf c → ¬ S c) : Full w' I := by
  obtain ⟨v, e, x0, x1, F⟩ := H
  exact ⟨v, e, x0, x1, F.kept k hs⟩

/-- What stands of the one with the number i: 0 neither, 1 in time, 2 late. -/
def Stt (w : World) (n i : Nat) (I : Ids) (due : Int) (e : Nat) : Prop :=
  (e = 0 ∧ Itm w n i I due 2) ∨ (e = 1 ∧ Full w I ∧ Came w I i) ∨ (e = 2 ∧ (Hooked w I ∨ Full w I) ∧ TooLate w I)

theorem Stt.kept {S : Nat → Prop} {w w' : World} {n i : Nat} {I : Ids} {due : Int} {e : Nat} (H : Stt w n i I due e) (ok : I.Ok) (k : Kept S w w') (hs : ∀ c, I.Own c → ¬ S c) : Stt w' n i I due e := by
  have hle := ok.le
  have hf : ∀ c, FOwn I.nf c → ¬ S c := fun c hc => hs c (.inl hc)
  have hg : ∀ c, I.ng ≤ c → c < I.ng + 6 → ¬ S c := fun c h1 h2 => hs c (.inr ⟨h1, by omega⟩)
  rcases H with ⟨h, H⟩ | ⟨h, F, G⟩ | ⟨h, F, G⟩
  · exact .inl ⟨h, H.kept k hs⟩
  · exact .inr (.inl ⟨h, F.kept k hf, Ftr.kept G k fun c hc => hg c hc.1 hc.2⟩)
  · refine .inr (.inr ⟨h, ?_, G.kept k hg⟩)
    rcases F with F | F
    · exact .inl (F.kept k fun c hc _ => hs c hc)
    · exact .inr (F.kept k hf)

/-- What filling a future leaves that was late. -/
def LateFull (w : World) (I : Ids) : Ending → World → Prop := fun e w' => e = .returned (.bool true) ∧ Full w' I ∧ TooLate w' I ∧ Kept I.Own w w'

theorem complete_late (v : Int) (I : Ids) (w : World) (H : Hooked w I) (T : TooLate w I) :
    Calls Tryz.prog 16 #[.pointer (some ⟨I.nf + 5, 0, none⟩), .pointer none, .int .i64 v, .nilIface] w (LateFull w I) := by
  have e25 : ∀ args w, (callFunc 25 args).run Tryz.prog w = .ok (.enter 25 args) w := enters_of Tryz.func25 (by kernel_rfl) rfl
  obtain ⟨a1, a2, a3, a4, a5, a6, a7, a8⟩ := H.ok
  have hlt := H.lt
  refine (fcomplete_one v (fun _ => False) (fun w' => TooLate w' I) e25 w H.f H.q H.u (fun h => by have := h.2; omega) (fun h => by have := h.2; omega) (fun _ _ h => h) (fun _ h => h.elim) ?_).mono ?_
  · intro W KW
    have hg : ∀ c, I.ng ≤ c → c < I.hi → c ≠ I.u → ¬ (FOwn I.nf c ∨ c = I.u) := by
      rintro c h1 h2 h3 (h | h)
      · have := h.2; omega
      · exact h3 h
    obtain ⟨y, G⟩ := T
    have G1 := G.kept KW (fun c hc => hg c hc.1 (by have := hc.2; omega) (by have := hc.2; omega))
    refine (within2_miss I.g I.bs I.ng I.lg I.hg I.pg v 3 0 0 (-1) _ _ _ _ (by omega) W (H.gs.kept KW (hg _ (by omega) (by omega) (by omega))) G1).mono ?_
    rintro e w2 ⟨rfl, K2⟩
    exact ⟨rfl, K2, y, G1.far K2⟩
  · rintro e w' ⟨rfl, F2, K2, T2⟩
    refine ⟨rfl, ⟨_, _, _, _, F2⟩, T2, K2.mono ?_⟩
    rintro k _ (h | h | h)
    · exact .inl h
    · exact .inr ⟨by omega, by omega⟩
    · exact h.elim

theorem complete_full (v : Int) (I : Ids) (w : World) (F : Full w I) :
    Calls Tryz.prog 16 #[.pointer (some ⟨I.nf + 5, 0, none⟩), .pointer none, .int .i64 v, .nilIface] w fun r w' => r = .returned (.bool false) ∧ w = w' := by
  obtain ⟨v', e, x0, x1, G⟩ := F
  exact fcomplete_no _ v _ w (fclaim_miss (by omega) w G)

theorem fpeek_open {n l h p : Nat} {s v m hd : Int} {e x0 x1 : Value} (hs : s < 2) (w : World) (F : Ftr w n l h p s v e m hd x0 x1) : Calls Tryz.prog 17 #[.pointer (some ⟨n + 5, 0, none⟩), .pointer none] w fun r w' => r = .returned (.tuple #[.int .i64 0, .nilIface, .bool false]) ∧ Kept (fun _ => False) w w' := by
  have t0 := F.t0
  have c0 := F.cel.c0
  have c1 := F.cel.c1
  have hd' : decide (s < 2) = true := by simp; omega
  clear F
  go_enter Tryz.func17, Tryz.ntmps17
  go_wp2_with (first
    | (go_at_call 36; refine (fnone_is (n + 5) _ _ t0).mono ?_; rintro e w' ⟨rfl, rfl⟩)
    | (go_at_call 37; refine (load_free n s _ c0 c1).mono ?_; rintro e w' ⟨rfl, rfl⟩))
  exact bodyPost_ret (v := .tuple #[.int .i64 0, .nilIface, .bool false]) (by simp [results, Tryz.results17, go_sem]) rfl ⟨rfl, Kept.refl _ _⟩

/-- What a fill leaves of the one with the number i. -/
def FillPost (w : World) (n i : Nat) (I : Ids) (due : Int) (e m : Nat) (now : Int) (d : Nat → Int) (en : Nat → Nat) (ids : Nat → Ids) : Ending → World → Prop := fun r w' =>
  ∃ b : Bool, r = .returned (.bool b) ∧ (e = 0 → b = true) ∧ Stt w' n i I due (if e = 0 then 1 else e) ∧
    (∃ f, Clk w' n now 0 (sts m (ovf (put en i (if e = 0 then 1 else e)))) d f ∧ ∀ j, j < m → put en i (if e = 0 then 1 else e) j = 0 → f j = ringOf (ids j).b) ∧ Kept (fun k => Own n k ∨ I.Own k) w w'

theorem put_self {α : Type} (s : Nat → α) (i : Nat) : put s i (s i) = s := by
  funext j
  by_cases e : j = i
  · subst e; rw [put_same]
  · rw [put_other _ _ _ _ e]

theorem fill_any (n i m : Nat) (due now : Int) (d : Nat → Int) (f : Nat → Value) (en : Nat → Nat) (ids : Nat → Ids) (hm : m ≤ 16) (hi : i < m) (w : World) (ok : (ids i).Ok) (H : Stt w n i (ids i) due (en i)) (C : Clk w n now 0 (sts m (ovf en)) d f) (hf : ∀ j, j < m → en j = 0 → f j = ringOf (ids j).b)
    (hn : ∀ k, Own n k → ¬ (ids i).Own k) :
    Calls Tryz.prog 16 #[.pointer (some ⟨(ids i).nf + 5, 0, none⟩), .pointer none, .int .i64 i, .nilIface] w (FillPost w n i (ids i) due (en i) m now d en ids) := by
  by_cases h0 : en i = 0
  · have hI : Itm w n i (ids i) due 2 := by
      rcases H with ⟨_, H⟩ | ⟨h, _⟩ | ⟨h, _⟩
      · exact H
      · omega
      · omega
    have hs : sts m (ovf en) i = 2 := sts_two hi (ovf_zero h0)
    refine (complete_itm n i (ids i) now 0 due i (sts m (ovf en)) d f (by omega) (by rw [hs]; decide) (by rw [hs]; decide) (by rw [hs]; decide) w C (by rw [hs]; exact hI) hn).mono ?_
    rintro r w' ⟨rfl, ⟨x0, x1, F⟩, G, C', K⟩
    rw [hs, show (2 : Int) + 2 = 4 from rfl, sts_put hi] at C'
    refine ⟨true, rfl, fun _ => rfl, ?_, ⟨f, ?_, ?_⟩, K⟩
    · rw [if_pos h0]; exact .inr (.inl ⟨rfl, ⟨_, _, _, _, F⟩, G⟩)
    · rw [if_pos h0, ovf_put _ _ _ (by omega)]; exact C'
    · rw [if_pos h0]
      intro j hj he
      have e : j ≠ i := fun e => by subst e; rw [put_same] at he; omega
      rw [put_other _ _ _ _ e] at he
      exact hf j hj he
  · have hp : put en i (if en i = 0 then 1 else en i) = en := by rw [if_neg h0, put_self]
    have hE : (if en i = 0 then 1 else en i) = en i := if_neg h0
    have key : ∀ (b : Bool) w', Stt w' n i (ids i) due (en i) → Kept (ids i).Own w w' → FillPost w n i (ids i) due (en i) m now d en ids (.returned (.bool b)) w' := fun b w' S' K =>
      ⟨b, rfl, fun h => absurd h h0, by rw [hE]; exact S', ⟨f, by rw [hp]; exact C.kept K hn, by rw [hp]; exact hf⟩, K.mono fun _ _ h => .inr h⟩
    rcases H with ⟨h, _⟩ | ⟨h, F, G⟩ | ⟨h, F, G⟩
    · omega
    · refine (complete_full i (ids i) w F).mono ?_
      rintro r w' ⟨rfl, rfl⟩
      exact key false w (.inr (.inl ⟨h, F, G⟩)) (Kept.refl _ _)
    · rcases F with F | F
      · refine (complete_late i (ids i) w F G).mono ?_
        rintro r w' ⟨rfl, F', G', K⟩
        exact key true w' (.inr (.inr ⟨h, .inr F', G'⟩)) K
      · refine (complete_full i (ids i) w F).mono ?_
        rintro r w' ⟨rfl, rfl⟩
        exact key false w (.inr (.inr ⟨h, .inr F, G⟩)) (Kept.refl _ _)

/-- What a look at the one with the number i tells. -/
def PeekPost (w : World) (i e : Nat) : Ending → World → Prop := fun r w' =>
  Kept (fun _ => False) w w' ∧ ((e = 0 ∧ r = .returned (.tuple #[.int .i64 0, .nilIface, .bool false])) ∨ (e = 1 ∧ r = .returned (.tuple #[.int .i64 i, .nilIface, .bool true])) ∨ (e = 2 ∧ ∃ y, r = .returned (.tuple #[.int .i64 0, .iface 76 (.pointer (some ⟨y, 0, none⟩)), .bool true])))

theorem peek_any (n i : Nat) (I : Ids) (due : Int) (e : Nat) (w : World) (H : Stt w n i I due e) : Calls Tryz.prog 17 #[.pointer (some ⟨I.ng + 5, 0, none⟩), .pointer none] w (PeekPost w i e) := by
  rcases H with ⟨h, H⟩ | ⟨h, _, G⟩ | ⟨h, _, y, G⟩
  · refine (fpeek_open (by omega) w H.g).mono ?_
    rintro r w' ⟨rfl, K⟩
    exact ⟨K, .inl ⟨h, rfl⟩⟩
  · refine (fpeek_is (by omega) w G).mono ?_
    rintro r w' ⟨rfl, K⟩
    exact ⟨K, .inr (.inl ⟨h, rfl⟩)⟩
  · refine (fpeek_is (by omega) w G).mono ?_
    rintro r w' ⟨rfl, K⟩
    exact ⟨K, .inr (.inr ⟨h, y, rfl⟩)⟩

end Go.Proofs.YtkbcpifhbpfhlaaGreatDoor

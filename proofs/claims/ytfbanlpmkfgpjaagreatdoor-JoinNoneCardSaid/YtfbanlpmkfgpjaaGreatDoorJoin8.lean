/-
  Package join, a nil thread: what the closures do that All, Any and Quorum hang on futures.
-/
import Derived.Test.YtfbanlpmkfgpjaaGreatDoorJoin7
import Derived.Deep.RegionHeld3
namespace Go.Proofs.YtfbanlpmkfgpjaaGreatDoor
open Go.RowKit

theorem hang1_is (bf bi K : Nat) (i v : Int) (e : Value) (caps : Array Value) (Q : World → Prop) (hent : ∀ args w, (callFunc K args).run Tryz.prog w = .ok (.enter K args) w) (w : World)
    (f : w.cell? ⟨bf, 0, none⟩ = some (.func (.func K) #[] caps)) (b : w.cell? ⟨bi, 0, none⟩ = some (.int .i64 i))
    (hc : Calls Tryz.prog K (#[.pointer none, .int .i64 i, .int .i64 v, e] ++ caps) w fun r w' => r = .returned (.tuple #[]) ∧ Q w') :
    Calls Tryz.prog 39 #[.pointer none, .int .i64 v, e, .pointer (some ⟨bf, 0, none⟩), .pointer (some ⟨bi, 0, none⟩)] w fun r w' => r = .returned (.tuple #[]) ∧ Q w' := by
  have HC := Lib.hid hc
  clear hc
  go_enter Tryz.func39, Tryz.ntmps39
  go_wp2_with fail
  refine HC.out.mono ?_
  rintro r w' ⟨rfl, q⟩
  have HQ := Lib.hid q
  clear q
  go_wp2_with fail
  go_end0
  exact ⟨rfl, HQ.out⟩

theorem cadd_is (b : Nat) (v x : Int) (h : wrap64 (v + x) = v + x) (w : World) (C : Cel w b v) :
    Calls Tryz.prog 21 #[.pointer (some ⟨b, 0, none⟩), .pointer none, .int .i64 x] w fun e w' => e = .returned (.int .i64 (v + x)) ∧ w' = w.setCell ⟨b, 0, none⟩ (.int .i64 (v + x)) := by
  have g := add_free b v x w C.c0 C.c1 C.c2 C.fr
  rwa [h] at g

/-- Where the blocks of an All lie. -/
structure Lie (G V jb bj E be L bl : Nat) : Prop where
  v : G + 8 ≤ V ∧ V < G + 11
  j : G + 8 ≤ jb ∧ jb < G + 11
  b : G + 8 ≤ bj ∧ bj < G + 11
  e : G + 11 ≤ E
  be : G + 11 ≤ be
  l : G + 11 ≤ L
  bl : G + 11 ≤ bl

/-- What an All's closure leaves, where others are to come. -/
def All1Post (w : World) (G V jb bj E be L bl m i : Nat) (v c : Int) (vs : Nat → Int) : Ending → World → Prop := fun r w' =>
  r = .returned (.tuple #[]) ∧ Kept (fun b => b = V ∨ b = E ∨ b = L) w w' ∧ Jn w' G (G + 6) (G + 7) V jb bj m (put vs i v) ∧ El w' E be L bl m (c + -1)

theorem jn_put {w : World} {G V jb bj m i : Nat} {vs : Nat → Int} (v : Int) (J : Jn w G (G + 6) (G + 7) V jb bj m vs) (hi : i < m) : Jn (w.setCell ⟨V, i, none⟩ (.int .i64 v)) G (G + 6) (G + 7) V jb bj m (put vs i v) := by
  obtain ⟨n1, n2, n3, n4⟩ := J.ne
  refine ⟨J.g.far _ _ (fun e => n1 e.symm), J.n.far _ _ (fun e => n2 e.symm), J.j.far _ _ (fun e => n3 e.symm), J.j0.far _ _ (fun e => n4 e.symm), J.j1.far _ _ (fun e => n4 e.symm), fun q hq => ?_, by simpa using J.ltV, J.ne⟩
  by_cases e : q = i
  · subst e; rw [put_same]; exact (J.v q hq).set _
  · rw [put_other _ _ _ _ e]; exact (J.v q hq).beside _ e

theorem el_put {w : World} {E be L bl m i : Nat} {c : Int} (J : El w E be L bl m c) (hi : i < m) : El (w.setCell ⟨E, i, none⟩ .nilIface) E be L bl m c := by
  obtain ⟨n1, n2, n3, n4, n5⟩ := J.ne
  refine ⟨J.e.far _ _ (fun e => n1 e.symm), J.l.far _ _ (fun e => n2 e.symm), J.c.far _ _ (fun e => n3 e.symm), fun q hq => ?_, by simpa using J.ltE, J.ne⟩
  by_cases e : q = i
  · subst e; exact (J.er q hq).set _
  · exact (J.er q hq).beside _ e

theorem el_cell {w : World} {E be L bl m : Nat} {c : Int} (J : El w E be L bl m c) (x : Int) : El (w.setCell ⟨L, 0, none⟩ (.int .i64 x)) E be L bl m x := by
  obtain ⟨n1, n2, n3, n4, n5⟩ := J.ne
  exact ⟨J.e.far _ _ (fun e => n4 e.symm), J.l.far _ _ (fun e => n5 e.symm), J.c.set x, fun q hq => (J.er q hq).far _ _ n3, by simpa using J.ltE, J.ne⟩

set_option maxRecDepth 100000 in
set_option maxHeartbeats 1600000 in
theorem all1_more (G V jb bj E be L bl m i : Nat) (v c : Int) (vs : Nat → Int) (hi : i < m) (hm : m ≤ 4096) (hc : 2 ≤ c) (hc2 : c ≤ 4096) (w : World) (J : Jn w G (G + 6) (G + 7) V jb bj m vs) (X : El w E be L bl m c) (Y : Lie G V jb bj E be L bl) :
    Calls Tryz.prog 19 #[.pointer none, .int .i64 i, .int .i64 v, .nilIface, .pointer (some ⟨bj, 0, none⟩), .pointer (some ⟨be, 0, none⟩), .pointer (some ⟨bl, 0, none⟩), .pointer (some ⟨G + 6, 0, none⟩), .pointer (some ⟨G + 7, 0, none⟩)] w
      (All1Post w G V jb bj E be L bl m i v c vs) := by
  have i1 : (i : Int) < m := by omega
  have i2 : (0 : Int) ≤ (i : Int) := by omega
  have ew : wrap64 (c + -1) = c + -1 := by unfold wrap64; omega
  have hz : ¬ c + -1 = 0 := by omega
  obtain ⟨v1, j1, b1, y1, y2, y3, y4⟩ := Y
  have s0 := J.j.c
  have s1 := J.j0.lt
  have s2 := J.j1.c
  have s3 := (J.v i hi).c
  have s4 := (J.v i hi).fr
  have J1 := jn_put v J hi
  have KV : Kept (fun b => b = V) w (w.setCell ⟨V, i, none⟩ (.int .i64 v)) := Kept.one w ⟨V, i, none⟩ _
  have X1 := X.kept KV (by omega) (by omega) (by omega) (by omega)
  have J2 := J1.kept (Kept.one _ ⟨E, i, none⟩ .nilIface) (by show ¬ _ = E; omega) (by show ¬ _ = E; omega) (by show ¬ _ = E; omega) (by show ¬ _ = E; omega) (by show ¬ _ = E; omega)
  have X2 := el_put X1 hi
  have J3 := J2.kept (Kept.one _ ⟨L, 0, none⟩ (.int .i64 (c + -1))) (by show ¬ _ = L; omega) (by show ¬ _ = L; omega) (by show ¬ _ = L; omega) (by show ¬ _ = L; omega) (by show ¬ _ = L; omega)
  have X3 := el_cell X2 (c + -1)
  have HA := Lib.hid (cadd_is L c (-1) ew _ X2.c)
  have HJ := Lib.hid J3
  have HX := Lib.hid X3
  have t0 := X1.e.c
  have t1 := (X1.er i hi).c
  have t2 := (X1.er i hi).fr
  have t3 := X2.l.c
  clear J X J1 X1 J2 X2 J3 X3 KV
  go_enter Tryz.func19, Tryz.ntmps19
  go_wp2_with fail
  refine (astore ⟨V, i, none⟩ _ v _ s3 s4).mono ?_
  rintro r w' ⟨rfl, rfl⟩
  go_wp2_with fail
  refine HA.out.mono ?_
  rintro r w' ⟨rfl, rfl⟩
  have KK : Kept (fun b => b = V ∨ b = E ∨ b = L) w (((w.setCell ⟨V, i, none⟩ (.int .i64 v)).setCell ⟨E, i, none⟩ .nilIface).setCell ⟨L, 0, none⟩ (.int .i64 (c + -1))) :=
    (((Kept.refl _ w).setCell ⟨V, i, none⟩ (.inl (.inl rfl)) _).setCell ⟨E, i, none⟩ (.inl (.inr (.inl rfl))) _).setCell ⟨L, 0, none⟩ (.inl (.inr (.inr rfl))) _
  have HK := Lib.hid KK
  clear KK
  go_wp2_with fail
  go_end0
  exact ⟨rfl, HK.out, HJ.out, HX.out⟩

/-- What an All's closure leaves, where it is the last one: the joint's future is filled. -/
def All1Last (w : World) (G V jb bj E be L bl m i : Nat) (l h p : Nat) (v : Int) (vs : Nat → Int) (x : Nat → Value) : Ending → World → Prop := fun r w' =>
  r = .returned (.tuple #[]) ∧ Kept (fun b => b = V ∨ b = E ∨ b = L ∨ FOwn G b) w w' ∧ Jn w' G (G + 6) (G + 7) V jb bj m (put vs i v) ∧ Ftr w' G l h p 2 m .nilIface 0 (-1) x

set_option maxRecDepth 100000 in
set_option maxHeartbeats 1600000 in
theorem all1_last (G V jb bj E be L bl i l h p : Nat) (v : Int) (vs : Nat → Int) (x : Nat → Value) (hi : i < 2) (w : World) (J : Jn w G (G + 6) (G + 7) V jb bj 2 vs) (X : El w E be L bl 2 1) (Y : Lie G V jb bj E be L bl) (F : Ftr w G l h p 0 0 .nilIface 0 0 x) :
    Calls Tryz.prog 19 #[.pointer none, .int .i64 i, .int .i64 v, .nilIface, .pointer (some ⟨bj, 0, none⟩), .pointer (some ⟨be, 0, none⟩), .pointer (some ⟨bl, 0, none⟩), .pointer (some ⟨G + 6, 0, none⟩), .pointer (some ⟨G + 7, 0, none⟩)] w
      (All1Last w G V jb bj E be L bl 2 i l h p v vs x) := by
  have i1 : (i : Int) < (2 : Nat) := by omega
  have i3 : (i : Int) < 2 := by omega
  have i2 : (0 : Int) ≤ (i : Int) := by omega
  have ew : wrap64 ((1 : Int) + -1) = 1 + -1 := by unfold wrap64; omega
  obtain ⟨v1, j1, b1, y1, y2, y3, y4⟩ := Y
  have s0 := J.j.c
  have s1 := J.j0.lt
  have s2 := J.j1.c
  have s3 := (J.v i hi).c
  have s4 := (J.v i hi).fr
  have J1 := jn_put v J hi
  have KV : Kept (fun b => b = V) w (w.setCell ⟨V, i, none⟩ (.int .i64 v)) := Kept.one w ⟨V, i, none⟩ _
  have X1 := X.kept KV (by omega) (by omega) (by omega) (by omega)
  have J2 := J1.kept (Kept.one _ ⟨E, i, none⟩ .nilIface) (by show ¬ _ = E; omega) (by show ¬ _ = E; omega) (by show ¬ _ = E; omega) (by show ¬ _ = E; omega) (by show ¬ _ = E; omega)
  have X2 := el_put X1 hi
  have J3 := J2.kept (Kept.one _ ⟨L, 0, none⟩ (.int .i64 (1 + -1))) (by show ¬ _ = L; omega) (by show ¬ _ = L; omega) (by show ¬ _ = L; omega) (by show ¬ _ = L; omega) (by show ¬ _ = L; omega)
  have X3 := el_cell X2 (1 + -1)
  have HA := Lib.hid (cadd_is L 1 (-1) ew _ X2.c)
  have t0 := X1.e.c
  have t1 := (X1.er i hi).c
  have t2 := (X1.er i hi).fr
  have t3 := X2.l.c
  have KK : Kept (fun b => b = V ∨ b = E ∨ b = L) w (((w.setCell ⟨V, i, none⟩ (.int .i64 v)).setCell ⟨E, i, none⟩ .nilIface).setCell ⟨L, 0, none⟩ (.int .i64 (1 + -1))) :=
    (((Kept.refl _ w).setCell ⟨V, i, none⟩ (.inl (.inl rfl)) _).setCell ⟨E, i, none⟩ (.inl (.inr (.inl rfl))) _).setCell ⟨L, 0, none⟩ (.inl (.inr (.inr rfl))) _
  have F3 := F.kept KK (fun b ⟨h1, h2⟩ e => by rcases e with e | e | e <;> omega)
  have HJ := Lib.hid J3
  have HX := Lib.hid X3
  have HF := Lib.hid F3
  have HK := Lib.hid KK
  clear J X J1 X1 J2 X2 J3 X3 KV F F3 KK
  go_enter Tryz.func19, Tryz.ntmps19
  go_wp2_with fail
  refine (astore ⟨V, i, none⟩ _ v _ s3 s4).mono ?_
  rintro r w' ⟨rfl, rfl⟩
  go_wp2_with fail
  refine HA.out.mono ?_
  rintro r w' ⟨rfl, rfl⟩
  clear s0 s1 s2 s3 s4 t0 t1 t2 t3
  generalize ((w.setCell ⟨V, i, none⟩ (.int .i64 v)).setCell ⟨E, i, none⟩ .nilIface).setCell ⟨L, 0, none⟩ (.int .i64 (1 + -1)) = W at HJ HX HF HK ⊢
  go_wp2_with fail
  have KD : Kept (fun _ => False) W W.drew := (Kept.refl _ W).drew
  have JD := HJ.out.kept KD id id id id id
  have XD := HX.out.kept KD id id id id
  have c6 := JD.g.c
  have c7 := JD.n.c
  have ce := XD.e.c
  have e0 := (XD.er 0 (by decide)).c
  have e1 := (XD.er 1 (by decide)).c
  have l6 := JD.g.lt
  have l7 := JD.n.lt
  have le := XD.e.lt
  have lE := XD.ltE
  have HC := Lib.hid (fcomplete_ok 2 W.drew (HF.out.far KD))
  clear KD JD XD
  go_region_held3 (fun wx => wx.cell? ⟨G + 6, 0, none⟩ = some (.pointer (some ⟨G + 5, 0, none⟩)) ∧ wx.cell? ⟨G + 7, 0, none⟩ = some (.int .i64 2) ∧ wx.cell? ⟨be, 0, none⟩ = some (.slice (some ⟨E, 0, none⟩) 2 2) ∧ wx.cell? ⟨E, 0, none⟩ = some .nilIface ∧ wx.cell? ⟨E, 1, none⟩ = some .nilIface)
    (first | exact ⟨c6, c7, ce, e0, e1⟩ | exact ⟨p6, p7, pe, q0, q1⟩)
    (first
      | (go_at_call 23; refine (first_none E _ e0 e1).mono ?_; rintro e w' ⟨rfl, rfl⟩)
      | (go_at_call 22; refine (wrap_nil _ _).mono ?_; rintro e w' ⟨rfl, rfl⟩)
      | (go_at_call 17; refine HC.out.mono ?_; rintro e w2 ⟨rfl, F2, K2⟩; have p6 := (K2.cell (p := ⟨G + 6, 0, none⟩) l6 (by rintro ⟨h1, h2⟩; simp only at h1 h2; omega)).trans c6; have p7 := (K2.cell (p := ⟨G + 7, 0, none⟩) l7 (by rintro ⟨h1, h2⟩; simp only at h1 h2; omega)).trans c7; have pe := (K2.cell (p := ⟨be, 0, none⟩) le (by rintro ⟨h1, h2⟩; simp only at h1 h2; omega)).trans ce; have q0 := (K2.cell (p := ⟨E, 0, none⟩) lE (by rintro ⟨h1, h2⟩; simp only at h1 h2; omega)).trans e0; have q1 := (K2.cell (p := ⟨E, 1, none⟩) lE (by rintro ⟨h1, h2⟩; simp only at h1 h2; omega)).trans e1))
  all_goals
    have KD : Kept (fun _ => False) W W.drew := (Kept.refl _ W).drew
    have J4 := (HJ.out.kept KD id id id id id).kept K2 (by rintro ⟨h1, h2⟩; omega) (by rintro ⟨h1, h2⟩; omega) (by rintro ⟨h1, h2⟩; omega) (by rintro ⟨h1, h2⟩; omega) (by rintro ⟨h1, h2⟩; omega)
    have K4 : Kept (fun b => b = V ∨ b = E ∨ b = L ∨ FOwn G b) w w2 := ((HK.out.mono (T := fun b => b = V ∨ b = E ∨ b = L ∨ FOwn G b) fun b _ e => by rcases e with e | e | e; exact .inl e; exact .inr (.inl e); exact .inr (.inr (.inl e))).trans (KD.mono fun _ _ h => h.elim)).trans (K2.mono fun b _ e => .inr (.inr (.inr e)))
    have HR := Lib.hid (And.intro K4 (And.intro J4 F2))
    clear J4 K4 F2 K2
    go_wp2_with fail
    go_end0
    exact ⟨rfl, HR.out⟩

theorem any1_ok (G l h p bg i be bl bn : Nat) (v : Int) (x : Nat → Value) (w : World) (g : w.cell? ⟨bg, 0, none⟩ = some (.pointer (some ⟨G + 5, 0, none⟩))) (F : Ftr w G l h p 0 0 .nilIface 0 0 x) :
    Calls Tryz.prog 24 #[.pointer none, .int .i64 i, .int .i64 v, .nilIface, .pointer (some ⟨bg, 0, none⟩), .pointer (some ⟨be, 0, none⟩), .pointer (some ⟨bl, 0, none⟩), .pointer (some ⟨bn, 0, none⟩)] w
      fun r w' => r = .returned (.tuple #[]) ∧ Ftr w' G l h p 2 v .nilIface 0 (-1) x ∧ Kept (FOwn G) w w' := by
  have HC := Lib.hid (fcomplete_ok v _ F)
  clear F
  go_enter Tryz.func24, Tryz.ntmps24
  go_wp2_with fail
  refine HC.out.mono ?_
  rintro r w2 ⟨rfl, F2, K2⟩
  have HR := Lib.hid (And.intro F2 K2)
  clear F2 K2
  go_wp2_with fail
  refine bodyPost_ret (results_none rfl _ _ _) rfl ?_
  exact ⟨rfl, HR.out⟩

theorem any1_late (G l h p bg i be bl bn : Nat) (v s u m hd : Int) (e : Value) (x : Nat → Value) (hs : ¬ s = 0) (w : World) (g : w.cell? ⟨bg, 0, none⟩ = some (.pointer (some ⟨G + 5, 0, none⟩))) (F : Ftr w G l h p s u e m hd x) :
    Calls Tryz.prog 24 #[.pointer none, .int .i64 i, .int .i64 v, .nilIface, .pointer (some ⟨bg, 0, none⟩), .pointer (some ⟨be, 0, none⟩), .pointer (some ⟨bl, 0, none⟩), .pointer (some ⟨bn, 0, none⟩)] w
      fun r w' => r = .returned (.tuple #[]) ∧ w = w' := by
  have HC := Lib.hid (fcomplete_no (.pointer (some ⟨G + 5, 0, none⟩)) v .nilIface w (fclaim_miss hs w F))
  clear F
  go_enter Tryz.func24, Tryz.ntmps24
  go_wp2_with fail
  refine HC.out.mono ?_
  rintro r w2 ⟨rfl, rfl⟩
  go_wp2_with fail
  refine bodyPost_ret (results_none rfl _ _ _) rfl ?_
  exact ⟨rfl, rfl⟩

theorem qu_good {w : World} {n m : Nat} {k c1 c2 : Int} (q : Qu w n m k c1 c2) (x : Int) : Qu (w.setCell ⟨n + 9, 0, none⟩ (.int .i64 x)) n m k x c2 :=
  ⟨q.g.far _ _ (by simp), q.en.far _ _ (by simp), q.tm.far _ _ (by simp), q.good.set x, q.bad.far _ _ (by simp), q.bg.far _ _ (by simp), q.bb.far _ _ (by simp)⟩

set_option maxHeartbeats 800000 in
theorem quorum1_more (n m i : Nat) (v k c1 c2 : Int) (hc : 0 ≤ c1 ∧ c1 + 1 < k ∧ k ≤ 4096) (w : World) (q : Qu w n m k c1 c2) :
    Calls Tryz.prog 26 #[.pointer none, .int .i64 i, .int .i64 v, .nilIface, .pointer (some ⟨n + 11, 0, none⟩), .pointer (some ⟨n + 7, 0, none⟩), .pointer (some ⟨n + 6, 0, none⟩), .pointer (some ⟨n + 12, 0, none⟩), .pointer (some ⟨n + 8, 0, none⟩)] w
      fun r w' => r = .returned (.tuple #[]) ∧ Qu w' n m k (c1 + 1) c2 ∧ Kept (fun b => b = n + 9) w w' := by
  have ew : wrap64 (c1 + 1) = c1 + 1 := by unfold wrap64; omega
  have hne : ¬ c1 + 1 = k := by omega
  have b1 := q.bg.c
  have b2 := q.en.c
  have b3 := q.en.lt
  have HA := Lib.hid (fun W (C : Cel W (n + 9) c1) => cadd_is (n + 9) c1 1 ew W C)
  have HQ := Lib.hid q
  clear q
  go_enter Tryz.func26, Tryz.ntmps26
  go_wp2_with fail
  go_region_with (go_at_call 21; refine (HA.out _ (HQ.out.good.kept (Kept.refl (fun _ => False) w).drew id)).mono ?_; rintro r w' ⟨rfl, rfl⟩)
  all_goals
    go_wp2_with fail
    go_end0
    exact ⟨rfl, (qu_good HQ.out _).kept (Kept.refl (fun _ => False) _).drew (fun _ _ _ => id), (Kept.one w ⟨n + 9, 0, none⟩ _).drew⟩

set_option maxHeartbeats 800000 in
theorem quorum1_last (n m i l h p : Nat) (v k c1 c2 : Int) (x : Nat → Value) (hc : 0 ≤ c1 ∧ c1 + 1 = k ∧ k ≤ 4096) (w : World) (q : Qu w n m k c1 c2) (F : Ftr w n l h p 0 0 .nilIface 0 0 x) :
    Calls Tryz.prog 26 #[.pointer none, .int .i64 i, .int .i64 v, .nilIface, .pointer (some ⟨n + 11, 0, none⟩), .pointer (some ⟨n + 7, 0, none⟩), .pointer (some ⟨n + 6, 0, none⟩), .pointer (some ⟨n + 12, 0, none⟩), .pointer (some ⟨n + 8, 0, none⟩)] w
      fun r w' => r = .returned (.tuple #[]) ∧ Ftr w' n l h p 2 k .nilIface 0 (-1) x ∧ Kept (fun b => b = n + 9 ∨ FOwn n b) w w' := by
  have ew : wrap64 (c1 + 1) = c1 + 1 := by unfold wrap64; omega
  obtain ⟨_, hk, _⟩ := hc
  subst hk
  have b1 := q.bg.c
  have b2 := q.en.c
  have b3 := q.en.lt
  have HA := Lib.hid (fun W (C : Cel W (n + 9) c1) => cadd_is (n + 9) c1 1 ew W C)
  have HQ := Lib.hid q
  have HF := Lib.hid F
  clear q F
  go_enter Tryz.func26, Tryz.ntmps26
  go_upto_region 1 with fail
  go_cut [19] (fun b wx => b = .bool true ∧ Qu wx n m (c1 + 1) (c1 + 1) c2 ∧ Kept (fun b => b = n + 9) w wx)
  case first =>
    go_region_with (go_at_call 21; refine (HA.out _ (HQ.out.good.kept (Kept.refl (fun _ => False) w).drew id)).mono ?_; rintro r w' ⟨rfl, rfl⟩)
    all_goals
      go_wp2_with fail
      go_meet
      exact ⟨rfl, (qu_good HQ.out _).kept (Kept.refl (fun _ => False) _).drew (fun _ _ _ => id), (Kept.one w ⟨n + 9, 0, none⟩ _).drew⟩
  case rest =>
    obtain ⟨rfl, Q1, K1⟩ := hcut
    have b4 := Q1.g.c
    have b5 := Q1.en.c
    have HC := Lib.hid (fcomplete_ok (c1 + 1) wc (HF.out.kept K1 (fun b ⟨h1, h2⟩ e => by omega)))
    have HK := Lib.hid K1
    clear Q1 K1 b1 b2 b3
    go_wp2_with fail
    refine HC.out.mono ?_
    rintro r w2 ⟨rfl, F2, K2⟩
    have HR := Lib.hid (And.intro F2 ((HK.out.mono (T := fun b => b = n + 9 ∨ FOwn n b) fun _ _ e => .inl e).trans (K2.mono fun _ _ e => .inr e)))
    clear F2 K2
    go_wp2_with fail
    go_end0
    exact ⟨rfl, HR.out⟩

end Go.Proofs.YtfbanlpmkfgpjaaGreatDoor

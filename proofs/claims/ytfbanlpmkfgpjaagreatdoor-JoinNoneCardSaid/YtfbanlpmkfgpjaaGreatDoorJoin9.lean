/-
  Package join, a nil thread: Values; what stands in memory when two futures are hung on by All, Any and Quorum.
-/
import Derived.Test.YtfbanlpmkfgpjaaGreatDoorJoin8
namespace Go.Proofs.YtfbanlpmkfgpjaaGreatDoor
open Go.RowKit

theorem Tryz.info2 : (Tryz.prog.info? 2).map (fun i => (i.zero, i.size, i.bytes)) = some (some (.int .i64 0), 1, 8) := by kernel_rfl

theorem run_mkI (n : Nat) (h2 : n ≤ 4096) (W : World) : (Instr.makeSlice 42 (.int .i64 n) (.int .i64 n)).run Tryz.prog W = .ok (.slice (some ⟨W.heap.size, 0, none⟩) n n) (W.alloc (.cells (many (.int .i64 0) n) 2)) :=
  run_make_row' (P := Tryz.prog) 42 2 (.int .i64 0) 8 Tryz.underlying42 Tryz.info2 rfl .i64 .i64 n (by omega) (by omega) W

/-- Two values in a row of one's own. -/
def ValsPost (w : World) (a b : Int) : Ending → World → Prop := fun r w' =>
  ∃ R : Nat, r = .returned (.tuple #[.slice (some ⟨R, 0, none⟩) 2 2, .nilIface]) ∧ w'.cell? ⟨R, 0, none⟩ = some (.int .i64 a) ∧ w'.cell? ⟨R, 1, none⟩ = some (.int .i64 b) ∧ R < w'.heap.size ∧ w.heap.size ≤ R ∧ Kept (fun _ => False) w w'

set_option maxRecDepth 100000 in
set_option maxHeartbeats 1600000 in
theorem values_two (G l h p V jb bj : Nat) (vs : Nat → Int) (x : Nat → Value) (m hd : Int) (w : World) (J : Jn w G (G + 6) (G + 7) V jb bj 2 vs) (F : Ftr w G l h p 2 2 .nilIface m hd x) :
    Calls Tryz.prog 9 #[.pointer (some ⟨jb, 0, none⟩), .pointer none] w (ValsPost w (vs 0) (vs 1)) := by
  have hmk : ∀ W : World, (Instr.makeSlice 42 (.int .i64 2) (.int .i64 2)).run Tryz.prog W = .ok (.slice (some ⟨W.heap.size, 0, none⟩) 2 2) (W.alloc (.cells (many (.int .i64 0) 2) 2)) := fun W => run_mkI 2 (by decide) W
  have j0 := J.j0.c
  have j1 := J.j1.c
  have HJ := Lib.hid J
  have HF := Lib.hid F
  clear J F
  go_enter Tryz.func9, Tryz.ntmps9
  go_wp2_with fail
  refine (jnone_is jb _ _ j0).mono ?_
  rintro e w' ⟨rfl, rfl⟩
  go_wp2_with fail
  refine (fawait_is (by decide) _ HF.out).mono ?_
  rintro e w1 ⟨rfl, K1⟩
  have J1 := HJ.out.kept K1 id id id id id
  have HK1 := Lib.hid K1
  have c1 := J1.j1.c
  have KA : Kept (fun _ => False) w1 (w1.alloc (.cells (many (.int .i64 0) 2) 2)) := (Kept.refl _ _).alloc _
  have J2 := J1.kept KA id id id id id
  have R0 : Slot (w1.alloc (.cells (many (.int .i64 0) 2) 2)) w1.heap.size 0 (.int .i64 0) := slot_of (block_last _ _ _ rfl) (many_get _ _ _ (by decide))
  have R1 : Slot (w1.alloc (.cells (many (.int .i64 0) 2) 2)) w1.heap.size 1 (.int .i64 0) := slot_of (block_last _ _ _ rfl) (many_get _ _ _ (by decide))
  have HJ2 := Lib.hid J2
  have HR0 := Lib.hid R0
  have HR1 := Lib.hid R1
  have HKA := Lib.hid (K1.trans KA)
  have lv := J1.ltV
  have lj := J1.j1.lt
  have hsz : Hid (w.heap.size ≤ w1.heap.size) := K1.size
  clear K1 J1 KA J2 R0 R1 j0 j1
  go_wp2_with fail
  clear c1 hmk
  generalize w1.alloc (.cells (many (.int .i64 0) 2) 2) = W at HJ2 HR0 HR1 HKA ⊢
  have n1 : w1.heap.size ≠ V := by omega
  have n2 : w1.heap.size ≠ jb := by omega
  refine wp_loop_rounds 3 ?_
  rw [rounds_succ]
  have c1 := HJ2.out.j1.c
  have v0 := (HJ2.out.v 0 (by decide)).c
  have v1 := (HJ2.out.v 1 (by decide)).c
  have r0 := HR0.out.c
  have r0f := HR0.out.fr
  have r1 := HR1.out.c
  have r1f := HR1.out.fr
  have r1l := HR1.out.lt
  go_wp2_with (go_at_call 29; refine (aload _ _ _ v0).mono ?_; rintro e w' ⟨rfl, hw⟩; obtain rfl := hw.symm)
  rw [rounds_succ]
  have v1' : (W.setCell ⟨w1.heap.size, 0, none⟩ (.int .i64 (vs 0))).cell? ⟨V, 1, none⟩ = some (.int .i64 (vs 1)) := ((Kept.one W ⟨w1.heap.size, 0, none⟩ _).cell (p := ⟨V, 1, none⟩) HJ2.out.ltV (by simp only; omega)).trans v1
  go_wp2_with (go_at_call 29; refine (aload _ _ _ v1').mono ?_; rintro e w' ⟨rfl, rfl⟩)
  rw [rounds_succ]
  have K3 : Kept (fun _ => False) w ((W.setCell ⟨w1.heap.size, 0, none⟩ (.int .i64 (vs 0))).setCell ⟨w1.heap.size, 1, none⟩ (.int .i64 (vs 1))) := (HKA.out.setCell ⟨w1.heap.size, 0, none⟩ (.inr hsz.out) _).setCell ⟨w1.heap.size, 1, none⟩ (.inr hsz.out) _
  have HK3 := Lib.hid K3
  clear K3
  go_wp2_with fail
  go_ret2
  exact ⟨w1.heap.size, rfl, by go_simp, by go_simp, by simpa using r1l, hsz.out, HK3.out⟩

/-- All's part: where it lies (lo to hi), its values, how many are left. -/
structure CA (W : World) (G l h p V jb bj E be L bl hi : Nat) (vs : Nat → Int) (c : Int) : Prop where
  fut : Ftr W G l h p 0 0 .nilIface 0 0 (fun _ => .pointer none)
  jn : Jn W G (G + 6) (G + 7) V jb bj 2 vs
  el : El W E be L bl 2 c
  lie : Lie G V jb bj E be L bl
  up : G + 11 ≤ hi ∧ E < hi ∧ be < hi ∧ L < hi ∧ bl < hi

theorem CA.kept {S : Nat → Prop} {W W' : World} {G l h p V jb bj E be L bl hi : Nat} {vs : Nat → Int} {c : Int} (C : CA W G l h p V jb bj E be L bl hi vs c) (k : Kept S W W') (hs : ∀ b, G ≤ b → b < hi → ¬ S b) : CA W' G l h p V jb bj E be L bl hi vs c := by
  have y := C.lie
  have u := C.up
  have := y.v; have := y.j; have := y.b; have := y.e; have := y.be; have := y.l; have := y.bl
  exact ⟨C.fut.kept k (fun b ⟨h1, h2⟩ => hs b h1 (by omega)), C.jn.kept k (hs _ (by omega) (by omega)) (hs _ (by omega) (by omega)) (hs _ (by omega) (by omega)) (hs _ (by omega) (by omega)) (hs _ (by omega) (by omega)), C.el.kept k (hs _ (by omega) (by omega)) (hs _ (by omega) (by omega)) (hs _ (by omega) (by omega)) (hs _ (by omega) (by omega)), y, u⟩

/-- .. when it is filled. -/
structure CD (W : World) (G l h p V jb bj hi : Nat) (vs : Nat → Int) : Prop where
  fut : Ftr W G l h p 2 2 .nilIface 0 (-1) (fun _ => .pointer none)
  jn : Jn W G (G + 6) (G + 7) V jb bj 2 vs
  up : G + 11 ≤ hi ∧ (G + 8 ≤ V ∧ V < G + 11) ∧ (G + 8 ≤ jb ∧ jb < G + 11) ∧ (G + 8 ≤ bj ∧ bj < G + 11)

theorem CD.kept {S : Nat → Prop} {W W' : World} {G l h p V jb bj hi : Nat} {vs : Nat → Int} (C : CD W G l h p V jb bj hi vs) (k : Kept S W W') (hs : ∀ b, G ≤ b → b < hi → ¬ S b) : CD W' G l h p V jb bj hi vs := by
  have u := C.up
  exact ⟨C.fut.kept k (fun b ⟨h1, h2⟩ => hs b h1 (by omega)), C.jn.kept k (hs _ (by omega) (by omega)) (hs _ (by omega) (by omega)) (hs _ (by omega) (by omega)) (hs _ (by omega) (by omega)) (hs _ (by omega) (by omega)), u⟩

/-- Any's part. -/
structure CN (W : World) (G l h p bg lo hi : Nat) (s v hd : Int) : Prop where
  fut : Ftr W G l h p s v .nilIface 0 hd (fun _ => .pointer none)
  g : Slot W bg 0 (.pointer (some ⟨G + 5, 0, none⟩))
  ne : ¬ FOwn G bg
  up : lo ≤ G ∧ G + 6 ≤ hi ∧ lo ≤ bg ∧ bg < hi

theorem CN.kept {S : Nat → Prop} {W W' : World} {G l h p bg lo hi : Nat} {s v hd : Int} (C : CN W G l h p bg lo hi s v hd) (k : Kept S W W') (hs : ∀ b, lo ≤ b → b < hi → ¬ S b) : CN W' G l h p bg lo hi s v hd := by
  have u := C.up
  exact ⟨C.fut.kept k (fun b ⟨h1, h2⟩ => hs b (by omega) (by omega)), C.g.kept k (hs _ (by omega) (by omega)), C.ne, u⟩

/-- Quorum's part. -/
structure CQ (W : World) (n l h p : Nat) (c1 s v hd : Int) : Prop where
  fut : Ftr W n l h p s v .nilIface 0 hd (fun _ => .pointer none)
  q : Qu W n 2 2 c1 0

theorem CQ.kept {S : Nat → Prop} {W W' : World} {n l h p : Nat} {c1 s v hd : Int} (C : CQ W n l h p c1 s v hd) (k : Kept S W W') (hs : ∀ b, n ≤ b → b < n + 13 → ¬ S b) : CQ W' n l h p c1 s v hd :=
  ⟨C.fut.kept k (fun b ⟨h1, h2⟩ => hs b h1 (by omega)), C.q.kept k (fun b h1 h2 => hs b (by omega) (by omega))⟩

/-- What one of them has hung on a future, number j: c of them ahead. -/
structure CE (W : World) (bf s c j : Nat) (F : Value) : Prop where
  f : Slot W bf 0 F
  box : Slot W (s + 6 * j) 0 (.int .i64 j)
  two : Two W (s + 6 * j + 5) (.pointer (some ⟨s + 6 * j + 1, 0, none⟩)) (.int .i64 c)
  fn : Slot W (s + 6 * j + 1) 0 (.func (.func 39) #[] #[.pointer (some ⟨bf, 0, none⟩), .pointer (some ⟨s + 6 * j, 0, none⟩)])

theorem CE.kept {S : Nat → Prop} {W W' : World} {bf s c j : Nat} {F : Value} (C : CE W bf s c j F) (k : Kept S W W') (h1 : ¬ S bf) (h2 : ∀ b, s + 6 * j ≤ b → b < s + 6 * j + 6 → ¬ S b) : CE W' bf s c j F :=
  ⟨C.f.kept k h1, C.box.kept k (h2 _ (by omega) (by omega)), C.two.kept k (h2 _ (by omega) (by omega)), C.fn.kept k (h2 _ (by omega) (by omega))⟩

theorem Hung.ent {w w' : World} {m c : Nat} {fs L H P : Nat → Nat} {X : Nat → Nat → Value} {bf s : Nat} {F : Value} (G : Hung w w' m c m fs L H P X bf s F) (j : Nat) (hj : j < m) : CE w' bf s c j F := ⟨G.f, G.box j hj, G.two j hj, G.fn j hj⟩

theorem Hung.fts {w0 w w' : World} {m c : Nat} {fs L H P : Nat → Nat} {X : Nat → Nat → Value} {bf s : Nat} {F : Value} (G : Hung w w' m c m fs L H P X bf s F) (A : Fts w0 m c fs L H P X) :
    Fts w' m (c + 1) fs L H P (fun j => put (X j) c (.pointer (some ⟨s + 6 * j + 5, 0, none⟩))) :=
  ⟨fun j hj => G.done j hj, fun j hj i hi => by rw [put_other _ _ _ _ (by omega)]; exact A.nil j hj i (by omega), A.apart⟩

end Go.Proofs.YtfbanlpmkfgpjaaGreatDoor

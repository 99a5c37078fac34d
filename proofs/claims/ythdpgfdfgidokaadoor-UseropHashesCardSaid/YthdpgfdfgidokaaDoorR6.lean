/-
 The document's quotient (quaestorref01.Div), walked: bit by bit.
-/
import Derived.Test.YthdpgfdfgidokaaDoorOK
import Derived.Test.YthdpgfdfgidokaaDoorX1
import Derived.Test.YthdpgfdfgidokaaDoorRE
import Derived.Test.YthdpgfdfgidokaaDoorR3
import Derived.Test.YthdpgfdfgidokaaDoorEO
set_option maxRecDepth 10000
set_option maxHeartbeats 4000000
set_option linter.defProp false
set_option linter.unusedVariables false
set_option linter.unusedSimpArgs false
namespace Go.Proofs.YthdpgfdfgidokaaDoor
open Go.RowKit
theorem lo_splice : ∀ (l : List SV) (i : Nat) (v : SV), i < l.length → splice l i [v] = some (l.set i v)
 | [], i, v, h => by simp at h
 | [x], 0, v, _ => rfl
 | x :: y :: l, 0, v, _ => rfl
 | x :: l, i + 1, v, h => by
  have := lo_splice l i v (by simpa using h)
  simp only [splice, this, List.set]
theorem lo_nth : ∀ (l : List SV) (i j : Nat) (v : SV), i ≠ j → nth? (l.set i v) j = nth? l j
 | [], i, j, v, h => by simp [List.set]
 | x :: l, 0, 0, v, h => absurd rfl h
 | x :: l, 0, j + 1, v, h => rfl
 | x :: l, i + 1, 0, v, h => rfl
 | x :: l, i + 1, j + 1, v, h => by
  have := lo_nth l i j v (by omega)
  simpa only [List.set, nth?] using this
theorem lo_nth_eq : ∀ (l : List SV) (i : Nat) (v : SV), i < l.length → nth? (l.set i v) i = some v
 | [], i, v, h => by simp at h
 | x :: l, 0, v, _ => rfl
 | x :: l, i + 1, v, h => by
  have := lo_nth_eq l i v (by simpa using h)
  simpa only [List.set, nth?] using this
theorem lo_takeN : ∀ (l : List SV) (i j n : Nat) (v : SV), i < j ∨ j + n ≤ i → takeN (l.set i v) j n = takeN l j n
 | [], i, j, n, v, h => by simp [List.set]
 | x :: l, i, 0, 0, v, h => by cases i <;> rfl
 | x :: l, 0, j + 1, n, v, h => by
  cases n <;> rfl
 | x :: l, 0, 0, n + 1, v, h => by omega
 | x :: l, i + 1, 0, n + 1, v, h => by
  have := lo_takeN l i 0 n v (by omega)
  simp only [List.set, takeN, this]
 | x :: l, i + 1, j + 1, n, v, h => by
  have := lo_takeN l i j n v (by omega)
  cases n <;> simp only [List.set, takeN, this]
theorem lo_full : ∀ (l : List SV), takeN l 0 l.length = some l
 | [] => rfl
 | x :: l => by simp only [List.length_cons, takeN, lo_full l]
theorem lo_allOne : ∀ (l : List SV) (i : Nat) (v : SV), allOne l = true → oneS v = true → allOne (l.set i v) = true
 | [], i, v, h, _ => by simp [List.set, allOne]
 | x :: l, 0, v, h, hv => by
  simp only [allOne, List.set] at h ⊢
  rw [hv]
  cases ho : oneS x with
  | true => rw [ho] at h; exact h
  | false => rw [ho] at h; cases h
 | x :: l, i + 1, v, h, hv => by
  simp only [allOne, List.set] at h ⊢
  cases ho : oneS x with
  | true => rw [ho] at h; exact lo_allOne l i v h hv
  | false => rw [ho] at h; cases h
theorem lo_cut (l : List SV) (i j n : Nat) (v : SV) (h : i < j ∨ j + n ≤ i) : ((l.set i v).drop j).take n = (l.drop j).take n := by
 apply List.ext_getElem?
 intro k
 simp only [List.getElem?_take, List.getElem?_drop]
 split
 ·rw [List.getElem?_set_ne (by omega)]
 ·rfl
theorem OpR.set4 {H H' : Nat → Obj → Prop} {l : List SV} {x : OpD} (h : OpR H l x) {v1 v2 v3 v4 : SV} (b1 : byR H' v1 x.fd) (b2 : byR H' v2 x.cd) (b3 : byR H' v3 x.pd) (b4 : byR H' v4 x.sg) : OpR H' ((((l.set 45 v1).set 46 v2).set 81 v3).set 82 v4) x := by
 have one : ∀ {v : SV} {xs : List Int}, byR H' v xs → oneS v = true := fun ⟨_, _, _, h, _⟩ => by subst h; rfl
 have hl : ((((l.set 45 v1).set 46 v2).set 81 v3).set 82 v4).length = 83 := by simp only [List.length_set]; exact h.len
 have n : ∀ j, j ≠ 45 → j ≠ 46 → j ≠ 81 → j ≠ 82 → nth? ((((l.set 45 v1).set 46 v2).set 81 v3).set 82 v4) j = nth? l j := fun j h1 h2 h3 h4 => by
  rw [lo_nth _ _ _ _ (Ne.symm h4), lo_nth _ _ _ _ (Ne.symm h3), lo_nth _ _ _ _ (Ne.symm h2), lo_nth _ _ _ _ (Ne.symm h1)]
 have t : ∀ j n, j + n ≤ 45 ∨ 46 < j ∧ j + n ≤ 81 → takeN ((((l.set 45 v1).set 46 v2).set 81 v3).set 82 v4) j n = takeN l j n := fun j n hj => by
  rw [lo_takeN _ _ _ _ _ (by omega), lo_takeN _ _ _ _ _ (by omega), lo_takeN _ _ _ _ _ (by omega), lo_takeN _ _ _ _ _ (by omega)]
 have d : ∀ j n, j + n ≤ 45 ∨ 46 < j ∧ j + n ≤ 81 → (((((l.set 45 v1).set 46 v2).set 81 v3).set 82 v4).drop j).take n = (l.drop j).take n := fun j n hj => by
  rw [lo_cut _ _ _ _ _ (by omega), lo_cut _ _ _ _ _ (by omega), lo_cut _ _ _ _ _ (by omega), lo_cut _ _ _ _ _ (by omega)]
 have hlen := h.len
 refine ⟨hl, lo_allOne _ _ _ (lo_allOne _ _ _ (lo_allOne _ _ _ (lo_allOne _ _ _ h.one (one b1)) (one b2)) (one b3)) (one b4), by rw [← hl]; exact lo_full _, (t 0 20 (by omega)).trans h.c0, (t 20 4 (by omega)).trans h.c20, (n 24 (by omega) (by omega) (by omega) (by omega)).trans h.c24,
  (t 25 20 (by omega)).trans h.c25, (d 25 20 (by omega)).trans h.d25, ⟨v1, ?_, b1⟩, ⟨v2, ?_, b2⟩, (n 47 (by omega) (by omega) (by omega) (by omega)).trans h.c47, (n 48 (by omega) (by omega) (by omega) (by omega)).trans h.c48, (n 49 (by omega) (by omega) (by omega) (by omega)).trans h.c49, (t 50 4 (by omega)).trans h.c50, (t 54 4 (by omega)).trans h.c54, (n 58 (by omega) (by omega) (by omega) (by omega)).trans h.c58,
  (t 59 20 (by omega)).trans h.c59, (d 59 20 (by omega)).trans h.d59, (n 79 (by omega) (by omega) (by omega) (by omega)).trans h.c79, (n 80 (by omega) (by omega) (by omega) (by omega)).trans h.c80, ⟨v3, ?_, b3⟩, ⟨v4, ?_, b4⟩, h.ls, h.lf, h.lp, h.bs, h.bf, h.bp, h.wn, h.wf, h.wt, h.u1, h.u2, h.u3, h.u4, h.u5⟩
 ·rw [lo_nth _ _ _ _ (by decide), lo_nth _ _ _ _ (by decide), lo_nth _ _ _ _ (by decide), lo_nth_eq _ _ _ (by omega)]
 ·rw [lo_nth _ _ _ _ (by decide), lo_nth _ _ _ _ (by decide), lo_nth_eq _ _ _ (by simp only [List.length_set]; omega)]
 ·rw [lo_nth _ _ _ _ (by decide), lo_nth_eq _ _ _ (by simp only [List.length_set]; omega)]
 ·rw [lo_nth_eq _ _ _ (by simp only [List.length_set]; omega)]
theorem lent_vc (a : Option Addr) (n c : Nat) (xs : List Int) (hl : xs.length = n) (hn : n ≤ c) (ha : adr a n c) (hb : n ≤ 1000000) (w : World) (hL : LiesH (H0 w) a (cc (.ints .u8 xs))) :
  Calls Tryd.prog 56 (cvs [.gh a n c (.ints .u8 xs)]).toArray w (fun en w' => ∃ u, en = .returned u ∧ ∃ v' m', u = cv v' ∧ MemOk w [] m' w' ∧ ∃ i s, v' = .own i s n ∧ bget m' i = .own s n 5 1 (.ints .u8 xs)) := by
 have hLx : ∀ m, allOld w ∈ m → LiesH (HM m) a (cc (.ints .u8 xs)) := fun m hin => hL.mono (H0.hm hin)
 have u1 : xs.take n = xs := List.take_of_length_le (by omega)
 refine Vc.calls T0_ok Tryd.func56 rfl rfl (args := [.gh a n c (.ints .u8 xs)]) (k := 6) rfl (old_start w) ?_; change Vc _ _ ([.gh a n c (.ints .u8 xs), .undef, .undef, .undef, .undef, .undef, .undef]) _ _
 ((repeat (first | (with_reducible refine Vc.seq fun N hN => ?_) | (with_reducible intro _) | ((with_reducible refine And.intro ?_ ?_); (focus (first | ((repeat' with_reducible apply And.intro) <;> first | exact sideQ | (exact hLx _ List.mem_cons_self) | (simp only [List.length_nil]; omega)) | exact sd0))) | ((first | ((with_reducible refine Vc.fin ?_); dsimp only [thenK, blockK, retK, resS, resOne, resAll]) | ((with_reducible refine Vc.hold ?_); first | refine Vc.regiont T0_ok G5_ok ?_)); (try simp only [v8Y, Nat.beq, Nat.ble, seval, tabs, G5_set, u1, List.drop_zero, List.nil_append, Nat.zero_add])) | ((with_reducible refine hN _ _ ?_); clear hN N))); (try ((with_reducible refine Fin.of ?_); (try with_reducible exact True.intro))))
 exact ⟨trivial, _, _, rfl, rfl⟩
def g_lent (args : List SV) (m : List Blk) : CR :=
 match args with
 | [s] => match srcC s m with
  | some (q, k, .ints .u8 xs) => .own (q ∧ k ≤ 1000000) 5 1 k (.ints .u8 xs) (fun v => v)
  | _ => .none
 | _ => .none
theorem g_lent_ok (w0 : World) (B : List Nat) (args : List SV) (m : List Blk) : CROk Tryd.prog w0 B 56 args m (g_lent args m) := by
 unfold g_lent
 split
 ·rename_i s
  split
  ·rename_i q kk ys hs
   intro ⟨hq, h5⟩ w hm
   obtain ⟨h1, a, cp, h2, h4, h6, h7⟩ := src_ro hs hq hm
   have hl : ys.length = kk := by simpa [cc, conEs] using h1
   have e : cvs [s] = cvs [.gh a kk cp (.ints .u8 ys)] := by simp only [cvs, cv]; rw [h2, cv_sl0]
   rw [e]
   exact own_new Tryd.func56 rfl rfl hm (lent_vc a kk cp ys hl h4 h7 h5 w (lies_of_ro h6))
  ·exact trivial
 ·exact trivial
def LoPost (l : List SV) (x : OpD) (v' : SV) (m' : List Blk) : Prop := ∃ j1 j2 j3 j4 s1 s2 s3 s4, v' = .agg ((((l.set 45 (.own j1 s1 x.fd.length)).set 46 (.own j2 s2 x.cd.length)).set 81 (.own j3 s3 x.pd.length)).set 82 (.own j4 s4 x.sg.length)) ∧ bget m' j1 = .own s1 x.fd.length 5 1 (.ints .u8 x.fd) ∧ bget m' j2 = .own s2 x.cd.length 5 1 (.ints .u8 x.cd) ∧ bget m' j3 = .own s3 x.pd.length 5 1 (.ints .u8 x.pd) ∧ bget m' j4 = .own s4 x.sg.length 5 1 (.ints .u8 x.sg)
noncomputable def GP6 : Ctr := fun f args m => match f with
 | 56 => g_lent args m
 | _ => .none
theorem GP6_ok : GOk Tryd.prog GP6 := by
 intro w0 B f args m; unfold GP6; split
 ·exact g_lent_ok _ _ _ _
 ·exact trivial
theorem GP6_lent : GP6 56 = g_lent := by funext args m; rfl
def GP6_set := And.intro (@GP6_lent) (@g_lent.eq_def)

set_option maxRecDepth 20000 in
theorem lentop_vc (l : List SV) (x : OpD) (w : World) (hO : OpR (H0 w) l x) (hS : OpS 10000 x) : Calls Tryd.prog 22 (cvs [.agg l]).toArray w (fun en w' => ∃ u, en = .returned u ∧ ∃ v' m', u = cv v' ∧ MemOk w [] m' w' ∧ LoPost l x v' m') := by
 obtain ⟨f1, f2, f3, c0, c20, c24, c25, d25, ⟨v1, c45, a1, n1, k1, rfl, p11, p12, p13, p14, p15, p16⟩, ⟨v2, c46, a2, n2, k2, rfl, p21, p22, p23, p24, p25, p26⟩, c47, c48, c49, c50, c54, c58, c59, d59, c79, c80, ⟨v3, c81, a3, n3, k3, rfl, p31, p32, p33, p34, p35, p36⟩, ⟨v4, c82, a4, n4, k4, rfl, p41, p42, p43, p44, p45, p46⟩, ls, lf, lp, bs, bf, bp, wn, wf, wt, u1, u2, u3, u4, u5⟩ := hO
 have L1 : ∀ m, allOld w ∈ m → LiesH (HM m) a1 (cc (.ints .u8 x.fd)) := fun m hin => p14.mono (H0.hm hin)
 have T1 : x.fd.take n1 = x.fd := List.take_of_length_le (by omega)
 have L2 : ∀ m, allOld w ∈ m → LiesH (HM m) a2 (cc (.ints .u8 x.cd)) := fun m hin => p24.mono (H0.hm hin)
 have T2 : x.cd.take n2 = x.cd := List.take_of_length_le (by omega)
 have L3 : ∀ m, allOld w ∈ m → LiesH (HM m) a3 (cc (.ints .u8 x.pd)) := fun m hin => p34.mono (H0.hm hin)
 have T3 : x.pd.take n3 = x.pd := List.take_of_length_le (by omega)
 have L4 : ∀ m, allOld w ∈ m → LiesH (HM m) a4 (cc (.ints .u8 x.sg)) := fun m hin => p44.mono (H0.hm hin)
 have T4 : x.sg.take n4 = x.sg := List.take_of_length_le (by omega)
 have N1 := numI_lm wn
 have N2 := numI_lm wf
 have N3 := numI_lm wt
 unfold u64I at u1 u2 u3 u4 u5
 simp only [OpS] at hS
 have e45 : ∀ v, splice l 45 [v] = some (l.set 45 v) := fun v => lo_splice _ _ _ (by omega)
 have c46' : ∀ v, nth? (l.set 45 v) 46 = some (.gh a2 n2 k2 (.ints .u8 x.cd)) := fun v => (lo_nth _ _ _ _ (by decide)).trans c46
 have e46 : ∀ v u, splice (l.set 45 v) 46 [u] = some ((l.set 45 v).set 46 u) := fun v u => lo_splice _ _ _ (by simp only [List.length_set]; omega)
 have c81' : ∀ v u, nth? ((l.set 45 v).set 46 u) 81 = some (.gh a3 n3 k3 (.ints .u8 x.pd)) := fun v u => (lo_nth _ _ _ _ (by decide)).trans ((lo_nth _ _ _ _ (by decide)).trans c81)
 have e81 : ∀ v u t, splice ((l.set 45 v).set 46 u) 81 [t] = some (((l.set 45 v).set 46 u).set 81 t) := fun v u t => lo_splice _ _ _ (by simp only [List.length_set]; omega)
 have c82' : ∀ v u t, nth? (((l.set 45 v).set 46 u).set 81 t) 82 = some (.gh a4 n4 k4 (.ints .u8 x.sg)) := fun v u t => (lo_nth _ _ _ _ (by decide)).trans ((lo_nth _ _ _ _ (by decide)).trans ((lo_nth _ _ _ _ (by decide)).trans c82))
 have e82 : ∀ v u t s, splice (((l.set 45 v).set 46 u).set 81 t) 82 [s] = some ((((l.set 45 v).set 46 u).set 81 t).set 82 s) := fun v u t s => lo_splice _ _ _ (by simp only [List.length_set]; omega)
 have eL : ∀ v u t s, ((((l.set 45 v).set 46 u).set 81 t).set 82 s).length = 83 := fun v u t s => by simp only [List.length_set]; exact f1
 have eF : ∀ v u t s, takeN ((((l.set 45 v).set 46 u).set 81 t).set 82 s) 0 83 = some ((((l.set 45 v).set 46 u).set 81 t).set 82 s) := fun v u t s => by
  have := lo_full ((((l.set 45 v).set 46 u).set 81 t).set 82 s)
  rw [eL] at this; exact this
 have eZ : ∀ v u t s, splice zl_29 0 ((((l.set 45 v).set 46 u).set 81 t).set 82 s) = some ((((l.set 45 v).set 46 u).set 81 t).set 82 s) := fun v u t s => splice_full _ _ (by rw [eL]; rfl)
 have eO : ∀ j1 s1 m1 j2 s2 m2 j3 s3 m3 j4 s4 m4, allOne ((((l.set 45 (.own j1 s1 m1)).set 46 (.own j2 s2 m2)).set 81 (.own j3 s3 m3)).set 82 (.own j4 s4 m4)) = true := fun _ _ _ _ _ _ _ _ _ _ _ _ => lo_allOne _ _ _ (lo_allOne _ _ _ (lo_allOne _ _ _ (lo_allOne _ _ _ f2 rfl) rfl) rfl) rfl
 subst p11 p21 p31 p41
 refine Vc.calls T0_ok Tryd.func22 rfl rfl (args := [.agg l]) (k := 19) rfl (old_start w) ?_; change Vc _ _ (c8 (.agg l) .undef .undef .undef .undef .undef .undef .undef (c8 .undef .undef .undef .undef .undef .undef .undef .undef ([.undef, .undef, .undef, .undef]))) _ _
 ((repeat (first | (with_reducible refine Vc.seq fun N hN => ?_) | (with_reducible intro _) | ((with_reducible refine And.intro ?_ ?_); (focus (first | ((repeat' with_reducible apply And.intro) <;> first | exact sideQ | (exact L1 _ (by simp)) | (exact L2 _ (by simp)) | (exact L3 _ (by simp)) | (exact L4 _ (by simp))) | exact sd0))) | ((first | ((with_reducible refine Vc.fin ?_); dsimp only [thenK, blockK, retK, resS, resOne, resAll]) | ((with_reducible refine Vc.hold ?_); first | refine Vc.regiont T0_ok GP6_ok ?_)); (try simp only [v8Y, Nat.beq, Nat.ble, seval, tabs, GP6_set, f2, f3, c45, e45, c46', e46, c81', e81, c82', e82, eF, eZ, eO, eL, T1, T2, T3, T4, List.drop_zero])) | ((with_reducible refine hN _ _ ?_); clear hN N))); (try ((with_reducible refine Fin.of ?_); (try with_reducible exact True.intro))))
 exact ⟨by simp, 3, 4, 5, 6, _, _, _, _, rfl, rfl, rfl, rfl, rfl⟩
def LoF (y : List SV) : SV := .agg y
def LoQ (x : OpD) (y : List SV) (h : List (Nat × Obj)) : Prop := OpR (Hl h) y x
noncomputable def g_lentop (args : List SV) (m : List Blk) : CR :=
 match args with
 | [.agg l] => .grw (∃ x, OpR (HM m) l x ∧ OpS 10000 x) (List SV × List (Nat × Obj)) (fun a => LoQ (opOf l) a.1 a.2) (fun a => .agg a.1) (fun a => .heap a.2)
 | _ => .none
theorem g_lentop_ok (w0 : World) (B : List Nat) (args : List SV) (m : List Blk) : CROk Tryd.prog w0 B 22 args m (g_lentop args m) := by
 unfold g_lentop
 split
 ·rename_i l
  intro ⟨x, hO, hS⟩ w hm
  rw [opOf_eq hO]
  refine calls_new (F := LoF) (Q := LoQ x) Tryd.func22 rfl rfl hm ((lentop_vc l x w (hO.mono fun b o h => hm.hm h) hS).mono fun e w' ⟨u, he, v', m', hu, hm', hp⟩ => ⟨u, he, v', m', hu, hm', fun w2 hm2 => ?_⟩)
  obtain ⟨j1, j2, j3, j4, s1, s2, s3, s4, rfl, g1, g2, g3, g4⟩ := hp
  have key : ∀ {j : Nat} {s : Value} {xs : List Int}, bget m' j = .own s xs.length 5 1 (.ints .u8 xs) → allB xs → ∃ v, cv (.own j s xs.length) = cv v ∧ byR (HN w w2) v xs := fun {j s xs} hb ha =>
   byO_sound (m := m') (q := s = s ∧ xs.length = xs.length ∧ 1 = 1 ∧ allB xs) (by simp only [byO, hb]) ⟨rfl, rfl, rfl, ha⟩ hm2
  have ba : ∀ {H : Nat → Obj → Prop} {v : SV} {xs : List Int}, byR H v xs → allB xs := fun ⟨_, _, _, _, _, _, _, _, h, _⟩ => h
  obtain ⟨_, _, q1⟩ := hO.c45
  obtain ⟨_, _, q2⟩ := hO.c46
  obtain ⟨_, _, q3⟩ := hO.c81
  obtain ⟨_, _, q4⟩ := hO.c82
  obtain ⟨v1, e1, r1⟩ := key g1 (ba q1)
  obtain ⟨v2, e2, r2⟩ := key g2 (ba q2)
  obtain ⟨v3, e3, r3⟩ := key g3 (ba q3)
  obtain ⟨v4, e4, r4⟩ := key g4 (ba q4)
  refine ⟨(((l.set 45 v1).set 46 v2).set 81 v3).set 82 v4, ?_, (OpR.set4 hO r1 r2 r3 r4).mono fun b o h => newH_mem h⟩
  simp only [LoF, cv, cvs_eq, List.map_set] at e1 e2 e3 e4 ⊢
  rw [e1, e2, e3, e4]
 ·exact trivial
end Go.Proofs.YthdpgfdfgidokaaDoor
namespace Go.Proofs.YthdpgfdfgidokaaDoor
def withN (a i : Nat) (on : Bool) : Nat := if on = true then a ||| 2 ^ i else a ^^^ (a &&& 2 ^ i)
theorem tb_withN (a i : Nat) (on : Bool) (j : Nat) : (withN a i on).testBit j = if j = i then on else a.testBit j := by
 unfold withN
 cases on
 ·rw [if_neg (by decide), Nat.testBit_xor, Nat.testBit_and, Nat.testBit_two_pow]
  by_cases h : j = i
  ·subst h; simp
  ·rw [if_neg h]; simp [show ¬ i = j from fun e => h e.symm]
 ·rw [if_pos rfl, Nat.testBit_or, Nat.testBit_two_pow]
  by_cases h : j = i
  ·subst h; simp
  ·rw [if_neg h]; simp [show ¬ i = j from fun e => h e.symm]
theorem lt_W_of {a : Nat} (h : ∀ j, 256 ≤ j → a.testBit j = false) : a < W := by
 rw [show W = 2 ^ 256 from rfl]; exact Nat.lt_pow_two_of_testBit a h
theorem withN_lt {a : Nat} (ha : a < W) {i : Nat} (hi : i < 256) (on : Bool) : withN a i on < W :=
 lt_W_of fun j hj => by rw [tb_withN, if_neg (by omega)]; exact tb_big ha j hj
def lmB (x i : Nat) (on : Bool) : Nat := if on = true then x ||| 2 ^ (i % 64) else x ^^^ (x &&& 2 ^ (i % 64))
theorem lm_withN (a i k : Nat) (on : Bool) : lm (withN a i on) k = if k = i / 64 then lmB (lm a k) i on else lm a k := by
 apply Nat.eq_of_testBit_eq
 intro j
 rw [tb_lm, tb_withN]
 by_cases hk : k = i / 64
 ·rw [if_pos hk]
  have e : (lmB (lm a k) i on).testBit j = if j = i % 64 then on else (lm a k).testBit j := tb_withN (lm a k) (i % 64) on j
  rw [e, tb_lm]
  by_cases hj : j = i % 64
  ·rw [if_pos (by omega), if_pos hj]; simp; omega
  ·rw [if_neg hj]
   by_cases hj2 : j < 64
   ·rw [if_neg (by omega)]
   ·simp [hj2]
 ·rw [if_neg hk, tb_lm]
  by_cases hj2 : j < 64
  ·rw [if_neg (by omega)]
  ·simp [hj2]
def bitsN (f : Nat → Bool) : Nat → Nat
 | 0 => 0
 | n + 1 => withN (bitsN f n) n (f n)
theorem tb_bitsN (f : Nat → Bool) (j : Nat) : ∀ n, (bitsN f n).testBit j = (decide (j < n) && f j)
 | 0 => by simp [bitsN]
 | n + 1 => by
  unfold bitsN
  rw [tb_withN, tb_bitsN f j n]
  by_cases h : j = n
  ·rw [if_pos h, h]; simp
  ·rw [if_neg h]
   have : decide (j < n) = decide (j < n + 1) := by rw [decide_eq_decide]; omega
   rw [this]
theorem bitsN_lt (f : Nat → Bool) {n : Nat} (h : n ≤ 256) : bitsN f n < W := lt_W_of fun j hj => by
 rw [tb_bitsN]; simp; omega
def mvB (a : Nat) (d : Int) (fill : Bool) (i : Nat) : Bool := if 0 ≤ (i : Int) - d ∧ (i : Int) - d < 256 then a.testBit ((i : Int) - d).toNat else fill
theorem tb_shl (n a j : Nat) : (shlM n a).testBit j = (decide (j < 256) && (decide (min n 256 ≤ j) && a.testBit (j - min n 256))) := by
 unfold shlM shlN
 rw [sp_eq, show W = 2 ^ 256 from rfl, Nat.testBit_mod_two_pow, Nat.testBit_mul_two_pow]
theorem tb_shd {a : Nat} (ha : a < W) (n f j : Nat) : (shdM n a f).testBit j = (decide (j < 256) && if j + min n 256 < 256 then a.testBit (j + min n 256) else decide (f ≠ 0)) := by
 unfold shdM shdN
 rw [sp_eq, show W = 2 ^ 256 from rfl, Nat.testBit_mod_two_pow, Nat.testBit_div_two_pow]
 by_cases hj : j < 256
 ·rw [tb_ext ha f _ (by omega)]
 ·simp [hj]
theorem mv_shl (a : Nat) (n : Nat) : bitsN (mvB a ((min n 256 : Nat) : Int) false) 256 = shlM n a := by
 apply Nat.eq_of_testBit_eq
 intro j
 rw [tb_bitsN, tb_shl]
 by_cases hj : j < 256
 ·unfold mvB
  by_cases hd : min n 256 ≤ j
  ·rw [if_pos (by omega)]
   simp [hj, hd, show ((j : Int) - ((min n 256 : Nat) : Int)).toNat = j - min n 256 by omega]
  ·rw [if_neg (by omega)]; simp [hd]
 ·simp [hj]
theorem mv_shd {a : Nat} (ha : a < W) (n : Nat) (b : Bool) : bitsN (mvB a (-((min n 256 : Nat) : Int)) b) 256 = shdM n a (if b = true then 18446744073709551615 else 0) := by
 apply Nat.eq_of_testBit_eq
 intro j
 rw [tb_bitsN, tb_shd ha]
 by_cases hj : j < 256
 ·unfold mvB
  by_cases hd : j + min n 256 < 256
  ·rw [if_pos (by omega), if_pos hd]
   simp [hj, show ((j : Int) + ((min n 256 : Nat) : Int)).toNat = j + min n 256 by omega]
  ·rw [if_neg (by omega), if_neg hd]; cases b <;> simp [hj]
 ·simp [hj]
end Go.Proofs.YthdpgfdfgidokaaDoor
namespace Go.Proofs.YthdpgfdfgidokaaDoor
open Go.RowKit
noncomputable def GC : Ctr := fun f args m => match f with
 | 52 => g_From args m
 | 43 => g_rFrom args m
 | 141 => g_Small args m
 | 109 => g_lowByte args m
 | 120 => g_Shl args m
 | 89 => g_Shr args m
 | 54 => g_Cmp args m
 | 53 => g_Add args m
 | 51 => g_Mul args m
 | 93 => g_length args m
 | 102 => g_Read args m
 | 79 => g_Addr args m
 | 67 => g_Wide args m
 | 101 => g_Bytes args m
 | 55 => g_rAdd args m
 | 41 => g_rCmp args m
 | 116 => g_rbit args m
 | _ => .none
theorem GC_ok : GOk Tryd.prog GC := by
 intro w0 B f args m; unfold GC; split
 ·exact g_From_ok _ _ _ _
 ·exact g_rFrom_ok _ _ _ _
 ·exact g_Small_ok _ _ _ _
 ·exact g_lowByte_ok _ _ _ _
 ·exact g_Shl_ok _ _ _ _
 ·exact g_Shr_ok _ _ _ _
 ·exact g_Cmp_ok _ _ _ _
 ·exact g_Add_ok _ _ _ _
 ·exact g_Mul_ok _ _ _ _
 ·exact g_length_ok _ _ _ _
 ·exact g_Read_ok _ _ _ _
 ·exact g_Addr_ok _ _ _ _
 ·exact g_Wide_ok _ _ _ _
 ·exact g_Bytes_ok _ _ _ _
 ·exact g_rAdd_ok _ _ _ _
 ·exact g_rCmp_ok _ _ _ _
 ·exact g_rbit_ok _ _ _ _
 ·exact trivial
theorem GC_From : GC 52 = g_From := by funext args m; rfl
theorem GC_rFrom : GC 43 = g_rFrom := by funext args m; rfl
theorem GC_Small : GC 141 = g_Small := by funext args m; rfl
theorem GC_lowByte : GC 109 = g_lowByte := by funext args m; rfl
theorem GC_Shl : GC 120 = g_Shl := by funext args m; rfl
theorem GC_Shr : GC 89 = g_Shr := by funext args m; rfl
theorem GC_Cmp : GC 54 = g_Cmp := by funext args m; rfl
theorem GC_Add : GC 53 = g_Add := by funext args m; rfl
theorem GC_Mul : GC 51 = g_Mul := by funext args m; rfl
theorem GC_length : GC 93 = g_length := by funext args m; rfl
theorem GC_Read : GC 102 = g_Read := by funext args m; rfl
theorem GC_Addr : GC 79 = g_Addr := by funext args m; rfl
theorem GC_Wide : GC 67 = g_Wide := by funext args m; rfl
theorem GC_Bytes : GC 101 = g_Bytes := by funext args m; rfl
theorem GC_rAdd : GC 55 = g_rAdd := by funext args m; rfl
theorem GC_rCmp : GC 41 = g_rCmp := by funext args m; rfl
theorem GC_rbit : GC 116 = g_rbit := by funext args m; rfl
def GC_set := And.intro (And.intro (And.intro (And.intro (And.intro (@GC_From) (@g_From.eq_def)) (And.intro (@GC_rFrom) (@g_rFrom.eq_def))) (And.intro (And.intro (@GC_Small) (@g_Small.eq_def)) (And.intro (@GC_lowByte) (@g_lowByte.eq_def)))) (And.intro (And.intro (And.intro (@GC_Shl) (@g_Shl.eq_def)) (And.intro (@GC_Shr) (@g_Shr.eq_def))) (And.intro (And.intro (@GC_Cmp) (@g_Cmp.eq_def)) (And.intro (@GC_Add) (And.intro (@g_Add.eq_def) (@GC_Mul)))))) (And.intro (And.intro (And.intro (And.intro (@g_Mul.eq_def) (@GC_length)) (And.intro (@g_length.eq_def) (@GC_Read))) (And.intro (And.intro (@g_Read.eq_def) (@GC_Addr)) (And.intro (@g_Addr.eq_def) (@GC_Wide)))) (And.intro (And.intro (And.intro (@g_Wide.eq_def) (@GC_Bytes)) (And.intro (@g_Bytes.eq_def) (@GC_rAdd))) (And.intro (And.intro (@g_rAdd.eq_def) (@GC_rCmp)) (And.intro (@g_rCmp.eq_def) (And.intro (@GC_rbit) (@g_rbit.eq_def))))))

theorem lmI_with (q i : Nat) (hi : i < 256) (on : Bool) : (lmI q).set (i / 64) ((lmB (lm q (i / 64)) i on : Nat) : Int) = lmI (withN q i on) := by
 unfold lmI
 rw [lm_withN, lm_withN, lm_withN, lm_withN]
 have : i / 64 = 0 ∨ i / 64 = 1 ∨ i / 64 = 2 ∨ i / 64 = 3 := by omega
 rcases this with h | h | h | h <;> rw [h] <;> rfl
theorem wrap_bit (i : Nat) : IntKind.u64.wrap (1 * 2 ^ min ((i : Int) % 64).toNat 64) = ((2 ^ (i % 64) : Nat) : Int) := by
 have h1 : min ((i : Int) % 64).toNat 64 = i % 64 := by omega
 have h2 : 2 ^ (i % 64) < 2 ^ 64 := Nat.pow_lt_pow_right (by decide) (by omega)
 rw [h1, Int.one_mul, wrap_u64 (Int.le_of_lt (Int.pow_pos (by decide))) ?_]
 ·rw [Int.natCast_pow]; rfl
 ·have : ((2 ^ (i % 64) : Nat) : Int) = (2 : Int) ^ (i % 64) := by rw [Int.natCast_pow]; rfl
  rw [← this]; omega
theorem put_bit (q i : Nat) (hi : i < 256) : (lmI q).set ((i : Int) / 64).toNat (bits .or .u64 ((lmI q).getD ((i : Int) / 64).toNat 0) (IntKind.u64.wrap (1 * 2 ^ min ((i : Int) % 64).toNat 64))) = lmI (withN q i true) := by
 have h2 : 2 ^ (i % 64) < 18446744073709551616 := (Nat.pow_lt_pow_right (by decide) (by omega) : 2 ^ (i % 64) < 2 ^ 64)
 rw [show ((i : Int) / 64).toNat = i / 64 by omega, wrap_bit, lmI_get _ _ (by omega), bits_or_u64_nat _ _ (lm_lt _ _) h2, ← lmI_with q i hi true]
 rfl
end Go.Proofs.YthdpgfdfgidokaaDoor

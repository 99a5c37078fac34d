/-
 The document's answers for layer 15 (package quaestorref15): address, half, word, data, halves, Pack, walked. No condition.
-/
import Derived.Test.YthdpgfdfgidokaaDoorR8
import Derived.Test.YthdpgfdfgidokaaDoorR9
import Derived.Test.YthdpgfdfgidokaaDoorOE
set_option maxRecDepth 10000
set_option maxHeartbeats 4000000
set_option linter.defProp false
set_option linter.unusedVariables false
set_option linter.unusedSimpArgs false
namespace Go.Proofs.YthdpgfdfgidokaaDoor
open Go.RowKit
theorem rshl_vc (n a : Nat) (hn : n < W) (ha : a < W) (w : World) : Calls Tryd.prog 99 (cvs [.word n, .word a]).toArray w (fun en w' => ∃ u, en = .returned u ∧ ∃ v m', u = cv v ∧ MemOk w [] m' w' ∧ v = .word (shlM n a)) := by
 have e1 := mv_shl a n
 refine Vc.calls T0_ok Tryd.func99 rfl rfl (args := [.word n, .word a]) (k := 7) rfl (MemOk.start _) ?_; change Vc _ _ (c8 (.word n) (.word a) .undef .undef .undef .undef .undef .undef ([.undef])) _ _
 ((repeat (first | (with_reducible refine Vc.seq fun N hN => ?_) | (with_reducible intro _) | ((with_reducible refine And.intro ?_ ?_); (focus (exact sd0))) | ((first | ((with_reducible refine Vc.fin ?_); dsimp only [thenK, blockK, retK, resS, resOne, resAll]) | ((with_reducible refine Vc.hold ?_); first | refine Vc.regiont T0_ok GM_ok ?_ | refine Vc.drawt (id := 1) T0_ok GM_ok (by kernel_rfl) [0, 1, 2] 3 [] trivial (by kernel_rfl) ?_)); (try simp only [v8Y, Nat.beq, Nat.ble, seval, tabs, GM_set])) | ((with_reducible refine hN _ _ ?_); clear hN N))); (try ((with_reducible refine Fin.of ?_); (try with_reducible exact True.intro))))
 ((try simp only [v8Y, Nat.beq, Nat.ble, seval, tabs]); (repeat' with_reducible apply And.intro) <;> first | with_reducible exact True.intro | rw [e1] | with_reducible rfl | (congr 1 <;> omega) | trivial)
def g_rShl (args : List SV) (_m : List Blk) : CR := match args with | [.word n, .word a] => .pure (n < W ∧ a < W) (.word (shlM n a)) | _ => .none
theorem g_rShl_ok (w0 : World) (B : List Nat) (args : List SV) (m : List Blk) : CROk Tryd.prog w0 B 99 args m (g_rShl args m) := by
 unfold g_rShl; split
 ·rename_i n a; exact fun h w _ => calls_pure Tryd.func99 rfl rfl (rshl_vc n a h.1 h.2 w)
 ·exact trivial
set_option maxRecDepth 8000 in
theorem rshr_vc (n a : Nat) (hn : n < W) (ha : a < W) (w : World) : Calls Tryd.prog 49 (cvs [.word n, .word a]).toArray w (fun en w' => ∃ u, en = .returned u ∧ ∃ v m', u = cv v ∧ MemOk w [] m' w' ∧ v = .word (shdM n a 0)) := by
 have e1 := mv_shd ha n false
 rw [if_neg (by decide)] at e1
 refine Vc.calls T0_ok Tryd.func49 rfl rfl (args := [.word n, .word a]) (k := 8) rfl (MemOk.start _) ?_; change Vc _ _ (c8 (.word n) (.word a) .undef .undef .undef .undef .undef .undef ([.undef, .undef])) _ _
 ((repeat (first | (with_reducible refine Vc.seq fun N hN => ?_) | (with_reducible intro _) | ((with_reducible refine And.intro ?_ ?_); (focus (exact sd0))) | ((first | ((with_reducible refine Vc.fin ?_); dsimp only [thenK, blockK, retK, resS, resOne, resAll]) | ((with_reducible refine Vc.hold ?_); first | refine Vc.regiont T0_ok GM_ok ?_ | refine Vc.drawt (id := 1) T0_ok GM_ok (by kernel_rfl) [0, 1, 2, 3] 4 [] trivial (by kernel_rfl) ?_)); (try simp only [v8Y, Nat.beq, Nat.ble, seval, tabs, GM_set])) | ((with_reducible refine hN _ _ ?_); clear hN N))); (try ((with_reducible refine Fin.of ?_); (try with_reducible exact True.intro))))
 ((try simp only [v8Y, Nat.beq, Nat.ble, seval, tabs]); (repeat' with_reducible apply And.intro) <;> first | with_reducible exact True.intro | rw [Int.zero_sub, e1] | with_reducible rfl | (congr 1 <;> omega) | trivial)
def g_rShr (args : List SV) (_m : List Blk) : CR := match args with | [.word n, .word a] => .pure (n < W ∧ a < W) (.word (shdM n a 0)) | _ => .none
theorem g_rShr_ok (w0 : World) (B : List Nat) (args : List SV) (m : List Blk) : CROk Tryd.prog w0 B 49 args m (g_rShr args m) := by
 unfold g_rShr; split
 ·rename_i n a; exact fun h w _ => calls_pure Tryd.func49 rfl rfl (rshr_vc n a h.1 h.2 w)
 ·exact trivial
end Go.Proofs.YthdpgfdfgidokaaDoor
namespace Go.Proofs.YthdpgfdfgidokaaDoor
open Go.RowKit
theorem bytI_tail (a m n : Nat) : (bytI a (n + m)).drop n = bytI a m := by
 apply List.ext_getElem
 ·rw [List.length_drop, bytI_len, bytI_len]; omega
 ·intro i h1 h2
  rw [bytI_len] at h2
  rw [List.getElem_drop]
  have e1 := bytI_get (a := a) (n := n + m) (k := n + i) (by omega)
  have e2 := bytI_get (a := a) (n := m) (k := i) (by omega)
  rw [show n + m - 1 - (n + i) = m - 1 - i by omega] at e1
  have g1 := (List.getElem?_eq_some_iff.1 e1).2
  have g2 := (List.getElem?_eq_some_iff.1 e2).2
  rw [g1, g2]
theorem adr_tail {xs : List Int} (hl : xs.length = 20) (hx : allB xs) : (bytI (rdI xs) 32).drop 12 = xs := by
 rw [show (32 : Nat) = 12 + 20 from rfl, bytI_tail]
 have := bytI_rdI hx
 rw [hl] at this
 exact this
def tlG (s : SV) : SV := match s with | .own nm v _ => .sl nm (some ⟨blkOf v, 0, none⟩) 12 0 1 20 (max 32 (capOf v) - 12) | s => s
noncomputable def GP1 : Ctr := fun f args m => match f with
 | 62 => g_rWide args m
 | 81 => g_rBytes args m
 | 43 => g_rFrom args m
 | _ => .none
theorem GP1_ok : GOk Tryd.prog GP1 := by
 intro w0 B f args m; unfold GP1; split
 ·exact g_rWide_ok _ _ _ _
 ·exact g_rBytes_ok _ _ _ _
 ·exact g_rFrom_ok _ _ _ _
 ·exact trivial
theorem GP1_rWide : GP1 62 = g_rWide := by funext args m; rfl
theorem GP1_rBytes : GP1 81 = g_rBytes := by funext args m; rfl
theorem GP1_rFrom : GP1 43 = g_rFrom := by funext args m; rfl
def GP1_set := And.intro (And.intro (@GP1_rWide) (And.intro (@g_rWide.eq_def) (@GP1_rBytes))) (And.intro (@g_rBytes.eq_def) (And.intro (@GP1_rFrom) (@g_rFrom.eq_def)))

theorem raddress_vc (xs : List Int) (hl : xs.length = 20) (hx : allB xs) (w : World) : Calls Tryd.prog 59 (cvs [.ints .u8 xs]).toArray w (fun en w' => ∃ u, en = .returned u ∧ ∃ v' m', u = cv v' ∧ MemOk w [] m' w' ∧ ∃ k s, cv v' = cv (tlG (.own k s 32)) ∧ bget m' k = .own s 32 5 1 (.ints .u8 (bytI (rdI xs) 32))) := by
 have wr : rdI xs < W := Nat.lt_of_lt_of_le (rdI_lt hx) (by rw [hl]; decide +kernel)
 refine Vc.calls T0_ok Tryd.func59 rfl rfl (args := [.ints .u8 xs]) (k := 6) rfl (MemOk.start _) ?_; change Vc _ _ ([.ints .u8 xs, .undef, .undef, .undef, .undef, .undef, .undef]) _ _
 ((repeat (first | (with_reducible refine Vc.seq fun N hN => ?_) | (with_reducible intro _) | ((with_reducible refine And.intro ?_ ?_); exact sX9) | ((first | ((with_reducible refine Vc.fin ?_); dsimp only [thenK, blockK, retK, resS, resOne, resAll]) | ((with_reducible refine Vc.hold ?_); first | refine Vc.regiont T0_ok GP1_ok ?_)); (try simp only [v8Y, Nat.beq, Nat.ble, seval, tabs, GP1_set, ])) | ((with_reducible refine hN _ _ ?_); clear hN N))); (try ((with_reducible refine Fin.of ?_); (try with_reducible exact True.intro))))
 rename_i b v
 exact ⟨by simp, 1, v, rfl, rfl⟩
def g_raddress (args : List SV) (_m : List Blk) : CR :=
 match args with
 | [.ints .u8 xs] => .own (xs.length = 20 ∧ allB xs) 5 1 32 (.ints .u8 (bytI (rdI xs) 32)) tlG
 | _ => .none
theorem g_raddress_ok (w0 : World) (B : List Nat) (args : List SV) (m : List Blk) : CROk Tryd.prog w0 B 59 args m (g_raddress args m) := by
 unfold g_raddress
 split
 ·rename_i xs
  intro h w hm
  exact own_newF (F := tlG) (fun k j s n => rfl) Tryd.func59 rfl rfl hm (raddress_vc xs h.1 h.2 w)
 ·exact trivial
theorem rhalf_vc (n : Int) (h : 0 ≤ n ∧ n ≤ 18446744073709551615) (w : World) : Calls Tryd.prog 60 (cvs [.int .u64 n]).toArray w (fun en w' => ∃ u, en = .returned u ∧ ∃ v' m', u = cv v' ∧ MemOk w [] m' w' ∧ ∃ k s, cv v' = cv (tlF (.own k s 32)) ∧ bget m' k = .own s 32 5 1 (.ints .u8 (bytI n.toNat 32))) := by
 have wn : n.toNat < W := by unfold W; omega
 refine Vc.calls T0_ok Tryd.func60 rfl rfl (args := [.int .u64 n]) (k := 6) rfl (MemOk.start _) ?_; change Vc _ _ ([.int .u64 n, .undef, .undef, .undef, .undef, .undef, .undef]) _ _
 ((repeat (first | (with_reducible refine Vc.seq fun N hN => ?_) | (with_reducible intro _) | ((with_reducible refine And.intro ?_ ?_); exact sX9) | ((first | ((with_reducible refine Vc.fin ?_); dsimp only [thenK, blockK, retK, resS, resOne, resAll]) | ((with_reducible refine Vc.hold ?_); first | refine Vc.regiont T0_ok GP1_ok ?_)); (try simp only [v8Y, Nat.beq, Nat.ble, seval, tabs, GP1_set, ])) | ((with_reducible refine hN _ _ ?_); clear hN N))); (try ((with_reducible refine Fin.of ?_); (try with_reducible exact True.intro))))
 rename_i v
 exact ⟨by simp, 0, v, rfl, rfl⟩
def g_rhalf (args : List SV) (_m : List Blk) : CR :=
 match args with
 | [.int .u64 n] => .own (0 ≤ n ∧ n ≤ 18446744073709551615) 5 1 32 (.ints .u8 (bytI n.toNat 32)) tlF
 | _ => .none
theorem g_rhalf_ok (w0 : World) (B : List Nat) (args : List SV) (m : List Blk) : CROk Tryd.prog w0 B 60 args m (g_rhalf args m) := by
 unfold g_rhalf
 split
 ·rename_i n
  intro h w hm
  exact own_newF (F := tlF) (fun k j s n => rfl) Tryd.func60 rfl rfl hm (rhalf_vc n h w)
 ·exact trivial
theorem rword_vc (a : Nat) (ha : a < W) (w : World) : Calls Tryd.prog 61 (cvs [.word a]).toArray w (fun en w' => ∃ u, en = .returned u ∧ ∃ v' m', u = cv v' ∧ MemOk w [] m' w' ∧ v' = (.agg [.bool false, .int .u64 (lm (a) 0 : Nat), .int .u64 (lm (a) 1 : Nat), .int .u64 (lm (a) 2 : Nat), .int .u64 (lm (a) 3 : Nat), .nilsl])) := by
 refine Vc.calls T0_ok Tryd.func61 rfl rfl (args := [.word a]) (k := 4) rfl (MemOk.start _) ?_; change Vc _ _ ([.word a, .undef, .undef, .undef, .undef]) _ _
 ((repeat (first | (with_reducible refine Vc.seq fun N hN => ?_) | (with_reducible intro _) | ((with_reducible refine And.intro ?_ ?_); exact sX9) | ((first | ((with_reducible refine Vc.fin ?_); dsimp only [thenK, blockK, retK, resS, resOne, resAll]) | ((with_reducible refine Vc.hold ?_); first | refine Vc.regiont T0_ok GP1_ok ?_)); (try simp only [v8Y, Nat.beq, Nat.ble, seval, tabs, GP1_set, ])) | ((with_reducible refine hN _ _ ?_); clear hN N))); (try ((with_reducible refine Fin.of ?_); (try with_reducible exact True.intro))))
 exact ⟨by simp, by first | rfl | trivial⟩
def g_rword (args : List SV) (_m : List Blk) : CR :=
 match args with
 | [.word a] => .pure (a < W) (.agg [.bool false, .int .u64 (lm (a) 0 : Nat), .int .u64 (lm (a) 1 : Nat), .int .u64 (lm (a) 2 : Nat), .int .u64 (lm (a) 3 : Nat), .nilsl])
 | _ => .none
theorem g_rword_ok (w0 : World) (B : List Nat) (args : List SV) (m : List Blk) : CROk Tryd.prog w0 B 61 args m (g_rword args m) := by
 unfold g_rword
 split
 ·rename_i a
  intro h w hm
  exact calls_pure Tryd.func61 rfl rfl (rword_vc a h w)
 ·exact trivial
theorem rdata_vc (a : Option Addr) (n c : Nat) (xs : List Int) (hl : xs.length = n) (hn : n ≤ c) (ha : adr a n c) (hb : n ≤ 1000000) (w : World) (hL : LiesH (H0 w) a (cc (.ints .u8 xs))) :
  Calls Tryd.prog 63 (cvs [.gh a n c (.ints .u8 xs)]).toArray w (fun en w' => ∃ u, en = .returned u ∧ ∃ v' m', u = cv v' ∧ MemOk w [] m' w' ∧ ∃ k s, cv v' = cv (datF (.own k s n)) ∧ bget m' k = .own s n 5 1 (.ints .u8 xs)) := by
 have hLx : ∀ m, allOld w ∈ m → LiesH (HM m) a (cc (.ints .u8 xs)) := fun m hin => hL.mono (H0.hm hin)
 have u1 : xs.take n = xs := List.take_of_length_le (by omega)
 refine Vc.calls T0_ok Tryd.func63 rfl rfl (args := [.gh a n c (.ints .u8 xs)]) (k := 8) rfl (old_start w) ?_; change Vc _ _ (c8 (.gh a n c (.ints .u8 xs)) .undef .undef .undef .undef .undef .undef .undef ([.undef])) _ _
 ((repeat (first | (with_reducible refine Vc.seq fun N hN => ?_) | (with_reducible intro _) | ((with_reducible refine And.intro ?_ ?_); (focus (first | ((repeat' with_reducible apply And.intro) <;> first | exact sideQ | (exact hLx _ (by simp)) | (simp only [List.length_nil]; omega)) | exact sd0))) | ((first | ((with_reducible refine Vc.fin ?_); dsimp only [thenK, blockK, retK, resS, resOne, resAll]) | ((with_reducible refine Vc.hold ?_); first | refine Vc.regiont T0_ok GP1_ok ?_)); (try simp only [v8Y, Nat.beq, Nat.ble, seval, tabs, GP1_set, u1, List.drop_zero, List.nil_append, Nat.zero_add])) | ((with_reducible refine hN _ _ ?_); clear hN N))); (try ((with_reducible refine Fin.of ?_); (try with_reducible exact True.intro))))
 rename_i b v
 exact ⟨by simp, 2, v, rfl, rfl⟩
def g_rdata (args : List SV) (m : List Blk) : CR :=
 match args with
 | [.nilsl] => .own True 5 1 0 (.ints .u8 []) datF
 | [s] => match srcC s m with
  | some (q, k, .ints .u8 xs) => .own (q ∧ k ≤ 1000000) 5 1 k (.ints .u8 xs) datF
  | _ => .none
 | _ => .none
theorem g_rdata_ok (w0 : World) (B : List Nat) (args : List SV) (m : List Blk) : CROk Tryd.prog w0 B 63 args m (g_rdata args m) := by
 unfold g_rdata
 split
 ·intro _ w hm
  exact own_newF datF_cv Tryd.func63 rfl rfl hm (rdata_vc none 0 0 [] rfl (Nat.le_refl _) (.inr ⟨rfl, rfl, rfl⟩) (Nat.zero_le _) w (.inl rfl))
 ·rename_i s _
  split
  ·rename_i q kk ys hs
   intro ⟨hq, h5⟩ w hm
   obtain ⟨h1, a, cp, h2, h4, h6, h7⟩ := src_ro hs hq hm
   have hl : ys.length = kk := by simpa [cc, conEs] using h1
   have e : cvs [s] = cvs [.gh a kk cp (.ints .u8 ys)] := by simp only [cvs, cv]; rw [h2, cv_sl0]
   rw [e]
   exact own_newF datF_cv Tryd.func63 rfl rfl hm (rdata_vc a kk cp ys hl h4 h7 h5 w (lies_of_ro h6))
  ·exact trivial
 ·exact trivial
noncomputable def GP2 : Ctr := fun f args m => match f with
 | 43 => g_rFrom args m
 | 99 => g_rShl args m
 | 55 => g_rAdd args m
 | _ => .none
theorem GP2_ok : GOk Tryd.prog GP2 := by
 intro w0 B f args m; unfold GP2; split
 ·exact g_rFrom_ok _ _ _ _
 ·exact g_rShl_ok _ _ _ _
 ·exact g_rAdd_ok _ _ _ _
 ·exact trivial
theorem GP2_rFrom : GP2 43 = g_rFrom := by funext args m; rfl
theorem GP2_rShl : GP2 99 = g_rShl := by funext args m; rfl
theorem GP2_rAdd : GP2 55 = g_rAdd := by funext args m; rfl
def GP2_set := And.intro (And.intro (@GP2_rFrom) (And.intro (@g_rFrom.eq_def) (@GP2_rShl))) (And.intro (@g_rShl.eq_def) (And.intro (@GP2_rAdd) (@g_rAdd.eq_def)))

theorem rhalves_vc (hi lo : Nat) (h1 : hi < W) (h2 : lo < W) (w : World) : Calls Tryd.prog 64 (cvs [.word hi, .word lo]).toArray w (fun en w' => ∃ u, en = .returned u ∧ ∃ v' m', u = cv v' ∧ MemOk w [] m' w' ∧ v' = .word (pairW hi lo)) := by
 have e128 : (128 : Int).toNat = 128 := rfl
 have s1 : shlM 128 hi < W := shlM_lt _ _
 have s2 : (128 : Nat) < W := by decide +kernel
 have e3 : addN (shlM 128 hi) lo = pairW hi lo := rfl
 refine Vc.calls T0_ok Tryd.func64 rfl rfl (args := [.word hi, .word lo]) (k := 16) rfl (MemOk.start _) ?_; change Vc _ _ (c8 (.word hi) (.word lo) .undef .undef .undef .undef .undef .undef (c8 .undef .undef .undef .undef .undef .undef .undef .undef ([.undef, .undef]))) _ _
 ((repeat (first | (with_reducible refine Vc.seq fun N hN => ?_) | (with_reducible intro _) | ((with_reducible refine And.intro ?_ ?_); exact sdB) | ((first | ((with_reducible refine Vc.fin ?_); dsimp only [thenK, blockK, retK, resS, resOne, resAll]) | ((with_reducible refine Vc.hold ?_); first | refine Vc.regiont T0_ok GP2_ok ?_ | refine Vc.drawt (id := 1) T0_ok GP2_ok (by kernel_rfl) [1, 0, 2] 4 [⟨3, 5, 26, _⟩] ⟨⟨⟨_, _, rfl⟩, zc_26⟩, trivial⟩ (by kernel_rfl) ?_)); (try simp only [v8Y, Nat.beq, Nat.ble, seval, tabs, GP2_set, e128, e3])) | ((with_reducible refine hN _ _ ?_); clear hN N))); (try ((with_reducible refine Fin.of ?_); (try with_reducible exact True.intro))))
 exact ⟨by simp, by first | rfl | trivial⟩
def g_rhalves (args : List SV) (_m : List Blk) : CR := match args with | [.word hi, .word lo] => .pure (hi < W ∧ lo < W) (.word (pairW hi lo)) | _ => .none
theorem g_rhalves_ok (w0 : World) (B : List Nat) (args : List SV) (m : List Blk) : CROk Tryd.prog w0 B 64 args m (g_rhalves args m) := by
 unfold g_rhalves; split
 ·rename_i hi lo; exact fun h w _ => calls_pure Tryd.func64 rfl rfl (rhalves_vc hi lo h.1 h.2 w)
 ·exact trivial
end Go.Proofs.YthdpgfdfgidokaaDoor

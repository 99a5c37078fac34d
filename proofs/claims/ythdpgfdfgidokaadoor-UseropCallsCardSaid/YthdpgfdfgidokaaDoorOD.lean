/-
 Package userop: number, pair, digest, factory, paymaster, walked; abi.Encode of parts in a literal. No condition.
-/
import Derived.Test.YthdpgfdfgidokaaDoorOC
import Derived.Test.YthdpgfdfgidokaaDoorD3
set_option maxRecDepth 10000
set_option maxHeartbeats 4000000
set_option linter.defProp false
set_option linter.unusedVariables false
set_option linter.unusedSimpArgs false
namespace Go.Proofs.YthdpgfdfgidokaaDoor
open Go.RowKit
theorem MemOk.wold {w : World} {m : List Blk} (h : MemOk w [] m w) : MemOk w [] (m ++ [allOld w]) w :=
 ⟨h.os, h.tape, h.output, h.size, h.old, fun e he => by
  rcases List.mem_append.1 he with he | he
  ·exact h.each e he
  ·rw [List.mem_singleton] at he; subst he
   exact (old_start w).each _ List.mem_cons_self, by
  rw [List.flatMap_append]; simpa [Blk.nums, allOld] using h.nodup⟩
theorem ro2 {w0 : World} {B : List Nat} {m : List Blk} {w : World} (hm : MemOk w0 B m w) {a0 a1 : Option Addr} {c0 c1 : Con} (h0 : bget m 0 = .ro a0 c0) (h1 : bget m 1 = .ro a1 c1) : MemOk w [] [.ro a0 c0, .ro a1 c1, allOld w] w :=
 MemOk.wold (ro_front (ro_ro hm h1) (ro_ro hm h0))
def hlfB (n : Int) : List Int := (bytI n.toNat 32).drop 16
theorem hlfB_len (n : Int) : (hlfB n).length = 16 := by unfold hlfB; rw [List.length_drop, bytI_len]
theorem hlfB_take (n : Int) : ((bytI n.toNat 32).drop 16).take 16 = hlfB n := List.take_of_length_le (by rw [List.length_drop, bytI_len]; omega)
theorem hlfB_all (n : Int) : allB (hlfB n) := fun y hy => bytI_all _ _ y (List.mem_of_mem_drop hy)
def tlF (s : SV) : SV := match s with | .own nm v _ => .sl nm (some ⟨blkOf v, 0, none⟩) 16 0 1 16 (max 32 (capOf v) - 16) | s => s
theorem number_vc (n : Int) (h : 0 ≤ n ∧ n ≤ 18446744073709551615) (w : World) : Calls Tryd.prog 121 (cvs [.int .u64 n]).toArray w (fun en w' => ∃ u, en = .returned u ∧ ∃ v' m', u = cv v' ∧ MemOk w [] m' w' ∧ ∃ k s, cv v' = cv (tlF (.own k s 32)) ∧ bget m' k = .own s 32 5 1 (.ints .u8 (bytI n.toNat 32))) := by
 refine Vc.calls T0_ok Tryd.func121 rfl rfl (args := [.int .u64 n]) (k := 6) rfl (MemOk.start _) ?_; change Vc _ _ ([.int .u64 n, .undef, .undef, .undef, .undef, .undef, .undef]) _ _
 ((repeat (first | (with_reducible refine Vc.seq fun N hN => ?_) | (with_reducible intro _) | ((with_reducible refine And.intro ?_ ?_); exact sdB) | ((first | ((with_reducible refine Vc.fin ?_); dsimp only [thenK, blockK, retK, resS, resOne, resAll]) | ((with_reducible refine Vc.hold ?_); first | refine Vc.regiont T0_ok G5_ok ?_)); (try simp only [v8Y, Nat.beq, Nat.ble, seval, tabs, G5_set, ])) | ((with_reducible refine hN _ _ ?_); clear hN N))); (try ((with_reducible refine Fin.of ?_); (try with_reducible exact True.intro))))
 rename_i v
 exact ⟨by simp, 0, v, rfl, rfl⟩
def g_number (args : List SV) (_m : List Blk) : CR :=
 match args with
 | [.int .u64 n] => .own (0 ≤ n ∧ n ≤ 18446744073709551615) 5 1 32 (.ints .u8 (bytI n.toNat 32)) tlF
 | _ => .none
theorem g_number_ok (w0 : World) (B : List Nat) (args : List SV) (m : List Blk) : CROk Tryd.prog w0 B 121 args m (g_number args m) := by
 unfold g_number
 split
 ·rename_i n
  intro h w hm
  exact own_newF (F := tlF) (fun k j s n => rfl) Tryd.func121 rfl rfl hm (number_vc n h w)
 ·exact trivial
def pairW (hi lo : Nat) : Nat := addN (shlM 128 hi) lo
theorem pair_vc (hi lo : Nat) (h1 : hi < W) (h2 : lo < W) (w : World) : Calls Tryd.prog 97 (cvs [.word hi, .word lo]).toArray w (fun en w' => ∃ u, en = .returned u ∧ ∃ v' m', u = cv v' ∧ MemOk w [] m' w' ∧
  v' = .agg [.bool false, .int .u64 (lm (pairW hi lo) 0 : Nat), .int .u64 (lm (pairW hi lo) 1 : Nat), .int .u64 (lm (pairW hi lo) 2 : Nat), .int .u64 (lm (pairW hi lo) 3 : Nat), .nilsl]) := by
 have e128 : (128 : Int).toNat = 128 := rfl
 have s1 : shlM 128 hi < W := shlM_lt _ _
 have s2 : (128 : Nat) < W := by decide +kernel
 refine Vc.calls T0_ok Tryd.func97 rfl rfl (args := [.word hi, .word lo]) (k := 15) rfl (MemOk.start _) ?_; change Vc _ _ (c8 (.word hi) (.word lo) .undef .undef .undef .undef .undef .undef (c8 .undef .undef .undef .undef .undef .undef .undef .undef ([.undef]))) _ _
 ((repeat (first | (with_reducible refine Vc.seq fun N hN => ?_) | (with_reducible intro _) | ((with_reducible refine And.intro ?_ ?_); exact sdB) | ((first | ((with_reducible refine Vc.fin ?_); dsimp only [thenK, blockK, retK, resS, resOne, resAll]) | ((with_reducible refine Vc.hold ?_); first | refine Vc.regiont T0_ok G5_ok ?_ | refine Vc.drawt (id := 1) T0_ok G5_ok (by kernel_rfl) [1, 3, 0, 2, 4, 5, 6, 7] 9 [⟨8, 5, 26, _⟩] ⟨⟨⟨_, _, rfl⟩, zc_26⟩, trivial⟩ (by kernel_rfl) ?_)); (try simp only [v8Y, Nat.beq, Nat.ble, seval, tabs, G5_set, e128])) | ((with_reducible refine hN _ _ ?_); clear hN N))); (try ((with_reducible refine Fin.of ?_); (try with_reducible exact True.intro))))
 exact ⟨by simp, by first | rfl | trivial⟩
def g_pair (args : List SV) (_m : List Blk) : CR :=
 match args with
 | [.word hi, .word lo] => .pure (hi < W ∧ lo < W) (.agg [.bool false, .int .u64 (lm (pairW hi lo) 0 : Nat), .int .u64 (lm (pairW hi lo) 1 : Nat), .int .u64 (lm (pairW hi lo) 2 : Nat), .int .u64 (lm (pairW hi lo) 3 : Nat), .nilsl])
 | _ => .none
theorem g_pair_ok (w0 : World) (B : List Nat) (args : List SV) (m : List Blk) : CROk Tryd.prog w0 B 97 args m (g_pair args m) := by
 unfold g_pair
 split
 ·rename_i hi lo
  intro h w hm
  exact calls_pure Tryd.func97 rfl rfl (pair_vc hi lo h.1 h.2 w)
 ·exact trivial
theorem lit_prts {m : List Blk} {nm b n : Nat} {t : TypeId} {rs : List (List SV)} {q : Prop} {l : List Prt} (hb : bget m nm = .blk b t (.rows 6 rs)) (h : prtXs (byK m) rs = some (q, l)) (hq : q) (hn : n = rs.length) {w0 : World} {B : List Nat} {w : World} (hm : MemOk w0 B m w) :
  ∃ rs', PsL (H0 w) (some ⟨b, 0, none⟩) n n rs' l := by
 obtain ⟨rs', h1, _, h2⟩ := prtXs_sound (H := H0 w) (fun x q xs hx hq => byK_sound hx hq hm) h hq
 have k1 := (hm.each _ (bget_mem hb (by simp))).1
 have hcc := cc_rows h1 6
 rw [hcc] at k1
 have hl := h2.1
 have hl2 : rs.length = rs'.length := by have := congrArg List.length h1; simpa using this
 refine ⟨rs', by omega, Nat.le_refl _, .inl rfl, .inr ⟨b, 0, _, _, _, rfl, k1, fun j u hj => ?_⟩, h2⟩
 rw [Nat.zero_add, List.getElem?_toArray, ← hj]
noncomputable def g_Enc (args : List SV) (m : List Blk) : CR :=
 match args with
 | [.sl nm (some ⟨b, 0, none⟩) 0 0 6 n c] => match bget m nm with
  | .blk b2 _ (.rows 6 rs) => match prtXs (byK m) rs with
   | some (q, l) => .own (q ∧ b2 = b ∧ n = rs.length ∧ c = n ∧ psz l ≤ 100000) 5 1 (abEnc l).length (.ints .u8 (abEnc l)) (fun v => v)
   | none => .none
  | _ => .none
 | args => g_abEnc args m
theorem g_Enc_ok (w0 : World) (B : List Nat) (args : List SV) (m : List Blk) : CROk Tryd.prog w0 B 76 args m (g_Enc args m) := by
 unfold g_Enc
 split
 ·rename_i nm b n c
  split
  ·rename_i b2 t rs hb
   split
   ·rename_i q l hk
    intro ⟨h0, e1, e2, e3, h1⟩ w hm
    subst e1 e3
    obtain ⟨rs', hP⟩ := lit_prts hb hk h0 e2 hm
    have e : cvs [.sl nm (some ⟨b2, 0, none⟩) 0 0 6 c c] = cvs [.gh (some ⟨b2, 0, none⟩) c c (.rows 6 rs')] := by
     simp [cvs, cv, addr_add]
    rw [e]
    exact own_new Tryd.func76 rfl rfl hm (abEnc_vc _ c c rs' l hP.len hP.le hP.adr h1 w hP.lies hP.rows)
   ·exact trivial
  ·exact trivial
 ·exact g_abEnc_ok _ _ _ _
def facB (x : OpD) : List Int := if x.hf = true then x.fac ++ x.fd else []
def payB (x : OpD) : List Int := if x.hp = true then x.pay ++ hlfB x.pv ++ hlfB x.po ++ x.pd else []
noncomputable def GOE : Ctr := fun f args m => match f with
 | 52 => g_From args m
 | 43 => g_rFrom args m
 | 141 => g_Small args m
 | 109 => g_lowByte args m
 | 120 => g_Shl args m
 | 89 => g_Shr args m
 | 54 => g_Cmp args m
 | 53 => g_Add args m
 | 51 => g_Mul args m
 | 93 => g_length args m
 | 102 => g_Read args m
 | 79 => g_Addr args m
 | 67 => g_Wide args m
 | 101 => g_Bytes args m
 | 121 => g_number args m
 | 58 => g_data args m
 | 97 => g_pair args m
 | _ => .none
theorem GOE_ok : GOk Tryd.prog GOE := by
 intro w0 B f args m; unfold GOE; split
 ·exact g_From_ok _ _ _ _
 ·exact g_rFrom_ok _ _ _ _
 ·exact g_Small_ok _ _ _ _
 ·exact g_lowByte_ok _ _ _ _
 ·exact g_Shl_ok _ _ _ _
 ·exact g_Shr_ok _ _ _ _
 ·exact g_Cmp_ok _ _ _ _
 ·exact g_Add_ok _ _ _ _
 ·exact g_Mul_ok _ _ _ _
 ·exact g_length_ok _ _ _ _
 ·exact g_Read_ok _ _ _ _
 ·exact g_Addr_ok _ _ _ _
 ·exact g_Wide_ok _ _ _ _
 ·exact g_Bytes_ok _ _ _ _
 ·exact g_number_ok _ _ _ _
 ·exact g_data_ok _ _ _ _
 ·exact g_pair_ok _ _ _ _
 ·exact trivial
theorem GOE_From : GOE 52 = g_From := by funext args m; rfl
theorem GOE_rFrom : GOE 43 = g_rFrom := by funext args m; rfl
theorem GOE_Small : GOE 141 = g_Small := by funext args m; rfl
theorem GOE_lowByte : GOE 109 = g_lowByte := by funext args m; rfl
theorem GOE_Shl : GOE 120 = g_Shl := by funext args m; rfl
theorem GOE_Shr : GOE 89 = g_Shr := by funext args m; rfl
theorem GOE_Cmp : GOE 54 = g_Cmp := by funext args m; rfl
theorem GOE_Add : GOE 53 = g_Add := by funext args m; rfl
theorem GOE_Mul : GOE 51 = g_Mul := by funext args m; rfl
theorem GOE_length : GOE 93 = g_length := by funext args m; rfl
theorem GOE_Read : GOE 102 = g_Read := by funext args m; rfl
theorem GOE_Addr : GOE 79 = g_Addr := by funext args m; rfl
theorem GOE_Wide : GOE 67 = g_Wide := by funext args m; rfl
theorem GOE_Bytes : GOE 101 = g_Bytes := by funext args m; rfl
theorem GOE_number : GOE 121 = g_number := by funext args m; rfl
theorem GOE_data : GOE 58 = g_data := by funext args m; rfl
theorem GOE_pair : GOE 97 = g_pair := by funext args m; rfl
def GOE_set := And.intro (And.intro (And.intro (And.intro (And.intro (@GOE_From) (@g_From.eq_def)) (And.intro (@GOE_rFrom) (@g_rFrom.eq_def))) (And.intro (And.intro (@GOE_Small) (@g_Small.eq_def)) (And.intro (@GOE_lowByte) (@g_lowByte.eq_def)))) (And.intro (And.intro (And.intro (@GOE_Shl) (@g_Shl.eq_def)) (And.intro (@GOE_Shr) (@g_Shr.eq_def))) (And.intro (And.intro (@GOE_Cmp) (@g_Cmp.eq_def)) (And.intro (@GOE_Add) (And.intro (@g_Add.eq_def) (@GOE_Mul)))))) (And.intro (And.intro (And.intro (And.intro (@g_Mul.eq_def) (@GOE_length)) (And.intro (@g_length.eq_def) (@GOE_Read))) (And.intro (And.intro (@g_Read.eq_def) (@GOE_Addr)) (And.intro (@g_Addr.eq_def) (@GOE_Wide)))) (And.intro (And.intro (And.intro (@g_Wide.eq_def) (@GOE_Bytes)) (And.intro (@g_Bytes.eq_def) (@GOE_number))) (And.intro (And.intro (@g_number.eq_def) (@GOE_data)) (And.intro (@g_data.eq_def) (And.intro (@GOE_pair) (@g_pair.eq_def))))))

set_option maxRecDepth 20000 in
theorem factory_vc (l : List SV) (x : OpD) (w : World) (hO : OpR (H0 w) l x) (hS : OpS 10000 x) : Calls Tryd.prog 96 (cvs [.agg l]).toArray w (fun en w' => ∃ u, en = .returned u ∧ ∃ v' m', u = cv v' ∧ MemOk w [] m' w' ∧ ∃ k s, cv v' = cv (datF (.own k s (facB x).length)) ∧ bget m' k = .own s (facB x).length 5 1 (.ints .u8 (facB x))) := by
 obtain ⟨f1, f2, f3, c0, c20, c24, c25, d25, ⟨v1, c45, a1, n1, k1, rfl, p11, p12, p13, p14, p15, p16⟩, ⟨v2, c46, a2, n2, k2, rfl, p21, p22, p23, p24, p25, p26⟩, c47, c48, c49, c50, c54, c58, c59, d59, c79, c80, ⟨v3, c81, a3, n3, k3, rfl, p31, p32, p33, p34, p35, p36⟩, ⟨v4, c82, a4, n4, k4, rfl, p41, p42, p43, p44, p45, p46⟩, ls, lf, lp, bs, bf, bp, wn, wf, wt, u1, u2, u3, u4, u5⟩ := hO
 have L1 : ∀ m, allOld w ∈ m → LiesH (HM m) a1 (cc (.ints .u8 x.fd)) := fun m hin => p14.mono (H0.hm hin)
 have T1 : x.fd.take n1 = x.fd := List.take_of_length_le (by omega)
 have L2 : ∀ m, allOld w ∈ m → LiesH (HM m) a2 (cc (.ints .u8 x.cd)) := fun m hin => p24.mono (H0.hm hin)
 have T2 : x.cd.take n2 = x.cd := List.take_of_length_le (by omega)
 have L3 : ∀ m, allOld w ∈ m → LiesH (HM m) a3 (cc (.ints .u8 x.pd)) := fun m hin => p34.mono (H0.hm hin)
 have T3 : x.pd.take n3 = x.pd := List.take_of_length_le (by omega)
 have L4 : ∀ m, allOld w ∈ m → LiesH (HM m) a4 (cc (.ints .u8 x.sg)) := fun m hin => p44.mono (H0.hm hin)
 have T4 : x.sg.take n4 = x.sg := List.take_of_length_le (by omega)
 have N1 := numI_lm wn
 have N2 := numI_lm wf
 have N3 := numI_lm wt
 unfold u64I at u1 u2 u3 u4 u5
 simp only [OpS] at hS
 cases hf : x.hf with
 | false =>
  rw [hf] at c24
  have e : facB x = [] := by unfold facB; rw [hf]; rfl
  rw [e]
  refine Vc.calls T0_ok Tryd.func96 rfl rfl (args := [.agg l]) (k := 12) rfl (old_start w) ?_; change Vc _ _ (c8 (.agg l) .undef .undef .undef .undef .undef .undef .undef ([.undef, .undef, .undef, .undef, .undef])) _ _
  ((repeat (first | (with_reducible refine Vc.seq fun N hN => ?_) | (with_reducible intro _) | ((with_reducible refine And.intro ?_ ?_); exact sX5) | ((first | ((with_reducible refine Vc.fin ?_); dsimp only [thenK, blockK, retK, resS, resOne, resAll]) | ((with_reducible refine Vc.hold ?_); first | refine Vc.regiont T0_ok GOE_ok ?_)); (try simp only [v8Y, Nat.beq, Nat.ble, seval, tabs, GOE_set, f2, f3, c0, c20, c24, c25, d25, c45, c46, c47, c48, c49, c50, c54, c58, c59, d59, c79, c80, c81, c82, N1, N2, N3, T1, T2, T3, T4, toU8_bL, wL.eq_def, datF.eq_def, List.drop_zero])) | ((with_reducible refine hN _ _ ?_); clear hN N))); (try ((with_reducible refine Fin.of ?_); (try with_reducible exact True.intro))))
  (refine Vc.cond T0_ok (t := true) (by rfl) (fun _ => ?_) (fun h => Bool.noConfusion h))
  ((repeat (first | (with_reducible refine Vc.seq fun N hN => ?_) | (with_reducible intro _) | ((with_reducible refine And.intro ?_ ?_); exact sX5) | ((first | ((with_reducible refine Vc.fin ?_); dsimp only [thenK, blockK, retK, resS, resOne, resAll]) | ((with_reducible refine Vc.hold ?_); first | refine Vc.regiont T0_ok GOE_ok ?_)); (try simp only [v8Y, Nat.beq, Nat.ble, seval, tabs, GOE_set, f2, f3, c0, c20, c24, c25, d25, c45, c46, c47, c48, c49, c50, c54, c58, c59, d59, c79, c80, c81, c82, N1, N2, N3, T1, T2, T3, T4, toU8_bL, wL.eq_def, datF.eq_def, List.drop_zero])) | ((with_reducible refine hN _ _ ?_); clear hN N))); (try ((with_reducible refine Fin.of ?_); (try with_reducible exact True.intro))))
  rename_i v
  exact ⟨by simp, 3, v, rfl, rfl⟩
 | true =>
  rw [hf] at c24
  have e : [x.fac, x.fd].flatten = facB x := by unfold facB; rw [hf]; simp
  have el : (facB x).length ≤ 70000000 := by rw [← e]; simp; omega
  refine Vc.calls T0_ok Tryd.func96 rfl rfl (args := [.agg l]) (k := 12) rfl (old_start w) ?_; change Vc _ _ (c8 (.agg l) .undef .undef .undef .undef .undef .undef .undef ([.undef, .undef, .undef, .undef, .undef])) _ _
  ((repeat (first | (with_reducible refine Vc.seq fun N hN => ?_) | (with_reducible intro _) | ((with_reducible refine And.intro ?_ ?_); exact sX5) | ((first | ((with_reducible refine Vc.fin ?_); dsimp only [thenK, blockK, retK, resS, resOne, resAll]) | ((with_reducible refine Vc.hold ?_); first | refine Vc.regiont T0_ok GOE_ok ?_)); (try simp only [v8Y, Nat.beq, Nat.ble, seval, tabs, GOE_set, f2, f3, c0, c20, c24, c25, d25, c45, c46, c47, c48, c49, c50, c54, c58, c59, d59, c79, c80, c81, c82, N1, N2, N3, T1, T2, T3, T4, toU8_bL, wL.eq_def, datF.eq_def, List.drop_zero])) | ((with_reducible refine hN _ _ ?_); clear hN N))); (try ((with_reducible refine Fin.of ?_); (try with_reducible exact True.intro))))
  (refine Vc.cond T0_ok (t := false) (by rfl) (fun h => Bool.noConfusion h) (fun _ => ?_))
  ((repeat (first | (with_reducible refine Vc.seq fun N hN => ?_) | ((first | with_reducible refine Vc.skip ?_); dsimp only [thenK, blockK, Nat.beq]; (first | (refine hN _ _ ?_; clear hN N))) | (with_reducible intro _) | ((with_reducible refine And.intro ?_ ?_); exact sX5) | ((first | ((with_reducible refine Vc.fin ?_); dsimp only [thenK, blockK, retK, resS, resOne, resAll]) | ((with_reducible refine Vc.hold ?_); first | refine Vc.drawt (id := 3) T0_ok GOE_ok (by kernel_rfl) [0, 1, 2, 3] 4 [] trivial (by kernel_rfl) ?_)); (try simp only [v8Y, Nat.beq, Nat.ble, seval, tabs, GOE_set, e, byKs, f2, f3, c0, c20, c24, c25, d25, c45, c46, c47, c48, c49, c50, c54, c58, c59, d59, c79, c80, c81, c82, N1, N2, N3, T1, T2, T3, T4, toU8_bL, wL.eq_def, datF.eq_def, List.drop_zero])) | ((with_reducible refine hN _ _ ?_); clear hN N))); (try ((with_reducible refine Fin.of ?_); (try with_reducible exact True.intro))))
  rename_i v
  exact ⟨by simp, 4, v, rfl, rfl⟩
set_option maxRecDepth 20000 in
theorem paymaster_vc (l : List SV) (x : OpD) (w : World) (hO : OpR (H0 w) l x) (hS : OpS 10000 x) : Calls Tryd.prog 98 (cvs [.agg l]).toArray w (fun en w' => ∃ u, en = .returned u ∧ ∃ v' m', u = cv v' ∧ MemOk w [] m' w' ∧ ∃ k s, cv v' = cv (datF (.own k s (payB x).length)) ∧ bget m' k = .own s (payB x).length 5 1 (.ints .u8 (payB x))) := by
 obtain ⟨f1, f2, f3, c0, c20, c24, c25, d25, ⟨v1, c45, a1, n1, k1, rfl, p11, p12, p13, p14, p15, p16⟩, ⟨v2, c46, a2, n2, k2, rfl, p21, p22, p23, p24, p25, p26⟩, c47, c48, c49, c50, c54, c58, c59, d59, c79, c80, ⟨v3, c81, a3, n3, k3, rfl, p31, p32, p33, p34, p35, p36⟩, ⟨v4, c82, a4, n4, k4, rfl, p41, p42, p43, p44, p45, p46⟩, ls, lf, lp, bs, bf, bp, wn, wf, wt, u1, u2, u3, u4, u5⟩ := hO
 have L1 : ∀ m, allOld w ∈ m → LiesH (HM m) a1 (cc (.ints .u8 x.fd)) := fun m hin => p14.mono (H0.hm hin)
 have T1 : x.fd.take n1 = x.fd := List.take_of_length_le (by omega)
 have L2 : ∀ m, allOld w ∈ m → LiesH (HM m) a2 (cc (.ints .u8 x.cd)) := fun m hin => p24.mono (H0.hm hin)
 have T2 : x.cd.take n2 = x.cd := List.take_of_length_le (by omega)
 have L3 : ∀ m, allOld w ∈ m → LiesH (HM m) a3 (cc (.ints .u8 x.pd)) := fun m hin => p34.mono (H0.hm hin)
 have T3 : x.pd.take n3 = x.pd := List.take_of_length_le (by omega)
 have L4 : ∀ m, allOld w ∈ m → LiesH (HM m) a4 (cc (.ints .u8 x.sg)) := fun m hin => p44.mono (H0.hm hin)
 have T4 : x.sg.take n4 = x.sg := List.take_of_length_le (by omega)
 have N1 := numI_lm wn
 have N2 := numI_lm wf
 have N3 := numI_lm wt
 unfold u64I at u1 u2 u3 u4 u5
 simp only [OpS] at hS
 have h1 := hlfB_take x.pv
 have h2 := hlfB_take x.po
 have b1 := hlfB_all x.pv
 have b2 := hlfB_all x.po
 cases hf : x.hp with
 | false =>
  rw [hf] at c58
  have e : payB x = [] := by unfold payB; rw [hf]; rfl
  rw [e]
  refine Vc.calls T0_ok Tryd.func98 rfl rfl (args := [.agg l]) (k := 18) rfl (old_start w) ?_; change Vc _ _ (c8 (.agg l) .undef .undef .undef .undef .undef .undef .undef (c8 .undef .undef .undef .undef .undef .undef .undef .undef ([.undef, .undef, .undef]))) _ _
  ((repeat (first | (with_reducible refine Vc.seq fun N hN => ?_) | (with_reducible intro _) | ((with_reducible refine And.intro ?_ ?_); exact sX5) | ((first | ((with_reducible refine Vc.fin ?_); dsimp only [thenK, blockK, retK, resS, resOne, resAll]) | ((with_reducible refine Vc.hold ?_); first | refine Vc.regiont T0_ok GOE_ok ?_)); (try simp only [v8Y, Nat.beq, Nat.ble, seval, tabs, GOE_set, f2, f3, c0, c20, c24, c25, d25, c45, c46, c47, c48, c49, c50, c54, c58, c59, d59, c79, c80, c81, c82, N1, N2, N3, T1, T2, T3, T4, toU8_bL, wL.eq_def, datF.eq_def, List.drop_zero])) | ((with_reducible refine hN _ _ ?_); clear hN N))); (try ((with_reducible refine Fin.of ?_); (try with_reducible exact True.intro))))
  (refine Vc.cond T0_ok (t := true) (by rfl) (fun _ => ?_) (fun h => Bool.noConfusion h))
  ((repeat (first | (with_reducible refine Vc.seq fun N hN => ?_) | (with_reducible intro _) | ((with_reducible refine And.intro ?_ ?_); exact sX5) | ((first | ((with_reducible refine Vc.fin ?_); dsimp only [thenK, blockK, retK, resS, resOne, resAll]) | ((with_reducible refine Vc.hold ?_); first | refine Vc.regiont T0_ok GOE_ok ?_)); (try simp only [v8Y, Nat.beq, Nat.ble, seval, tabs, GOE_set, f2, f3, c0, c20, c24, c25, d25, c45, c46, c47, c48, c49, c50, c54, c58, c59, d59, c79, c80, c81, c82, N1, N2, N3, T1, T2, T3, T4, toU8_bL, wL.eq_def, datF.eq_def, List.drop_zero])) | ((with_reducible refine hN _ _ ?_); clear hN N))); (try ((with_reducible refine Fin.of ?_); (try with_reducible exact True.intro))))
  rename_i v
  exact ⟨by simp, 3, v, rfl, rfl⟩
 | true =>
  rw [hf] at c58
  have e : [x.pay, hlfB x.pv, hlfB x.po, x.pd].flatten = payB x := by unfold payB; rw [hf]; simp
  have el : (payB x).length ≤ 70000000 := by rw [← e]; simp [hlfB_len]; omega
  refine Vc.calls T0_ok Tryd.func98 rfl rfl (args := [.agg l]) (k := 18) rfl (old_start w) ?_; change Vc _ _ (c8 (.agg l) .undef .undef .undef .undef .undef .undef .undef (c8 .undef .undef .undef .undef .undef .undef .undef .undef ([.undef, .undef, .undef]))) _ _
  ((repeat (first | (with_reducible refine Vc.seq fun N hN => ?_) | (with_reducible intro _) | ((with_reducible refine And.intro ?_ ?_); exact sX5) | ((first | ((with_reducible refine Vc.fin ?_); dsimp only [thenK, blockK, retK, resS, resOne, resAll]) | ((with_reducible refine Vc.hold ?_); first | refine Vc.regiont T0_ok GOE_ok ?_)); (try simp only [v8Y, Nat.beq, Nat.ble, seval, tabs, GOE_set, f2, f3, c0, c20, c24, c25, d25, c45, c46, c47, c48, c49, c50, c54, c58, c59, d59, c79, c80, c81, c82, N1, N2, N3, T1, T2, T3, T4, toU8_bL, wL.eq_def, datF.eq_def, List.drop_zero])) | ((with_reducible refine hN _ _ ?_); clear hN N))); (try ((with_reducible refine Fin.of ?_); (try with_reducible exact True.intro))))
  (refine Vc.cond T0_ok (t := false) (by rfl) (fun h => Bool.noConfusion h) (fun _ => ?_))
  ((repeat (first | (with_reducible refine Vc.seq fun N hN => ?_) | ((first | with_reducible refine Vc.skip ?_); dsimp only [thenK, blockK, Nat.beq]; (first | (refine hN _ _ ?_; clear hN N))) | (with_reducible intro _) | ((with_reducible refine And.intro ?_ ?_); exact sX5) | ((first | ((with_reducible refine Vc.fin ?_); dsimp only [thenK, blockK, retK, resS, resOne, resAll]) | ((with_reducible refine Vc.hold ?_); first | refine Vc.drawt (id := 3) T0_ok GOE_ok (by kernel_rfl) [0, 1, 2, 3, 5, 6, 8, 9, 4, 7] 10 [] trivial (by kernel_rfl) ?_)); (try simp only [v8Y, Nat.beq, Nat.ble, seval, tabs, GOE_set, e, h1, h2, byKs, tlF.eq_def, bytI_len, f2, f3, c0, c20, c24, c25, d25, c45, c46, c47, c48, c49, c50, c54, c58, c59, d59, c79, c80, c81, c82, N1, N2, N3, T1, T2, T3, T4, toU8_bL, wL.eq_def, datF.eq_def, List.drop_zero])) | ((with_reducible refine hN _ _ ?_); clear hN N))); (try ((with_reducible refine Fin.of ?_); (try with_reducible exact True.intro))))
  rename_i v
  exact ⟨by simp, 6, v, rfl, rfl⟩
noncomputable def g_factory (args : List SV) (m : List Blk) : CR :=
 match args with
 | [.agg l] => .own (∃ x, OpR (HM m) l x ∧ OpS 10000 x) 5 1 (facB (opOf l)).length (.ints .u8 (facB (opOf l))) datF
 | _ => .none
theorem g_factory_ok (w0 : World) (B : List Nat) (args : List SV) (m : List Blk) : CROk Tryd.prog w0 B 96 args m (g_factory args m) := by
 unfold g_factory
 split
 ·rename_i l
  intro ⟨x, hO, hS⟩ w hm
  rw [opOf_eq hO]
  exact own_newF (F := datF) (fun k j s n => rfl) Tryd.func96 rfl rfl hm (factory_vc l x w (hO.mono fun b o h => hm.hm h) hS)
 ·exact trivial
noncomputable def g_paymaster (args : List SV) (m : List Blk) : CR :=
 match args with
 | [.agg l] => .own (∃ x, OpR (HM m) l x ∧ OpS 10000 x) 5 1 (payB (opOf l)).length (.ints .u8 (payB (opOf l))) datF
 | _ => .none
theorem g_paymaster_ok (w0 : World) (B : List Nat) (args : List SV) (m : List Blk) : CROk Tryd.prog w0 B 98 args m (g_paymaster args m) := by
 unfold g_paymaster
 split
 ·rename_i l
  intro ⟨x, hO, hS⟩ w hm
  rw [opOf_eq hO]
  exact own_newF (F := datF) (fun k j s n => rfl) Tryd.func98 rfl rfl hm (paymaster_vc l x w (hO.mono fun b o h => hm.hm h) hS)
 ·exact trivial
end Go.Proofs.YthdpgfdfgidokaaDoor

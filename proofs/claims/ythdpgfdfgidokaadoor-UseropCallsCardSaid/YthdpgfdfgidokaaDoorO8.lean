/-
 Post of package userop, and the document's (quaestorref15), walked. No condition.
-/
import Derived.Test.YthdpgfdfgidokaaDoorO7
set_option maxRecDepth 10000
set_option maxHeartbeats 4000000
set_option linter.defProp false
set_option linter.unusedVariables false
set_option linter.unusedSimpArgs false
namespace Go.Proofs.YthdpgfdfgidokaaDoor
open Go.RowKit
def pnB : List Int := [112, 111, 115, 116, 79, 112, 40, 117, 105, 110, 116, 56, 44, 98, 121, 116, 101, 115, 44, 117, 105, 110, 116, 50, 53, 54, 44, 117, 105, 110, 116, 50, 53, 54, 41]
def poP (md : Int) (xs : List Int) (a b : Nat) : List Prt := [⟨false, md.toNat, []⟩, ⟨true, 0, xs⟩, ⟨false, a, []⟩, ⟨false, b, []⟩]
def poB (md : Int) (xs : List Int) (a b : Nat) : List Int := selB pnB ++ abEnc (poP md xs a b)
theorem po_flat {md : Int} {xs : List Int} {a b : Nat} : [selB pnB, abEnc (poP md xs a b)].flatten = poB md xs a b := by simp [poB]
theorem po_sz {md : Int} {xs : List Int} {a b : Nat} (h : xs.length ≤ 2000) : psz (poP md xs a b) ≤ 3000 := by
 simp only [poP, psz, List.length_nil]; omega
theorem po_len {md : Int} {xs : List Int} {a b : Nat} (h : xs.length ≤ 2000) : (poB md xs a b).length ≤ 1000000 := by
 have h1 := abEnc_le (poP md xs a b)
 have h2 := po_sz (md := md) (a := a) (b := b) h
 have h3 := selB_len2 pnB
 have h4 : (poP md xs a b).length = 4 := rfl
 simp only [poB, List.length_append]; omega
theorem po_all {md : Int} {xs : List Int} {a b : Nat} (h : allB xs) : allB (abEnc (poP md xs a b)) := abEnc_all2 (by
 intro p hp
 have h0 : allB ([] : List Int) := fun y hy => absurd hy List.not_mem_nil
 simp only [poP, List.mem_cons, List.not_mem_nil, or_false] at hp
 rcases hp with rfl | rfl | rfl | rfl
 ·exact h0
 ·exact h
 ·exact h0
 ·exact h0)
noncomputable def GPB : Ctr := fun f args m => match f with
 | 52 => g_From args m
 | 43 => g_rFrom args m
 | 141 => g_Small args m
 | 109 => g_lowByte args m
 | 120 => g_Shl args m
 | 89 => g_Shr args m
 | 54 => g_Cmp args m
 | 53 => g_Add args m
 | 51 => g_Mul args m
 | 93 => g_length args m
 | 102 => g_Read args m
 | 79 => g_Addr args m
 | 67 => g_Wide args m
 | 101 => g_Bytes args m
 | 58 => g_data args m
 | 76 => g_Enc args m
 | 75 => g_Sel args m
 | 74 => g_concat args m
 | _ => .none
theorem GPB_ok : GOk Tryd.prog GPB := by
 intro w0 B f args m; unfold GPB; split
 ·exact g_From_ok _ _ _ _
 ·exact g_rFrom_ok _ _ _ _
 ·exact g_Small_ok _ _ _ _
 ·exact g_lowByte_ok _ _ _ _
 ·exact g_Shl_ok _ _ _ _
 ·exact g_Shr_ok _ _ _ _
 ·exact g_Cmp_ok _ _ _ _
 ·exact g_Add_ok _ _ _ _
 ·exact g_Mul_ok _ _ _ _
 ·exact g_length_ok _ _ _ _
 ·exact g_Read_ok _ _ _ _
 ·exact g_Addr_ok _ _ _ _
 ·exact g_Wide_ok _ _ _ _
 ·exact g_Bytes_ok _ _ _ _
 ·exact g_data_ok _ _ _ _
 ·exact g_Enc_ok _ _ _ _
 ·exact g_Sel_ok _ _ _ _
 ·exact g_concat_ok _ _ _ _
 ·exact trivial
theorem GPB_From : GPB 52 = g_From := by funext args m; rfl
theorem GPB_rFrom : GPB 43 = g_rFrom := by funext args m; rfl
theorem GPB_Small : GPB 141 = g_Small := by funext args m; rfl
theorem GPB_lowByte : GPB 109 = g_lowByte := by funext args m; rfl
theorem GPB_Shl : GPB 120 = g_Shl := by funext args m; rfl
theorem GPB_Shr : GPB 89 = g_Shr := by funext args m; rfl
theorem GPB_Cmp : GPB 54 = g_Cmp := by funext args m; rfl
theorem GPB_Add : GPB 53 = g_Add := by funext args m; rfl
theorem GPB_Mul : GPB 51 = g_Mul := by funext args m; rfl
theorem GPB_length : GPB 93 = g_length := by funext args m; rfl
theorem GPB_Read : GPB 102 = g_Read := by funext args m; rfl
theorem GPB_Addr : GPB 79 = g_Addr := by funext args m; rfl
theorem GPB_Wide : GPB 67 = g_Wide := by funext args m; rfl
theorem GPB_Bytes : GPB 101 = g_Bytes := by funext args m; rfl
theorem GPB_data : GPB 58 = g_data := by funext args m; rfl
theorem GPB_Enc : GPB 76 = g_Enc := by funext args m; rfl
theorem GPB_Sel : GPB 75 = g_Sel := by funext args m; rfl
theorem GPB_concat : GPB 74 = g_concat := by funext args m; rfl
def GPB_set := And.intro (And.intro (And.intro (And.intro (And.intro (@GPB_From) (@g_From.eq_def)) (And.intro (@GPB_rFrom) (@g_rFrom.eq_def))) (And.intro (And.intro (@GPB_Small) (@g_Small.eq_def)) (And.intro (@GPB_lowByte) (And.intro (@g_lowByte.eq_def) (@GPB_Shl))))) (And.intro (And.intro (And.intro (@g_Shl.eq_def) (@GPB_Shr)) (And.intro (@g_Shr.eq_def) (@GPB_Cmp))) (And.intro (And.intro (@g_Cmp.eq_def) (@GPB_Add)) (And.intro (@g_Add.eq_def) (And.intro (@GPB_Mul) (@g_Mul.eq_def)))))) (And.intro (And.intro (And.intro (And.intro (@GPB_length) (@g_length.eq_def)) (And.intro (@GPB_Read) (@g_Read.eq_def))) (And.intro (And.intro (@GPB_Addr) (@g_Addr.eq_def)) (And.intro (@GPB_Wide) (And.intro (@g_Wide.eq_def) (@GPB_Bytes))))) (And.intro (And.intro (And.intro (@g_Bytes.eq_def) (@GPB_data)) (And.intro (@g_data.eq_def) (@GPB_Enc))) (And.intro (And.intro (@g_Enc.eq_def) (@GPB_Sel)) (And.intro (@g_Sel.eq_def) (And.intro (@GPB_concat) (@g_concat.eq_def))))))

set_option maxRecDepth 20000 in
theorem post_vc (md : Int) (a b : Nat) (al : Option Addr) (n c : Nat) (xs : List Int) (hmd : 0 ≤ md ∧ md ≤ 18446744073709551615) (ha : a < W) (hb : b < W) (hl : xs.length = n) (hn : n ≤ c) (had : adr al n c) (hn2 : n ≤ 2000) (hx : allB xs) (w : World) (hm : MemOk w [] [.ro (some ⟨1, 0, none⟩) (.ints .u64 kKeys), .ro (some ⟨2, 0, none⟩) (.ints .u8 kPathI), allOld w] w) (hL : LiesH (H0 w) al (cc (.ints .u8 xs))) :
  Calls Tryd.prog 34 (cvs [.int .u64 md, .gh al n c (.ints .u8 xs), .word a, .word b]).toArray w (fun en w' => ∃ u, en = .returned u ∧ ∃ v' m', u = cv v' ∧ MemOk w [] m' w' ∧ ∃ k s, v' = .own k s (poB md xs a b).length ∧ bget m' k = .own s (poB md xs a b).length 5 1 (.ints .u8 (poB md xs a b))) := by
 have hLx : ∀ m, allOld w ∈ m → LiesH (HM m) al (cc (.ints .u8 xs)) := fun m hin => hL.mono (H0.hm hin)
 have T1 : xs.take n = xs := List.take_of_length_le (by omega)
 have wm : md.toNat < W := by unfold W; omega
 have M1 := numI_lm wm
 have M2 := numI_lm ha
 have M3 := numI_lm hb
 have e2 : [xs].flatten = xs := by simp
 have U0 := allU_0z
 have hpn : ([112, 111, 115, 116, 79, 112, 40, 117, 105, 110, 116, 56, 44, 98, 121, 116, 101, 115, 44, 117, 105, 110, 116, 50, 53, 54, 44, 117, 105, 110, 116, 50, 53, 54, 41] : List Int) = pnB := rfl
 have hpa : allB pnB := allB_dec (by decide +kernel)
 have hpl : pnB.length ≤ 1000000 := by decide +kernel
 have hps : psz [(⟨false, md.toNat, []⟩ : Prt), ⟨true, 0, xs⟩, ⟨false, a, []⟩, ⟨false, b, []⟩] ≤ 3000 := po_sz (md := md) (a := a) (b := b) (show xs.length ≤ 2000 by omega)
 have hpo := po_len (md := md) (a := a) (b := b) (show xs.length ≤ 2000 by omega)
 have hea : allB (abEnc [(⟨false, md.toNat, []⟩ : Prt), ⟨true, 0, xs⟩, ⟨false, a, []⟩, ⟨false, b, []⟩]) := po_all (md := md) (a := a) (b := b) hx
 have hsa := selB_all2 pnB
 have hsl := selB_len2 pnB
 have hel : (abEnc [(⟨false, md.toNat, []⟩ : Prt), ⟨true, 0, xs⟩, ⟨false, a, []⟩, ⟨false, b, []⟩]).length ≤ 1000000 := by
  have h1 := abEnc_le [(⟨false, md.toNat, []⟩ : Prt), ⟨true, 0, xs⟩, ⟨false, a, []⟩, ⟨false, b, []⟩]
  simp only [List.length_cons, List.length_nil] at h1
  omega
 have t1 : (selB pnB).take 4 = selB pnB := List.take_of_length_le (by omega)
 have t2 : (abEnc [(⟨false, md.toNat, []⟩ : Prt), ⟨true, 0, xs⟩, ⟨false, a, []⟩, ⟨false, b, []⟩]).take (abEnc [(⟨false, md.toNat, []⟩ : Prt), ⟨true, 0, xs⟩, ⟨false, a, []⟩, ⟨false, b, []⟩]).length = abEnc [(⟨false, md.toNat, []⟩ : Prt), ⟨true, 0, xs⟩, ⟨false, a, []⟩, ⟨false, b, []⟩] := List.take_length
 have hfl : [selB pnB, abEnc [(⟨false, md.toNat, []⟩ : Prt), ⟨true, 0, xs⟩, ⟨false, a, []⟩, ⟨false, b, []⟩]].flatten = poB md xs a b := po_flat
 refine Vc.calls T0_ok Tryd.func34 rfl rfl (args := [.int .u64 md, .gh al n c (.ints .u8 xs), .word a, .word b]) (k := 22) rfl hm ?_; change Vc _ _ (c8 (.int .u64 md) (.gh al n c (.ints .u8 xs)) (.word a) (.word b) .undef .undef .undef .undef (c8 .undef .undef .undef .undef .undef .undef .undef .undef (c8 .undef .undef .undef .undef .undef .undef .undef .undef ([.undef, .undef])))) _ _
 ((with_reducible refine Vc.seq fun N hN => ?_); (refine Vc.regiont T0_ok GPB_ok ?_); simp only [v8Y, Nat.beq, Nat.ble, seval, tabs, GPB_set, byKs, prtS, T1, M1, M2, M3, numI_0, e2, hpn, t1, t2, hfl, datF.eq_def, List.drop_zero, List.take_length]; (try simp (disch := omega) only [v8W]); (repeat (first | with_reducible intro _ | ((with_reducible refine And.intro ?_ ?_); exact sX6))); (first | (refine hN _ _ ?_; clear hN N; (try simp (disch := omega) only [v8W])) | skip))
 ((with_reducible refine Vc.seq fun N hN => ?_); (first | refine Vc.treet (id := 1) T0_ok GPB_ok (by kernel_rfl) (.op 0 (.op 3 (.op 6 (.op 7 (.op 8 (.op 9 (.or (.op 1 (.op 2 (.op 4 (.op 5 .nil)))) (.op 4 (.op 1 (.op 2 (.op 5 .nil))))))))))) 10 (by kernel_rfl) ?_); simp only [v8Y, v8T, Nat.beq, Nat.ble, seval, tabs, GPB_set, byKs, prtS, T1, M1, M2, M3, numI_0, e2, hpn, t1, t2, hfl, datF.eq_def, List.drop_zero, List.take_length]; (try simp (disch := omega) only [v8W]))
 simp only [true_and, and_true]
 refine And.intro ?_ ?_
 ·(repeat (first | with_reducible intro _ | ((with_reducible refine And.intro ?_ ?_); exact sX6))); (first | (refine hN _ _ ?_; clear hN N; (try simp (disch := omega) only [v8W])) | skip)
  ((repeat (first | (with_reducible refine Vc.seq fun N hN => ?_) | (with_reducible intro _) | ((with_reducible refine And.intro ?_ ?_); exact sX6) | ((first | ((with_reducible refine Vc.fin ?_); dsimp only [thenK, blockK, retK, resS, resOne, resAll]) | ((with_reducible refine Vc.hold ?_); first | refine Vc.regiont T0_ok GPB_ok ?_)); (try simp only [v8Y, v8T, Nat.beq, Nat.ble, seval, tabs, GPB_set, byKs, prtS, T1, M1, M2, M3, numI_0, e2, hpn, t1, t2, hfl, datF.eq_def, List.drop_zero, List.take_length])) | ((with_reducible refine hN _ _ ?_); clear hN N))); (try ((with_reducible refine Fin.of ?_); (try with_reducible exact True.intro))))
  rename_i v
  exact ⟨by simp, 11, v, rfl, rfl⟩
 ·(repeat (first | with_reducible intro _ | ((with_reducible refine And.intro ?_ ?_); exact sX6))); (first | (refine hN _ _ ?_; clear hN N; (try simp (disch := omega) only [v8W])) | skip)
  ((repeat (first | (with_reducible refine Vc.seq fun N hN => ?_) | (with_reducible intro _) | ((with_reducible refine And.intro ?_ ?_); exact sX6) | ((first | ((with_reducible refine Vc.fin ?_); dsimp only [thenK, blockK, retK, resS, resOne, resAll]) | ((with_reducible refine Vc.hold ?_); first | refine Vc.regiont T0_ok GPB_ok ?_)); (try simp only [v8Y, v8T, Nat.beq, Nat.ble, seval, tabs, GPB_set, byKs, prtS, T1, M1, M2, M3, numI_0, e2, hpn, t1, t2, hfl, datF.eq_def, List.drop_zero, List.take_length])) | ((with_reducible refine hN _ _ ?_); clear hN N))); (try ((with_reducible refine Fin.of ?_); (try with_reducible exact True.intro))))
  rename_i v
  exact ⟨by simp, 11, v, rfl, rfl⟩
def g_post (args : List SV) (m : List Blk) : CR :=
 match args with
 | [.int .u64 md, .gh al n c (.ints .u8 xs), .word a, .word b] => match bget m 0, bget m 1 with
  | .ro a0 c0, .ro a1 c1 => .own ((0 ≤ md ∧ md ≤ 18446744073709551615) ∧ a < W ∧ b < W ∧ xs.length = n ∧ n ≤ c ∧ adr al n c ∧ n ≤ 2000 ∧ allB xs ∧ LiesH (HM m) al (cc (.ints .u8 xs)) ∧ a0 = some ⟨1, 0, none⟩ ∧ c0 = .ints .u64 kKeys ∧ a1 = some ⟨2, 0, none⟩ ∧ c1 = .ints .u8 kPathI) 5 1 (poB md xs a b).length (.ints .u8 (poB md xs a b)) (fun v => v)
  | _, _ => .none
 | _ => .none
theorem g_post_ok (w0 : World) (B : List Nat) (args : List SV) (m : List Blk) : CROk Tryd.prog w0 B 34 args m (g_post args m) := by
 unfold g_post
 split
 ·split
  ·rename_i a0 c0 a1 c1 h0 h1
   intro ⟨k0, k1, k2, k3, k4, k5, k6, k7, k8, r0, r1, r2, r3⟩ w hm
   subst r0 r1 r2 r3
   exact own_new Tryd.func34 rfl rfl hm (post_vc _ _ _ _ _ _ _ k0 k1 k2 k3 k4 k5 k6 k7 w (ro2 hm h0 h1) (k8.mono fun b o h => hm.hm h))
  ·exact trivial
 ·exact trivial
noncomputable def GPC : Ctr := fun f args m => match f with
 | 43 => g_rFrom args m
 | 61 => g_rword args m
 | 63 => g_rdata args m
 | 78 => g_rEncL args m
 | 77 => g_rSel args m
 | _ => .none
theorem GPC_ok : GOk Tryd.prog GPC := by
 intro w0 B f args m; unfold GPC; split
 ·exact g_rFrom_ok _ _ _ _
 ·exact g_rword_ok _ _ _ _
 ·exact g_rdata_ok _ _ _ _
 ·exact g_rEncL_ok _ _ _ _
 ·exact g_rSel_ok _ _ _ _
 ·exact trivial
theorem GPC_rFrom : GPC 43 = g_rFrom := by funext args m; rfl
theorem GPC_rword : GPC 61 = g_rword := by funext args m; rfl
theorem GPC_rdata : GPC 63 = g_rdata := by funext args m; rfl
theorem GPC_rEncL : GPC 78 = g_rEncL := by funext args m; rfl
theorem GPC_rSel : GPC 77 = g_rSel := by funext args m; rfl
def GPC_set := And.intro (And.intro (And.intro (@GPC_rFrom) (@g_rFrom.eq_def)) (And.intro (@GPC_rword) (And.intro (@g_rword.eq_def) (@GPC_rdata)))) (And.intro (And.intro (@g_rdata.eq_def) (@GPC_rEncL)) (And.intro (@g_rEncL.eq_def) (And.intro (@GPC_rSel) (@g_rSel.eq_def))))

set_option maxRecDepth 20000 in
theorem rpost_vc (md : Int) (a b : Nat) (al : Option Addr) (n c : Nat) (xs : List Int) (hmd : 0 ≤ md ∧ md ≤ 18446744073709551615) (ha : a < W) (hb : b < W) (hl : xs.length = n) (hn : n ≤ c) (had : adr al n c) (hn2 : n ≤ 2000) (hx : allB xs) (w : World) (hL : LiesH (H0 w) al (cc (.ints .u8 xs))) :
  Calls Tryd.prog 35 (cvs [.int .u64 md, .gh al n c (.ints .u8 xs), .word a, .word b]).toArray w (fun en w' => ∃ u, en = .returned u ∧ ∃ v' m', u = cv v' ∧ MemOk w [] m' w' ∧ ∃ k s, v' = .own k s (poB md xs a b).length ∧ bget m' k = .own s (poB md xs a b).length 5 1 (.ints .u8 (poB md xs a b))) := by
 have hLx : ∀ m, allOld w ∈ m → LiesH (HM m) al (cc (.ints .u8 xs)) := fun m hin => hL.mono (H0.hm hin)
 have T1 : xs.take n = xs := List.take_of_length_le (by omega)
 have wm : md.toNat < W := by unfold W; omega
 have M1 := numI_lm wm
 have M2 := numI_lm ha
 have M3 := numI_lm hb
 have U0 := allU_0z
 have hpn : ([112, 111, 115, 116, 79, 112, 40, 117, 105, 110, 116, 56, 44, 98, 121, 116, 101, 115, 44, 117, 105, 110, 116, 50, 53, 54, 44, 117, 105, 110, 116, 50, 53, 54, 41] : List Int) = pnB := rfl
 have hpa : allB pnB := allB_dec (by decide +kernel)
 have hpl : pnB.length ≤ 1000000 := by decide +kernel
 have hps : psz [(⟨false, md.toNat, []⟩ : Prt), ⟨true, 0, xs⟩, ⟨false, a, []⟩, ⟨false, b, []⟩] ≤ 3000 := po_sz (md := md) (a := a) (b := b) (show xs.length ≤ 2000 by omega)
 have hsl := selB_len2 pnB
 have hel : (abEnc [(⟨false, md.toNat, []⟩ : Prt), ⟨true, 0, xs⟩, ⟨false, a, []⟩, ⟨false, b, []⟩]).length ≤ 1000000 := by
  have h1 := abEnc_le [(⟨false, md.toNat, []⟩ : Prt), ⟨true, 0, xs⟩, ⟨false, a, []⟩, ⟨false, b, []⟩]
  simp only [List.length_cons, List.length_nil] at h1
  omega
 have t2 : (abEnc [(⟨false, md.toNat, []⟩ : Prt), ⟨true, 0, xs⟩, ⟨false, a, []⟩, ⟨false, b, []⟩]).take (abEnc [(⟨false, md.toNat, []⟩ : Prt), ⟨true, 0, xs⟩, ⟨false, a, []⟩, ⟨false, b, []⟩]).length = abEnc [(⟨false, md.toNat, []⟩ : Prt), ⟨true, 0, xs⟩, ⟨false, a, []⟩, ⟨false, b, []⟩] := List.take_length
 have hfl : selB pnB ++ abEnc [(⟨false, md.toNat, []⟩ : Prt), ⟨true, 0, xs⟩, ⟨false, a, []⟩, ⟨false, b, []⟩] = poB md xs a b := rfl
 have hln : 4 + (abEnc [(⟨false, md.toNat, []⟩ : Prt), ⟨true, 0, xs⟩, ⟨false, a, []⟩, ⟨false, b, []⟩]).length = (poB md xs a b).length := by rw [← hfl, List.length_append, hsl]
 refine Vc.calls T0_ok Tryd.func35 rfl rfl (args := [.int .u64 md, .gh al n c (.ints .u8 xs), .word a, .word b]) (k := 20) rfl (old_start w) ?_; change Vc _ _ (c8 (.int .u64 md) (.gh al n c (.ints .u8 xs)) (.word a) (.word b) .undef .undef .undef .undef (c8 .undef .undef .undef .undef .undef .undef .undef .undef (c8 .undef .undef .undef .undef .undef .undef .undef .undef ([])))) _ _
 ((with_reducible refine Vc.seq fun N hN => ?_); (refine Vc.regiont T0_ok GPC_ok ?_); simp only [v8Y, Nat.beq, Nat.ble, seval, tabs, GPC_set, byKs, prtS, T1, M1, M2, M3, numI_0, hpn, t2, hfl, hln, datF.eq_def, List.drop_zero, List.take_length]; (try simp (disch := omega) only [v8W]); (repeat (first | with_reducible intro _ | ((with_reducible refine And.intro ?_ ?_); exact sX6))); (first | (refine hN _ _ ?_; clear hN N; (try simp (disch := omega) only [v8W])) | skip))
 ((repeat (first | (with_reducible refine Vc.seq fun N hN => ?_) | (with_reducible intro _) | ((with_reducible refine And.intro ?_ ?_); exact sX6) | ((first | ((with_reducible refine Vc.fin ?_); dsimp only [thenK, blockK, retK, resS, resOne, resAll]) | ((with_reducible refine Vc.hold ?_); first | refine Vc.regiont T0_ok GPC_ok ?_ | refine Vc.drawt (id := 2) T0_ok GPC_ok (by kernel_rfl) [0, 1, 4, 6, 8, 2, 3, 5, 7] 9 [] trivial (by kernel_rfl) ?_)); (try simp only [v8Y, Nat.beq, Nat.ble, seval, tabs, GPC_set, byKs, prtS, T1, M1, M2, M3, numI_0, hpn, t2, hfl, hln, datF.eq_def, List.drop_zero, List.take_length])) | ((with_reducible refine hN _ _ ?_); clear hN N))); (try ((with_reducible refine Fin.of ?_); (try with_reducible exact True.intro))))
 rename_i v
 exact ⟨by simp, 3, v, rfl, rfl⟩
def g_rpost (args : List SV) (m : List Blk) : CR :=
 match args with
 | [.int .u64 md, .gh al n c (.ints .u8 xs), .word a, .word b] => .own ((0 ≤ md ∧ md ≤ 18446744073709551615) ∧ a < W ∧ b < W ∧ xs.length = n ∧ n ≤ c ∧ adr al n c ∧ n ≤ 2000 ∧ allB xs ∧ LiesH (HM m) al (cc (.ints .u8 xs))) 5 1 (poB md xs a b).length (.ints .u8 (poB md xs a b)) (fun v => v)
 | _ => .none
theorem g_rpost_ok (w0 : World) (B : List Nat) (args : List SV) (m : List Blk) : CROk Tryd.prog w0 B 35 args m (g_rpost args m) := by
 unfold g_rpost
 split
 ·intro ⟨k0, k1, k2, k3, k4, k5, k6, k7, k8⟩ w hm
  exact own_new Tryd.func35 rfl rfl hm (rpost_vc _ _ _ _ _ _ _ k0 k1 k2 k3 k4 k5 k6 k7 w (k8.mono fun b o h => hm.hm h))
 ·exact trivial
end Go.Proofs.YthdpgfdfgidokaaDoor

/-
 Package userop: Hash, walked. No condition.
-/
import Derived.Test.YthdpgfdfgidokaaDoorOE
import Derived.Test.YthdpgfdfgidokaaDoorKD
set_option maxRecDepth 10000
set_option maxHeartbeats 4000000
set_option linter.defProp false
set_option linter.unusedVariables false
set_option linter.unusedSimpArgs false
namespace Go.Proofs.YthdpgfdfgidokaaDoor
open Go.RowKit
def selfB : List Int := [0, 0, 0, 0, 113, 114, 125, 226, 46, 94, 157, 139, 175, 14, 218, 198, 243, 125, 160, 50]
def GHA : Ctr := fun _ _ _ => .none
theorem GHA_ok : GOk Tryd.prog GHA := fun _ _ _ _ _ => trivial
theorem self_vc (w : World) : Calls Tryd.prog 68 (cvs []).toArray w (fun en w' => ∃ u, en = .returned u ∧ ∃ v' m', u = cv v' ∧ MemOk w [] m' w' ∧ v' = .ints .u8 selfB) := by
 refine Vc.calls T0_ok Tryd.func68 rfl rfl (args := []) (k := 2) rfl (MemOk.start _) ?_; change Vc _ _ ([.undef, .undef]) _ _
 ((repeat (first | (with_reducible refine Vc.seq fun N hN => ?_) | (with_reducible intro _) | ((with_reducible refine And.intro ?_ ?_); exact sdB) | ((first | ((with_reducible refine Vc.fin ?_); dsimp only [thenK, blockK, retK, resS, resOne, resAll]) | ((with_reducible refine Vc.hold ?_); first | refine Vc.regiont T0_ok GHA_ok ?_)); (try simp only [v8Y, Nat.beq, Nat.ble, seval, tabs])) | ((with_reducible refine hN _ _ ?_); clear hN N))); (try ((with_reducible refine Fin.of ?_); (try with_reducible exact True.intro))))
 exact ⟨by simp, rfl⟩
def g_self (args : List SV) (_m : List Blk) : CR :=
 match args with
 | [] => .pure True (.ints .u8 selfB)
 | _ => .none
theorem g_self_ok (w0 : World) (B : List Nat) (args : List SV) (m : List Blk) : CROk Tryd.prog w0 B 68 args m (g_self args m) := by
 unfold g_self
 split
 ·intro _ w hm
  exact calls_pure Tryd.func68 rfl rfl (self_vc w)
 ·exact trivial
def dgL (x : OpD) : List Nat := (sgP x).map digN
theorem dgL_len (x : OpD) : (dgL x).length = 8 := rfl
def hsN (x : OpD) (c : Nat) : Nat := kSum (wB [kSum (wB (dgL x) 8), rdI selfB, c] 3)
theorem self_len : selfB.length = 20 := rfl
theorem self_all : allB selfB := by simp [allB, selfB]
theorem Vc.nilownW {P : Program} {c : Code} {env : List SV} {m : List Blk} {K : Kont} (i : Nat) (t : TypeId) (h0 : sget env i = .nilsl)
  (h : Vc P c (sset env i (.own (blen m) (.slice none 0 0) 0)) (bpush m (.own (.slice none 0 0) 0 t 4 (.words []))) K) : Vc P c env m K := by
 intro w0 B a w hf hd hm
 refine h w0 B a w (by unfold Fr at *; rw [cvs_sset_same env i (by rw [h0]; rfl)]; exact hf) hd ?_
 rw [bpush_eq]
 refine hm.push (grown_refl w) ⟨⟨by simp [cc, cvs], .inl ⟨rfl, rfl⟩⟩, fun b hb => by simp [Value.ownBlock] at hb⟩ (fun b hb => ?_)
 simp [Blk.nums, Value.ownBlock] at hb
theorem sg_le {x : OpD} (h : OpS 10000 x) (hf : x.fac.length = 20) (hp : x.pay.length = 20) : ∀ p ∈ sgP x, p.bs.length ≤ 1000000 := by
 simp only [OpS] at h
 have h1 : (facB x).length ≤ 1000000 := by unfold facB; split <;> simp <;> omega
 have h2 : (payB x).length ≤ 1000000 := by unfold payB; split <;> simp [hlfB_len] <;> omega
 intro p hp
 simp only [sgP, List.mem_cons, List.not_mem_nil, or_false] at hp
 rcases hp with rfl | rfl | rfl | rfl | rfl | rfl | rfl | rfl <;> simp only [List.length_nil] <;> omega
theorem dgL_s {x : OpD} {k : Nat} {p : Prt} (h : (sgP x)[k]? = some p) : (dgL x).take (k + 1) = (dgL x).take k ++ [digN p] := by
 unfold dgL
 rw [List.take_add_one, List.getElem?_map, h]; rfl
noncomputable def GHB : Ctr := fun f args m => match f with
 | 52 => g_From args m
 | 43 => g_rFrom args m
 | 141 => g_Small args m
 | 109 => g_lowByte args m
 | 120 => g_Shl args m
 | 89 => g_Shr args m
 | 54 => g_Cmp args m
 | 53 => g_Add args m
 | 51 => g_Mul args m
 | 93 => g_length args m
 | 102 => g_Read args m
 | 79 => g_Addr args m
 | 67 => g_Wide args m
 | 101 => g_Bytes args m
 | 57 => g_signed args m
 | 65 => g_digest args m
 | 66 => g_kJoin args m
 | 68 => g_self args m
 | _ => .none
theorem GHB_ok : GOk Tryd.prog GHB := by
 intro w0 B f args m; unfold GHB; split
 ·exact g_From_ok _ _ _ _
 ·exact g_rFrom_ok _ _ _ _
 ·exact g_Small_ok _ _ _ _
 ·exact g_lowByte_ok _ _ _ _
 ·exact g_Shl_ok _ _ _ _
 ·exact g_Shr_ok _ _ _ _
 ·exact g_Cmp_ok _ _ _ _
 ·exact g_Add_ok _ _ _ _
 ·exact g_Mul_ok _ _ _ _
 ·exact g_length_ok _ _ _ _
 ·exact g_Read_ok _ _ _ _
 ·exact g_Addr_ok _ _ _ _
 ·exact g_Wide_ok _ _ _ _
 ·exact g_Bytes_ok _ _ _ _
 ·exact g_signed_ok _ _ _ _
 ·exact g_digest_ok _ _ _ _
 ·exact g_kJoin_ok _ _ _ _
 ·exact g_self_ok _ _ _ _
 ·exact trivial
theorem GHB_From : GHB 52 = g_From := by funext args m; rfl
theorem GHB_rFrom : GHB 43 = g_rFrom := by funext args m; rfl
theorem GHB_Small : GHB 141 = g_Small := by funext args m; rfl
theorem GHB_lowByte : GHB 109 = g_lowByte := by funext args m; rfl
theorem GHB_Shl : GHB 120 = g_Shl := by funext args m; rfl
theorem GHB_Shr : GHB 89 = g_Shr := by funext args m; rfl
theorem GHB_Cmp : GHB 54 = g_Cmp := by funext args m; rfl
theorem GHB_Add : GHB 53 = g_Add := by funext args m; rfl
theorem GHB_Mul : GHB 51 = g_Mul := by funext args m; rfl
theorem GHB_length : GHB 93 = g_length := by funext args m; rfl
theorem GHB_Read : GHB 102 = g_Read := by funext args m; rfl
theorem GHB_Addr : GHB 79 = g_Addr := by funext args m; rfl
theorem GHB_Wide : GHB 67 = g_Wide := by funext args m; rfl
theorem GHB_Bytes : GHB 101 = g_Bytes := by funext args m; rfl
theorem GHB_signed : GHB 57 = g_signed := by funext args m; rfl
theorem GHB_digest : GHB 65 = g_digest := by funext args m; rfl
theorem GHB_kJoin : GHB 66 = g_kJoin := by funext args m; rfl
theorem GHB_self : GHB 68 = g_self := by funext args m; rfl
def GHB_set := And.intro (And.intro (And.intro (And.intro (And.intro (@GHB_From) (@g_From.eq_def)) (And.intro (@GHB_rFrom) (@g_rFrom.eq_def))) (And.intro (And.intro (@GHB_Small) (@g_Small.eq_def)) (And.intro (@GHB_lowByte) (And.intro (@g_lowByte.eq_def) (@GHB_Shl))))) (And.intro (And.intro (And.intro (@g_Shl.eq_def) (@GHB_Shr)) (And.intro (@g_Shr.eq_def) (@GHB_Cmp))) (And.intro (And.intro (@g_Cmp.eq_def) (@GHB_Add)) (And.intro (@g_Add.eq_def) (And.intro (@GHB_Mul) (@g_Mul.eq_def)))))) (And.intro (And.intro (And.intro (And.intro (@GHB_length) (@g_length.eq_def)) (And.intro (@GHB_Read) (@g_Read.eq_def))) (And.intro (And.intro (@GHB_Addr) (@g_Addr.eq_def)) (And.intro (@GHB_Wide) (And.intro (@g_Wide.eq_def) (@GHB_Bytes))))) (And.intro (And.intro (And.intro (@g_Bytes.eq_def) (@GHB_signed)) (And.intro (@g_signed.eq_def) (@GHB_digest))) (And.intro (And.intro (@g_digest.eq_def) (@GHB_kJoin)) (And.intro (@g_kJoin.eq_def) (And.intro (@GHB_self) (@g_self.eq_def))))))

set_option maxRecDepth 20000 in
theorem hash_vc (l : List SV) (x : OpD) (c : Nat) (hc : c < W) (w : World) (hm : MemOk w [] [.ro (some ⟨1, 0, none⟩) (.ints .u64 kKeys), .ro (some ⟨2, 0, none⟩) (.ints .u8 kPathI), allOld w] w) (hO : OpR (H0 w) l x) (hS : OpS 10000 x) : Calls Tryd.prog 26 (cvs [.agg l, .word c]).toArray w (fun en w' => ∃ u, en = .returned u ∧ ∃ v' m', u = cv v' ∧ MemOk w [] m' w' ∧ v' = .word (hsN x c)) := by
 have hOx : ∀ m, allOld w ∈ m → OpR (HM m) l x := fun m hin => hO.mono (H0.hm hin)
 have hop := opOf_eq hO
 have f3 := hO.all
 have f2 := hO.one
 have hsl := self_len
 have hsa := self_all
 refine Vc.calls T0_ok Tryd.func26 rfl rfl (args := [.agg l, .word c]) (k := 26) rfl hm ?_; change Vc _ _ (c8 (.agg l) (.word c) .undef .undef .undef .undef .undef .undef (c8 .undef .undef .undef .undef .undef .undef .undef .undef (c8 .undef .undef .undef .undef .undef .undef .undef .undef ([.undef, .undef, .undef, .undef])))) _ _
 ((repeat (first | (with_reducible first | refine Vc.seq fun N hN => ?_ | refine Vc.block ?_) | (with_reducible intro _) | ((with_reducible refine And.intro ?_ ?_); exact sX7) | ((first | ((with_reducible refine Vc.hold ?_); first | refine Vc.regiont T0_ok GHB_ok ?_)); (try simp only [v8Y, Nat.beq, Nat.ble, seval, tabs, GHB_set, hop, f2, f3])) | ((with_reducible refine hN _ _ ?_); clear hN N))))
 rename_i b1 b2 b3 y hQ
 obtain ⟨⟨g, rs⟩, h⟩ := y
 obtain ⟨q1, q2, q3, q4, r1, r2, r3⟩ := hQ
 simp only at q1 q2 q3 q4 r1 r2 r3 ⊢
 have hLx : ∀ m, Blk.heap h ∈ m → LiesH (HM m) (some ⟨g, 0, none⟩) (cc (.rows 6 rs)) := fun m hin => q4.mono (Hl.hm hin fun _ h => h)
 have hle := sg_le hS hO.lf hO.lp
 have hlen : (sgP x).length = 8 := rfl
 (revert N; intro N1 hN1)
 refine Vc.nilownW 5 26 rfl ?_
 (simp only [v8Y, Nat.beq, Nat.ble, seval, tabs])
 refine Vc.loop 5 28 (fun (z : Nat × Value) => [(5, .own 7 z.2 z.1), (9, .gh (some ⟨g, 0, none⟩) 8 8 (.rows 6 rs)), (10, .int .i64 (8 : Nat)), (11, .int .i64 (z.1 : Nat))]) (fun z => [.ro (some ⟨1, 0, none⟩) (.ints .u64 kKeys), .ro (some ⟨2, 0, none⟩) (.ints .u8 kPathI), allOld w, .blk b1 29 (.cells l), .blk b2 26 (.words [c]), .blk b3 26 (.words [0]), .heap h, .own z.2 z.1 26 4 (.words ((dgL x).take z.1))]) (fun z => z.1 ≤ 8) (fun z => 8 - z.1) (0, .slice none 0 0) ⟨Nat.zero_le _, ?_, ?_⟩ (fun z junk hz => ?_)
 ·((try simp only [v8Y, Nat.beq, Nat.ble, seval, tabs]); (repeat' with_reducible apply And.intro) <;> first | with_reducible exact True.intro | rfl | with_reducible rfl | (congr 1 <;> omega) | trivial)
 ·((try simp only [v8Y, Nat.beq, Nat.ble, seval, tabs]); (repeat' with_reducible apply And.intro) <;> first | with_reducible exact True.intro | rfl | with_reducible rfl | (congr 1 <;> omega) | trivial)
 ·obtain ⟨k, v⟩ := z
  simp only at hz ⊢
  (simp only [v8Y, Nat.beq, Nat.ble, seval, tabs])
  by_cases hlt : k < 8
  ·have d1 : decide ((k : Int) < ((8 : Nat) : Int)) = true := decide_eq_true (by omega)
   have d1q : decide ((k : Int) < 8) = true := decide_eq_true (by omega)
   have e1 := List.getElem?_eq_getElem (show k < rs.length by omega)
   have e2 := List.getElem?_eq_getElem (show k < (sgP x).length by omega)
   have hp := r3 k _ _ e1 e2
   have hpl := hle _ (List.getElem_mem (show k < (sgP x).length by omega))
   have hgd := getD_of e1
   have hds := dgL_s e2
   have tk : ((k : Nat) : Int).toNat = k := by omega
   generalize hd : (dgL x).take k = D at *
   have hDl : D.length = k := by rw [← hd, List.length_take, dgL_len]; omega
   generalize rs[k] = r at *
   generalize (sgP x)[k] = p at *
   obtain ⟨x0, x1, x2, x3, pa, pn, pc, rfl, g1, g2, g3, g4, g5, g6, g7, g8⟩ := hp
   obtain ⟨pd, pw, ps⟩ := p
   simp only at g2 g3 g6 g7 hgd hds hpl
   have hLp : ∀ m, Blk.heap h ∈ m → LiesH (HM m) pa (cc (.ints .u8 ps)) := fun m hin => g6.mono (Hl.hm hin fun _ h => h)
   ((repeat (first | (with_reducible refine Vc.seq fun N hN => ?_) | ((with_reducible refine And.intro ?_ ?_); exact sdB) | ((first | ((with_reducible refine Vc.hold ?_); first | refine Vc.regiont T0_ok GHB_ok ?_)); (try simp only [v8Y, Nat.beq, Nat.ble, seval, tabs, GHB_set, d1, d1q])) | ((with_reducible refine hN _ _ ?_); clear hN N))))
   (refine Vc.cond T0_ok (t := true) (by rfl) (fun _ => ?_) (fun h => Bool.noConfusion h))
   ((repeat (first | (with_reducible first | refine Vc.seq fun N hN => ?_ | refine Vc.block ?_) | ((first | with_reducible refine Vc.skip ?_); dsimp only [thenK, blockK, Nat.beq]; (first | (refine hN _ _ ?_; clear hN N))) | (with_reducible intro _) | ((with_reducible refine And.intro ?_ ?_); (focus (first | ((repeat' with_reducible apply And.intro) <;> first | exact sideQ | (exact hLx _ (by simp)) | (exact hLp _ (by simp))) | exact sd0))) | ((first | ((with_reducible refine Vc.hold ?_); first | refine Vc.regiont T0_ok GHB_ok ?_)); (try simp only [v8Y, Nat.beq, Nat.ble, seval, tabs, GHB_set, hgd, g2, tk, tnc, conEs.eq_def, conN.eq_def])) | ((with_reducible refine hN _ _ ?_); clear hN N))))
   rename_i _ _ v9
   refine ⟨(k + 1, v9), by simp only; omega, ?_, ?_, by simp only; omega⟩
   ·((try simp only [v8Y, Nat.beq, Nat.ble, seval, tabs]); (repeat' with_reducible apply And.intro) <;> first | with_reducible exact True.intro | rfl | (congr 1 <;> omega))
   ·((try simp only [v8Y, Nat.beq, Nat.ble, seval, tabs]); (repeat' with_reducible apply And.intro) <;> first | with_reducible exact True.intro | rw [hds]; rfl | (congr 1 <;> omega))
  ·have d1 : decide ((k : Int) < ((8 : Nat) : Int)) = false := decide_eq_false (by omega)
   have d1q : decide ((k : Int) < 8) = false := decide_eq_false (by omega)
   obtain rfl : k = 8 := by omega
   have ht : (dgL x).take 8 = dgL x := rfl
   ((repeat (first | (with_reducible refine Vc.seq fun N hN => ?_) | ((with_reducible refine And.intro ?_ ?_); exact sdB) | ((first | ((with_reducible refine Vc.hold ?_); first | refine Vc.regiont T0_ok GHB_ok ?_)); (try simp only [v8Y, Nat.beq, Nat.ble, seval, tabs, GHB_set, d1, d1q])) | ((with_reducible refine hN _ _ ?_); clear hN N))))
   (refine Vc.cond T0_ok (t := false) (by rfl) (fun h => Bool.noConfusion h) (fun _ => ?_))
   ((repeat (first | ((first | with_reducible refine Vc.exit ?_); dsimp only [thenK, blockK, Nat.beq]; (first | skip)) | ((first | ((with_reducible refine Vc.fin ?_); dsimp only [thenK, blockK, retK, resS, resOne, resAll])); (try simp only [v8Y, Nat.beq, Nat.ble, seval, tabs, GHB_set])))); (try ((with_reducible refine Fin.of ?_); (try with_reducible exact True.intro))))
   (refine hN1 _ _ ?_; (try clear hN N); clear hN1 N1)
   have wS : rdI selfB < W := by decide +kernel
   have wJ : kSum (wB (dgL x) 8) < W := readN_lt (kHs_all _ _)
   have hdl := dgL_len x
   have hn : kSum (wB [kSum (wB (dgL x) 8), rdI selfB, c] 3) = hsN x c := rfl
   ((with_reducible refine Vc.seq fun N hN => ?_); (first | refine Vc.drawt (id := 7) T0_ok GHB_ok (by kernel_rfl) [0, 4, 1, 2, 3] 5 [] trivial (by kernel_rfl) ?_); simp only [v8Y, Nat.beq, Nat.ble, seval, tabs, GHB_set, ht, hn, List.drop_zero, List.take_succ_cons, List.take_zero]; (try simp (disch := omega) only [v8W]))
   (repeat (first | with_reducible intro _ | ((with_reducible refine And.intro ?_ ?_); exact sX5))); (first | (refine hN _ _ ?_; clear hN N; (try simp (disch := omega) only [v8W])) | skip)
   ((repeat (first | ((first | with_reducible refine Vc.exit ?_); dsimp only [thenK, blockK, Nat.beq]; (first | skip)) | ((first | ((with_reducible refine Vc.fin ?_); dsimp only [thenK, blockK, retK, resS, resOne, resAll])); (try simp only [v8Y, Nat.beq, Nat.ble, seval, tabs, GHB_set])))); (try ((with_reducible refine Fin.of ?_); (try with_reducible exact True.intro))))
   exact ⟨by simp, trivial⟩
noncomputable def g_hash (args : List SV) (m : List Blk) : CR :=
 match args with
 | [.agg l, .word c] => match bget m 0, bget m 1 with
  | .ro a0 c0, .ro a1 c1 => .pure (a0 = some ⟨1, 0, none⟩ ∧ c0 = .ints .u64 kKeys ∧ a1 = some ⟨2, 0, none⟩ ∧ c1 = .ints .u8 kPathI ∧ c < W ∧ ∃ x, OpR (HM m) l x ∧ OpS 10000 x) (.word (hsN (opOf l) c))
  | _, _ => .none
 | _ => .none
theorem g_hash_ok (w0 : World) (B : List Nat) (args : List SV) (m : List Blk) : CROk Tryd.prog w0 B 26 args m (g_hash args m) := by
 unfold g_hash
 split
 ·split
  ·rename_i a0 c0 a1 c1 h0 h1
   intro ⟨r0, r1, r2, r3, hc, x, hO, hS⟩ w hm
   subst r0 r1 r2 r3
   rw [opOf_eq hO]
   exact calls_pure Tryd.func26 rfl rfl (hash_vc _ x _ hc w (ro2 hm h0 h1) (hO.mono fun b o h => hm.hm h) hS)
  ·exact trivial
 ·exact trivial
end Go.Proofs.YthdpgfdfgidokaaDoor

/-
 Package userop: question, Validate and Sponsor, walked: calls that tell an operation. No condition.
-/
import Derived.Test.YthdpgfdfgidokaaDoorOE
set_option maxRecDepth 10000
set_option maxHeartbeats 4000000
set_option linter.defProp false
set_option linter.unusedVariables false
set_option linter.unusedSimpArgs false
namespace Go.Proofs.YthdpgfdfgidokaaDoor
open Go.RowKit
def PkF (x : (Option Addr × Nat × List (List SV))) : SV := .gh x.1 9 x.2.1 (.rows 6 x.2.2)
def PkQ (x : OpD) (y : Option Addr × Nat × List (List SV)) (h : List (Nat × Obj)) : Prop := PsL (Hl h) y.1 9 y.2.1 y.2.2 (pkP x)
noncomputable def g_pack (args : List SV) (m : List Blk) : CR :=
 match args with
 | [.agg l] => .grw (∃ x, OpR (HM m) l x ∧ OpS 10000 x) ((Option Addr × Nat × List (List SV)) × List (Nat × Obj)) (fun a => PkQ (opOf l) a.1 a.2) (fun a => .gh a.1.1 9 a.1.2.1 (.rows 6 a.1.2.2)) (fun a => .heap a.2)
 | _ => .none
theorem g_pack_ok (w0 : World) (B : List Nat) (args : List SV) (m : List Blk) : CROk Tryd.prog w0 B 24 args m (g_pack args m) := by
 unfold g_pack
 split
 ·rename_i l
  intro ⟨x, hO, hS⟩ w hm
  rw [opOf_eq hO]
  refine calls_new (F := PkF) (Q := PkQ x) Tryd.func24 rfl rfl hm ((pack_vc l x w (hO.mono fun b o h => hm.hm h) hS).mono fun e w' ⟨u, he, v', m', hu, hm', hp⟩ => ⟨u, he, v', m', hu, hm', fun w2 hm2 => ?_⟩)
  obtain ⟨k, s, rs, r, h, q, hv, hb, hk, hq, hh, hP⟩ := hp
  obtain ⟨a, c, rs', e1, h2⟩ := prts_more hb hk hq hh hP rfl hm2
  exact ⟨(a, c, rs'), by rw [hv, e1]; rfl, h2⟩
 ·exact trivial
theorem allB_app2 {x y : List Int} (hx : allB x) (hy : allB y) : allB (x ++ y) := fun z hz => (List.mem_append.1 hz).elim (hx z) (hy z)
theorem fold_all2 (N : Nat) : ∀ (l : List Prt) (s : List Int × List Int), allB s.1 → allB s.2 → (∀ p ∈ l, allB p.bs) → allB (l.foldl (stE N) s).1 ∧ allB (l.foldl (stE N) s).2
 | [], s, h1, h2, _ => ⟨h1, h2⟩
 | p :: l, s, h1, h2, h => by
  simp only [List.foldl_cons]
  refine fold_all2 N l _ ?_ ?_ fun q hq => h q (List.mem_cons_of_mem _ hq)
  ·unfold stE; split <;> exact allB_app2 h1 (bytI_all _ _)
  ·unfold stE; split
   ·refine allB_app2 h2 ?_
    unfold abTail
    refine allB_app2 (allB_app2 (bytI_all _ _) (h p List.mem_cons_self)) fun z hz => ?_
    rw [List.eq_of_mem_replicate hz]; omega
   ·exact h2
theorem abEnc_all2 {l : List Prt} (h : ∀ p ∈ l, allB p.bs) : allB (abEnc l) := by
 have := fold_all2 l.length l ([], []) (fun z hz => absurd hz List.not_mem_nil) (fun z hz => absurd hz List.not_mem_nil) h
 exact allB_app2 this.1 this.2
theorem abEnc_le (l : List Prt) : (abEnc l).length ≤ 32 * l.length + 64 * psz l := by
 obtain ⟨h1, h2, _⟩ := encS_len l.length l
 unfold abEnc
 rw [List.length_append]; omega
theorem selB_all2 (xs : List Int) : allB (selB xs) := fun y hy => bytI_all _ _ y (List.mem_of_mem_take hy)
theorem selB_len2 (xs : List Int) : (selB xs).length = 4 := by unfold selB; rw [List.length_take, bytI_len]; rfl
def hdP (h n : Nat) : List Prt := [⟨false, 96, []⟩, ⟨false, h, []⟩, ⟨false, n, []⟩]
theorem hd_all (h n : Nat) : allB (abEnc (hdP h n)) := abEnc_all2 (by
 intro p hp
 simp only [hdP, List.mem_cons, List.not_mem_nil, or_false] at hp
 rcases hp with rfl | rfl | rfl <;> exact fun y hy => absurd hy List.not_mem_nil)
theorem hd_len (h n : Nat) : (abEnc (hdP h n)).length ≤ 400 := Nat.le_trans (abEnc_le _) (by simp [hdP, psz])
structure OpB (x : OpD) : Prop where
 lf : x.fac.length = 20
 lp : x.pay.length = 20
 b1 : allB (facB x)
 b2 : allB x.cd
 b3 : allB (payB x)
 b4 : allB x.sg
theorem OpR.okB {H : Nat → Obj → Prop} {l : List SV} {x : OpD} (h : OpR H l x) : OpB x := by
 obtain ⟨_, _, h1⟩ := h.c45
 obtain ⟨_, _, h2⟩ := h.c46
 obtain ⟨_, _, h3⟩ := h.c81
 obtain ⟨_, _, h4⟩ := h.c82
 have key : ∀ {v : SV} {xs : List Int}, byR H v xs → allB xs := fun ⟨_, _, _, _, _, _, _, _, h, _⟩ => h
 exact ⟨h.lf, h.lp, facB_all h.bf (key h1), key h2, payB_all h.bp (key h3), key h4⟩
theorem pk_sz {x : OpD} (h : OpB x) (hS : OpS 10000 x) : psz (pkP x) ≤ 50000 := by
 obtain ⟨h1, h2, h3, h4⟩ := hS
 have k1 : (facB x).length ≤ 10020 := by unfold facB; split <;> simp [h.lf]; omega
 have k2 : (payB x).length ≤ 10052 := by unfold payB; split <;> simp [h.lp, hlfB_len]; omega
 simp only [pkP, sgP, List.cons_append, List.nil_append, psz, List.length_nil]
 omega
theorem pk_all {x : OpD} (h : OpB x) : ∀ p ∈ pkP x, allB p.bs := by
 intro p hp
 have h0 : allB ([] : List Int) := fun y hy => absurd hy List.not_mem_nil
 simp only [pkP, sgP, List.cons_append, List.nil_append, List.mem_cons, List.not_mem_nil, or_false] at hp
 rcases hp with rfl | rfl | rfl | rfl | rfl | rfl | rfl | rfl | rfl
 ·exact h0
 ·exact h0
 ·exact h.b1
 ·exact h.b2
 ·exact h0
 ·exact h0
 ·exact h0
 ·exact h.b3
 ·exact h.b4
theorem pk_len {x : OpD} (h : OpB x) (hS : OpS 10000 x) : (abEnc (pkP x)).length ≤ 4000000 := by
 have h1 := abEnc_le (pkP x)
 have h2 := pk_sz h hS
 have h3 : (pkP x).length = 9 := rfl
 omega
def pkdB : List Int := [40, 97, 100, 100, 114, 101, 115, 115, 44, 117, 105, 110, 116, 50, 53, 54, 44, 98, 121, 116, 101, 115, 44, 98, 121, 116, 101, 115, 44, 98, 121, 116, 101, 115, 51, 50, 44, 117, 105, 110, 116, 50, 53, 54, 44, 98, 121, 116, 101, 115, 51, 50, 44, 98, 121, 116, 101, 115, 44, 98, 121, 116, 101, 115, 41]
def tlB : List Int := [44, 98, 121, 116, 101, 115, 51, 50, 44, 117, 105, 110, 116, 50, 53, 54, 41]
def vNm : List Int := [118, 97, 108, 105, 100, 97, 116, 101, 85, 115, 101, 114, 79, 112]
def sNm : List Int := [118, 97, 108, 105, 100, 97, 116, 101, 80, 97, 121, 109, 97, 115, 116, 101, 114, 85, 115, 101, 114, 79, 112]
def qsN (name : List Int) : List Int := name ++ [40] ++ pkdB ++ tlB
theorem qsN_len (name : List Int) : (qsN name).length = name.length + 83 := by
 have h1 : pkdB.length = 65 := by decide +kernel
 have h2 : tlB.length = 17 := by decide +kernel
 unfold qsN
 simp only [List.length_append, h1, h2, List.length_cons, List.length_nil]
theorem allB_dec {l : List Int} (h : l.all (fun y => decide (0 ≤ y ∧ y ≤ 255)) = true) : allB l := fun y hy => of_decide_eq_true (List.all_eq_true.1 h y hy)
theorem qsN_all {name : List Int} (h : allB name) : allB (qsN name) :=
 allB_app2 (allB_app2 (allB_app2 h (allB_dec (by decide +kernel))) (allB_dec (by decide +kernel))) (allB_dec (by decide +kernel))
def askB (name : List Int) (x : OpD) (h n : Nat) : List Int := selB (qsN name) ++ (abEnc (hdP h n) ++ abEnc (pkP x))
theorem ask_flat {name : List Int} {x : OpD} {h n : Nat} : [selB (qsN name), abEnc (hdP h n), abEnc (pkP x)].flatten = askB name x h n := by simp [askB]
theorem ask_len {name : List Int} {x : OpD} {h n : Nat} (hB : OpB x) (hS : OpS 10000 x) : (askB name x h n).length ≤ 5000000 := by
 have h1 := pk_len hB hS
 have h2 := hd_len h n
 have h3 := selB_len2 (qsN name)
 simp only [askB, List.length_append]
 omega
noncomputable def GOH : Ctr := fun f args m => match f with
 | 52 => g_From args m
 | 43 => g_rFrom args m
 | 141 => g_Small args m
 | 109 => g_lowByte args m
 | 120 => g_Shl args m
 | 89 => g_Shr args m
 | 54 => g_Cmp args m
 | 53 => g_Add args m
 | 51 => g_Mul args m
 | 93 => g_length args m
 | 102 => g_Read args m
 | 79 => g_Addr args m
 | 67 => g_Wide args m
 | 101 => g_Bytes args m
 | 24 => g_pack args m
 | 76 => g_Enc args m
 | 75 => g_Sel args m
 | 74 => g_concat args m
 | _ => .none
theorem GOH_ok : GOk Tryd.prog GOH := by
 intro w0 B f args m; unfold GOH; split
 ·exact g_From_ok _ _ _ _
 ·exact g_rFrom_ok _ _ _ _
 ·exact g_Small_ok _ _ _ _
 ·exact g_lowByte_ok _ _ _ _
 ·exact g_Shl_ok _ _ _ _
 ·exact g_Shr_ok _ _ _ _
 ·exact g_Cmp_ok _ _ _ _
 ·exact g_Add_ok _ _ _ _
 ·exact g_Mul_ok _ _ _ _
 ·exact g_length_ok _ _ _ _
 ·exact g_Read_ok _ _ _ _
 ·exact g_Addr_ok _ _ _ _
 ·exact g_Wide_ok _ _ _ _
 ·exact g_Bytes_ok _ _ _ _
 ·exact g_pack_ok _ _ _ _
 ·exact g_Enc_ok _ _ _ _
 ·exact g_Sel_ok _ _ _ _
 ·exact g_concat_ok _ _ _ _
 ·exact trivial
theorem GOH_From : GOH 52 = g_From := by funext args m; rfl
theorem GOH_rFrom : GOH 43 = g_rFrom := by funext args m; rfl
theorem GOH_Small : GOH 141 = g_Small := by funext args m; rfl
theorem GOH_lowByte : GOH 109 = g_lowByte := by funext args m; rfl
theorem GOH_Shl : GOH 120 = g_Shl := by funext args m; rfl
theorem GOH_Shr : GOH 89 = g_Shr := by funext args m; rfl
theorem GOH_Cmp : GOH 54 = g_Cmp := by funext args m; rfl
theorem GOH_Add : GOH 53 = g_Add := by funext args m; rfl
theorem GOH_Mul : GOH 51 = g_Mul := by funext args m; rfl
theorem GOH_length : GOH 93 = g_length := by funext args m; rfl
theorem GOH_Read : GOH 102 = g_Read := by funext args m; rfl
theorem GOH_Addr : GOH 79 = g_Addr := by funext args m; rfl
theorem GOH_Wide : GOH 67 = g_Wide := by funext args m; rfl
theorem GOH_Bytes : GOH 101 = g_Bytes := by funext args m; rfl
theorem GOH_pack : GOH 24 = g_pack := by funext args m; rfl
theorem GOH_Enc : GOH 76 = g_Enc := by funext args m; rfl
theorem GOH_Sel : GOH 75 = g_Sel := by funext args m; rfl
theorem GOH_concat : GOH 74 = g_concat := by funext args m; rfl
def GOH_set := And.intro (And.intro (And.intro (And.intro (And.intro (@GOH_From) (@g_From.eq_def)) (And.intro (@GOH_rFrom) (@g_rFrom.eq_def))) (And.intro (And.intro (@GOH_Small) (@g_Small.eq_def)) (And.intro (@GOH_lowByte) (And.intro (@g_lowByte.eq_def) (@GOH_Shl))))) (And.intro (And.intro (And.intro (@g_Shl.eq_def) (@GOH_Shr)) (And.intro (@g_Shr.eq_def) (@GOH_Cmp))) (And.intro (And.intro (@g_Cmp.eq_def) (@GOH_Add)) (And.intro (@g_Add.eq_def) (And.intro (@GOH_Mul) (@g_Mul.eq_def)))))) (And.intro (And.intro (And.intro (And.intro (@GOH_length) (@g_length.eq_def)) (And.intro (@GOH_Read) (@g_Read.eq_def))) (And.intro (And.intro (@GOH_Addr) (@g_Addr.eq_def)) (And.intro (@GOH_Wide) (And.intro (@g_Wide.eq_def) (@GOH_Bytes))))) (And.intro (And.intro (And.intro (@g_Bytes.eq_def) (@GOH_pack)) (And.intro (@g_pack.eq_def) (@GOH_Enc))) (And.intro (And.intro (@g_Enc.eq_def) (@GOH_Sel)) (And.intro (@g_Sel.eq_def) (And.intro (@GOH_concat) (@g_concat.eq_def))))))

set_option maxRecDepth 20000 in
theorem question_vc (name : List Int) (l : List SV) (x : OpD) (h n : Nat) (hna : allB name) (hnl : name.length ≤ 100) (hh : h < W) (hn : n < W) (w : World) (hm : MemOk w [] [.ro (some ⟨1, 0, none⟩) (.ints .u64 kKeys), .ro (some ⟨2, 0, none⟩) (.ints .u8 kPathI), allOld w] w) (hO : OpR (H0 w) l x) (hS : OpS 10000 x) :
  Calls Tryd.prog 72 (cvs [.str name, .agg l, .word h, .word n]).toArray w (fun en w' => ∃ u, en = .returned u ∧ ∃ v' m', u = cv v' ∧ MemOk w [] m' w' ∧ ∃ k s, v' = .own k s (askB name x h n).length ∧ bget m' k = .own s (askB name x h n).length 5 1 (.ints .u8 (askB name x h n))) := by
 have hOx : ∀ m, allOld w ∈ m → OpR (HM m) l x := fun m hin => hO.mono (H0.hm hin)
 have hop := opOf_eq hO
 have hS0 := hS
 have hB := hO.okB
 have f3 := hO.all
 have f1 := hO.len
 have f2 := hO.one
 have e96 : (96 : Int).toNat = 96 := rfl
 have w96 : (96 : Nat) < W := by decide +kernel
 have M1 := numI_lm w96
 have M2 := numI_lm hh
 have M3 := numI_lm hn
 have hhd : [(⟨false, 96, []⟩ : Prt), ⟨false, h, []⟩, ⟨false, n, []⟩] = hdP h n := rfl
 have hpz : psz (hdP h n) ≤ 100000 := by simp [hdP, psz]
 have hp1 : strI ⟨(([40, 97, 100, 100, 114, 101, 115, 115, 44, 117, 105, 110, 116, 50, 53, 54, 44, 98, 121, 116, 101, 115, 44, 98, 121, 116, 101, 115, 44, 98, 121, 116] : List UInt8).append [101, 115, 51, 50, 44, 117, 105, 110, 116, 50, 53, 54, 44, 98, 121, 116, 101, 115, 51, 50, 44, 98, 121, 116, 101, 115, 44, 98, 121, 116, 101, 115, 41]).toArray⟩ = pkdB := by decide +kernel
 have hp2 : ([44, 98, 121, 116, 101, 115, 51, 50, 44, 117, 105, 110, 116, 50, 53, 54, 41] : List Int) = tlB := rfl
 have hqN : name ++ [40] ++ pkdB ++ tlB = qsN name := rfl
 have lp1 : pkdB.length = 65 := by decide +kernel
 have lp2 : tlB.length = 17 := by decide +kernel
 have lp3 : (name ++ [40] ++ pkdB).length = name.length + 66 := by simp [lp1]
 have lp4 : (name ++ [40]).length = name.length + 1 := by simp
 have hqa := qsN_all hna
 have hql : (qsN name).length ≤ 1000000 := by rw [qsN_len]; omega
 have hda := hd_all h n
 have hdl := hd_len h n
 refine Vc.calls T0_ok Tryd.func72 rfl rfl (args := [.str name, .agg l, .word h, .word n]) (k := 25) rfl hm ?_; change Vc _ _ (c8 (.str name) (.agg l) (.word h) (.word n) .undef .undef .undef .undef (c8 .undef .undef .undef .undef .undef .undef .undef .undef (c8 .undef .undef .undef .undef .undef .undef .undef .undef ([.undef, .undef, .undef, .undef, .undef])))) _ _
 ((repeat (first | (with_reducible refine Vc.seq fun N hN => ?_) | (with_reducible intro _) | ((with_reducible refine And.intro ?_ ?_); (focus (first | ((repeat' with_reducible apply And.intro) <;> first | exact sideQ | (exact ⟨x, hOx _ (by simp), hS0⟩) | (simp [psz]; done) | (exact allU_lm _) | (rw [hqN]; exact qsN_all hna) | (rw [hqN, qsN_len]; omega)) | exact sd0))) | ((first | ((with_reducible refine Vc.hold ?_); first | refine Vc.regiont T0_ok GOH_ok ?_ | refine Vc.drawt (id := 1) T0_ok GOH_ok (by kernel_rfl) [2, 3, 4, 5, 0, 1] 6 [] trivial (by kernel_rfl) ?_ | refine Vc.drawt (id := 2) T0_ok GOH_ok (by kernel_rfl) [0, 1, 2, 3, 5, 6, 4] 7 [] trivial (by kernel_rfl) ?_)); (try simp only [v8Y, Nat.beq, Nat.ble, seval, tabs, GOH_set, e96, M1, M2, M3, hhd, byKs, prtS, hp1, hp2, hqN, f3, hop, f2])) | ((with_reducible refine hN _ _ ?_); clear hN N))))
 rename_i a hQ
 have hl : lOf a.1.2.2 = pkP x := lOf_eq hQ.rows
 have hE : ∀ m, Blk.heap a.2 ∈ m → ∃ l, PsR (HM m) a.1.2.2 l ∧ l.length = 9 ∧ 9 ≤ a.1.2.1 ∧ adr a.1.1 9 a.1.2.1 ∧ psz l ≤ 100000 ∧ LiesH (HM m) a.1.1 (cc (.rows 6 a.1.2.2)) := fun m hin => by
  have h1 := PsL.mono hQ (Hl.hm hin fun _ h => h)
  exact ⟨_, h1.rows, h1.len, h1.le, h1.adr, by have := pk_sz hB hS; omega, h1.lies⟩
 have hpl := pk_len hB hS
 have hpa := abEnc_all2 (pk_all hB)
 have hsa := selB_all2 (qsN name)
 have hsl := selB_len2 (qsN name)
 have t1 : (selB (qsN name)).take 4 = selB (qsN name) := List.take_of_length_le (by omega)
 have t2 : (abEnc (hdP h n)).take (abEnc (hdP h n)).length = abEnc (hdP h n) := List.take_length
 have t3 : (abEnc (pkP x)).take (abEnc (pkP x)).length = abEnc (pkP x) := List.take_length
 have hfl := ask_flat (name := name) (x := x) (h := h) (n := n)
 have hal := ask_len (name := name) (h := h) (n := n) hB hS
 (simp only [v8Y, Nat.beq, Nat.ble, seval, tabs, GOH_set, g_abEnc.eq_def, hl, t1, t2, t3, byKs, hfl, List.drop_zero]; (try simp (disch := omega) only [v8W]); (repeat (first | with_reducible intro _ | ((with_reducible refine And.intro ?_ ?_); (focus (first | ((repeat' with_reducible apply And.intro) <;> first | exact sideQ | (exact hE _ (by simp))) | exact sd0))))); (first | (refine hN _ _ ?_; clear hN N; (try simp (disch := omega) only [v8W])) | skip))
 ((repeat (first | ((first | ((with_reducible refine Vc.fin ?_); dsimp only [thenK, blockK, retK, resS, resOne, resAll])); (try simp only [v8Y, Nat.beq, Nat.ble, seval, tabs, GOH_set, ])))); (try ((with_reducible refine Fin.of ?_); (try with_reducible exact True.intro))))
 rename_i v
 exact ⟨trivial, 12, v, rfl, rfl⟩
noncomputable def g_question (args : List SV) (m : List Blk) : CR :=
 match args with
 | [.str name, .agg l, .word h, .word n] => match bget m 0, bget m 1 with
  | .ro a0 c0, .ro a1 c1 => .own ((∃ x, OpR (HM m) l x ∧ OpS 10000 x) ∧ a0 = some ⟨1, 0, none⟩ ∧ c0 = .ints .u64 kKeys ∧ a1 = some ⟨2, 0, none⟩ ∧ c1 = .ints .u8 kPathI ∧ allB name ∧ name.length ≤ 100 ∧ h < W ∧ n < W) 5 1 (askB name (opOf l) h n).length (.ints .u8 (askB name (opOf l) h n)) (fun v => v)
  | _, _ => .none
 | _ => .none
theorem g_question_ok (w0 : World) (B : List Nat) (args : List SV) (m : List Blk) : CROk Tryd.prog w0 B 72 args m (g_question args m) := by
 unfold g_question
 split
 ·split
  ·rename_i a0 c0 a1 c1 h0 h1
   intro ⟨⟨x, hO, hS⟩, r0, r1, r2, r3, k1, k2, k3, k4⟩ w hm
   subst r0 r1 r2 r3
   rw [opOf_eq hO]
   exact own_new Tryd.func72 rfl rfl hm (question_vc _ _ x _ _ k1 k2 k3 k4 w (ro2 hm h0 h1) (hO.mono fun b o h => hm.hm h) hS)
  ·exact trivial
 ·exact trivial
noncomputable def GOI : Ctr := fun f args m => match f with
 | 72 => g_question args m
 | _ => .none
theorem GOI_ok : GOk Tryd.prog GOI := by
 intro w0 B f args m; unfold GOI; split
 ·exact g_question_ok _ _ _ _
 ·exact trivial
theorem GOI_question : GOI 72 = g_question := by funext args m; rfl
def GOI_set := And.intro (@GOI_question) (@g_question.eq_def)

theorem valid_vc (l : List SV) (x : OpD) (h n : Nat) (hh : h < W) (hn : n < W) (w : World) (hm : MemOk w [] [.ro (some ⟨1, 0, none⟩) (.ints .u64 kKeys), .ro (some ⟨2, 0, none⟩) (.ints .u8 kPathI), allOld w] w) (hO : OpR (H0 w) l x) (hS : OpS 10000 x) :
  Calls Tryd.prog 30 (cvs [.agg l, .word h, .word n]).toArray w (fun en w' => ∃ u, en = .returned u ∧ ∃ v' m', u = cv v' ∧ MemOk w [] m' w' ∧ ∃ k s, v' = .own k s (askB vNm x h n).length ∧ bget m' k = .own s (askB vNm x h n).length 5 1 (.ints .u8 (askB vNm x h n))) := by
 have hOx : ∀ m, allOld w ∈ m → OpR (HM m) l x := fun m hin => hO.mono (H0.hm hin)
 have hop := opOf_eq hO
 have f3 := hO.all
 have hnm : ([118, 97, 108, 105, 100, 97, 116, 101, 85, 115, 101, 114, 79, 112] : List Int) = vNm := rfl
 have hna : allB vNm := allB_dec (by decide +kernel)
 have hnl : vNm.length ≤ 100 := by decide +kernel
 refine Vc.calls T0_ok Tryd.func30 rfl rfl (args := [.agg l, .word h, .word n]) (k := 8) rfl hm ?_; change Vc _ _ (c8 (.agg l) (.word h) (.word n) .undef .undef .undef .undef .undef ([.undef, .undef, .undef])) _ _
 ((repeat (first | (with_reducible refine Vc.seq fun N hN => ?_) | (with_reducible intro _) | ((with_reducible refine And.intro ?_ ?_); exact sX18) | ((first | ((with_reducible refine Vc.fin ?_); dsimp only [thenK, blockK, retK, resS, resOne, resAll]) | ((with_reducible refine Vc.hold ?_); first | refine Vc.regiont T0_ok GOI_ok ?_)); (try simp only [v8Y, Nat.beq, Nat.ble, seval, tabs, GOI_set, hnm, f3, hop])) | ((with_reducible refine hN _ _ ?_); clear hN N))); (try ((with_reducible refine Fin.of ?_); (try with_reducible exact True.intro))))
 rename_i v
 exact ⟨by simp, 6, v, rfl, rfl⟩
noncomputable def g_valid (args : List SV) (m : List Blk) : CR :=
 match args with
 | [.agg l, .word h, .word n] => match bget m 0, bget m 1 with
  | .ro a0 c0, .ro a1 c1 => .own ((∃ x, OpR (HM m) l x ∧ OpS 10000 x) ∧ a0 = some ⟨1, 0, none⟩ ∧ c0 = .ints .u64 kKeys ∧ a1 = some ⟨2, 0, none⟩ ∧ c1 = .ints .u8 kPathI ∧ h < W ∧ n < W) 5 1 (askB vNm (opOf l) h n).length (.ints .u8 (askB vNm (opOf l) h n)) (fun v => v)
  | _, _ => .none
 | _ => .none
theorem g_valid_ok (w0 : World) (B : List Nat) (args : List SV) (m : List Blk) : CROk Tryd.prog w0 B 30 args m (g_valid args m) := by
 unfold g_valid
 split
 ·split
  ·rename_i a0 c0 a1 c1 h0 h1
   intro ⟨⟨x, hO, hS⟩, r0, r1, r2, r3, k3, k4⟩ w hm
   subst r0 r1 r2 r3
   rw [opOf_eq hO]
   exact own_new Tryd.func30 rfl rfl hm (valid_vc _ x _ _ k3 k4 w (ro2 hm h0 h1) (hO.mono fun b o h => hm.hm h) hS)
  ·exact trivial
 ·exact trivial
theorem spons_vc (l : List SV) (x : OpD) (h n : Nat) (hh : h < W) (hn : n < W) (w : World) (hm : MemOk w [] [.ro (some ⟨1, 0, none⟩) (.ints .u64 kKeys), .ro (some ⟨2, 0, none⟩) (.ints .u8 kPathI), allOld w] w) (hO : OpR (H0 w) l x) (hS : OpS 10000 x) :
  Calls Tryd.prog 32 (cvs [.agg l, .word h, .word n]).toArray w (fun en w' => ∃ u, en = .returned u ∧ ∃ v' m', u = cv v' ∧ MemOk w [] m' w' ∧ ∃ k s, v' = .own k s (askB sNm x h n).length ∧ bget m' k = .own s (askB sNm x h n).length 5 1 (.ints .u8 (askB sNm x h n))) := by
 have hOx : ∀ m, allOld w ∈ m → OpR (HM m) l x := fun m hin => hO.mono (H0.hm hin)
 have hop := opOf_eq hO
 have f3 := hO.all
 have hnm : ([118, 97, 108, 105, 100, 97, 116, 101, 80, 97, 121, 109, 97, 115, 116, 101, 114, 85, 115, 101, 114, 79, 112] : List Int) = sNm := rfl
 have hna : allB sNm := allB_dec (by decide +kernel)
 have hnl : sNm.length ≤ 100 := by decide +kernel
 refine Vc.calls T0_ok Tryd.func32 rfl rfl (args := [.agg l, .word h, .word n]) (k := 8) rfl hm ?_; change Vc _ _ (c8 (.agg l) (.word h) (.word n) .undef .undef .undef .undef .undef ([.undef, .undef, .undef])) _ _
 ((repeat (first | (with_reducible refine Vc.seq fun N hN => ?_) | (with_reducible intro _) | ((with_reducible refine And.intro ?_ ?_); exact sX18) | ((first | ((with_reducible refine Vc.fin ?_); dsimp only [thenK, blockK, retK, resS, resOne, resAll]) | ((with_reducible refine Vc.hold ?_); first | refine Vc.regiont T0_ok GOI_ok ?_)); (try simp only [v8Y, Nat.beq, Nat.ble, seval, tabs, GOI_set, hnm, f3, hop])) | ((with_reducible refine hN _ _ ?_); clear hN N))); (try ((with_reducible refine Fin.of ?_); (try with_reducible exact True.intro))))
 rename_i v
 exact ⟨by simp, 6, v, rfl, rfl⟩
noncomputable def g_spons (args : List SV) (m : List Blk) : CR :=
 match args with
 | [.agg l, .word h, .word n] => match bget m 0, bget m 1 with
  | .ro a0 c0, .ro a1 c1 => .own ((∃ x, OpR (HM m) l x ∧ OpS 10000 x) ∧ a0 = some ⟨1, 0, none⟩ ∧ c0 = .ints .u64 kKeys ∧ a1 = some ⟨2, 0, none⟩ ∧ c1 = .ints .u8 kPathI ∧ h < W ∧ n < W) 5 1 (askB sNm (opOf l) h n).length (.ints .u8 (askB sNm (opOf l) h n)) (fun v => v)
  | _, _ => .none
 | _ => .none
theorem g_spons_ok (w0 : World) (B : List Nat) (args : List SV) (m : List Blk) : CROk Tryd.prog w0 B 32 args m (g_spons args m) := by
 unfold g_spons
 split
 ·split
  ·rename_i a0 c0 a1 c1 h0 h1
   intro ⟨⟨x, hO, hS⟩, r0, r1, r2, r3, k3, k4⟩ w hm
   subst r0 r1 r2 r3
   rw [opOf_eq hO]
   exact own_new Tryd.func32 rfl rfl hm (spons_vc _ x _ _ k3 k4 w (ro2 hm h0 h1) (hO.mono fun b o h => hm.hm h) hS)
  ·exact trivial
 ·exact trivial
end Go.Proofs.YthdpgfdfgidokaaDoor

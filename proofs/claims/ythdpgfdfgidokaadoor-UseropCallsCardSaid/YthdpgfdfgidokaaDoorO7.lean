/-
 The document's answers for layer 15 (package quaestorref15): asked, Validate, Sponsor, walked. No condition.
-/
import Derived.Test.YthdpgfdfgidokaaDoorDQ
import Derived.Test.YthdpgfdfgidokaaDoorOF
set_option maxRecDepth 10000
set_option maxHeartbeats 4000000
set_option linter.defProp false
set_option linter.unusedVariables false
set_option linter.unusedSimpArgs false
namespace Go.Proofs.YthdpgfdfgidokaaDoor
open Go.RowKit
noncomputable def GDT : Ctr := fun f args m => match f with
 | 69 => g_qSum args m
 | 81 => g_rBytes args m
 | _ => .none
theorem GDT_ok : GOk Tryd.prog GDT := by
 intro w0 B f args m; unfold GDT; split
 ·exact g_qSum_ok _ _ _ _
 ·exact g_rBytes_ok _ _ _ _
 ·exact trivial
theorem GDT_qSum : GDT 69 = g_qSum := by funext args m; rfl
theorem GDT_rBytes : GDT 81 = g_rBytes := by funext args m; rfl
def GDT_set := And.intro (And.intro (@GDT_qSum) (@g_qSum.eq_def)) (And.intro (@GDT_rBytes) (@g_rBytes.eq_def))

theorem rsel_vc (xs : List Int) (hx : allB xs) (hl : xs.length ≤ 1000000) (w : World)  :
  Calls Tryd.prog 77 (cvs [.str xs]).toArray w (fun en w' => ∃ u, en = .returned u ∧ ∃ v' m', u = cv v' ∧ MemOk w [] m' w' ∧ ∃ k s, v' = .sl k (some ⟨blkOf s, 0, none⟩) 0 0 1 4 (max 32 (capOf s)) ∧ bget m' k = .own s 32 5 1 (.ints .u8 (bytI (kSum xs) 32))) := by
 have u1 : xs.take xs.length = xs := List.take_length
 refine Vc.calls T0_ok Tryd.func77 rfl rfl (args := [.str xs]) (k := 7) rfl (old_start w) ?_; change Vc _ _ (c8 (.str xs) .undef .undef .undef .undef .undef .undef .undef ([])) _ _
 ((with_reducible refine Vc.seq fun N hN => ?_); (refine Vc.regiont T0_ok GDT_ok ?_); simp only [v8Y, Nat.beq, Nat.ble, seval, tabs, GDT_set]; (try simp (disch := omega) only [v8W]); (repeat (first | ((with_reducible refine And.intro ?_ ?_); exact sdB))); (first | (refine hN _ _ ?_; clear hN N; (try simp (disch := omega) only [v8W])) | skip))
 refine Vc.seq fun N hN => ?_
 refine Vc.regionCnv T0_ok GDT_ok (pre := [⟨some 3, .move (.tmp 0), _, _, _, none⟩]) rfl rfl rfl rfl ?_
 (simp only [v8Y, Nat.beq, Nat.ble, seval, tabs])
 refine ⟨trivial, xs, rfl, hx, fun b cap o hcp hLi => ?_⟩
 have hLb : ∀ M, Blk.heap [(b, o)] ∈ M → LiesH (HM M) (some ⟨b, 0, none⟩) (cc (.ints .u8 xs)) := hLi
 (simp only [v8Y, Nat.beq, Nat.ble, seval, tabs, GDT_set, u1, List.drop_zero]; (try simp (disch := omega) only [v8W]); (repeat (first | with_reducible intro _ | ((with_reducible refine And.intro ?_ ?_); exact sX17))); (first | (refine hN _ _ ?_; clear hN N; (try simp (disch := omega) only [v8W])) | skip))
 rename_i v
 ((repeat (first | ((first | ((with_reducible refine Vc.fin ?_); dsimp only [thenK, blockK, retK, resS, resOne, resAll])); (try simp only [v8Y, Nat.beq, Nat.ble, seval, tabs, GDT_set])))); (try ((with_reducible refine Fin.of ?_); (try with_reducible exact True.intro))))
 exact ⟨trivial, 2, v, rfl, rfl⟩
def g_rSel (args : List SV) (_m : List Blk) : CR :=
 match args with
 | [.str xs] => .own (allB xs ∧ xs.length ≤ 1000000) 5 1 4 (.ints .u8 (selB xs)) (fun v => v)
 | _ => .none
theorem g_rSel_ok (w0 : World) (B : List Nat) (args : List SV) (m : List Blk) : CROk Tryd.prog w0 B 77 args m (g_rSel args m) := by
 unfold g_rSel
 split
 ·rename_i xs
  ·intro ⟨hx, hl⟩ w hm
   refine .inr ⟨enter_run Tryd.func77 rfl rfl _ w, (rsel_vc xs hx hl w).mono fun e w' ⟨u, he, v', m', hu, hm', k, s, hv, hs⟩ => ?_⟩
   have hok := own_ok0 (hm'.each _ (bget_mem hs (by simp)))
   obtain ⟨h2, h3⟩ := hok
   rcases h3 with ⟨_, h4⟩ | ⟨g, cap, cur, rfl, k1, k2, k3, k4, k5, k6⟩
   ·exact absurd h4 (by decide)
   refine ⟨u, he, .slice (some ⟨g, 0, none⟩) 4 cap, ?_, hm'.grown, ?_, .inr ⟨g, cap, cur, rfl, k1, k2, by omega, k4, k5, ?_⟩⟩
   ·rw [hu, hv]
    have e0 : max 32 (capOf (.slice (some ⟨g, 0, none⟩) 32 cap)) = cap := Nat.max_eq_right k3
    rw [e0]
    simp [cv, slV, blkOf, blkO, addr_add]
   ·unfold selB; simp [cc, bytI_len]
   ·have e1 : cur.toList.take (4 * 1) = (cur.toList.take (32 * 1)).take 4 := by rw [List.take_take]; rfl
    rw [e1, k6]
    unfold selB
    simp [cc]
 ·exact trivial
noncomputable def g_rEncL (args : List SV) (m : List Blk) : CR :=
 match args with
 | [.sl nm (some ⟨b, 0, none⟩) 0 0 6 n c] => match bget m nm with
  | .blk b2 _ (.rows 6 rs) => match prtXs (byK m) rs with
   | some (q, l) => .own (q ∧ b2 = b ∧ n = rs.length ∧ c = n ∧ psz l ≤ 100000) 5 1 (abEnc l).length (.ints .u8 (abEnc l)) (fun v => v)
   | none => .none
  | _ => .none
 | args => g_rEnc args m
theorem g_rEncL_ok (w0 : World) (B : List Nat) (args : List SV) (m : List Blk) : CROk Tryd.prog w0 B 78 args m (g_rEncL args m) := by
 unfold g_rEncL
 split
 ·rename_i nm b n c
  split
  ·rename_i b2 t rs hb
   split
   ·rename_i q l hk
    intro ⟨h0, e1, e2, e3, h1⟩ w hm
    subst e1 e3
    obtain ⟨rs', hP⟩ := lit_prts hb hk h0 e2 hm
    have e : cvs [.sl nm (some ⟨b2, 0, none⟩) 0 0 6 c c] = cvs [.gh (some ⟨b2, 0, none⟩) c c (.rows 6 rs')] := by
     simp [cvs, cv, addr_add]
    rw [e]
    exact own_new Tryd.func78 rfl rfl hm (renc_vc _ c c rs' l hP.len hP.le hP.adr h1 w hP.lies hP.rows)
   ·exact trivial
  ·exact trivial
 ·exact g_rEnc_ok _ _ _ _
theorem hd_enc (h n : Nat) : abEnc (hdP h n) = bytI 96 32 ++ (bytI h 32 ++ bytI n 32) := by
 simp [abEnc, encS, hdP, stE]
theorem ask_eq (name : List Int) (x : OpD) (h n : Nat) : selB (qsN name) ++ bytI 96 32 ++ bytI h 32 ++ bytI n 32 ++ abEnc (pkP x) = askB name x h n := by
 unfold askB; rw [hd_enc]; simp only [List.append_assoc]
noncomputable def GP8 : Ctr := fun f args m => match f with
 | 25 => g_rpack args m
 | 77 => g_rSel args m
 | 78 => g_rEncL args m
 | 43 => g_rFrom args m
 | 81 => g_rBytes args m
 | _ => .none
theorem GP8_ok : GOk Tryd.prog GP8 := by
 intro w0 B f args m; unfold GP8; split
 ·exact g_rpack_ok _ _ _ _
 ·exact g_rSel_ok _ _ _ _
 ·exact g_rEncL_ok _ _ _ _
 ·exact g_rFrom_ok _ _ _ _
 ·exact g_rBytes_ok _ _ _ _
 ·exact trivial
theorem GP8_rpack : GP8 25 = g_rpack := by funext args m; rfl
theorem GP8_rSel : GP8 77 = g_rSel := by funext args m; rfl
theorem GP8_rEncL : GP8 78 = g_rEncL := by funext args m; rfl
theorem GP8_rFrom : GP8 43 = g_rFrom := by funext args m; rfl
theorem GP8_rBytes : GP8 81 = g_rBytes := by funext args m; rfl
def GP8_set := And.intro (And.intro (And.intro (@GP8_rpack) (@g_rpack.eq_def)) (And.intro (@GP8_rSel) (And.intro (@g_rSel.eq_def) (@GP8_rEncL)))) (And.intro (And.intro (@g_rEncL.eq_def) (@GP8_rFrom)) (And.intro (@g_rFrom.eq_def) (And.intro (@GP8_rBytes) (@g_rBytes.eq_def))))

set_option maxRecDepth 20000 in
theorem rasked_vc (name : List Int) (l : List SV) (x : OpD) (h n : Nat) (hqa : allB (qsN name)) (hql : (qsN name).length ≤ 1000000) (hh : h < W) (hn : n < W) (w : World) (hO : OpR (H0 w) l x) (hS : OpS 10000 x) :
  Calls Tryd.prog 73 (cvs [.str (qsN name), .agg l, .word h, .word n]).toArray w (fun en w' => ∃ u, en = .returned u ∧ ∃ v' m', u = cv v' ∧ MemOk w [] m' w' ∧ ∃ k s, v' = .own k s (askB name x h n).length ∧ bget m' k = .own s (askB name x h n).length 5 1 (.ints .u8 (askB name x h n))) := by
 have hOx : ∀ m, allOld w ∈ m → OpR (HM m) l x := fun m hin => hO.mono (H0.hm hin)
 have hop := opOf_eq hO
 have hB := hO.okB
 have f3 := hO.all
 have f2 := hO.one
 have e96 : (96 : Int).toNat = 96 := rfl
 have hsl := selB_len2 (qsN name)
 have b1 : ∀ a, (bytI a 32).take 32 = bytI a 32 := fun a => List.take_of_length_le (by rw [bytI_len]; exact Nat.le_refl _)
 have hbl : ∀ a, (bytI a 32).length = 32 := fun a => bytI_len a 32
 have hae := ask_eq name x h n
 refine Vc.calls T0_ok Tryd.func73 rfl rfl (args := [.str (qsN name), .agg l, .word h, .word n]) (k := 25) rfl (old_start w) ?_; change Vc _ _ (c8 (.str (qsN name)) (.agg l) (.word h) (.word n) .undef .undef .undef .undef (c8 .undef .undef .undef .undef .undef .undef .undef .undef (c8 .undef .undef .undef .undef .undef .undef .undef .undef ([.undef, .undef, .undef, .undef, .undef])))) _ _
 ((repeat (first | (with_reducible refine Vc.seq fun N hN => ?_) | (with_reducible intro _) | ((with_reducible refine And.intro ?_ ?_); exact sX11) | ((first | ((with_reducible refine Vc.hold ?_); first | refine Vc.regiont T0_ok GP8_ok ?_)); (try simp only [v8Y, Nat.beq, Nat.ble, seval, tabs, GP8_set, e96, b1, f3, f2, hop, List.drop_zero])) | ((with_reducible refine hN _ _ ?_); clear hN N))))
 rename_i a hQ
 obtain ⟨⟨g, rs⟩, hh9⟩ := a
 have hQ : PsL (Hl hh9) (some ⟨g, 0, none⟩) 9 9 rs (pkP x) := hQ
 have hl : lOf rs = pkP x := lOf_eq hQ.rows
 have hE : ∀ m, Blk.heap hh9 ∈ m → ∃ l, PsR (HM m) rs l ∧ l.length = 9 ∧ True ∧ True ∧ psz l ≤ 100000 ∧ LiesH (HM m) (some ⟨g, 0, none⟩) (cc (.rows 6 rs)) := fun m hin => by
  have h1 := PsL.mono hQ (Hl.hm hin fun _ h => h)
  exact ⟨_, h1.rows, h1.len, trivial, trivial, by have := pk_sz hB hS; omega, h1.lies⟩
 simp only
 have hpl := pk_len hB hS
 have t3 : (abEnc (pkP x)).take (abEnc (pkP x)).length = abEnc (pkP x) := List.take_length
 have hal := ask_len (name := name) (h := h) (n := n) hB hS
 have haL : (selB (qsN name) ++ (bytI 96 32 ++ (bytI h 32 ++ bytI n 32)) ++ abEnc (pkP x)) = askB name x h n := by rw [← hae]; simp only [List.append_assoc]
 (simp only [v8Y, Nat.beq, Nat.ble, seval, tabs, GP8_set, g_rEnc.eq_def, hl, t3, haL, List.drop_zero]; (try simp (disch := omega) only [v8W]); (repeat (first | with_reducible intro _ | ((with_reducible refine And.intro ?_ ?_); exact sX11))); (first | (refine hN _ _ ?_; clear hN N; (try simp (disch := omega) only [v8W])) | skip))
 have hln : (askB name x h n).length = 100 + (abEnc (pkP x)).length := by
  rw [← hae]; simp only [List.length_append, hsl, hbl]
 ((repeat (first | ((first | ((with_reducible refine Vc.fin ?_); dsimp only [thenK, blockK, retK, resS, resOne, resAll])); (try simp only [v8Y, Nat.beq, Nat.ble, seval, tabs, GP8_set, haL])))); (try ((with_reducible refine Fin.of ?_); (try with_reducible exact True.intro))))
 exact ⟨by simp, 4, _, by rw [hln], by rw [hln, ← hae]; rfl⟩
def uq (s : List Int) : List Int := s.take (s.length - 83)
theorem uq_qs (name : List Int) : uq (qsN name) = name := by
 unfold uq; rw [qsN_len]; unfold qsN; rw [List.append_assoc, List.append_assoc]
 exact List.take_left' (by omega)
noncomputable def g_rasked (args : List SV) (m : List Blk) : CR :=
 match args with
 | [.str nm, .agg l, .word h, .word n] => .own ((∃ x, OpR (HM m) l x ∧ OpS 10000 x) ∧ nm = qsN (uq nm) ∧ allB nm ∧ nm.length ≤ 1000000 ∧ h < W ∧ n < W) 5 1 (askB (uq nm) (opOf l) h n).length (.ints .u8 (askB (uq nm) (opOf l) h n)) (fun v => v)
 | _ => .none
theorem g_rasked_ok (w0 : World) (B : List Nat) (args : List SV) (m : List Blk) : CROk Tryd.prog w0 B 73 args m (g_rasked args m) := by
 unfold g_rasked
 split
 ·rename_i nm l h n
  intro ⟨⟨x, hO, hS⟩, k1, k2, k3, k4, k5⟩ w hm
  rw [opOf_eq hO]
  have e : cvs [.str nm, .agg l, .word h, .word n] = cvs [.str (qsN (uq nm)), .agg l, .word h, .word n] := by rw [← k1]
  rw [e]
  exact own_new Tryd.func73 rfl rfl hm (rasked_vc _ l x h n (by rw [← k1]; exact k2) (by rw [← k1]; exact k3) k4 k5 w (hO.mono fun b o h => hm.hm h) hS)
 ·exact trivial
noncomputable def GP9 : Ctr := fun f args m => match f with
 | 73 => g_rasked args m
 | _ => .none
theorem GP9_ok : GOk Tryd.prog GP9 := by
 intro w0 B f args m; unfold GP9; split
 ·exact g_rasked_ok _ _ _ _
 ·exact trivial
theorem GP9_rasked : GP9 73 = g_rasked := by funext args m; rfl
def GP9_set := And.intro (@GP9_rasked) (@g_rasked.eq_def)

set_option maxRecDepth 20000 in
theorem rvalid_vc (l : List SV) (x : OpD) (h n : Nat) (hh : h < W) (hn : n < W) (w : World) (hO : OpR (H0 w) l x) (hS : OpS 10000 x) :
  Calls Tryd.prog 31 (cvs [.agg l, .word h, .word n]).toArray w (fun en w' => ∃ u, en = .returned u ∧ ∃ v' m', u = cv v' ∧ MemOk w [] m' w' ∧ ∃ k s, v' = .own k s (askB vNm x h n).length ∧ bget m' k = .own s (askB vNm x h n).length 5 1 (.ints .u8 (askB vNm x h n))) := by
 have hOx : ∀ m, allOld w ∈ m → OpR (HM m) l x := fun m hin => hO.mono (H0.hm hin)
 have hop := opOf_eq hO
 have f3 := hO.all
 have hnm : strI ⟨(([118, 97, 108, 105, 100, 97, 116, 101, 85, 115, 101, 114, 79, 112, 40, 40, 97, 100, 100, 114, 101, 115, 115, 44, 117, 105, 110, 116, 50, 53, 54, 44, 98, 121, 116, 101, 115, 44, 98, 121, 116, 101, 115, 44, 98, 121, 116, 101] : List UInt8).append [115, 51, 50, 44, 117, 105, 110, 116, 50, 53, 54, 44, 98, 121, 116, 101, 115, 51, 50, 44, 98, 121, 116, 101, 115, 44, 98, 121, 116, 101, 115, 41, 44, 98, 121, 116, 101, 115, 51, 50, 44, 117, 105, 110, 116, 50, 53, 54, 41]).toArray⟩ = qsN vNm := by decide +kernel
 have hu := uq_qs vNm
 have hqa : allB (qsN vNm) := qsN_all (allB_dec (by decide +kernel))
 have hql : (qsN vNm).length ≤ 1000000 := by rw [qsN_len]; decide +kernel
 refine Vc.calls T0_ok Tryd.func31 rfl rfl (args := [.agg l, .word h, .word n]) (k := 8) rfl (old_start w) ?_; change Vc _ _ (c8 (.agg l) (.word h) (.word n) .undef .undef .undef .undef .undef ([.undef, .undef, .undef])) _ _
 ((repeat (first | (with_reducible refine Vc.seq fun N hN => ?_) | (with_reducible intro _) | ((with_reducible refine And.intro ?_ ?_); exact sX11) | ((first | ((with_reducible refine Vc.fin ?_); dsimp only [thenK, blockK, retK, resS, resOne, resAll]) | ((with_reducible refine Vc.hold ?_); first | refine Vc.regiont T0_ok GP9_ok ?_)); (try simp only [v8Y, Nat.beq, Nat.ble, seval, tabs, GP9_set, hnm, hu, f3, hop])) | ((with_reducible refine hN _ _ ?_); clear hN N))); (try ((with_reducible refine Fin.of ?_); (try with_reducible exact True.intro))))
 rename_i v
 exact ⟨by simp, 4, v, rfl, rfl⟩
noncomputable def g_rvalid (args : List SV) (m : List Blk) : CR :=
 match args with
 | [.agg l, .word h, .word n] => .own ((∃ x, OpR (HM m) l x ∧ OpS 10000 x) ∧ h < W ∧ n < W) 5 1 (askB vNm (opOf l) h n).length (.ints .u8 (askB vNm (opOf l) h n)) (fun v => v)
 | _ => .none
theorem g_rvalid_ok (w0 : World) (B : List Nat) (args : List SV) (m : List Blk) : CROk Tryd.prog w0 B 31 args m (g_rvalid args m) := by
 unfold g_rvalid
 split
 ·intro ⟨⟨x, hO, hS⟩, k3, k4⟩ w hm
  rw [opOf_eq hO]
  exact own_new Tryd.func31 rfl rfl hm (rvalid_vc _ x _ _ k3 k4 w (hO.mono fun b o h => hm.hm h) hS)
 ·exact trivial
set_option maxRecDepth 20000 in
theorem rspons_vc (l : List SV) (x : OpD) (h n : Nat) (hh : h < W) (hn : n < W) (w : World) (hO : OpR (H0 w) l x) (hS : OpS 10000 x) :
  Calls Tryd.prog 33 (cvs [.agg l, .word h, .word n]).toArray w (fun en w' => ∃ u, en = .returned u ∧ ∃ v' m', u = cv v' ∧ MemOk w [] m' w' ∧ ∃ k s, v' = .own k s (askB sNm x h n).length ∧ bget m' k = .own s (askB sNm x h n).length 5 1 (.ints .u8 (askB sNm x h n))) := by
 have hOx : ∀ m, allOld w ∈ m → OpR (HM m) l x := fun m hin => hO.mono (H0.hm hin)
 have hop := opOf_eq hO
 have f3 := hO.all
 have hnm : strI ⟨(([118, 97, 108, 105, 100, 97, 116, 101, 80, 97, 121, 109, 97, 115, 116, 101, 114, 85, 115, 101, 114, 79, 112, 40, 40, 97, 100, 100, 114, 101, 115, 115, 44, 117, 105, 110, 116, 50, 53, 54, 44, 98, 121, 116, 101, 115, 44, 98, 121, 116, 101, 115, 44] : List UInt8).append [98, 121, 116, 101, 115, 51, 50, 44, 117, 105, 110, 116, 50, 53, 54, 44, 98, 121, 116, 101, 115, 51, 50, 44, 98, 121, 116, 101, 115, 44, 98, 121, 116, 101, 115, 41, 44, 98, 121, 116, 101, 115, 51, 50, 44, 117, 105, 110, 116, 50, 53, 54, 41]).toArray⟩ = qsN sNm := by decide +kernel
 have hu := uq_qs sNm
 have hqa : allB (qsN sNm) := qsN_all (allB_dec (by decide +kernel))
 have hql : (qsN sNm).length ≤ 1000000 := by rw [qsN_len]; decide +kernel
 refine Vc.calls T0_ok Tryd.func33 rfl rfl (args := [.agg l, .word h, .word n]) (k := 8) rfl (old_start w) ?_; change Vc _ _ (c8 (.agg l) (.word h) (.word n) .undef .undef .undef .undef .undef ([.undef, .undef, .undef])) _ _
 ((repeat (first | (with_reducible refine Vc.seq fun N hN => ?_) | (with_reducible intro _) | ((with_reducible refine And.intro ?_ ?_); exact sX11) | ((first | ((with_reducible refine Vc.fin ?_); dsimp only [thenK, blockK, retK, resS, resOne, resAll]) | ((with_reducible refine Vc.hold ?_); first | refine Vc.regiont T0_ok GP9_ok ?_)); (try simp only [v8Y, Nat.beq, Nat.ble, seval, tabs, GP9_set, hnm, hu, f3, hop])) | ((with_reducible refine hN _ _ ?_); clear hN N))); (try ((with_reducible refine Fin.of ?_); (try with_reducible exact True.intro))))
 rename_i v
 exact ⟨by simp, 4, v, rfl, rfl⟩
noncomputable def g_rspons (args : List SV) (m : List Blk) : CR :=
 match args with
 | [.agg l, .word h, .word n] => .own ((∃ x, OpR (HM m) l x ∧ OpS 10000 x) ∧ h < W ∧ n < W) 5 1 (askB sNm (opOf l) h n).length (.ints .u8 (askB sNm (opOf l) h n)) (fun v => v)
 | _ => .none
theorem g_rspons_ok (w0 : World) (B : List Nat) (args : List SV) (m : List Blk) : CROk Tryd.prog w0 B 33 args m (g_rspons args m) := by
 unfold g_rspons
 split
 ·intro ⟨⟨x, hO, hS⟩, k3, k4⟩ w hm
  rw [opOf_eq hO]
  exact own_new Tryd.func33 rfl rfl hm (rspons_vc _ x _ _ k3 k4 w (hO.mono fun b o h => hm.hm h) hS)
 ·exact trivial
end Go.Proofs.YthdpgfdfgidokaaDoor

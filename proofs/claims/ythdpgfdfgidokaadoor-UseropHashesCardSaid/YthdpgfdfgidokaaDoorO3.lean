/-
 The document's answers for layer 15 (package quaestorref15): what Pack hands out; Hash, walked. No condition.
-/
import Derived.Test.YthdpgfdfgidokaaDoorO2
import Derived.Test.YthdpgfdfgidokaaDoorKB
import Derived.Test.YthdpgfdfgidokaaDoorOK
set_option maxRecDepth 10000
set_option maxHeartbeats 4000000
set_option linter.defProp false
set_option linter.unusedVariables false
set_option linter.unusedSimpArgs false
namespace Go.Proofs.YthdpgfdfgidokaaDoor
open Go.RowKit
def g_qSum (args : List SV) (m : List Blk) : CR :=
 match args with
 | [x] => match srcC x m with
  | some (q, k, .ints .u8 xs) => .pure (q ∧ k ≤ 1000000 ∧ allB xs) (.word (kSum xs))
  | _ => .none
 | _ => .none
theorem g_qSum_ok (w0 : World) (B : List Nat) (args : List SV) (m : List Blk) : CROk Tryd.prog w0 B 69 args m (g_qSum args m) := by
 unfold g_qSum
 split
 ·rename_i x
  split
  ·rename_i q k xs hs
   intro ⟨hq, hk, hx⟩ w hm
   obtain ⟨l1, a, cp, e1, b1, m1, d1⟩ := src_ro hs hq hm
   have hl : xs.length = k := by simpa [cc, conEs] using l1
   have e : cvs [x] = cvs [.sl 0 a 0 0 1 k cp] := by simp only [cvs]; rw [e1]; rfl
   rw [e, ← qSum_eq]
   exact calls_pure Tryd.func69 rfl rfl (qsum_vc xs a k cp hl b1 hk hx d1 w m1)
  ·exact trivial
 ·exact trivial
noncomputable def GKJ : Ctr := fun f args m => match f with
 | 81 => g_rBytes args m
 | 69 => g_qSum args m
 | _ => .none
theorem GKJ_ok : GOk Tryd.prog GKJ := by
 intro w0 B f args m; unfold GKJ; split
 ·exact g_rBytes_ok _ _ _ _
 ·exact g_qSum_ok _ _ _ _
 ·exact trivial
theorem GKJ_rBytes : GKJ 81 = g_rBytes := by funext args m; rfl
theorem GKJ_qSum : GKJ 69 = g_qSum := by funext args m; rfl
def GKJ_set := And.intro (And.intro (@GKJ_rBytes) (@g_rBytes.eq_def)) (And.intro (@GKJ_qSum) (@g_qSum.eq_def))

theorem qjoin_vc (l : List Nat) (a : Option Addr) (n cp : Nat) (hl : l.length = n) (hc : n ≤ cp) (hb : n ≤ 1000) (ha : adr a n cp) (w : World) (hm : MemOk w [] [.ro a (.words l)] w) :
  Calls Tryd.prog 70 (cvs [.sl 0 a 0 0 4 n cp]).toArray w (fun en w' => ∃ u, en = .returned u ∧ ∃ v m', u = cv v ∧ MemOk w [] m' w' ∧ v = .word (kSum (wB l n))) := by
 have hbl : ∀ z, (bytI z 32).length = 32 := fun z => bytI_len z 32
 refine Vc.calls T0_ok Tryd.func70 rfl rfl (args := [.sl 0 a 0 0 4 n cp]) (k := 19) rfl hm ?_; change Vc _ _ (c8 (.sl 0 a 0 0 4 n cp) .undef .undef .undef .undef .undef .undef .undef (c8 .undef .undef .undef .undef .undef .undef .undef .undef ([.undef, .undef, .undef, .undef]))) _ _
 ((repeat (first | (with_reducible first | refine Vc.seq fun N hN => ?_ | refine Vc.block ?_) | (with_reducible intro _) | ((with_reducible refine And.intro ?_ ?_); exact sdB) | ((first | ((with_reducible refine Vc.hold ?_); first | refine Vc.regiont T0_ok GKJ_ok ?_)); (try simp only [v8Y, Nat.beq, Nat.ble, seval, -List.reduceReplicate, tabs, GKJ_set])) | ((with_reducible refine hN _ _ ?_); clear hN N))))
 (revert N; intro N1 hN1)
 rename_i b0
 refine Vc.nilown 3 5 1 .u8 rfl ?_
 (simp only [v8Y, Nat.beq, Nat.ble, seval, -List.reduceReplicate, tabs])
 refine Vc.loop 5 20 (fun (x : Nat × Value) => [(3, .own 2 x.2 (32 * x.1)), (4, .int .i64 (x.1 : Nat))]) (fun x => [.ro a (.words l), .blk b0 26 (.words [0]), .own x.2 (32 * x.1) 5 1 (.ints .u8 (wB l x.1))]) (fun x => x.1 ≤ n) (fun x => n - x.1) (0, .slice none 0 0) ⟨Nat.zero_le _, ?_, ?_⟩ (fun x junk hx => ?_)
 ·((try simp only [v8Y, Nat.beq, Nat.ble, seval, -List.reduceReplicate, tabs]); (repeat' with_reducible apply And.intro) <;> first | with_reducible exact True.intro | rfl | with_reducible rfl | (congr 1 <;> omega) | trivial)
 ·((try simp only [v8Y, Nat.beq, Nat.ble, seval, -List.reduceReplicate, tabs]); (repeat' with_reducible apply And.intro) <;> first | with_reducible exact True.intro | rw [wB_0]; rfl | with_reducible rfl | (congr 1 <;> omega) | trivial)
 ·obtain ⟨k, v⟩ := x
  simp only at hx ⊢
  have h0 := wB_len l k (by omega)
  have ha0 := wB_all l k
  have hs : k < n → wB l (k + 1) = wB l k ++ bytI (l.getD k 0) 32 := fun h => wB_s l k (by omega)
  generalize hw : wB l k = o at *
  (simp only [v8Y, Nat.beq, Nat.ble, seval, -List.reduceReplicate, tabs])
  by_cases hlt : k < n
  ·have d1 : decide ((k : Int) < (n : Int)) = true := decide_eq_true (by omega)
   have hs' := hs hlt
   have e1 : 32 * (k + 1) = 32 * k + 32 := by omega
   have u1 : ∀ z, (bytI z 32).take 32 = bytI z 32 := fun z => List.take_of_length_le (by rw [bytI_len]; exact Nat.le_refl _)
   have hz := hbl (l.getD k 0)
   ((repeat (first | (with_reducible refine Vc.seq fun N hN => ?_) | ((with_reducible refine And.intro ?_ ?_); exact sdB) | ((first | ((with_reducible refine Vc.hold ?_); first | refine Vc.regiont T0_ok GKJ_ok ?_)); (try simp only [v8Y, Nat.beq, Nat.ble, seval, -List.reduceReplicate, tabs, GKJ_set, d1])) | ((with_reducible refine hN _ _ ?_); clear hN N))))
   (refine Vc.cond T0_ok (t := true) (by rfl) (fun _ => ?_) (fun h => Bool.noConfusion h))
   ((repeat (first | (with_reducible first | refine Vc.seq fun N hN => ?_ | refine Vc.block ?_) | ((first | with_reducible refine Vc.skip ?_); dsimp only [thenK, blockK, Nat.beq]; (first | (refine hN _ _ ?_; clear hN N))) | (with_reducible intro _) | ((with_reducible refine And.intro ?_ ?_); exact sX5) | ((first | ((with_reducible refine Vc.hold ?_); first | refine Vc.regiont T0_ok GKJ_ok ?_)); (try simp only [v8Y, Nat.beq, Nat.ble, seval, -List.reduceReplicate, tabs, GKJ_set, tnc, List.drop_zero, u1])) | ((with_reducible refine hN _ _ ?_); clear hN N))))
   rename_i vb vq
   refine ⟨(k + 1, vq), by simp only; omega, ?_, ?_, by simp only; omega⟩
   ·((try simp only [v8Y, Nat.beq, Nat.ble, seval, -List.reduceReplicate, tabs]); (repeat' with_reducible apply And.intro) <;> first | with_reducible exact True.intro | rw [e1] | (congr 1 <;> omega))
   ·((try simp only [v8Y, Nat.beq, Nat.ble, seval, -List.reduceReplicate, tabs]); (repeat' with_reducible apply And.intro) <;> first | with_reducible exact True.intro | rw [hs', e1] | (congr 1 <;> omega))
  ·have d1 : decide ((k : Int) < (n : Int)) = false := decide_eq_false (by omega)
   obtain rfl : k = n := by omega
   have u1 : o.take (32 * k) = o := List.take_of_length_le (by omega)
   ((repeat (first | (with_reducible refine Vc.seq fun N hN => ?_) | ((with_reducible refine And.intro ?_ ?_); exact sdB) | ((first | ((with_reducible refine Vc.hold ?_); first | refine Vc.regiont T0_ok GKJ_ok ?_)); (try simp only [v8Y, Nat.beq, Nat.ble, seval, -List.reduceReplicate, tabs, GKJ_set, d1])) | ((with_reducible refine hN _ _ ?_); clear hN N))))
   (refine Vc.cond T0_ok (t := false) (by rfl) (fun h => Bool.noConfusion h) (fun _ => ?_))
   ((repeat (first | ((first | with_reducible refine Vc.exit ?_); dsimp only [thenK, blockK, Nat.beq]; (first | skip)))))
   (refine hN1 _ _ ?_; (try clear hN N); clear hN1 N1)
   ((repeat (first | (with_reducible refine Vc.seq fun N hN => ?_) | ((with_reducible refine And.intro ?_ ?_); exact sdB) | ((first | ((with_reducible refine Vc.fin ?_); dsimp only [thenK, blockK, retK, resS, resOne, resAll]) | ((with_reducible refine Vc.hold ?_); first | refine Vc.regiont T0_ok GKJ_ok ?_)); (try simp only [v8Y, Nat.beq, Nat.ble, seval, -List.reduceReplicate, tabs, GKJ_set, List.drop_zero, u1])) | ((with_reducible refine hN _ _ ?_); clear hN N))); (try ((with_reducible refine Fin.of ?_); (try with_reducible exact True.intro))))
   exact ⟨⟨⟨trivial, trivial⟩, trivial, trivial⟩, by rw [hw]⟩
def g_qJoin (args : List SV) (m : List Blk) : CR :=
 match args with
 | [x] => match srcC x m with
  | some (q, k, .words l) => .pure (q ∧ k ≤ 1000) (.word (kSum (wB l k)))
  | _ => .none
 | _ => .none
theorem g_qJoin_ok (w0 : World) (B : List Nat) (args : List SV) (m : List Blk) : CROk Tryd.prog w0 B 70 args m (g_qJoin args m) := by
 unfold g_qJoin
 split
 ·rename_i x
  split
  ·rename_i q k l hs
   intro ⟨hq, hk⟩ w hm
   obtain ⟨l1, a, cp, e1, b1, m1, d1⟩ := src_ro hs hq hm
   have hl : l.length = k := by rw [words_cells_len] at l1; simp only [conEs] at l1; omega
   have e : cvs [x] = cvs [.sl 0 a 0 0 4 k cp] := by simp only [cvs]; rw [e1]; rfl
   rw [e]
   exact calls_pure Tryd.func70 rfl rfl (qjoin_vc l a k cp hl b1 hk d1 w m1)
  ·exact trivial
 ·exact trivial
def RpF (x : Nat × List (List SV)) : SV := .gh (some ⟨x.1, 0, none⟩) 9 9 (.rows 6 x.2)
def RpQ (x : OpD) (y : Nat × List (List SV)) (h : List (Nat × Obj)) : Prop := PsL (Hl h) (some ⟨y.1, 0, none⟩) 9 9 y.2 (pkP x)
noncomputable def g_rpack (args : List SV) (m : List Blk) : CR :=
 match args with
 | [.agg l] => .grw (∃ x, OpR (HM m) l x ∧ OpS 10000 x) ((Nat × List (List SV)) × List (Nat × Obj)) (fun a => RpQ (opOf l) a.1 a.2) (fun a => .gh (some ⟨a.1.1, 0, none⟩) 9 9 (.rows 6 a.1.2)) (fun a => .heap a.2)
 | _ => .none
theorem g_rpack_ok (w0 : World) (B : List Nat) (args : List SV) (m : List Blk) : CROk Tryd.prog w0 B 25 args m (g_rpack args m) := by
 unfold g_rpack
 split
 ·rename_i l
  intro ⟨x, hO, hS⟩ w hm
  rw [opOf_eq hO]
  refine calls_new (F := RpF) (Q := RpQ x) Tryd.func25 rfl rfl hm ((rpack_vc l x w (hO.mono fun b o h => hm.hm h) hS).mono fun e w' ⟨u, he, v', m', hu, hm', hp⟩ => ⟨u, he, v', m', hu, hm', fun w2 hm2 => ?_⟩)
  obtain ⟨k, b, rs, q, hv, hb, hk, hq⟩ := hp
  obtain ⟨rs', h1, h2⟩ := prts_new hb hk hq hm2
  exact ⟨(b, rs'), by rw [hv]; simp [RpF, cv, addr_add], h2⟩
 ·exact trivial
theorem rself_vc (w : World) : Calls Tryd.prog 71 (cvs []).toArray w (fun en w' => ∃ u, en = .returned u ∧ ∃ v' m', u = cv v' ∧ MemOk w [] m' w' ∧ v' = .ints .u8 selfB) := by
 refine Vc.calls T0_ok Tryd.func71 rfl rfl (args := []) (k := 2) rfl (MemOk.start _) ?_; change Vc _ _ ([.undef, .undef]) _ _
 ((repeat (first | (with_reducible refine Vc.seq fun N hN => ?_) | (with_reducible intro _) | ((with_reducible refine And.intro ?_ ?_); exact sdB) | ((first | ((with_reducible refine Vc.fin ?_); dsimp only [thenK, blockK, retK, resS, resOne, resAll]) | ((with_reducible refine Vc.hold ?_); first | refine Vc.regiont T0_ok GHA_ok ?_)); (try simp only [v8Y, Nat.beq, Nat.ble, seval, -List.reduceReplicate, tabs])) | ((with_reducible refine hN _ _ ?_); clear hN N))); (try ((with_reducible refine Fin.of ?_); (try with_reducible exact True.intro))))
 exact ⟨by simp, rfl⟩
def g_rself (args : List SV) (_m : List Blk) : CR :=
 match args with
 | [] => .pure True (.ints .u8 selfB)
 | _ => .none
theorem g_rself_ok (w0 : World) (B : List Nat) (args : List SV) (m : List Blk) : CROk Tryd.prog w0 B 71 args m (g_rself args m) := by
 unfold g_rself
 split
 ·intro _ w hm
  exact calls_pure Tryd.func71 rfl rfl (rself_vc w)
 ·exact trivial
theorem pk_sg {x : OpD} {k : Nat} (h : k < 8) : (pkP x)[k]? = (sgP x)[k]? := List.getElem?_append_left (by simp [sgP]; omega)
noncomputable def GP5 : Ctr := fun f args m => match f with
 | 25 => g_rpack args m
 | 69 => g_qSum args m
 | 70 => g_qJoin args m
 | 71 => g_rself args m
 | 62 => g_rWide args m
 | _ => .none
theorem GP5_ok : GOk Tryd.prog GP5 := by
 intro w0 B f args m; unfold GP5; split
 ·exact g_rpack_ok _ _ _ _
 ·exact g_qSum_ok _ _ _ _
 ·exact g_qJoin_ok _ _ _ _
 ·exact g_rself_ok _ _ _ _
 ·exact g_rWide_ok _ _ _ _
 ·exact trivial
theorem GP5_rpack : GP5 25 = g_rpack := by funext args m; rfl
theorem GP5_qSum : GP5 69 = g_qSum := by funext args m; rfl
theorem GP5_qJoin : GP5 70 = g_qJoin := by funext args m; rfl
theorem GP5_rself : GP5 71 = g_rself := by funext args m; rfl
theorem GP5_rWide : GP5 62 = g_rWide := by funext args m; rfl
def GP5_set := And.intro (And.intro (And.intro (@GP5_rpack) (@g_rpack.eq_def)) (And.intro (@GP5_qSum) (And.intro (@g_qSum.eq_def) (@GP5_qJoin)))) (And.intro (And.intro (@g_qJoin.eq_def) (@GP5_rself)) (And.intro (@g_rself.eq_def) (And.intro (@GP5_rWide) (@g_rWide.eq_def))))

set_option maxRecDepth 20000 in
theorem rhash_vc (l : List SV) (x : OpD) (c : Nat) (hc : c < W) (w : World) (hO : OpR (H0 w) l x) (hS : OpS 10000 x) : Calls Tryd.prog 27 (cvs [.agg l, .word c]).toArray w (fun en w' => ∃ u, en = .returned u ∧ ∃ v' m', u = cv v' ∧ MemOk w [] m' w' ∧ v' = .word (hsN x c)) := by
 have hOx : ∀ m, allOld w ∈ m → OpR (HM m) l x := fun m hin => hO.mono (H0.hm hin)
 have hop := opOf_eq hO
 have f3 := hO.all
 have f2 := hO.one
 have hsl := self_len
 have hsa := self_all
 refine Vc.calls T0_ok Tryd.func27 rfl rfl (args := [.agg l, .word c]) (k := 41) rfl (old_start w) ?_; change Vc _ _ (c8 (.agg l) (.word c) .undef .undef .undef .undef .undef .undef (c8 .undef .undef .undef .undef .undef .undef .undef .undef (c8 .undef .undef .undef .undef .undef .undef .undef .undef (c8 .undef .undef .undef .undef .undef .undef .undef .undef (c8 .undef .undef .undef .undef .undef .undef .undef .undef ([.undef, .undef, .undef])))))) _ _
 ((repeat (first | (with_reducible first | refine Vc.seq fun N hN => ?_ | refine Vc.block ?_) | (with_reducible intro _) | ((with_reducible refine And.intro ?_ ?_); exact sX7) | ((first | ((with_reducible refine Vc.hold ?_); first | refine Vc.regiont T0_ok GP5_ok ?_)); (try simp only [v8Y, Nat.beq, Nat.ble, seval, -List.reduceReplicate, tabs, GP5_set, hop, f2, f3])) | ((with_reducible refine hN _ _ ?_); clear hN N))))
 rename_i b1 b2 b3 y hQ
 obtain ⟨⟨g, rs⟩, h⟩ := y
 obtain ⟨q1, q2, q3, q4, r1, r2, r3⟩ := hQ
 simp only at q1 q2 q3 q4 r1 r2 r3 ⊢
 have hLx : ∀ m, Blk.heap h ∈ m → LiesH (HM m) (some ⟨g, 0, none⟩) (cc (.rows 6 rs)) := fun m hin => q4.mono (Hl.hm hin fun _ h => h)
 have hle := sg_le hS hO.lf hO.lp
 have hlen : (sgP x).length = 8 := rfl
 have hrl : rs.length = 9 := r1
 (revert N; intro N1 hN1)
 refine Vc.nilownW 6 26 rfl ?_
 (simp only [v8Y, Nat.beq, Nat.ble, seval, -List.reduceReplicate, tabs])
 refine Vc.loop 10 43 (fun (z : Nat × Value) => [(5, .gh (some ⟨g, 0, none⟩) 9 9 (.rows 6 rs)), (6, .own 5 z.2 z.1), (7, .int .i64 (z.1 : Nat))]) (fun z => [allOld w, .blk b1 29 (.cells l), .blk b2 26 (.words [c]), .blk b3 26 (.words [0]), .heap h, .own z.2 z.1 26 4 (.words ((dgL x).take z.1))]) (fun z => z.1 ≤ 8) (fun z => 8 - z.1) (0, .slice none 0 0) ⟨Nat.zero_le _, ?_, ?_⟩ (fun z junk hz => ?_)
 ·((try simp only [v8Y, Nat.beq, Nat.ble, seval, -List.reduceReplicate, tabs]); (repeat' with_reducible apply And.intro) <;> first | with_reducible exact True.intro | rfl | with_reducible rfl | (congr 1 <;> omega) | trivial)
 ·((try simp only [v8Y, Nat.beq, Nat.ble, seval, -List.reduceReplicate, tabs]); (repeat' with_reducible apply And.intro) <;> first | with_reducible exact True.intro | rfl | with_reducible rfl | (congr 1 <;> omega) | trivial)
 ·obtain ⟨k, v⟩ := z
  simp only at hz ⊢
  (simp only [v8Y, Nat.beq, Nat.ble, seval, -List.reduceReplicate, tabs])
  by_cases hlt : k < 8
  ·have d1 : decide ((k : Int) < 8) = true := decide_eq_true (by omega)
   have e1 := List.getElem?_eq_getElem (show k < rs.length by omega)
   have e2 := List.getElem?_eq_getElem (show k < (sgP x).length by omega)
   have hp := r3 k _ _ e1 ((pk_sg hlt).trans e2)
   have hpl := hle _ (List.getElem_mem (show k < (sgP x).length by omega))
   have hgd := getD_of e1
   have hds := dgL_s e2
   have tk : ((k : Nat) : Int).toNat = k := by omega
   generalize hd : (dgL x).take k = D at *
   have hDl : D.length = k := by rw [← hd, List.length_take, dgL_len]; omega
   generalize rs[k] = r at *
   generalize (sgP x)[k] = p at *
   obtain ⟨x0, x1, x2, x3, pa, pn, pc, rfl, g1, g2, g3, g4, g5, g6, g7, g8⟩ := hp
   obtain ⟨pd, pw, ps⟩ := p
   simp only at g2 g3 g6 g7 hgd hds hpl
   have hLp : ∀ m, Blk.heap h ∈ m → LiesH (HM m) pa (cc (.ints .u8 ps)) := fun m hin => g6.mono (Hl.hm hin fun _ h => h)
   have tps : ps.take pn = ps := List.take_of_length_le (by omega)
   cases pd with
   | true =>
    rw [digN_t] at hds
    ((repeat (first | (with_reducible refine Vc.seq fun N hN => ?_) | ((with_reducible refine And.intro ?_ ?_); exact sdB) | ((first | ((with_reducible refine Vc.hold ?_); first | refine Vc.regiont T0_ok GP5_ok ?_)); (try simp only [v8Y, Nat.beq, Nat.ble, seval, -List.reduceReplicate, tabs, GP5_set, d1])) | ((with_reducible refine hN _ _ ?_); clear hN N))))
    (refine Vc.cond T0_ok (t := true) (by rfl) (fun _ => ?_) (fun h => Bool.noConfusion h))
    ((repeat (first | (with_reducible first | refine Vc.seq fun N hN => ?_ | refine Vc.block ?_) | ((first | with_reducible refine Vc.skip ?_); dsimp only [thenK, blockK, Nat.beq]; (first | (refine hN _ _ ?_; clear hN N))) | ((with_reducible refine And.intro ?_ ?_); exact sX7) | ((first | ((with_reducible refine Vc.hold ?_); first | refine Vc.regiont T0_ok GP5_ok ?_)); (try simp only [v8Y, Nat.beq, Nat.ble, seval, -List.reduceReplicate, tabs, GP5_set, hgd, tk, tnc, conEs.eq_def, conN.eq_def])) | ((with_reducible refine hN _ _ ?_); clear hN N))))
    (refine Vc.cond T0_ok (t := true) (by rfl) (fun _ => ?_) (fun h => Bool.noConfusion h))
    ((repeat (first | (with_reducible intro _) | ((with_reducible refine And.intro ?_ ?_); exact sX7) | ((first | ((with_reducible refine Vc.hold ?_); first | refine Vc.regiont T0_ok GP5_ok ?_)); (try simp only [v8Y, Nat.beq, Nat.ble, seval, -List.reduceReplicate, tabs, GP5_set, hgd, g2, tps, tk, tnc, conEs.eq_def, conN.eq_def, List.drop_zero, List.take_succ_cons, List.take_zero])) | ((with_reducible refine hN _ _ ?_); clear hN N))))
    rename_i v9
    refine ⟨(k + 1, v9), by simp only; omega, ?_, ?_, by simp only; omega⟩
    ·((try simp only [v8Y, Nat.beq, Nat.ble, seval, -List.reduceReplicate, tabs]); (repeat' with_reducible apply And.intro) <;> first | with_reducible exact True.intro | rfl | (congr 1 <;> omega))
    ·((try simp only [v8Y, Nat.beq, Nat.ble, seval, -List.reduceReplicate, tabs]); (repeat' with_reducible apply And.intro) <;> first | with_reducible exact True.intro | rw [hds] | (congr 1 <;> omega))
   | false =>
    rw [digN_f] at hds
    ((repeat (first | (with_reducible refine Vc.seq fun N hN => ?_) | ((with_reducible refine And.intro ?_ ?_); exact sdB) | ((first | ((with_reducible refine Vc.hold ?_); first | refine Vc.regiont T0_ok GP5_ok ?_)); (try simp only [v8Y, Nat.beq, Nat.ble, seval, -List.reduceReplicate, tabs, GP5_set, d1])) | ((with_reducible refine hN _ _ ?_); clear hN N))))
    (refine Vc.cond T0_ok (t := true) (by rfl) (fun _ => ?_) (fun h => Bool.noConfusion h))
    ((repeat (first | (with_reducible first | refine Vc.seq fun N hN => ?_ | refine Vc.block ?_) | ((first | with_reducible refine Vc.skip ?_); dsimp only [thenK, blockK, Nat.beq]; (first | (refine hN _ _ ?_; clear hN N))) | ((with_reducible refine And.intro ?_ ?_); exact sX7) | ((first | ((with_reducible refine Vc.hold ?_); first | refine Vc.regiont T0_ok GP5_ok ?_)); (try simp only [v8Y, Nat.beq, Nat.ble, seval, -List.reduceReplicate, tabs, GP5_set, hgd, tk, tnc, conEs.eq_def, conN.eq_def])) | ((with_reducible refine hN _ _ ?_); clear hN N))))
    (refine Vc.cond T0_ok (t := false) (by rfl) (fun h => Bool.noConfusion h) (fun _ => ?_))
    ((repeat (first | (with_reducible intro _) | ((with_reducible refine And.intro ?_ ?_); exact sX7) | ((first | ((with_reducible refine Vc.hold ?_); first | refine Vc.regiont T0_ok GP5_ok ?_)); (try simp only [v8Y, Nat.beq, Nat.ble, seval, -List.reduceReplicate, tabs, GP5_set, hgd, g2, tk, tnc, conEs.eq_def, conN.eq_def, List.drop_zero, List.take_succ_cons, List.take_zero])) | ((with_reducible refine hN _ _ ?_); clear hN N))))
    rename_i v9
    refine ⟨(k + 1, v9), by simp only; omega, ?_, ?_, by simp only; omega⟩
    ·((try simp only [v8Y, Nat.beq, Nat.ble, seval, -List.reduceReplicate, tabs]); (repeat' with_reducible apply And.intro) <;> first | with_reducible exact True.intro | rfl | (congr 1 <;> omega))
    ·((try simp only [v8Y, Nat.beq, Nat.ble, seval, -List.reduceReplicate, tabs]); (repeat' with_reducible apply And.intro) <;> first | with_reducible exact True.intro | rw [hds] | (congr 1 <;> omega))
  ·have d1 : decide ((k : Int) < 8) = false := decide_eq_false (by omega)
   obtain rfl : k = 8 := by omega
   have ht : (dgL x).take 8 = dgL x := rfl
   ((repeat (first | (with_reducible refine Vc.seq fun N hN => ?_) | ((with_reducible refine And.intro ?_ ?_); exact sdB) | ((first | ((with_reducible refine Vc.hold ?_); first | refine Vc.regiont T0_ok GP5_ok ?_)); (try simp only [v8Y, Nat.beq, Nat.ble, seval, -List.reduceReplicate, tabs, GP5_set, d1])) | ((with_reducible refine hN _ _ ?_); clear hN N))))
   (refine Vc.cond T0_ok (t := false) (by rfl) (fun h => Bool.noConfusion h) (fun _ => ?_))
   ((repeat (first | ((first | with_reducible refine Vc.exit ?_); dsimp only [thenK, blockK, Nat.beq]; (first | skip)) | ((first | ((with_reducible refine Vc.fin ?_); dsimp only [thenK, blockK, retK, resS, resOne, resAll])); (try simp only [v8Y, Nat.beq, Nat.ble, seval, -List.reduceReplicate, tabs, GP5_set])))); (try ((with_reducible refine Fin.of ?_); (try with_reducible exact True.intro))))
   (refine hN1 _ _ ?_; (try clear hN N); clear hN1 N1)
   have wS : rdI selfB < W := by decide +kernel
   have wJ : kSum (wB (dgL x) 8) < W := readN_lt (kHs_all _ _)
   have hdl := dgL_len x
   have hn : kSum (wB [kSum (wB (dgL x) 8), rdI selfB, c] 3) = hsN x c := rfl
   ((with_reducible refine Vc.seq fun N hN => ?_); (first | refine Vc.drawt (id := 9) T0_ok GP5_ok (by kernel_rfl) [0, 4, 1, 2, 3] 5 [] trivial (by kernel_rfl) ?_); simp only [v8Y, Nat.beq, Nat.ble, seval, -List.reduceReplicate, tabs, GP5_set, ht, hn, List.drop_zero, List.take_succ_cons, List.take_zero]; (try simp (disch := omega) only [v8W]))
   (repeat (first | with_reducible intro _ | ((with_reducible refine And.intro ?_ ?_); exact sX5))); (first | (refine hN _ _ ?_; clear hN N; (try simp (disch := omega) only [v8W])) | skip)
   ((repeat (first | ((first | with_reducible refine Vc.exit ?_); dsimp only [thenK, blockK, Nat.beq]; (first | skip)) | ((first | ((with_reducible refine Vc.fin ?_); dsimp only [thenK, blockK, retK, resS, resOne, resAll])); (try simp only [v8Y, Nat.beq, Nat.ble, seval, -List.reduceReplicate, tabs, GP5_set])))); (try ((with_reducible refine Fin.of ?_); (try with_reducible exact True.intro))))
   exact ⟨by simp, trivial⟩
end Go.Proofs.YthdpgfdfgidokaaDoor

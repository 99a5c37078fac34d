/-
 The law UseropHashes of package quaestorlaw15, walked. No condition.
-/
import Derived.Test.YthdpgfdfgidokaaDoorX1
import Derived.Test.YthdpgfdfgidokaaDoorOH
import Derived.Test.YthdpgfdfgidokaaDoorOO
import Derived.Test.YthdpgfdfgidokaaDoorO3
import Derived.Test.YthdpgfdfgidokaaDoorR6
set_option maxRecDepth 10000
set_option maxHeartbeats 4000000
set_option linter.defProp false
set_option linter.unusedVariables false
set_option linter.unusedSimpArgs false
namespace Go.Proofs.YthdpgfdfgidokaaDoor
open Go.RowKit
theorem may_S {x : OpD} (h : mayO x = true) : OpS 10000 x := by
 have h1 : opLe x 1000 = true := by
  simp only [mayO, Bool.and_eq_true] at h; exact h.1
 have := opLe_S (n := 1000) h1
 simp only [OpS] at this ⊢
 omega
theorem rowsOkE : ∀ {L : List (List SV)}, (∀ r ∈ L, r.length = 6 ∧ allOne r = true) → rowsOk 6 L = true
 | [], _ => rfl
 | r :: L, h => by
  have h1 := h r List.mem_cons_self
  simp only [rowsOk, h1.1, h1.2, rowsOkE fun x hx => h x (List.mem_cons_of_mem _ hx)]
theorem PsR.row {H : Nat → Obj → Prop} {rs : List (List SV)} {l : List Prt} (h : PsR H rs l) : ∀ r ∈ rs, ∃ p, PtR H r p := fun r hr => by
 obtain ⟨i, hi⟩ := List.getElem?_of_mem hr
 have h1 := (List.getElem?_eq_some_iff.1 hi).1
 exact ⟨_, h.2.2 i r _ hi (List.getElem?_eq_getElem (show i < l.length by have := h.1; omega))⟩
theorem PsR.ok {H : Nat → Obj → Prop} {rs : List (List SV)} {l : List Prt} (h : PsR H rs l) : rowsOk 6 rs = true := rowsOkE fun r hr => by
 obtain ⟨p, x0, x1, x2, x3, a, n, c, rfl, _⟩ := h.row r hr
 exact ⟨rfl, rfl⟩
theorem PsR.fixed {H : Nat → Obj → Prop} {rs : List (List SV)} {l : List Prt} (h : PsR H rs l) : rs.map fixR = rs := by
 have : ∀ r ∈ rs, fixR r = r := fun r hr => by
  obtain ⟨p, x0, x1, x2, x3, a, n, c, rfl, _⟩ := h.row r hr
  rfl
 rw [List.map_congr_left this, List.map_id']
noncomputable def g_sameop (args : List SV) (m : List Blk) : CR :=
 match args with
 | [.agg l, .agg k] => .pure ((∃ x, OpR (HM m) l x) ∧ (∃ y, OpR (HM m) k y)) (.bool (smO (opOf l) (opOf k)))
 | _ => .none
theorem g_sameop_ok (w0 : World) (B : List Nat) (args : List SV) (m : List Blk) : CROk Tryd.prog w0 B 28 args m (g_sameop args m) := by
 unfold g_sameop
 split
 ·rename_i l k
  intro ⟨⟨x, hO⟩, ⟨y, hO2⟩⟩ w hm
  rw [opOf_eq hO, opOf_eq hO2]
  exact calls_pure Tryd.func28 rfl rfl (sameop_vc l k x y w (hO.mono fun b o h => hm.hm h) (hO2.mono fun b o h => hm.hm h))
 ·exact trivial
theorem sm_self (x : OpD) : smO x x = true := by
 simp only [smO, sm1, sm2, sm3, eqW_of, decide_true, beq_self_eq_true, Bool.and_self]
noncomputable def g_rhash (args : List SV) (m : List Blk) : CR :=
 match args with
 | [.agg l, .word c] => .pure (c < W ∧ ∃ x, OpR (HM m) l x ∧ OpS 10000 x) (.word (hsN (opOf l) c))
 | _ => .none
theorem g_rhash_ok (w0 : World) (B : List Nat) (args : List SV) (m : List Blk) : CROk Tryd.prog w0 B 27 args m (g_rhash args m) := by
 unfold g_rhash
 split
 ·intro ⟨hc, x, hO, hS⟩ w hm
  rw [opOf_eq hO]
  exact calls_pure Tryd.func27 rfl rfl (rhash_vc _ x _ hc w (hO.mono fun b o h => hm.hm h) hS)
 ·exact trivial
noncomputable def GP7 : Ctr := fun f args m => match f with
 | 15 => g_may args m
 | 12 => g_ulK args m
 | 22 => g_lentop args m
 | 26 => g_hash args m
 | 24 => g_pack args m
 | 25 => g_rpack args m
 | 27 => g_rhash args m
 | 28 => g_sameop args m
 | 23 => g_SameP args m
 | _ => .none
theorem GP7_ok : GOk Tryd.prog GP7 := by
 intro w0 B f args m; unfold GP7; split
 ·exact g_may_ok _ _ _ _
 ·exact g_ulK_ok _ _ _ _
 ·exact g_lentop_ok _ _ _ _
 ·exact g_hash_ok _ _ _ _
 ·exact g_pack_ok _ _ _ _
 ·exact g_rpack_ok _ _ _ _
 ·exact g_rhash_ok _ _ _ _
 ·exact g_sameop_ok _ _ _ _
 ·exact g_SameP_ok _ _ _ _
 ·exact trivial
theorem GP7_may : GP7 15 = g_may := by funext args m; rfl
theorem GP7_ulK : GP7 12 = g_ulK := by funext args m; rfl
theorem GP7_lentop : GP7 22 = g_lentop := by funext args m; rfl
theorem GP7_hash : GP7 26 = g_hash := by funext args m; rfl
theorem GP7_pack : GP7 24 = g_pack := by funext args m; rfl
theorem GP7_rpack : GP7 25 = g_rpack := by funext args m; rfl
theorem GP7_rhash : GP7 27 = g_rhash := by funext args m; rfl
theorem GP7_sameop : GP7 28 = g_sameop := by funext args m; rfl
theorem GP7_SameP : GP7 23 = g_SameP := by funext args m; rfl
def GP7_set := And.intro (And.intro (And.intro (And.intro (@GP7_may) (@g_may.eq_def)) (And.intro (@GP7_ulK) (@g_ulK.eq_def))) (And.intro (And.intro (@GP7_lentop) (@g_lentop.eq_def)) (And.intro (@GP7_hash) (And.intro (@g_hash.eq_def) (@GP7_pack))))) (And.intro (And.intro (And.intro (@g_pack.eq_def) (@GP7_rpack)) (And.intro (@g_rpack.eq_def) (@GP7_rhash))) (And.intro (And.intro (@g_rhash.eq_def) (@GP7_sameop)) (And.intro (@g_sameop.eq_def) (And.intro (@GP7_SameP) (@g_SameP.eq_def)))))

set_option maxRecDepth 20000 in
theorem hashes_law (l : List SV) (x : OpD) (c : Nat) (hc : c < W) (w : World) (hm : MemOk w [] [.ro (some ⟨1, 0, none⟩) (.ints .u64 kKeys), .ro (some ⟨2, 0, none⟩) (.ints .u8 kPathI), allOld w] w) (hO : OpR (H0 w) l x) : Calls Tryd.prog 5 (cvs [.agg l, .word c]).toArray w (Yes w) := by
 have hOx : ∀ m, allOld w ∈ m → OpR (HM m) l x := fun m hin => hO.mono (H0.hm hin)
 have hop := opOf_eq hO
 have f3 := hO.all
 have f2 := hO.one
 cases hcx : mayO x with
 | false =>
  refine Vc.calls T0_ok Tryd.func5 rfl rfl (args := [.agg l, .word c]) (k := 34) rfl hm ?_; change Vc _ _ (c8 (.agg l) (.word c) .undef .undef .undef .undef .undef .undef (c8 .undef .undef .undef .undef .undef .undef .undef .undef (c8 .undef .undef .undef .undef .undef .undef .undef .undef (c8 .undef .undef .undef .undef .undef .undef .undef .undef ([.undef, .undef, .undef, .undef]))))) _ _
  ((repeat (first | (with_reducible refine Vc.seq fun N hN => ?_) | (with_reducible intro _) | ((with_reducible refine And.intro ?_ ?_); exact sX16) | ((first | ((with_reducible refine Vc.hold ?_); first | refine Vc.regiont T0_ok GP7_ok ?_)); (try simp only [v8Y, Nat.beq, Nat.ble, seval, tabs, GP7_set, hop, f3, hcx])) | ((with_reducible refine hN _ _ ?_); clear hN N))))
  (refine Vc.cond T0_ok (t := true) (by rfl) (fun _ => ?_) (fun h => Bool.noConfusion h))
  ((repeat (first | (with_reducible refine Vc.seq fun N hN => ?_) | ((with_reducible refine And.intro ?_ ?_); exact sX16) | ((first | ((with_reducible refine Vc.fin ?_); dsimp only [thenK, blockK, retK, resS, resOne, resAll]) | ((with_reducible refine Vc.hold ?_); first | refine Vc.regiont T0_ok GP7_ok ?_)); (try simp only [v8Y, Nat.beq, Nat.ble, seval, tabs, GP7_set])) | ((with_reducible refine hN _ _ ?_); clear hN N))); (try ((with_reducible refine Fin.of ?_); (try with_reducible exact True.intro))))
  exact ⟨by simp, trivial⟩
 | true =>
  have hSx := may_S hcx
  have qx : eqW (hsN x c) (hsN x c) = true := eqW_of rfl
  have qs : smO x x = true := sm_self x
  have sp1 : ∀ L : List SV, L.length = 83 → splice zl_29 0 L = some L := fun L h => splice_full _ _ (by rw [h]; rfl)
  refine Vc.calls T0_ok Tryd.func5 rfl rfl (args := [.agg l, .word c]) (k := 34) rfl hm ?_; change Vc _ _ (c8 (.agg l) (.word c) .undef .undef .undef .undef .undef .undef (c8 .undef .undef .undef .undef .undef .undef .undef .undef (c8 .undef .undef .undef .undef .undef .undef .undef .undef (c8 .undef .undef .undef .undef .undef .undef .undef .undef ([.undef, .undef, .undef, .undef]))))) _ _
  ((repeat (first | (with_reducible refine Vc.seq fun N hN => ?_) | (with_reducible intro _) | ((with_reducible refine And.intro ?_ ?_); exact sX17) | ((first | ((with_reducible refine Vc.hold ?_); first | refine Vc.regiont T0_ok GP7_ok ?_)); (try simp only [v8Y, Nat.beq, Nat.ble, seval, tabs, GP7_set, hop, f3, hcx])) | ((with_reducible refine hN _ _ ?_); clear hN N))))
  (refine Vc.cond T0_ok (t := false) (by rfl) (fun h => Bool.noConfusion h) (fun _ => ?_))
  (refine Vc.skip ?_; dsimp only [thenK, blockK, Nat.beq]; refine hN _ _ ?_; clear hN N)
  ((with_reducible refine Vc.seq fun N hN => ?_); (refine Vc.regiont T0_ok GP7_ok ?_); simp only [v8Y, Nat.beq, Nat.ble, seval, tabs, GP7_set, hop, f2, f3]; (try simp (disch := omega) only [v8W]); (repeat (first | with_reducible intro _ | ((with_reducible refine And.intro ?_ ?_); exact sX17))); (first | (refine hN _ _ ?_; clear hN N; (try simp (disch := omega) only [v8W])) | skip))
  rename_i z hz b9
  obtain ⟨z, zh⟩ := z
  have hZ : OpR (Hl zh) z x := hz
  have hOz : ∀ m, Blk.heap zh ∈ m → OpR (HM m) z x := fun m hin => hZ.mono (Hl.hm hin fun _ h => h)
  have hopz := opOf_eq hZ
  have f3z := hZ.all
  have f2z := hZ.one
  have spz := sp1 z hZ.len
  clear hz
  (simp only [v8Y, Nat.beq, Nat.ble, seval, tabs, GP7_set, spz, f2z, f3z]; (try simp (disch := omega) only [v8W]); skip; (first | (refine hN _ _ ?_; clear hN N; (try simp (disch := omega) only [v8W])) | skip))
  refine ⟨⟨trivial, trivial, hZ.len, trivial⟩, ?_⟩
  refine hN _ _ ?_
  clear hN N
  ((with_reducible refine Vc.seq fun N hN => ?_); (first | refine Vc.drawt (id := 5) T0_ok GP7_ok (by kernel_rfl) [0, 1, 2, 4, 3, 5, 6, 7, 8, 9, 10, 12, 13, 11, 14, 15, 16, 17, 18, 19] 20 [] trivial (by kernel_rfl) ?_); simp only [v8Y, Nat.beq, Nat.ble, seval, tabs, GP7_set, hop, hopz, f2, f3, f2z, f3z]; (try simp (disch := omega) only [v8W]))
  (repeat (first | with_reducible intro _ | ((with_reducible refine And.intro ?_ ?_); (focus (first | ((repeat' with_reducible apply And.intro) <;> first | exact sideQ | (exact ⟨x, hOx _ (by simp)⟩) | (exact ⟨x, hOx _ (by simp), hSx⟩) | (exact ⟨x, hOz _ (by simp)⟩) | (exact ⟨x, hOz _ (by simp), hSx⟩)) | exact sd0))))); (first | (refine hN _ _ ?_; clear hN N; (try simp (disch := omega) only [v8W])) | skip)
  rename_i pa hPa pb hPb
  obtain ⟨⟨a1, c1, R1⟩, h1⟩ := pa
  obtain ⟨⟨b2, R2⟩, h2⟩ := pb
  obtain ⟨_, q2, q3, q4, q5⟩ := hPa
  obtain ⟨_, r2, r3, r4, r5⟩ := hPb
  simp only at q2 q3 q4 q5 r2 r3 r4 r5 ⊢
  have o1 := q5.ok
  have o2 := r5.ok
  have x1 := q5.fixed
  have x2 := r5.fixed
  have n1 : R1.length = 9 := q5.1
  have n2 : R2.length = 9 := r5.1
  have q9 : R1.take 9 = R1 := List.take_of_length_le (by omega)
  have r9 : R2.take 9 = R2 := List.take_of_length_le (by omega)
  have Q6 : ∀ m, Blk.heap h1 ∈ m → PsR (HM m) R1 (pkP x) := fun m hin => ⟨q5.1, q5.2.1, fun i r p hr hp => (q5.2.2 i r p hr hp).mono fun b o h => Hl.hm hin (fun _ h => h) b o h⟩
  have R6 : ∀ m, Blk.heap h2 ∈ m → PsR (HM m) R2 (pkP x) := fun m hin => ⟨r5.1, r5.2.1, fun i r p hr hp => (r5.2.2 i r p hr hp).mono fun b o h => Hl.hm hin (fun _ h => h) b o h⟩
  have Q7 : ∀ m, Blk.heap h1 ∈ m → LiesH (HM m) a1 (cc (.rows 6 R1)) := fun m hin => q4.mono (Hl.hm hin fun _ h => h)
  have R7 : ∀ m, Blk.heap h2 ∈ m → LiesH (HM m) (some ⟨b2, 0, none⟩) (cc (.rows 6 R2)) := fun m hin => r4.mono (Hl.hm hin fun _ h => h)
  (simp only [v8Y, Nat.beq, Nat.ble, seval, tabs, GP7_set, hop, hopz, f2, f3, f2z, f3z, o1, o2, x1, x2, q9, r9, qx, qs, List.drop_zero]; (try simp (disch := omega) only [v8W]); (repeat (first | ((with_reducible refine And.intro ?_ ?_); (focus (first | ((repeat' with_reducible apply And.intro) <;> first | exact sideQ | (exact ⟨x, hOx _ (by simp)⟩) | (exact ⟨x, hOx _ (by simp), hSx⟩) | (exact ⟨x, hOz _ (by simp)⟩) | (exact ⟨x, hOz _ (by simp), hSx⟩) | (exact Q7 _ (by simp)) | (exact R7 _ (by simp)) | (exact ⟨_, Q6 _ (by simp), R6 _ (by simp)⟩)) | exact sd0))))); (first | (refine hN _ _ ?_; clear hN N; (try simp (disch := omega) only [v8W])) | skip))
  ((repeat (first | ((first | ((with_reducible refine Vc.fin ?_); dsimp only [thenK, blockK, retK, resS, resOne, resAll])); (try simp only [v8Y, Nat.beq, Nat.ble, seval, tabs, GP7_set])))); (try ((with_reducible refine Fin.of ?_); (try with_reducible exact True.intro))))
  exact ⟨by simp, trivial⟩
end Go.Proofs.YthdpgfdfgidokaaDoor

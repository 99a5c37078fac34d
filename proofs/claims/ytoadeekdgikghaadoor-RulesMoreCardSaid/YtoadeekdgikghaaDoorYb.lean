/-
 Package store: accounts as data; add, walked. No condition.
-/
import Derived.Test.YtoadeekdgikghaaDoorY9
set_option maxRecDepth 20000
set_option maxHeartbeats 4000000
set_option linter.defProp false
set_option linter.unusedVariables false
set_option linter.unusedSimpArgs false
namespace Go.Proofs.YtoadeekdgikghaaDoor
open Go.RowKit
def slR (p : Nat × Nat) : List SV := [.int .u64 (lm (p.1) 0 : Nat), .int .u64 (lm (p.1) 1 : Nat), .int .u64 (lm (p.1) 2 : Nat), .int .u64 (lm (p.1) 3 : Nat), .int .u64 (lm (p.2) 0 : Nat), .int .u64 (lm (p.2) 1 : Nat), .int .u64 (lm (p.2) 2 : Nat), .int .u64 (lm (p.2) 3 : Nat)]
def sloQ (F : List Int → Option SV) (a : List Int) (l : List (Nat × Nat)) : List Int → Option SV := l.foldl (fun F p => putN F (slotC a p.1) p.2) F
theorem sloQ_s {F : List Int → Option SV} {a : List Int} {l : List (Nat × Nat)} {k : Nat} {z : Nat × Nat} (h : l[k]? = some z) : sloQ F a (l.take (k + 1)) = putN (sloQ F a (l.take k)) (slotC a z.1) z.2 := by
 unfold sloQ
 rw [take_more h, List.foldl_append]; rfl
noncomputable def GYb : Ctr := fun f args m => match f with
 | 17 => g_whole args m
 | 19 => g_slotOf args m
 | 16 => g_putA args m
 | 18 => g_putW args m
 | _ => .none
theorem GYb_ok : GOk Tryd.prog GYb := by
 intro w0 B f args m; unfold GYb; split
 ·exact g_whole_ok _ _ _ _
 ·exact g_slotOf_ok _ _ _ _
 ·exact g_putA_ok _ _ _ _
 ·exact g_putW_ok _ _ _ _
 ·exact trivial
theorem GYb_whole : GYb 17 = g_whole := by funext args m; rfl
theorem GYb_slotOf : GYb 19 = g_slotOf := by funext args m; rfl
theorem GYb_putA : GYb 16 = g_putA := by funext args m; rfl
theorem GYb_putW : GYb 18 = g_putW := by funext args m; rfl
def GYb_set := And.intro (And.intro (And.intro (@GYb_whole) (@g_whole.eq_def)) (And.intro (@GYb_slotOf) (@g_slotOf.eq_def))) (And.intro (And.intro (@GYb_putA) (@g_putA.eq_def)) (And.intro (@GYb_putW) (@g_putW.eq_def)))

set_option maxRecDepth 20000 in
theorem add_vc (ma ms p : Nat) (q : List SV) (F1 F2 : List Int → Option SV) (o0 : Nat → Option Obj) (x0 x1 x2 x3 x4 x5 x6 x7 x8 x9 x10 x11 x12 x13 x14 x15 x16 x17 x18 x19 : Int) (n : Int) (b : Nat) (ca : Option Addr) (cn cp : Nat) (cs : List Int) (sa : Option Addr) (sn sp : Nat) (sl : List (Nat × Nat))
  (ha : okA [x0, x1, x2, x3, x4, x5, x6, x7, x8, x9, x10, x11, x12, x13, x14, x15, x16, x17, x18, x19]) (hx : okAcc ⟨n, b, cs⟩) (hcl : cs.length = cn) (hcn : cn ≤ cp) (hca : adr ca cn cp) (hsl : sl.length = sn) (hsn : sn ≤ sp) (hsa : adr sa sn sp) (hn2 : sn ≤ 1000000) (hw : ∀ z ∈ sl, z.1 < W ∧ z.2 < W)
  (hL1 : LiesH (fun b o => o0 b = some o) ca (cc (.ints .u8 cs))) (hL2 : LiesH (fun b o => o0 b = some o) sa (cc (.rows 8 (sl.map slR)))) (w : World)
  (hm : MemOk w [ma, ms] [.mp ma ck_83 F1, .mp ms ck_83 F2, .ro (some ⟨p, 0, none⟩) (.cells (.mpv 0 ma :: .mpv 1 ms :: q)), .old o0] w) :
  Calls Tryd.prog 12 (cvs [.ptr 2 p 0 0 0 0, .agg [.int .u8 x0, .int .u8 x1, .int .u8 x2, .int .u8 x3, .int .u8 x4, .int .u8 x5, .int .u8 x6, .int .u8 x7, .int .u8 x8, .int .u8 x9, .int .u8 x10, .int .u8 x11, .int .u8 x12, .int .u8 x13, .int .u8 x14, .int .u8 x15, .int .u8 x16, .int .u8 x17, .int .u8 x18, .int .u8 x19, .int .u64 n, .int .u64 (lm (b) 0 : Nat), .int .u64 (lm (b) 1 : Nat), .int .u64 (lm (b) 2 : Nat), .int .u64 (lm (b) 3 : Nat), .gh ca cn cp (.ints .u8 cs), .gh sa sn sp (.rows 8 (sl.map slR))]]).toArray w (fun en w' => ∃ u, en = .returned u ∧ ∃ v' m', u = cv v' ∧ MemOk w [ma, ms] m' w' ∧ ∃ _ : Unit, True ∧ v' = .tup [] ∧ bpre [.mp ma ck_83 (putAc F1 [x0, x1, x2, x3, x4, x5, x6, x7, x8, x9, x10, x11, x12, x13, x14, x15, x16, x17, x18, x19, 1, 0, 0, 0, 0] ⟨n, b, cs⟩), .mp ms ck_83 (sloQ F2 [x0, x1, x2, x3, x4, x5, x6, x7, x8, x9, x10, x11, x12, x13, x14, x15, x16, x17, x18, x19] sl)] m') := by
 obtain ⟨hxn, hxb, hxa, hxc⟩ := id hx
 have hC : ∀ m, Blk.old o0 ∈ m → LiesH (HM m) ca (cc (.ints .u8 cs)) := fun m hin => hL1.mono fun b o h => ⟨_, hin, h⟩
 have hSl : ∀ m, Blk.old o0 ∈ m → LiesH (HM m) sa (cc (.rows 8 (sl.map slR))) := fun m hin => hL2.mono fun b o h => ⟨_, hin, h⟩
 have hWc : inCs ck_83 [x0, x1, x2, x3, x4, x5, x6, x7, x8, x9, x10, x11, x12, x13, x14, x15, x16, x17, x18, x19, 1, 0, 0, 0, 0] := in_whole ha
 have t1 : cs.take cn = cs := List.take_of_length_le (by omega)
 have nb : numI [((lm b 0 : Nat) : Int), (lm b 1 : Nat), (lm b 2 : Nat), (lm b 3 : Nat)] = b := numI_lmI hxb
 refine Vc.calls T0_ok Tryd.func12 rfl rfl (args := [.ptr 2 p 0 0 0 0, .agg [.int .u8 x0, .int .u8 x1, .int .u8 x2, .int .u8 x3, .int .u8 x4, .int .u8 x5, .int .u8 x6, .int .u8 x7, .int .u8 x8, .int .u8 x9, .int .u8 x10, .int .u8 x11, .int .u8 x12, .int .u8 x13, .int .u8 x14, .int .u8 x15, .int .u8 x16, .int .u8 x17, .int .u8 x18, .int .u8 x19, .int .u64 n, .int .u64 (lm (b) 0 : Nat), .int .u64 (lm (b) 1 : Nat), .int .u64 (lm (b) 2 : Nat), .int .u64 (lm (b) 3 : Nat), .gh ca cn cp (.ints .u8 cs), .gh sa sn sp (.rows 8 (sl.map slR))]]) (k := 43) rfl hm ?_; change Vc _ _ (c8 (.ptr 2 p 0 0 0 0) (.agg [.int .u8 x0, .int .u8 x1, .int .u8 x2, .int .u8 x3, .int .u8 x4, .int .u8 x5, .int .u8 x6, .int .u8 x7, .int .u8 x8, .int .u8 x9, .int .u8 x10, .int .u8 x11, .int .u8 x12, .int .u8 x13, .int .u8 x14, .int .u8 x15, .int .u8 x16, .int .u8 x17, .int .u8 x18, .int .u8 x19, .int .u64 n, .int .u64 (lm (b) 0 : Nat), .int .u64 (lm (b) 1 : Nat), .int .u64 (lm (b) 2 : Nat), .int .u64 (lm (b) 3 : Nat), .gh ca cn cp (.ints .u8 cs), .gh sa sn sp (.rows 8 (sl.map slR))]) .undef .undef .undef .undef .undef .undef (c8 .undef .undef .undef .undef .undef .undef .undef .undef (c8 .undef .undef .undef .undef .undef .undef .undef .undef (c8 .undef .undef .undef .undef .undef .undef .undef .undef (c8 .undef .undef .undef .undef .undef .undef .undef .undef ([.undef, .undef, .undef, .undef, .undef])))))) _ _
 ((with_reducible refine Vc.seq fun N hN => ?_); (refine Vc.regiont T0_ok GYb_ok ?_); simp only [v8Y, Nat.beq, Nat.ble, seval, tabs, GYb_set]; (try simp (disch := omega) only [v8W]); (repeat (first | with_reducible intro _ | ((with_reducible refine And.intro ?_ ?_); exact sX10))); (first | (refine hN _ _ ?_; clear hN N; (try simp (disch := omega) only [v8W])) | skip))
 ((with_reducible refine Vc.seq fun N hN => ?_); (refine Vc.regiont T0_ok GYb_ok ?_); simp only [v8Y, Nat.beq, Nat.ble, seval, tabs, GYb_set]; (try simp (disch := omega) only [v8W]); (repeat (first | with_reducible intro _ | ((with_reducible refine And.intro ?_ ?_); exact sX10))); (first | (refine hN _ _ ?_; clear hN N; (try simp (disch := omega) only [v8W])) | skip))
 ((with_reducible refine Vc.seq fun N hN => ?_); (first | refine Vc.drawt (id := 2) T0_ok GYb_ok (by kernel_rfl) [0, 1, 2, 3, 4, 5, 7, 8, 9, 10, 11, 12, 13, 14, 6] 15 [] trivial (by kernel_rfl) ?_ | refine Vc.drawt (id := 6) T0_ok GYb_ok (by kernel_rfl) [0, 1, 2, 3, 4, 5, 6, 7, 9, 10, 8] 11 [] trivial (by kernel_rfl) ?_); simp only [v8Y, Nat.beq, Nat.ble, seval, tabs, GYb_set, nb, t1, List.drop_zero]; (try simp (disch := omega) only [v8W]))
 (repeat (first | with_reducible intro _ | ((with_reducible refine And.intro ?_ ?_); exact sX10))); (first | (refine hN _ _ ?_; clear hN N; (try simp (disch := omega) only [v8W])) | skip)
 ((repeat (first | (with_reducible first | refine Vc.seq fun N hN => ?_ | refine Vc.block ?_) | ((with_reducible refine And.intro ?_ ?_); exact sX10) | ((first | ((with_reducible refine Vc.hold ?_); first | refine Vc.regiont T0_ok GYb_ok ?_)); (try simp only [v8Y, Nat.beq, Nat.ble, seval, tabs, GYb_set, ])) | ((with_reducible refine hN _ _ ?_); clear hN N))))
 rename_i b3 b4 u9 h9
 refine Vc.loop 29 45 (fun (x : Nat × SV) => [(6, x.2), (28, .int .i64 (x.1 : Nat))]) (fun x => [.mp ma ck_83 (putAc F1 [x0, x1, x2, x3, x4, x5, x6, x7, x8, x9, x10, x11, x12, x13, x14, x15, x16, x17, x18, x19, 1, 0, 0, 0, 0] ⟨n, b, cs⟩), .mp ms ck_83 (sloQ F2 [x0, x1, x2, x3, x4, x5, x6, x7, x8, x9, x10, x11, x12, x13, x14, x15, x16, x17, x18, x19] (sl.take x.1)), .ro (some ⟨p, 0, none⟩) (.cells (.mpv 0 ma :: .mpv 1 ms :: q)), .old o0, .blk b3 70 (.cells [.int .u8 x0, .int .u8 x1, .int .u8 x2, .int .u8 x3, .int .u8 x4, .int .u8 x5, .int .u8 x6, .int .u8 x7, .int .u8 x8, .int .u8 x9, .int .u8 x10, .int .u8 x11, .int .u8 x12, .int .u8 x13, .int .u8 x14, .int .u8 x15, .int .u8 x16, .int .u8 x17, .int .u8 x18, .int .u8 x19, .int .u64 n, .int .u64 (lm (b) 0 : Nat), .int .u64 (lm (b) 1 : Nat), .int .u64 (lm (b) 2 : Nat), .int .u64 (lm (b) 3 : Nat), .gh ca cn cp (.ints .u8 cs), .gh sa sn sp (.rows 8 (sl.map slR))])]) (fun x => x.1 ≤ sn) (fun x => sn - x.1) (0, .undef) ⟨Nat.zero_le _, ?_, ?_⟩ (fun x junk hk => ?_)
 ·((try simp only [v8Y, Nat.beq, Nat.ble, seval, tabs]); (repeat' with_reducible apply And.intro) <;> first | with_reducible exact True.intro | rfl | with_reducible rfl | (congr 1 <;> omega) | trivial)
 ·((try simp only [v8Y, Nat.beq, Nat.ble, seval, tabs]); (repeat' with_reducible apply And.intro) <;> first | with_reducible exact True.intro | rfl | with_reducible rfl | (congr 1 <;> omega) | trivial)
 ·obtain ⟨k, z6⟩ := x
  dsimp only at hk ⊢
  (simp only [v8Y, Nat.beq, Nat.ble, seval, tabs])
  by_cases hlt : k < sn
  ·have d1 : decide ((k : Int) < (sn : Int)) = true := decide_eq_true (by omega)
   ((repeat (first | (with_reducible refine Vc.seq fun N hN => ?_) | ((with_reducible refine And.intro ?_ ?_); exact sX10) | ((first | ((with_reducible refine Vc.hold ?_); first | refine Vc.regiont T0_ok GYb_ok ?_)); (try simp only [v8Y, Nat.beq, Nat.ble, seval, tabs, GYb_set, d1])) | ((with_reducible refine hN _ _ ?_); clear hN N))))
   (refine Vc.cond T0_ok (t := true) (by rfl) (fun _ => ?_) (fun h => Bool.noConfusion h))
   have e1 := List.getElem?_eq_getElem (show k < sl.length by omega)
   have hzw := hw _ (List.getElem_mem (show k < sl.length by omega))
   have hss := sloQ_s (F := F2) (a := [x0, x1, x2, x3, x4, x5, x6, x7, x8, x9, x10, x11, x12, x13, x14, x15, x16, x17, x18, x19]) e1
   generalize sl[k] = z at *
   obtain ⟨zk, zv⟩ := z
   simp only at hzw hss
   have hgd : (sl.map slR).getD k [] = [.int .u64 (lm (zk) 0 : Nat), .int .u64 (lm (zk) 1 : Nat), .int .u64 (lm (zk) 2 : Nat), .int .u64 (lm (zk) 3 : Nat), .int .u64 (lm (zv) 0 : Nat), .int .u64 (lm (zv) 1 : Nat), .int .u64 (lm (zv) 2 : Nat), .int .u64 (lm (zv) 3 : Nat)] := by rw [List.getD_eq_getElem?_getD, List.getElem?_map, e1]; rfl
   have tk : ((k : Nat) : Int).toNat = k := by omega
   have nk : numI [((lm zk 0 : Nat) : Int), ((lm zk 1 : Nat) : Int), ((lm zk 2 : Nat) : Int), ((lm zk 3 : Nat) : Int)] = zk := numI_lmI hzw.1
   have nv : numI [((lm zv 0 : Nat) : Int), ((lm zv 1 : Nat) : Int), ((lm zv 2 : Nat) : Int), ((lm zv 3 : Nat) : Int)] = zv := numI_lmI hzw.2
   have hSc : inCs ck_83 [x0, x1, x2, x3, x4, x5, x6, x7, x8, x9, x10, x11, x12, x13, x14, x15, x16, x17, x18, x19, 0, ((lm zk 0 : Nat) : Int), ((lm zk 1 : Nat) : Int), ((lm zk 2 : Nat) : Int), ((lm zk 3 : Nat) : Int)] := in_slot ha zk
   have hkl : k < (List.map slR sl).length := by rw [List.length_map]; omega
   have hzv := hzw.2
   ((repeat (first | (with_reducible first | refine Vc.seq fun N hN => ?_ | refine Vc.block ?_) | ((first | with_reducible refine Vc.skip ?_); dsimp only [thenK, blockK, Nat.beq]; (first | (refine hN _ _ ?_; clear hN N))) | (with_reducible intro _) | ((with_reducible refine And.intro ?_ ?_); exact sX10) | ((first | ((with_reducible refine Vc.hold ?_); first | refine Vc.regiont T0_ok GYb_ok ?_ | refine Vc.drawt (id := 6) T0_ok GYb_ok (by kernel_rfl) [0, 1, 2, 3, 4, 5, 6, 7, 9, 10, 8] 11 [] trivial (by kernel_rfl) ?_)); (try simp only [v8Y, Nat.beq, Nat.ble, seval, tabs, GYb_set, hgd, tk, nk, nv])) | ((with_reducible refine hN _ _ ?_); clear hN N))))
   rename_i b6 u6 g6
   refine ⟨(k + 1, .ptr 5 b6 0 0 0 0), by dsimp only; omega, ?_, ?_, by dsimp only; omega⟩
   ·try simp only [nk, nv]
    ((try simp only [v8Y, Nat.beq, Nat.ble, seval, tabs]); (repeat' with_reducible apply And.intro) <;> first | with_reducible exact True.intro | rfl | (congr 1 <;> omega))
   ·try simp only [nk, nv]
    ((try simp only [v8Y, Nat.beq, Nat.ble, seval, tabs]); (repeat' with_reducible apply And.intro) <;> first | with_reducible exact True.intro | (rw [hss]; rfl) | (congr 1 <;> omega))
  ·have d1 : decide ((k : Int) < (sn : Int)) = false := decide_eq_false (by omega)
   obtain rfl : k = sn := by omega
   ((repeat (first | (with_reducible refine Vc.seq fun N hN => ?_) | ((with_reducible refine And.intro ?_ ?_); exact sX10) | ((first | ((with_reducible refine Vc.hold ?_); first | refine Vc.regiont T0_ok GYb_ok ?_)); (try simp only [v8Y, Nat.beq, Nat.ble, seval, tabs, GYb_set, d1])) | ((with_reducible refine hN _ _ ?_); clear hN N))))
   (refine Vc.cond T0_ok (t := false) (by rfl) (fun h => Bool.noConfusion h) (fun _ => ?_))
   ((repeat (first | ((first | with_reducible refine Vc.exit ?_); dsimp only [thenK, blockK, Nat.beq]; (first | skip)))))
   have ht : sl.take k = sl := List.take_of_length_le (by omega)
   exact ⟨trivial, (), trivial, rfl, rfl, by rw [ht], trivial⟩
def u8s : Nat → List SV → Option (List Int × List SV)
 | 0, l => some ([], l)
 | k + 1, .int .u8 x :: l => match u8s k l with
  | some (c, r) => some (x :: c, r)
  | none => none
 | _ + 1, _ => none
theorem u8s_eq : ∀ {k : Nat} {l : List SV} {c : List Int} {r : List SV}, u8s k l = some (c, r) → l = c.map (.int .u8 ·) ++ r ∧ c.length = k
 | 0, l, c, r, h => by
  simp only [u8s, Option.some.injEq, Prod.mk.injEq] at h
  obtain ⟨rfl, rfl⟩ := h
  exact ⟨rfl, rfl⟩
 | k + 1, l, c, r, h => by
  unfold u8s at h
  split at h
  ·cases ‹k + 1 = 0›
  ·rename_i k' x l' hk
   obtain rfl : k = k' := Nat.succ.inj hk
   split at h
   ·rename_i c' r' hc
    simp only [Option.some.injEq, Prod.mk.injEq] at h
    obtain ⟨rfl, rfl⟩ := h
    obtain ⟨rfl, h2⟩ := u8s_eq hc
    exact ⟨rfl, by simp [h2]⟩
   ·cases h
  ·cases h
def slD (r : List SV) : Nat × Nat := match r with
 | [.int _ a0, .int _ a1, .int _ a2, .int _ a3, .int _ b0, .int _ b1, .int _ b2, .int _ b3] => (numI [a0, a1, a2, a3], numI [b0, b1, b2, b3])
 | _ => (0, 0)
theorem slD_R {p : Nat × Nat} (h : p.1 < W ∧ p.2 < W) : slD (slR p) = p := Prod.ext (numI_lmI h.1) (numI_lmI h.2)
theorem slDs : ∀ {l : List (Nat × Nat)}, (∀ z ∈ l, z.1 < W ∧ z.2 < W) → (l.map slR).map slD = l
 | [], _ => rfl
 | p :: l, h => by
  rw [List.map_cons, List.map_cons, slD_R (h _ List.mem_cons_self), slDs fun z hz => h z (List.mem_cons_of_mem _ hz)]
def oldF (w : World) (ma ms : Nat) (b : Nat) : Option Obj := if b = ma ∨ b = ms then none else w.heap[b]?
theorem add_mem {w0 w : World} {B : List Nat} {ma ms p : Nat} {t : TypeId} {con2 con : Con} (hcc : cc con2 = cc con) {k1 k2 : List CK} {F1 F2 : List Int → Option SV} {rest : List Blk} (hm : MemOk w0 B (.mp ma k1 F1 :: .mp ms k2 F2 :: .blk p t con2 :: rest) w) (h : MemOk w [ma, ms] [.mp ma k1 F1, .mp ms k2 F2] w) :
  MemOk w [ma, ms] [.mp ma k1 F1, .mp ms k2 F2, .ro (some ⟨p, 0, none⟩) con, .old (oldF w ma ms)] w := by
 have h1 := (hm.each (.blk p t con2) (by simp)).1
 rw [hcc] at h1
 have hd := hm.nodup
 simp only [List.flatMap_cons, Blk.nums, List.cons_append, List.nil_append, List.nodup_cons, List.mem_cons, not_or] at hd
 refine ⟨h.os, h.tape, h.output, h.size, h.old, fun e he => ?_, h.nodup⟩
 simp only [List.mem_cons, List.not_mem_nil, or_false] at he
 rcases he with rfl | rfl | rfl | rfl
 ·exact h.each _ (by simp)
 ·exact h.each _ (by simp)
 ·intro j u hj
  exact ⟨p, 0, rfl, (Array.getElem?_eq_some_iff.1 h1).1, by simp only [List.mem_cons, List.not_mem_nil, or_false, not_or]; exact ⟨fun e => hd.1.2.1 e.symm, fun e => hd.2.1.1 e.symm⟩, by simp only [World.cell?, h1]; simpa using hj⟩
 ·intro b o ho
  unfold oldF at ho
  split at ho
  ·cases ho
  ·rename_i hne
   exact ⟨ho, (Array.getElem?_eq_some_iff.1 ho).1, by simpa using hne⟩
theorem lies_old {w0 w : World} {B : List Nat} {m : List Blk} (hm : MemOk w0 B m w) {ma ms : Nat} {k1 k2 : List CK} {F1 F2 : List Int → Option Value} (h1 : MapIs w ma k1 F1) (h2 : MapIs w ms k2 F2) {a : Option Addr} {cs : List Value} (h : LiesH (HM m) a cs) :
  LiesH (fun b o => oldF w ma ms b = some o) a cs := by
 refine h.imp id fun ⟨b, off, arr, t, fr, e1, e2, e3⟩ => ⟨b, off, arr, t, fr, e1, ?_, e3⟩
 have hh := hm.hm e2
 obtain ⟨es1, c1, g1, _⟩ := h1
 obtain ⟨es2, c2, g2, _⟩ := h2
 show (if b = ma ∨ b = ms then none else w.heap[b]?) = _
 rw [if_neg, hh]
 rintro (rfl | rfl)
 ·rw [hh] at g1; cases g1
 ·rw [hh] at g2; cases g2
theorem enters_perm {P : Program} {f : FuncId} {args : Array Value} {w0 w : World} {B : List Nat} {A : Type} {Q : A → Prop} {F : A → SV} {g g' : A → List Blk} (h : Enters P f args w fun u w' => ∃ a : A, Q a ∧ u = cv (F a) ∧ MemOk w0 B (g a) w') (hp : ∀ a, (g a).Perm (g' a)) :
  Enters P f args w fun u w' => ∃ a : A, Q a ∧ u = cv (F a) ∧ MemOk w0 B (g' a) w' :=
 h.mono fun u w' ⟨a, h1, h2, h3⟩ => ⟨a, h1, h2, h3.perm (hp a)⟩
theorem ow2 {e0 e1 : Blk} (h : (ownP e0 && ownP e1) = true) : ∀ e ∈ [e0, e1], ownP e = true := by
 simp only [Bool.and_eq_true] at h
 intro e he
 simp only [List.mem_cons, List.not_mem_nil, or_false] at he
 rcases he with rfl | rfl
 ·exact h.1
 ·exact h.2
def g_add (args : List SV) (m : List Blk) : CR := match args with
 | [.ptr 3 p 0 0 0 0, .agg l] => match u8s 20 l with
  | some (a, [.int .u64 n, .int .u64 b0, .int .u64 b1, .int .u64 b2, .int .u64 b3, .gh ca cn cp (.ints .u8 cs), .gh sa sn sp (.rows 8 rs)]) => match m with
   | e0 :: .mp ma k1 F1 :: .mp ms k2 F2 :: .blk p' t (.cells (.mpv 1 a' :: .mpv 2 s' :: q)) :: rest => .rel ((p' = p ∧ a' = ma ∧ s' = ms ∧ k1 = ck_83 ∧ k2 = ck_83) ∧ okA a ∧ okAcc ⟨n, numI [b0, b1, b2, b3], cs⟩ ∧ lmI (numI [b0, b1, b2, b3]) = [b0, b1, b2, b3] ∧ cs.length = cn ∧ cn ≤ cp ∧ adr ca cn cp ∧ rs.length = sn ∧ sn ≤ sp ∧ adr sa sn sp ∧ sn ≤ 1000000 ∧ rs = (rs.map slD).map slR ∧ (∀ z ∈ rs.map slD, z.1 < W ∧ z.2 < W) ∧ LiesH (HM m) ca (cc (.ints .u8 cs)) ∧ LiesH (HM m) sa (cc (.rows 8 rs))) Unit (fun _ => True) (fun _ => .tup []) (fun _ => e0 :: .mp ma ck_83 (putAc F1 (whole a) ⟨n, numI [b0, b1, b2, b3], cs⟩) :: .mp ms ck_83 (sloQ F2 a (rs.map slD)) :: .blk p' t (.cells (.mpv 1 a' :: .mpv 2 s' :: q)) :: rest)
   | _ => .none
  | _ => .none
 | _ => .none
theorem g_add_ok (w0 : World) (B : List Nat) (args : List SV) (m : List Blk) : CROk Tryd.prog w0 B 12 args m (g_add args m) := by
 unfold g_add; split
 ·rename_i p l
  split
  ·rename_i a n b0 b1 b2 b3 ca cn cp cs sa sn sp rs hu
   split
   ·rename_i e0 ma k1 F1 ms k2 F2 p' t a' s' q rest
    rintro ⟨⟨rfl, rfl, rfl, rfl, rfl⟩, ha, hx, hl, h1, h2, h3, h4, h5, h6, h7, h8, h9, hL1, hL2⟩ w hm
    obtain ⟨hu1, hu2⟩ := u8s_eq hu
    generalize hB : numI [b0, b1, b2, b3] = b at *
    injection hl with d0 hl
    injection hl with d1 hl
    injection hl with d2 hl
    injection hl with d3 hl
    subst d0 d1 d2 d3
    generalize hsl : rs.map slD = sl at *
    subst h8
    obtain ⟨x0, x1, x2, x3, x4, x5, x6, x7, x8, x9, x10, x11, x12, x13, x14, x15, x16, x17, x18, x19, rfl⟩ := okA_lit ha
    subst hu1
    have hM1 := (hm.each (.mp a' ck_83 F1) (by simp)).1
    have hM2 := (hm.each (.mp s' ck_83 F2) (by simp)).1
    have hm1 := hm.perm (List.perm_middle (l₁ := [.mp a' ck_83 F1, .mp s' ck_83 F2, .blk p' t (.cells (.mpv 1 a' :: .mpv 2 s' :: q))]) (a := e0) (l₂ := rest)).symm
    exact enters_perm (calls_pre (A := Unit) (Q := fun _ => True) (Fv := fun _ => .tup []) (args' := [.ptr 2 p' 0 0 0 0, .agg [.int .u8 x0, .int .u8 x1, .int .u8 x2, .int .u8 x3, .int .u8 x4, .int .u8 x5, .int .u8 x6, .int .u8 x7, .int .u8 x8, .int .u8 x9, .int .u8 x10, .int .u8 x11, .int .u8 x12, .int .u8 x13, .int .u8 x14, .int .u8 x15, .int .u8 x16, .int .u8 x17, .int .u8 x18, .int .u8 x19, .int .u64 n, .int .u64 (lm (b) 0 : Nat), .int .u64 (lm (b) 1 : Nat), .int .u64 (lm (b) 2 : Nat), .int .u64 (lm (b) 3 : Nat), .gh ca cn cp (.ints .u8 cs), .gh sa sn sp (.rows 8 (sl.map slR))]]) (pre := [.mp a' ck_83 F1, .mp s' ck_83 F2]) (rest := .blk p' t (.cells (.mpv 1 a' :: .mpv 2 s' :: q)) :: e0 :: rest) (pre' := fun _ => [.mp a' ck_83 (putAc F1 [x0, x1, x2, x3, x4, x5, x6, x7, x8, x9, x10, x11, x12, x13, x14, x15, x16, x17, x18, x19, 1, 0, 0, 0, 0] ⟨n, b, cs⟩), .mp s' ck_83 (sloQ F2 [x0, x1, x2, x3, x4, x5, x6, x7, x8, x9, x10, x11, x12, x13, x14, x15, x16, x17, x18, x19] sl)]) Tryd.func12 rfl rfl hm1 (ow2 rfl) (fun _ _ => ow2 rfl) rfl
     (fun hm' => add_vc a' s' p' q F1 F2 _ x0 x1 x2 x3 x4 x5 x6 x7 x8 x9 x10 x11 x12 x13 x14 x15 x16 x17 x18 x19 n b ca cn cp cs sa sn sp sl ha hx h1 h2 h3 (by rw [← h4, List.length_map]) h5 h6 h7 h9 (lies_old hm hM1 hM2 hL1) (lies_old hm hM1 hM2 hL2) w (add_mem (con2 := .cells (.mpv 1 a' :: .mpv 2 s' :: q)) (con := .cells (.mpv 0 a' :: .mpv 1 s' :: q)) rfl hm1 hm')))
     (fun _ => List.perm_middle (l₁ := [.mp a' ck_83 (putAc F1 [x0, x1, x2, x3, x4, x5, x6, x7, x8, x9, x10, x11, x12, x13, x14, x15, x16, x17, x18, x19, 1, 0, 0, 0, 0] ⟨n, b, cs⟩), .mp s' ck_83 (sloQ F2 [x0, x1, x2, x3, x4, x5, x6, x7, x8, x9, x10, x11, x12, x13, x14, x15, x16, x17, x18, x19] sl), .blk p' t (.cells (.mpv 1 a' :: .mpv 2 s' :: q))]) (a := e0) (l₂ := rest))
   ·exact trivial
  ·exact trivial
 ·exact trivial
end Go.Proofs.YtoadeekdgikghaaDoor

/-
 Keccak-256: Join of words, of the code, and the chapter's example, walked. No condition.
-/
import Derived.Test.YthdpgfdfgidokaaDoorKC
import Derived.Test.YthdpgfdfgidokaaDoorFO
import Derived.Test.YthdpgfdfgidokaaDoorRE
set_option maxRecDepth 10000
set_option maxHeartbeats 4000000
set_option linter.defProp false
set_option linter.unusedVariables false
set_option linter.unusedSimpArgs false
namespace Go.Proofs.YthdpgfdfgidokaaDoor
open Go.RowKit
def wB (l : List Nat) (k : Nat) : List Int := (l.take k).flatMap fun a => bytI a 32
theorem wB_0 (l : List Nat) : wB l 0 = [] := by unfold wB; rw [List.take_zero]; rfl
theorem wB_s (l : List Nat) (k : Nat) (h : k < l.length) : wB l (k + 1) = wB l k ++ bytI (l.getD k 0) 32 := by
 unfold wB
 rw [List.take_add_one, List.getElem?_eq_getElem h, Option.toList_some, List.flatMap_append, List.flatMap_singleton, List.getD_eq_getElem?_getD, List.getElem?_eq_getElem h]; rfl
theorem flat_bytI_len : ∀ l : List Nat, (l.flatMap fun a => bytI a 32).length = 32 * l.length
 | [] => rfl
 | a :: l => by rw [List.flatMap_cons, List.length_append, bytI_len, flat_bytI_len l, List.length_cons]; omega
theorem wB_len (l : List Nat) (k : Nat) (h : k ≤ l.length) : (wB l k).length = 32 * k := by unfold wB; rw [flat_bytI_len, List.length_take]; omega
theorem wB_all (l : List Nat) (k : Nat) : allB (wB l k) := by
 intro y hy
 obtain ⟨a, _, h⟩ := List.mem_flatMap.1 hy
 exact bytI_all a 32 y h
noncomputable def GK7 : Ctr := fun f args m => match f with
 | 52 => g_From args m
 | 43 => g_rFrom args m
 | 141 => g_Small args m
 | 109 => g_lowByte args m
 | 120 => g_Shl args m
 | 89 => g_Shr args m
 | 54 => g_Cmp args m
 | 53 => g_Add args m
 | 51 => g_Mul args m
 | 93 => g_length args m
 | 102 => g_Read args m
 | 79 => g_Addr args m
 | 67 => g_Wide args m
 | 101 => g_Bytes args m
 | 100 => g_kSum args m
 | _ => .none
theorem GK7_ok : GOk Tryd.prog GK7 := by
 intro w0 B f args m; unfold GK7; split
 ·exact g_From_ok _ _ _ _
 ·exact g_rFrom_ok _ _ _ _
 ·exact g_Small_ok _ _ _ _
 ·exact g_lowByte_ok _ _ _ _
 ·exact g_Shl_ok _ _ _ _
 ·exact g_Shr_ok _ _ _ _
 ·exact g_Cmp_ok _ _ _ _
 ·exact g_Add_ok _ _ _ _
 ·exact g_Mul_ok _ _ _ _
 ·exact g_length_ok _ _ _ _
 ·exact g_Read_ok _ _ _ _
 ·exact g_Addr_ok _ _ _ _
 ·exact g_Wide_ok _ _ _ _
 ·exact g_Bytes_ok _ _ _ _
 ·exact g_kSum_ok _ _ _ _
 ·exact trivial
theorem GK7_From : GK7 52 = g_From := by funext args m; rfl
theorem GK7_rFrom : GK7 43 = g_rFrom := by funext args m; rfl
theorem GK7_Small : GK7 141 = g_Small := by funext args m; rfl
theorem GK7_lowByte : GK7 109 = g_lowByte := by funext args m; rfl
theorem GK7_Shl : GK7 120 = g_Shl := by funext args m; rfl
theorem GK7_Shr : GK7 89 = g_Shr := by funext args m; rfl
theorem GK7_Cmp : GK7 54 = g_Cmp := by funext args m; rfl
theorem GK7_Add : GK7 53 = g_Add := by funext args m; rfl
theorem GK7_Mul : GK7 51 = g_Mul := by funext args m; rfl
theorem GK7_length : GK7 93 = g_length := by funext args m; rfl
theorem GK7_Read : GK7 102 = g_Read := by funext args m; rfl
theorem GK7_Addr : GK7 79 = g_Addr := by funext args m; rfl
theorem GK7_Wide : GK7 67 = g_Wide := by funext args m; rfl
theorem GK7_Bytes : GK7 101 = g_Bytes := by funext args m; rfl
theorem GK7_kSum : GK7 100 = g_kSum := by funext args m; rfl
def GK7_set := And.intro (And.intro (And.intro (And.intro (@GK7_From) (And.intro (@g_From.eq_def) (@GK7_rFrom))) (And.intro (And.intro (@g_rFrom.eq_def) (@GK7_Small)) (And.intro (@g_Small.eq_def) (@GK7_lowByte)))) (And.intro (And.intro (And.intro (@g_lowByte.eq_def) (@GK7_Shl)) (And.intro (@g_Shl.eq_def) (@GK7_Shr))) (And.intro (And.intro (@g_Shr.eq_def) (@GK7_Cmp)) (And.intro (@g_Cmp.eq_def) (@GK7_Add))))) (And.intro (And.intro (And.intro (@g_Add.eq_def) (And.intro (@GK7_Mul) (@g_Mul.eq_def))) (And.intro (And.intro (@GK7_length) (@g_length.eq_def)) (And.intro (@GK7_Read) (@g_Read.eq_def)))) (And.intro (And.intro (And.intro (@GK7_Addr) (@g_Addr.eq_def)) (And.intro (@GK7_Wide) (@g_Wide.eq_def))) (And.intro (And.intro (@GK7_Bytes) (@g_Bytes.eq_def)) (And.intro (@GK7_kSum) (@g_kSum.eq_def)))))

theorem kjoin_vc (l : List Nat) (a : Option Addr) (n cp : Nat) (hl : l.length = n) (hc : n ≤ cp) (hb : n ≤ 1000) (ha : adr a n cp) (w : World) (hm : MemOk w [] [.ro (some ⟨1, 0, none⟩) (.ints .u64 kKeys), .ro (some ⟨2, 0, none⟩) (.ints .u8 kPathI), .ro a (.words l)] w) :
  Calls Tryd.prog 66 (cvs [.sl 2 a 0 0 4 n cp]).toArray w (fun en w' => ∃ u, en = .returned u ∧ ∃ v m', u = cv v ∧ MemOk w [] m' w' ∧ v = .word (kSum (wB l n))) := by
 have hbl : ∀ z, (bytI z 32).length = 32 := fun z => bytI_len z 32
 refine Vc.calls T0_ok Tryd.func66 rfl rfl (args := [.sl 2 a 0 0 4 n cp]) (k := 18) rfl hm ?_; change Vc _ _ (c8 (.sl 2 a 0 0 4 n cp) .undef .undef .undef .undef .undef .undef .undef (c8 .undef .undef .undef .undef .undef .undef .undef .undef ([.undef, .undef, .undef]))) _ _
 ((repeat (first | (with_reducible first | refine Vc.seq fun N hN => ?_ | refine Vc.block ?_) | (with_reducible intro _) | ((with_reducible refine And.intro ?_ ?_); exact sdB) | ((first | ((with_reducible refine Vc.hold ?_); first | refine Vc.regiont T0_ok GK7_ok ?_)); (try simp only [v8Y, Nat.beq, Nat.ble, seval, tabs, GK7_set])) | ((with_reducible refine hN _ _ ?_); clear hN N))))
 (revert N; intro N1 hN1)
 rename_i b0
 refine Vc.nilown 3 5 1 .u8 rfl ?_
 (simp only [v8Y, Nat.beq, Nat.ble, seval, tabs])
 refine Vc.loop 3 19 (fun (x : Nat × Value) => [(3, .own 4 x.2 (32 * x.1)), (6, .sl 2 a 0 0 4 n cp), (7, .int .i64 (n : Nat)), (8, .int .i64 (x.1 : Nat))]) (fun x => [.ro (some ⟨1, 0, none⟩) (.ints .u64 kKeys), .ro (some ⟨2, 0, none⟩) (.ints .u8 kPathI), .ro a (.words l), .blk b0 26 (.words [0]), .own x.2 (32 * x.1) 5 1 (.ints .u8 (wB l x.1))]) (fun x => x.1 ≤ n) (fun x => n - x.1) (0, .slice none 0 0) ⟨Nat.zero_le _, ?_, ?_⟩ (fun x junk hx => ?_)
 ·((try simp only [v8Y, Nat.beq, Nat.ble, seval, tabs]); (repeat' with_reducible apply And.intro) <;> first | with_reducible exact True.intro | rfl | with_reducible rfl | (congr 1 <;> omega) | trivial)
 ·((try simp only [v8Y, Nat.beq, Nat.ble, seval, tabs]); (repeat' with_reducible apply And.intro) <;> first | with_reducible exact True.intro | rw [wB_0]; rfl | with_reducible rfl | (congr 1 <;> omega) | trivial)
 ·obtain ⟨k, v⟩ := x
  simp only at hx ⊢
  have h0 := wB_len l k (by omega)
  have ha0 := wB_all l k
  have hs : k < n → wB l (k + 1) = wB l k ++ bytI (l.getD k 0) 32 := fun h => wB_s l k (by omega)
  generalize hw : wB l k = o at *
  (simp only [v8Y, Nat.beq, Nat.ble, seval, tabs])
  by_cases hlt : k < n
  ·have d1 : decide ((k : Int) < (n : Int)) = true := decide_eq_true (by omega)
   have hs' := hs hlt
   have e1 : 32 * (k + 1) = 32 * k + 32 := by omega
   have u1 : ∀ z, (bytI z 32).take 32 = bytI z 32 := fun z => List.take_of_length_le (by rw [bytI_len]; exact Nat.le_refl _)
   have hz := hbl (l.getD k 0)
   ((repeat (first | (with_reducible refine Vc.seq fun N hN => ?_) | ((with_reducible refine And.intro ?_ ?_); exact sdB) | ((first | ((with_reducible refine Vc.hold ?_); first | refine Vc.regiont T0_ok GK7_ok ?_)); (try simp only [v8Y, Nat.beq, Nat.ble, seval, tabs, GK7_set, d1])) | ((with_reducible refine hN _ _ ?_); clear hN N))))
   (refine Vc.cond T0_ok (t := true) (by rfl) (fun _ => ?_) (fun h => Bool.noConfusion h))
   ((repeat (first | (with_reducible first | refine Vc.seq fun N hN => ?_ | refine Vc.block ?_) | ((first | with_reducible refine Vc.skip ?_); dsimp only [thenK, blockK, Nat.beq]; (first | (refine hN _ _ ?_; clear hN N))) | (with_reducible intro _) | ((with_reducible refine And.intro ?_ ?_); exact sX5) | ((first | ((with_reducible refine Vc.hold ?_); first | refine Vc.regiont T0_ok GK7_ok ?_)); (try simp only [v8Y, Nat.beq, Nat.ble, seval, tabs, GK7_set, tnc, List.drop_zero, u1])) | ((with_reducible refine hN _ _ ?_); clear hN N))))
   rename_i vb vq
   refine ⟨(k + 1, vq), by simp only; omega, ?_, ?_, by simp only; omega⟩
   ·((try simp only [v8Y, Nat.beq, Nat.ble, seval, tabs]); (repeat' with_reducible apply And.intro) <;> first | with_reducible exact True.intro | rw [e1] | (congr 1 <;> omega))
   ·((try simp only [v8Y, Nat.beq, Nat.ble, seval, tabs]); (repeat' with_reducible apply And.intro) <;> first | with_reducible exact True.intro | rw [hs', e1] | (congr 1 <;> omega))
  ·have d1 : decide ((k : Int) < (n : Int)) = false := decide_eq_false (by omega)
   obtain rfl : k = n := by omega
   have u1 : o.take (32 * k) = o := List.take_of_length_le (by omega)
   ((repeat (first | (with_reducible refine Vc.seq fun N hN => ?_) | ((with_reducible refine And.intro ?_ ?_); exact sdB) | ((first | ((with_reducible refine Vc.hold ?_); first | refine Vc.regiont T0_ok GK7_ok ?_)); (try simp only [v8Y, Nat.beq, Nat.ble, seval, tabs, GK7_set, d1])) | ((with_reducible refine hN _ _ ?_); clear hN N))))
   (refine Vc.cond T0_ok (t := false) (by rfl) (fun h => Bool.noConfusion h) (fun _ => ?_))
   ((repeat (first | ((first | with_reducible refine Vc.exit ?_); dsimp only [thenK, blockK, Nat.beq]; (first | skip)))))
   (refine hN1 _ _ ?_; (try clear hN N); clear hN1 N1)
   ((repeat (first | (with_reducible refine Vc.seq fun N hN => ?_) | ((with_reducible refine And.intro ?_ ?_); exact sdB) | ((first | ((with_reducible refine Vc.fin ?_); dsimp only [thenK, blockK, retK, resS, resOne, resAll]) | ((with_reducible refine Vc.hold ?_); first | refine Vc.regiont T0_ok GK7_ok ?_)); (try simp only [v8Y, Nat.beq, Nat.ble, seval, tabs, GK7_set, List.drop_zero, u1])) | ((with_reducible refine hN _ _ ?_); clear hN N))); (try ((with_reducible refine Fin.of ?_); (try with_reducible exact True.intro))))
   exact ⟨⟨⟨trivial, trivial⟩, trivial, trivial⟩, by rw [hw]⟩
def g_kJoin (args : List SV) (m : List Blk) : CR :=
 match args with
 | [.nilsl] => match bget m 0, bget m 1 with
  | .ro a0 c0, .ro a1 c1 => .pure (a0 = some ⟨1, 0, none⟩ ∧ c0 = .ints .u64 kKeys ∧ a1 = some ⟨2, 0, none⟩ ∧ c1 = .ints .u8 kPathI) (.word (kSum []))
  | _, _ => .none
 | [x] => match srcC x m, bget m 0, bget m 1 with
  | some (q, k, .words l), .ro a0 c0, .ro a1 c1 => .pure (q ∧ k ≤ 1000 ∧ a0 = some ⟨1, 0, none⟩ ∧ c0 = .ints .u64 kKeys ∧ a1 = some ⟨2, 0, none⟩ ∧ c1 = .ints .u8 kPathI) (.word (kSum (wB l k)))
  | _, _, _ => .none
 | _ => .none
theorem g_kJoin_ok (w0 : World) (B : List Nat) (args : List SV) (m : List Blk) : CROk Tryd.prog w0 B 66 args m (g_kJoin args m) := by
 unfold g_kJoin
 split
 ·split
  ·rename_i a0 c0 a1 c1 h0 h1
   intro ⟨r0, r1, r2, r3⟩ w hm
   subst r0 r1 r2 r3
   have hnil : MemOk w [] [.ro none (.words [])] w := ro_cons (ro_nil w) (by intro j u hj; simp [cc] at hj)
   have e : cvs [SV.nilsl] = cvs [.sl 2 none 0 0 4 0 0] := rfl
   rw [e]
   have := kjoin_vc [] none 0 0 rfl (Nat.le_refl _) (Nat.zero_le _) (.inr ⟨rfl, rfl, rfl⟩) w (ro_front (ro_front hnil (ro_ro hm h1)) (ro_ro hm h0))
   rw [wB_0] at this
   exact calls_pure Tryd.func66 rfl rfl this
  ·exact trivial
 ·rename_i x _
  split
  ·rename_i q k l a0 c0 a1 c1 hs h0 h1
   intro ⟨hq, hk, r0, r1, r2, r3⟩ w hm
   subst r0 r1 r2 r3
   obtain ⟨l1, a, cp, e1, b1, m1, d1⟩ := src_ro hs hq hm
   have hl : l.length = k := by rw [words_cells_len] at l1; simp only [conEs] at l1; omega
   have e : cvs [x] = cvs [.sl 2 a 0 0 4 k cp] := by simp only [cvs]; rw [e1]; rfl
   rw [e]
   exact calls_pure Tryd.func66 rfl rfl (kjoin_vc l a k cp hl b1 hk d1 w (ro_front (ro_front m1 (ro_ro hm h1)) (ro_ro hm h0)))
  ·exact trivial
 ·exact trivial
end Go.Proofs.YthdpgfdfgidokaaDoor

/-
 ABI: a count as a word, a string's tail; parts as data, Encode walked (package abi). No condition.
-/
import Derived.Test.YthdpgfdfgidokaaDoorEO
import Derived.Test.YthdpgfdfgidokaaDoorEG
import Derived.Test.YthdpgfdfgidokaaDoorRE
set_option maxRecDepth 10000
set_option maxHeartbeats 4000000
set_option linter.defProp false
set_option linter.unusedVariables false
set_option linter.unusedSimpArgs false
namespace Go.Proofs.YthdpgfdfgidokaaDoor
open Go.RowKit
theorem w64c {x : Int} (h : 0 ≤ x ∧ x ≤ 18446744073709551615) : IntKind.u64.wrap x = x := by rw [IntKind.wrap_u64]; omega
theorem count_vc (n : Nat) (hn : n ≤ 9223372036854775807) (w : World) : Calls Tryd.prog 107 (cvs [.int .i64 (n : Int)]).toArray w (fun en w' => ∃ u, en = .returned u ∧ ∃ v m', u = cv v ∧ MemOk w [] m' w' ∧ v = .word n) := by
 have e1 := w64c (x := (n : Int)) (by omega)
 have e2 : (n : Int).toNat = n := Int.toNat_natCast n
 refine Vc.calls T0_ok Tryd.func107 rfl rfl (args := [.int .i64 (n : Int)]) (k := 5) rfl (MemOk.start _) ?_; change Vc _ _ ([.int .i64 (n : Int), .undef, .undef, .undef, .undef, .undef]) _ _
 ((repeat (first | (with_reducible refine Vc.seq fun N hN => ?_) | (with_reducible intro _) | ((with_reducible refine And.intro ?_ ?_); exact sdB) | ((first | ((with_reducible refine Vc.fin ?_); dsimp only [thenK, blockK, retK, resS, resOne, resAll]) | ((with_reducible refine Vc.hold ?_); first | refine Vc.regiont T0_ok G5_ok ?_)); (try simp only [v8Y, Nat.beq, Nat.ble, seval, tabs, G5_set, e1, e2])) | ((with_reducible refine hN _ _ ?_); clear hN N))); (try ((with_reducible refine Fin.of ?_); (try with_reducible exact True.intro))))
 exact ⟨by simp, trivial⟩
def g_Count (args : List SV) (_m : List Blk) : CR :=
 match args with
 | [.int .i64 n] => .pure (0 ≤ n ∧ n ≤ 9223372036854775807) (.word n.toNat)
 | _ => .none
theorem g_Count_ok (w0 : World) (B : List Nat) (args : List SV) (m : List Blk) : CROk Tryd.prog w0 B 107 args m (g_Count args m) := by
 unfold g_Count
 split
 ·rename_i n
  intro ⟨h0, h1⟩ w hm
  obtain ⟨k, rfl⟩ := Int.eq_ofNat_of_zero_le h0
  exact calls_pure Tryd.func107 rfl rfl (count_vc k (by omega) w)
 ·exact trivial
noncomputable def GD1 : Ctr := fun f args m => match f with
 | 52 => g_From args m
 | 43 => g_rFrom args m
 | 141 => g_Small args m
 | 109 => g_lowByte args m
 | 120 => g_Shl args m
 | 89 => g_Shr args m
 | 54 => g_Cmp args m
 | 53 => g_Add args m
 | 51 => g_Mul args m
 | 93 => g_length args m
 | 102 => g_Read args m
 | 79 => g_Addr args m
 | 67 => g_Wide args m
 | 101 => g_Bytes args m
 | 107 => g_Count args m
 | _ => .none
theorem GD1_ok : GOk Tryd.prog GD1 := by
 intro w0 B f args m; unfold GD1; split
 ·exact g_From_ok _ _ _ _
 ·exact g_rFrom_ok _ _ _ _
 ·exact g_Small_ok _ _ _ _
 ·exact g_lowByte_ok _ _ _ _
 ·exact g_Shl_ok _ _ _ _
 ·exact g_Shr_ok _ _ _ _
 ·exact g_Cmp_ok _ _ _ _
 ·exact g_Add_ok _ _ _ _
 ·exact g_Mul_ok _ _ _ _
 ·exact g_length_ok _ _ _ _
 ·exact g_Read_ok _ _ _ _
 ·exact g_Addr_ok _ _ _ _
 ·exact g_Wide_ok _ _ _ _
 ·exact g_Bytes_ok _ _ _ _
 ·exact g_Count_ok _ _ _ _
 ·exact trivial
theorem GD1_From : GD1 52 = g_From := by funext args m; rfl
theorem GD1_rFrom : GD1 43 = g_rFrom := by funext args m; rfl
theorem GD1_Small : GD1 141 = g_Small := by funext args m; rfl
theorem GD1_lowByte : GD1 109 = g_lowByte := by funext args m; rfl
theorem GD1_Shl : GD1 120 = g_Shl := by funext args m; rfl
theorem GD1_Shr : GD1 89 = g_Shr := by funext args m; rfl
theorem GD1_Cmp : GD1 54 = g_Cmp := by funext args m; rfl
theorem GD1_Add : GD1 53 = g_Add := by funext args m; rfl
theorem GD1_Mul : GD1 51 = g_Mul := by funext args m; rfl
theorem GD1_length : GD1 93 = g_length := by funext args m; rfl
theorem GD1_Read : GD1 102 = g_Read := by funext args m; rfl
theorem GD1_Addr : GD1 79 = g_Addr := by funext args m; rfl
theorem GD1_Wide : GD1 67 = g_Wide := by funext args m; rfl
theorem GD1_Bytes : GD1 101 = g_Bytes := by funext args m; rfl
theorem GD1_Count : GD1 107 = g_Count := by funext args m; rfl
def GD1_set := And.intro (And.intro (And.intro (And.intro (@GD1_From) (And.intro (@g_From.eq_def) (@GD1_rFrom))) (And.intro (And.intro (@g_rFrom.eq_def) (@GD1_Small)) (And.intro (@g_Small.eq_def) (@GD1_lowByte)))) (And.intro (And.intro (And.intro (@g_lowByte.eq_def) (@GD1_Shl)) (And.intro (@g_Shl.eq_def) (@GD1_Shr))) (And.intro (And.intro (@g_Shr.eq_def) (@GD1_Cmp)) (And.intro (@g_Cmp.eq_def) (@GD1_Add))))) (And.intro (And.intro (And.intro (@g_Add.eq_def) (And.intro (@GD1_Mul) (@g_Mul.eq_def))) (And.intro (And.intro (@GD1_length) (@g_length.eq_def)) (And.intro (@GD1_Read) (@g_Read.eq_def)))) (And.intro (And.intro (And.intro (@GD1_Addr) (@g_Addr.eq_def)) (And.intro (@GD1_Wide) (@g_Wide.eq_def))) (And.intro (And.intro (@GD1_Bytes) (@g_Bytes.eq_def)) (And.intro (@GD1_Count) (@g_Count.eq_def)))))

def padN (n : Nat) : Nat := (32 - n % 32) % 32
theorem padN_le (n : Nat) : padN n ≤ 31 := by unfold padN; omega
def abTail (ys : List Int) : List Int := bytI ys.length 32 ++ ys ++ List.replicate (padN ys.length) 0
theorem apTail_vc (xs ys : List Int) (v : Value) (a : Option Addr) (n cp : Nat) (hl : ys.length = n) (hc : n ≤ cp) (ha : adr a n cp) (hx : xs.length ≤ 70000000) (h32 : xs.length % 32 = 0) (hy : n ≤ 70000000) (B : List Nat) (w : World) (hm : MemOk w B [.own v xs.length 5 1 (.ints .u8 xs), .ro a (.ints .u8 ys)] w) :
  Calls Tryd.prog 108 (cvs [.own 0 v xs.length, .sl 1 a 0 0 1 n cp]).toArray w (ApR 5 .u8 w B (xs ++ abTail ys)) := by
 unfold ApR
 have u1 : (ys.drop 0).take n = ys := by rw [List.drop_zero, List.take_of_length_le (by omega)]
 have u2 : ys.take n = ys := List.take_of_length_le (by omega)
 have u3 : (bytI n 32).length = 32 := bytI_len n 32
 have u4 : (bytI n 32).take 32 = bytI n 32 := List.take_of_length_le (by omega)
 have e2 : (n : Int).toNat = n := Int.toNat_natCast n
 refine Vc.calls T0_ok Tryd.func108 rfl rfl (args := [.own 0 v xs.length, .sl 1 a 0 0 1 n cp]) (k := 20) rfl hm ?_; change Vc _ _ (c8 (.own 0 v xs.length) (.sl 1 a 0 0 1 n cp) .undef .undef .undef .undef .undef .undef (c8 .undef .undef .undef .undef .undef .undef .undef .undef ([.undef, .undef, .undef, .undef, .undef, .undef]))) _ _
 ((repeat (first | (with_reducible first | refine Vc.seq fun N hN => ?_ | refine Vc.block ?_) | (with_reducible intro _) | ((with_reducible refine And.intro ?_ ?_); exact sX16) | ((first | ((with_reducible refine Vc.hold ?_); first | refine Vc.regiont T0_ok GD1_ok ?_)); (try simp only [v8Y, Nat.beq, Nat.ble, seval, tabs, GD1_set, u1, u2, u3, u4, e2, List.drop_zero])) | ((with_reducible refine hN _ _ ?_); clear hN N))))
 rename_i v2 v1 v0
 generalize hb : xs ++ bytI n 32 ++ ys = zs at *
 have hzl : zs.length = xs.length + 32 + n := by rw [← hb, List.length_append, List.length_append, u3, hl]
 have hp := padN_le n
 (revert N; intro N1 hN1)
 refine Vc.loop 0 21 (fun (x : Nat × Value) => [(0, .own 0 x.2 (xs.length + 32 + n + x.1)), (4, .nilsl)]) (fun x => [.own x.2 (xs.length + 32 + n + x.1) 5 1 (.ints .u8 (zs ++ List.replicate x.1 0))]) (fun x => x.1 ≤ padN n) (fun x => padN n - x.1) (0, v0) ⟨Nat.zero_le _, ?_, ?_⟩ (fun x junk hx2 => ?_)
 ·((try simp only [v8Y, Nat.beq, Nat.ble, seval, tabs]); (repeat' with_reducible apply And.intro) <;> first | with_reducible exact True.intro | rfl | with_reducible rfl | (congr 1 <;> omega) | trivial)
 ·((try simp only [v8Y, Nat.beq, Nat.ble, seval, tabs]); (repeat' with_reducible apply And.intro) <;> first | with_reducible exact True.intro | (simp only [List.replicate_zero, List.append_nil, Nat.add_zero]) | with_reducible rfl | (congr 1 <;> omega) | trivial)
 ·obtain ⟨k, v⟩ := x
  simp only at hx2 ⊢
  have hlk : (zs ++ List.replicate k (0 : Int)).length = xs.length + 32 + n + k := by rw [List.length_append, List.length_replicate, hzl]
  (simp only [v8Y, Nat.beq, Nat.ble, seval, tabs])
  by_cases hc1 : k < padN n
  ·have d1 : decide ((0 : Int) < ((xs.length + 32 + n + k : Nat) : Int) % 32) = true := decide_eq_true (by unfold padN at hc1; omega)
   have hr : zs ++ List.replicate (k + 1) (0 : Int) = zs ++ List.replicate k 0 ++ [0] := by rw [List.append_assoc, List.replicate_succ']
   ((repeat (first | (with_reducible refine Vc.seq fun N hN => ?_) | ((with_reducible refine And.intro ?_ ?_); exact sdB) | ((first | ((with_reducible refine Vc.hold ?_); first | refine Vc.regiont T0_ok GD1_ok ?_)); (try simp only [v8Y, Nat.beq, Nat.ble, seval, tabs, GD1_set, d1])) | ((with_reducible refine hN _ _ ?_); clear hN N))))
   (refine Vc.cond T0_ok (t := true) (by rfl) (fun _ => ?_) (fun h => Bool.noConfusion h))
   ((repeat (first | (with_reducible refine Vc.block ?_) | ((first | with_reducible refine Vc.skip ?_); dsimp only [thenK, blockK, Nat.beq]; (first | (refine hN _ _ ?_; clear hN N))) | (with_reducible intro _) | ((with_reducible refine And.intro ?_ ?_); exact sX16) | ((first | ((with_reducible refine Vc.hold ?_); first | refine Vc.regiont T0_ok GD1_ok ?_)); (try simp only [v8Y, Nat.beq, Nat.ble, seval, tabs, GD1_set, List.take_succ_cons, List.take_zero, List.drop_zero])))))
   rename_i _ v3
   refine ⟨(k + 1, v3), by simp only; omega, ?_, ?_, by simp only; omega⟩
   ·((try simp only [v8Y, Nat.beq, Nat.ble, seval, tabs]); (repeat' with_reducible apply And.intro) <;> first | with_reducible exact True.intro | rfl | (congr 1 <;> omega))
   ·((try simp only [v8Y, Nat.beq, Nat.ble, seval, tabs]); (repeat' with_reducible apply And.intro) <;> first | with_reducible exact True.intro | (rw [hr]; rfl) | (congr 1 <;> omega))
  ·have d1 : decide ((0 : Int) < ((xs.length + 32 + n + k : Nat) : Int) % 32) = false := decide_eq_false (by unfold padN at hc1 hx2; omega)
   obtain rfl : k = padN n := by omega
   ((repeat (first | (with_reducible refine Vc.seq fun N hN => ?_) | ((with_reducible refine And.intro ?_ ?_); exact sdB) | ((first | ((with_reducible refine Vc.hold ?_); first | refine Vc.regiont T0_ok GD1_ok ?_)); (try simp only [v8Y, Nat.beq, Nat.ble, seval, tabs, GD1_set, d1])) | ((with_reducible refine hN _ _ ?_); clear hN N))))
   (refine Vc.cond T0_ok (t := false) (by rfl) (fun h => Bool.noConfusion h) (fun _ => ?_))
   ((repeat (first | (with_reducible refine Vc.seq fun N hN => ?_) | ((first | with_reducible refine Vc.exit ?_); dsimp only [thenK, blockK, Nat.beq]; (first | skip)) | ((with_reducible refine And.intro ?_ ?_); exact sdB) | ((first | ((with_reducible refine Vc.fin ?_); dsimp only [thenK, blockK, retK, resS, resOne, resAll]) | ((with_reducible refine Vc.hold ?_); first | refine Vc.regiont T0_ok GD1_ok ?_)); (try simp only [v8Y, Nat.beq, Nat.ble, seval, tabs, GD1_set])) | ((with_reducible refine hN _ _ ?_); clear hN N))); (try ((with_reducible refine Fin.of ?_); (try with_reducible exact True.intro))))
   (refine hN1 _ _ ?_; (try clear hN N); clear hN1 N1)
   ((repeat (first | (with_reducible refine Vc.seq fun N hN => ?_) | ((first | with_reducible refine Vc.exit ?_); dsimp only [thenK, blockK, Nat.beq]; (first | skip)) | ((with_reducible refine And.intro ?_ ?_); exact sdB) | ((first | ((with_reducible refine Vc.fin ?_); dsimp only [thenK, blockK, retK, resS, resOne, resAll]) | ((with_reducible refine Vc.hold ?_); first | refine Vc.regiont T0_ok GD1_ok ?_)); (try simp only [v8Y, Nat.beq, Nat.ble, seval, tabs, GD1_set])) | ((with_reducible refine hN _ _ ?_); clear hN N))); (try ((with_reducible refine Fin.of ?_); (try with_reducible exact True.intro))))
   have he : xs ++ abTail ys = zs ++ List.replicate (padN n) 0 := by unfold abTail; rw [← hb, hl]; simp only [List.append_assoc]
   rw [he, hlk]
   exact ⟨trivial, v, rfl, rfl⟩
def g_apTail (args : List SV) (m : List Blk) : CR :=
 match args with
 | [x, y] => apS 5 .u8 m x y (fun xs ys => xs.length ≤ 70000000 ∧ xs.length % 32 = 0 ∧ ys.length ≤ 70000000) (fun xs ys => xs ++ abTail ys)
 | _ => .none
theorem g_apTail_ok (w0 : World) (B : List Nat) (args : List SV) (m : List Blk) : CROk Tryd.prog w0 B 108 args m (g_apTail args m) := by
 unfold g_apTail
 split
 ·rename_i x y
  exact aps_ok Tryd.func108 rfl rfl (fun w B v xs ys a n cp ⟨h1, h2, h3⟩ hl hc ha hm => apTail_vc xs ys v a n cp hl hc ha h1 h2 (by omega) B w hm) w0 B m
 ·exact trivial
noncomputable def GD2 : Ctr := fun f args m => match f with
 | 52 => g_From args m
 | 43 => g_rFrom args m
 | 141 => g_Small args m
 | 109 => g_lowByte args m
 | 120 => g_Shl args m
 | 89 => g_Shr args m
 | 54 => g_Cmp args m
 | 53 => g_Add args m
 | 51 => g_Mul args m
 | 93 => g_length args m
 | 102 => g_Read args m
 | 79 => g_Addr args m
 | 67 => g_Wide args m
 | 101 => g_Bytes args m
 | 107 => g_Count args m
 | 108 => g_apTail args m
 | _ => .none
theorem GD2_ok : GOk Tryd.prog GD2 := by
 intro w0 B f args m; unfold GD2; split
 ·exact g_From_ok _ _ _ _
 ·exact g_rFrom_ok _ _ _ _
 ·exact g_Small_ok _ _ _ _
 ·exact g_lowByte_ok _ _ _ _
 ·exact g_Shl_ok _ _ _ _
 ·exact g_Shr_ok _ _ _ _
 ·exact g_Cmp_ok _ _ _ _
 ·exact g_Add_ok _ _ _ _
 ·exact g_Mul_ok _ _ _ _
 ·exact g_length_ok _ _ _ _
 ·exact g_Read_ok _ _ _ _
 ·exact g_Addr_ok _ _ _ _
 ·exact g_Wide_ok _ _ _ _
 ·exact g_Bytes_ok _ _ _ _
 ·exact g_Count_ok _ _ _ _
 ·exact g_apTail_ok _ _ _ _
 ·exact trivial
theorem GD2_From : GD2 52 = g_From := by funext args m; rfl
theorem GD2_rFrom : GD2 43 = g_rFrom := by funext args m; rfl
theorem GD2_Small : GD2 141 = g_Small := by funext args m; rfl
theorem GD2_lowByte : GD2 109 = g_lowByte := by funext args m; rfl
theorem GD2_Shl : GD2 120 = g_Shl := by funext args m; rfl
theorem GD2_Shr : GD2 89 = g_Shr := by funext args m; rfl
theorem GD2_Cmp : GD2 54 = g_Cmp := by funext args m; rfl
theorem GD2_Add : GD2 53 = g_Add := by funext args m; rfl
theorem GD2_Mul : GD2 51 = g_Mul := by funext args m; rfl
theorem GD2_length : GD2 93 = g_length := by funext args m; rfl
theorem GD2_Read : GD2 102 = g_Read := by funext args m; rfl
theorem GD2_Addr : GD2 79 = g_Addr := by funext args m; rfl
theorem GD2_Wide : GD2 67 = g_Wide := by funext args m; rfl
theorem GD2_Bytes : GD2 101 = g_Bytes := by funext args m; rfl
theorem GD2_Count : GD2 107 = g_Count := by funext args m; rfl
theorem GD2_apTail : GD2 108 = g_apTail := by funext args m; rfl
def GD2_set := And.intro (And.intro (And.intro (And.intro (And.intro (@GD2_From) (@g_From.eq_def)) (And.intro (@GD2_rFrom) (@g_rFrom.eq_def))) (And.intro (And.intro (@GD2_Small) (@g_Small.eq_def)) (And.intro (@GD2_lowByte) (@g_lowByte.eq_def)))) (And.intro (And.intro (And.intro (@GD2_Shl) (@g_Shl.eq_def)) (And.intro (@GD2_Shr) (@g_Shr.eq_def))) (And.intro (And.intro (@GD2_Cmp) (@g_Cmp.eq_def)) (And.intro (@GD2_Add) (@g_Add.eq_def))))) (And.intro (And.intro (And.intro (And.intro (@GD2_Mul) (@g_Mul.eq_def)) (And.intro (@GD2_length) (@g_length.eq_def))) (And.intro (And.intro (@GD2_Read) (@g_Read.eq_def)) (And.intro (@GD2_Addr) (@g_Addr.eq_def)))) (And.intro (And.intro (And.intro (@GD2_Wide) (@g_Wide.eq_def)) (And.intro (@GD2_Bytes) (@g_Bytes.eq_def))) (And.intro (And.intro (@GD2_Count) (@g_Count.eq_def)) (And.intro (@GD2_apTail) (@g_apTail.eq_def)))))

structure Prt where
 d : Bool
 w : Nat
 bs : List Int
def PtR (H : Nat → Obj → Prop) (r : List SV) (p : Prt) : Prop :=
 ∃ (x0 x1 x2 x3 : Int) (a : Option Addr) (n c : Nat), r = [.bool p.d, .int .u64 x0, .int .u64 x1, .int .u64 x2, .int .u64 x3, .gh a n c (.ints .u8 p.bs)] ∧ allU [x0, x1, x2, x3] ∧ numI [x0, x1, x2, x3] = p.w ∧
  p.bs.length = n ∧ n ≤ c ∧ adr a n c ∧ LiesH H a (cc (.ints .u8 p.bs)) ∧ allB p.bs ∧ n ≤ maxLen
def PsR (H : Nat → Obj → Prop) (rs : List (List SV)) (l : List Prt) : Prop :=
 rs.length = l.length ∧ (∀ r ∈ rs, r.length = 6) ∧ ∀ (i : Nat) (r : List SV) (p : Prt), rs[i]? = some r → l[i]? = some p → PtR H r p
def stE (N : Nat) (s : List Int × List Int) (p : Prt) : List Int × List Int :=
 if p.d = true then (s.1 ++ bytI (32 * N + s.2.length) 32, s.2 ++ abTail p.bs) else (s.1 ++ bytI p.w 32, s.2)
def encS (N : Nat) (l : List Prt) : List Int × List Int := l.foldl (stE N) ([], [])
theorem encS_s {N : Nat} {l : List Prt} {k : Nat} {p : Prt} (h : l[k]? = some p) : encS N (l.take (k + 1)) = stE N (encS N (l.take k)) p := by
 unfold encS
 rw [List.take_add_one, h, Option.toList_some, List.foldl_append]
 rfl
def psz : List Prt → Nat
 | [] => 0
 | p :: l => p.bs.length + 1 + psz l
theorem abTail_len (ys : List Int) : (abTail ys).length = 32 + ys.length + padN ys.length := by
 unfold abTail; rw [List.length_append, List.length_append, bytI_len, List.length_replicate]
theorem abTail_32 (ys : List Int) : (abTail ys).length % 32 = 0 := by rw [abTail_len]; unfold padN; omega
theorem psz_get : ∀ {l : List Prt} {k : Nat} {p : Prt}, l[k]? = some p → p.bs.length + 1 ≤ psz l
 | [], k, p, h => by simp at h
 | q :: l, 0, p, h => by simp at h; subst h; simp only [psz]; omega
 | q :: l, k + 1, p, h => by simp only [psz]; have := psz_get (l := l) (k := k) (p := p) (by simpa using h); omega
theorem psz_app : ∀ (x y : List Prt), psz (x ++ y) = psz x + psz y
 | [], y => by simp [psz]
 | p :: x, y => by simp only [List.cons_append, psz]; rw [psz_app x y]; omega
theorem psz_take (l : List Prt) (k : Nat) : psz (l.take k) ≤ psz l := by
 have := congrArg psz (List.take_append_drop k l)
 rw [psz_app] at this; omega
theorem psz_len : ∀ l : List Prt, l.length ≤ psz l
 | [] => Nat.le_refl _
 | p :: l => by simp only [psz, List.length_cons]; have := psz_len l; omega
theorem encS_fold (N : Nat) : ∀ (l : List Prt) (s : List Int × List Int), (l.foldl (stE N) s).1.length = s.1.length + 32 * l.length ∧ (l.foldl (stE N) s).2.length ≤ s.2.length + 64 * psz l ∧ (s.2.length % 32 = 0 → (l.foldl (stE N) s).2.length % 32 = 0)
 | [], s => by simp [psz]
 | p :: l, s => by
  have ih := encS_fold N l (stE N s p)
  simp only [List.foldl_cons, psz, List.length_cons]
  have h1 : (stE N s p).1.length = s.1.length + 32 := by unfold stE; split <;> simp [bytI_len]
  have h2 : (stE N s p).2.length ≤ s.2.length + 64 * (p.bs.length + 1) ∧ (s.2.length % 32 = 0 → (stE N s p).2.length % 32 = 0) := by
   unfold stE
   split
   ·have h3 := abTail_len p.bs
    have h4 := abTail_32 p.bs
    have h5 := padN_le p.bs.length
    simp only [List.length_append]
    exact ⟨by omega, by omega⟩
   ·exact ⟨by show s.2.length ≤ _; omega, id⟩
  exact ⟨by omega, by omega, fun h => ih.2.2 (h2.2 h)⟩
theorem encS_len (N : Nat) (l : List Prt) : (encS N l).1.length = 32 * l.length ∧ (encS N l).2.length ≤ 64 * psz l ∧ (encS N l).2.length % 32 = 0 := by
 have := encS_fold N l ([], [])
 exact ⟨by simpa [encS] using this.1, by simpa [encS] using this.2.1, this.2.2 rfl⟩
def abEnc (l : List Prt) : List Int := (encS l.length l).1 ++ (encS l.length l).2
theorem put_head {hs ts zs : List Int} {k n : Nat} (h : hs.length = 32 * k) (hk : k < n) (hz : zs.length = 32) : (hs ++ List.replicate (32 * (n - k)) (0 : Int) ++ ts).take (32 * k) ++ zs ++ (hs ++ List.replicate (32 * (n - k)) (0 : Int) ++ ts).drop (32 * k + 32) = hs ++ zs ++ List.replicate (32 * (n - (k + 1))) 0 ++ ts := by
 have e : List.replicate (32 * (n - k)) (0 : Int) = List.replicate 32 0 ++ List.replicate (32 * (n - (k + 1))) 0 := by rw [List.replicate_append_replicate]; congr 1; omega
 have eA : hs ++ List.replicate (32 * (n - k)) (0 : Int) ++ ts = hs ++ (List.replicate 32 0 ++ (List.replicate (32 * (n - (k + 1))) 0 ++ ts)) := by rw [e]; simp only [List.append_assoc]
 rw [eA, ← List.drop_drop, List.take_left' h, List.drop_left' h, List.drop_left' (by simp)]
 simp only [List.append_assoc]
theorem numI_lt {x0 x1 x2 x3 : Int} (h : allU [x0, x1, x2, x3]) : numI [x0, x1, x2, x3] < W := by
 obtain ⟨h0, h1, h2, h3, _⟩ := h
 simp only [numI, num]
 unfold W
 omega
set_option maxRecDepth 20000 in
theorem abEnc_vc (a : Option Addr) (n c : Nat) (rs : List (List SV)) (l : List Prt) (hl : l.length = n) (hc : n ≤ c) (ha : adr a n c) (hz : psz l ≤ 100000) (w : World) (hL : LiesH (H0 w) a (cc (.rows 6 rs))) (hR : PsR (H0 w) rs l) :
  Calls Tryd.prog 76 (cvs [.gh a n c (.rows 6 rs)]).toArray w (fun en w' => ∃ u, en = .returned u ∧ ∃ v' m', u = cv v' ∧ MemOk w [] m' w' ∧ ∃ k s, v' = .own k s (abEnc l).length ∧ bget m' k = .own s (abEnc l).length 5 1 (.ints .u8 (abEnc l))) := by
 obtain ⟨r1, r2, r3⟩ := hR
 have hLx : ∀ m, allOld w ∈ m → LiesH (HM m) a (cc (.rows 6 rs)) := fun m hin => hL.mono fun b o h => ⟨_, hin, h⟩
 have hnl := psz_len l
 have t1 : (32 * (n : Int)).toNat = 32 * n := by omega
 refine Vc.calls T0_ok Tryd.func76 rfl rfl (args := [.gh a n c (.rows 6 rs)]) (k := 37) rfl (old_start w) ?_; change Vc _ _ (c8 (.gh a n c (.rows 6 rs)) .undef .undef .undef .undef .undef .undef .undef (c8 .undef .undef .undef .undef .undef .undef .undef .undef (c8 .undef .undef .undef .undef .undef .undef .undef .undef (c8 .undef .undef .undef .undef .undef .undef .undef .undef ([.undef, .undef, .undef, .undef, .undef, .undef]))))) _ _
 ((repeat (first | (with_reducible first | refine Vc.seq fun N hN => ?_ | refine Vc.block ?_) | (with_reducible intro _) | ((with_reducible refine And.intro ?_ ?_); (focus (first | ((repeat' with_reducible apply And.intro) <;> first | exact sideQ | (exact hLx _ List.mem_cons_self)) | exact sd0))) | ((first | ((with_reducible refine Vc.hold ?_); first | refine Vc.regiont T0_ok GD2_ok ?_)); (try simp only [v8Y, Nat.beq, Nat.ble, seval, tabs, GD2_set, t1])) | ((with_reducible refine hN _ _ ?_); clear hN N))))
 rename_i v0
 (revert N; intro N1 hN1)
 refine Vc.loop 3 38 (fun (x : (Nat × List Int × List Int) × Value) => [(3, .own 1 x.2 (32 * n + x.1.2.2.length)), (11, .gh a n c (.rows 6 rs)), (12, .int .i64 (n : Nat)), (13, .int .i64 (x.1.1 : Nat))]) (fun x => [allOld w, .own x.2 (32 * n + x.1.2.2.length) 5 1 (.ints .u8 (x.1.2.1 ++ List.replicate (32 * (n - x.1.1)) 0 ++ x.1.2.2))]) (fun x => x.1.1 ≤ n ∧ (x.1.2.1, x.1.2.2) = encS n (l.take x.1.1)) (fun x => n - x.1.1) ((0, [], []), v0) ⟨⟨Nat.zero_le _, rfl⟩, ?_, ?_⟩ (fun x junk hx2 => ?_)
 ·((try simp only [v8Y, Nat.beq, Nat.ble, seval, tabs]); (repeat' with_reducible apply And.intro) <;> first | with_reducible exact True.intro | (simp only [List.length_nil, Nat.add_zero]) | with_reducible rfl | (congr 1 <;> omega) | trivial)
 ·((try simp only [v8Y, Nat.beq, Nat.ble, seval, tabs]); (repeat' with_reducible apply And.intro) <;> first | with_reducible exact True.intro | (simp only [List.nil_append, List.append_nil, List.length_nil, Nat.add_zero, Nat.sub_zero]) | with_reducible rfl | (congr 1 <;> omega) | trivial)
 ·obtain ⟨⟨k, hs, ts⟩, v⟩ := x
  simp only at hx2 ⊢
  obtain ⟨hk1, hst⟩ := hx2
  obtain ⟨q1, q2, q3⟩ := encS_len n (l.take k)
  rw [← hst] at q1 q2 q3
  simp only [List.length_take] at q1 q2 q3
  have hpz := psz_take l k
  (simp only [v8Y, Nat.beq, Nat.ble, seval, tabs])
  by_cases hc1 : k < n
  ·have d1 : decide ((k : Int) < (n : Int)) = true := decide_eq_true (by omega)
   have e1 := List.getElem?_eq_getElem (show k < rs.length by omega)
   have e2 := List.getElem?_eq_getElem (show k < l.length by omega)
   have hp := r3 k _ _ e1 e2
   have hgd := getD_of e1
   have hnx := encS_s (N := n) e2
   have hpg := psz_get e2
   rw [← hst] at hnx
   generalize rs[k] = r at *
   generalize l[k] = p at *
   obtain ⟨x0, x1, x2, x3, pa, pn, pc, rfl, g1, g2, g3, g4, g5, g6, g7, g8⟩ := hp
   obtain ⟨pd, pw, ps⟩ := p
   simp only at g2 g3 g6 g7 hgd hnx hpg
   have hLp : ∀ m, allOld w ∈ m → LiesH (HM m) pa (cc (.ints .u8 ps)) := fun m hin => g6.mono (H0.hm hin)
   have t2 : (32 * (k : Int)).toNat = 32 * k := by omega
   have u4 : (bytI pw 32).take 32 = bytI pw 32 := List.take_of_length_le (by rw [bytI_len]; exact Nat.le_refl _)
   have hpw : pw < W := by rw [← g2]; exact numI_lt g1
   cases pd with
   | false =>
    have hmn : min 32 (32 * n + ts.length - 32 * k) = 32 := by omega
    have hph := put_head (ts := ts) (zs := bytI pw 32) (show hs.length = 32 * k by omega) hc1 (bytI_len _ _)
    ((repeat (first | (with_reducible refine Vc.seq fun N hN => ?_) | ((with_reducible refine And.intro ?_ ?_); exact sdB) | ((first | ((with_reducible refine Vc.hold ?_); first | refine Vc.regiont T0_ok GD2_ok ?_)); (try simp only [v8Y, Nat.beq, Nat.ble, seval, tabs, GD2_set, d1])) | ((with_reducible refine hN _ _ ?_); clear hN N))))
    (refine Vc.cond T0_ok (t := true) (by rfl) (fun _ => ?_) (fun h => Bool.noConfusion h))
    ((repeat (first | (with_reducible first | refine Vc.seq fun N hN => ?_ | refine Vc.block ?_) | ((first | with_reducible refine Vc.skip ?_); dsimp only [thenK, blockK, Nat.beq]; (first | (refine hN _ _ ?_; clear hN N))) | (with_reducible intro _) | ((with_reducible refine And.intro ?_ ?_); exact sX13) | ((first | ((with_reducible refine Vc.hold ?_); first | refine Vc.regiont T0_ok GD2_ok ?_)); (try simp only [v8Y, Nat.beq, Nat.ble, seval, tabs, GD2_set, hgd, g2, tnc, conEs.eq_def, conN.eq_def])) | ((with_reducible refine hN _ _ ?_); clear hN N))))
    (refine Vc.cond T0_ok (t := false) (by rfl) (fun h => Bool.noConfusion h) (fun _ => ?_))
    ((repeat (first | ((first | with_reducible refine Vc.skip ?_); dsimp only [thenK, blockK, Nat.beq]; (first | (refine hN _ _ ?_; clear hN N))) | (with_reducible intro _) | ((with_reducible refine And.intro ?_ ?_); exact sX13) | ((first | ((with_reducible refine Vc.hold ?_); first | refine Vc.regiont T0_ok GD2_ok ?_ | refine Vc.drawt (id := 9) T0_ok GD2_ok (by kernel_rfl) [0, 1, 2, 3, 4, 5] 6 [] trivial (by kernel_rfl) ?_)); (try simp only [v8Y, Nat.beq, Nat.ble, seval, tabs, GD2_set, t2, g2, hmn, u4, hph, bytI_len, List.drop_zero, tnc, conEs.eq_def, conN.eq_def])) | ((with_reducible refine hN _ _ ?_); clear hN N))))
    refine ⟨((k + 1, hs ++ bytI pw 32, ts), v), ⟨by simp only; omega, by rw [hnx]; rfl⟩, ?_, ?_, by simp only; omega⟩
    ·((try simp only [v8Y, Nat.beq, Nat.ble, seval, tabs]); (repeat' with_reducible apply And.intro) <;> first | with_reducible exact True.intro | rfl | (congr 1 <;> omega))
    ·((try simp only [v8Y, Nat.beq, Nat.ble, seval, tabs]); (repeat' with_reducible apply And.intro) <;> first | with_reducible exact True.intro | rfl | (congr 1 <;> omega))
   | true =>
    have hal := abTail_len ps
    have hpl := padN_le ps.length
    have hla : (ts ++ abTail ps).length = ts.length + (abTail ps).length := List.length_append
    have hcl : (hs ++ List.replicate (32 * (n - k)) (0 : Int) ++ ts).length = 32 * n + ts.length := by rw [List.length_append, List.length_append, List.length_replicate]; omega
    have hl2 : (hs ++ List.replicate (32 * (n - k)) (0 : Int) ++ ts ++ abTail ps).length = 32 * n + (ts ++ abTail ps).length := by rw [List.length_append, hcl, hla]; omega
    have hmn : min 32 (32 * n + (ts ++ abTail ps).length - 32 * k) = 32 := by omega
    have u5 : (bytI (32 * n + ts.length) 32).take 32 = bytI (32 * n + ts.length) 32 := List.take_of_length_le (by rw [bytI_len]; exact Nat.le_refl _)
    have hph : (hs ++ List.replicate (32 * (n - k)) (0 : Int) ++ ts ++ abTail ps).take (32 * k) ++ bytI (32 * n + ts.length) 32 ++ (hs ++ List.replicate (32 * (n - k)) (0 : Int) ++ ts ++ abTail ps).drop (32 * k + 32) = hs ++ bytI (32 * n + ts.length) 32 ++ List.replicate (32 * (n - (k + 1))) 0 ++ (ts ++ abTail ps) := by
     rw [List.append_assoc (hs ++ List.replicate (32 * (n - k)) (0 : Int))]
     exact put_head (ts := ts ++ abTail ps) (zs := bytI (32 * n + ts.length) 32) (show hs.length = 32 * k by omega) hc1 (bytI_len _ _)
    have up : ps.take pn = ps := List.take_of_length_le (by omega)
    have hW : 32 * n + ts.length < W := by unfold W; omega
    ((repeat (first | (with_reducible refine Vc.seq fun N hN => ?_) | ((with_reducible refine And.intro ?_ ?_); exact sdB) | ((first | ((with_reducible refine Vc.hold ?_); first | refine Vc.regiont T0_ok GD2_ok ?_)); (try simp only [v8Y, Nat.beq, Nat.ble, seval, tabs, GD2_set, d1])) | ((with_reducible refine hN _ _ ?_); clear hN N))))
    (refine Vc.cond T0_ok (t := true) (by rfl) (fun _ => ?_) (fun h => Bool.noConfusion h))
    ((repeat (first | (with_reducible first | refine Vc.seq fun N hN => ?_ | refine Vc.block ?_) | ((first | with_reducible refine Vc.skip ?_); dsimp only [thenK, blockK, Nat.beq]; (first | (refine hN _ _ ?_; clear hN N))) | (with_reducible intro _) | ((with_reducible refine And.intro ?_ ?_); exact sX13) | ((first | ((with_reducible refine Vc.hold ?_); first | refine Vc.regiont T0_ok GD2_ok ?_)); (try simp only [v8Y, Nat.beq, Nat.ble, seval, tabs, GD2_set, hgd, g2, tnc, conEs.eq_def, conN.eq_def])) | ((with_reducible refine hN _ _ ?_); clear hN N))))
    (refine Vc.cond T0_ok (t := true) (by rfl) (fun _ => ?_) (fun h => Bool.noConfusion h))
    ((repeat (first | (with_reducible refine Vc.seq fun N hN => ?_) | (with_reducible intro _) | ((with_reducible refine And.intro ?_ ?_); (focus (first | ((repeat' with_reducible apply And.intro) <;> first | exact sideQ | (exact hLx _ List.mem_cons_self) | (exact hLp _ List.mem_cons_self) | (simp [noAlias]; done)) | exact sd0))) | ((first | ((with_reducible refine Vc.hold ?_); first | refine Vc.regiont T0_ok GD2_ok ?_ | refine Vc.drawt (id := 9) T0_ok GD2_ok (by kernel_rfl) [0, 1, 2, 3, 4, 5] 6 [] trivial (by kernel_rfl) ?_)); (try simp only [v8Y, Nat.beq, Nat.ble, seval, tabs, GD2_set, t2, g2, up, hmn, u5, hph, hcl, hl2, bytI_len, List.drop_zero, tnc, conEs.eq_def, conN.eq_def])) | ((with_reducible refine hN _ _ ?_); clear hN N))))
    rename_i v1 _ _ _
    refine ⟨((k + 1, hs ++ bytI (32 * n + ts.length) 32, ts ++ abTail ps), v1), ⟨by simp only; omega, by rw [hnx]; rfl⟩, ?_, ?_, by simp only; omega⟩
    ·((try simp only [v8Y, Nat.beq, Nat.ble, seval, tabs]); (repeat' with_reducible apply And.intro) <;> first | with_reducible exact True.intro | rfl | (congr 1 <;> omega))
    ·((try simp only [v8Y, Nat.beq, Nat.ble, seval, tabs]); (repeat' with_reducible apply And.intro) <;> first | with_reducible exact True.intro | rfl | (congr 1 <;> omega))
  ·obtain rfl : k = n := by omega
   have d1 : decide ((k : Int) < (k : Int)) = false := decide_eq_false (by omega)
   have ht : l.take k = l := List.take_of_length_le (by omega)
   rw [ht] at hst
   have hfin : abEnc l = hs ++ ts := by unfold abEnc; rw [hl, ← hst]
   have hfl : (abEnc l).length = 32 * k + ts.length := by rw [hfin, List.length_append]; omega
   ((repeat (first | (with_reducible refine Vc.seq fun N hN => ?_) | ((with_reducible refine And.intro ?_ ?_); exact sdB) | ((first | ((with_reducible refine Vc.hold ?_); first | refine Vc.regiont T0_ok GD2_ok ?_)); (try simp only [v8Y, Nat.beq, Nat.ble, seval, tabs, GD2_set, d1])) | ((with_reducible refine hN _ _ ?_); clear hN N))))
   (refine Vc.cond T0_ok (t := false) (by rfl) (fun h => Bool.noConfusion h) (fun _ => ?_))
   ((repeat (first | (with_reducible refine Vc.seq fun N hN => ?_) | ((first | with_reducible refine Vc.exit ?_); dsimp only [thenK, blockK, Nat.beq]; (first | skip)) | ((with_reducible refine And.intro ?_ ?_); exact sdB) | ((first | ((with_reducible refine Vc.fin ?_); dsimp only [thenK, blockK, retK, resS, resOne, resAll]) | ((with_reducible refine Vc.hold ?_); first | refine Vc.regiont T0_ok GD2_ok ?_)); (try simp only [v8Y, Nat.beq, Nat.ble, seval, tabs, GD2_set])) | ((with_reducible refine hN _ _ ?_); clear hN N))); (try ((with_reducible refine Fin.of ?_); (try with_reducible exact True.intro))))
   (refine hN1 _ _ ?_; (try clear hN N); clear hN1 N1)
   ((repeat (first | (with_reducible refine Vc.seq fun N hN => ?_) | ((first | with_reducible refine Vc.exit ?_); dsimp only [thenK, blockK, Nat.beq]; (first | skip)) | ((with_reducible refine And.intro ?_ ?_); exact sdB) | ((first | ((with_reducible refine Vc.fin ?_); dsimp only [thenK, blockK, retK, resS, resOne, resAll]) | ((with_reducible refine Vc.hold ?_); first | refine Vc.regiont T0_ok GD2_ok ?_)); (try simp only [v8Y, Nat.beq, Nat.ble, seval, tabs, GD2_set])) | ((with_reducible refine hN _ _ ?_); clear hN N))); (try ((with_reducible refine Fin.of ?_); (try with_reducible exact True.intro))))
   refine ⟨trivial, 1, v, by rw [hfl], ?_⟩
   rw [hfl, hfin, Nat.sub_self, Nat.mul_zero, List.replicate_zero, List.append_nil]
   rfl
theorem PsR.mono {H H' : Nat → Obj → Prop} (hh : ∀ b o, H b o → H' b o) {rs : List (List SV)} {l : List Prt} (h : PsR H rs l) : PsR H' rs l :=
 ⟨h.1, h.2.1, fun i r p h1 h2 => by
  obtain ⟨x0, x1, x2, x3, a, n, c, e, g1, g2, g3, g4, g5, g6, g7, g8⟩ := h.2.2 i r p h1 h2
  exact ⟨x0, x1, x2, x3, a, n, c, e, g1, g2, g3, g4, g5, g6.mono hh, g7, g8⟩⟩
theorem PsR.uniq {H H' : Nat → Obj → Prop} {rs : List (List SV)} {l l' : List Prt} (h : PsR H rs l) (h' : PsR H' rs l') : l = l' := by
 apply List.ext_getElem?
 intro i
 by_cases hi : i < rs.length
 ·have e1 := List.getElem?_eq_getElem hi
  obtain ⟨⟨pd, pw, ps⟩, hp⟩ : ∃ p, l[i]? = some p := ⟨_, List.getElem?_eq_getElem (show i < l.length by rw [← h.1]; exact hi)⟩
  obtain ⟨⟨pd', pw', ps'⟩, hp'⟩ : ∃ p, l'[i]? = some p := ⟨_, List.getElem?_eq_getElem (show i < l'.length by rw [← h'.1]; exact hi)⟩
  rw [hp, hp']
  obtain ⟨x0, x1, x2, x3, a, n, c, e, g1, g2, g3, g4, g5, g6, g7, g8⟩ := h.2.2 i _ _ e1 hp
  obtain ⟨y0, y1, y2, y3, b, m, d, f, k1, k2, k3, k4, k5, k6, k7, k8⟩ := h'.2.2 i _ _ e1 hp'
  rw [e] at f
  simp only [List.cons.injEq, SV.bool.injEq, SV.int.injEq, SV.gh.injEq, Con.ints.injEq, true_and, and_true] at f g2 k2
  obtain ⟨rfl, rfl, rfl, rfl, rfl, f1, f2, f3, rfl⟩ := f
  rw [← g2, ← k2]
 ·rw [List.getElem?_eq_none (by rw [← h.1]; omega), List.getElem?_eq_none (by rw [← h'.1]; omega)]
noncomputable def lOf (rs : List (List SV)) : List Prt := Classical.epsilon fun l => ∃ H, PsR H rs l
theorem lOf_eq {H : Nat → Obj → Prop} {rs : List (List SV)} {l : List Prt} (h : PsR H rs l) : lOf rs = l := by
 have h1 : ∃ H', PsR H' rs (lOf rs) := Classical.epsilon_spec (p := fun l => ∃ H, PsR H rs l) ⟨l, H, h⟩
 obtain ⟨H', h2⟩ := h1
 exact h2.uniq h
noncomputable def g_abEnc (args : List SV) (m : List Blk) : CR :=
 match args with
 | [.gh a n c (.rows 6 rs)] => .own (∃ l, PsR (HM m) rs l ∧ l.length = n ∧ n ≤ c ∧ adr a n c ∧ psz l ≤ 100000 ∧ LiesH (HM m) a (cc (.rows 6 rs))) 5 1 (abEnc (lOf rs)).length (.ints .u8 (abEnc (lOf rs))) (fun v => v)
 | _ => .none
theorem g_abEnc_ok (w0 : World) (B : List Nat) (args : List SV) (m : List Blk) : CROk Tryd.prog w0 B 76 args m (g_abEnc args m) := by
 unfold g_abEnc
 split
 ·rename_i a n c rs
  intro ⟨l, hR, h1, h2, h3, h4, h5⟩ w hm
  rw [lOf_eq hR]
  exact own_new Tryd.func76 rfl rfl hm (abEnc_vc a n c rs l h1 h2 h3 h4 w (h5.mono fun b o h => hm.hm h) (hR.mono fun b o h => hm.hm h))
 ·exact trivial
end Go.Proofs.YthdpgfdfgidokaaDoor

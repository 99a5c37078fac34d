/-
 ABI: Selector walked (package abi): a string's bytes in a row of their own. No condition.
-/
import Derived.Test.YthdpgfdfgidokaaDoorD2
import Derived.Test.YthdpgfdfgidokaaDoorKC
import Derived.Lib.ConvBytes
set_option maxRecDepth 10000
set_option maxHeartbeats 4000000
set_option linter.defProp false
set_option linter.unusedVariables false
set_option linter.unusedSimpArgs false
namespace Go.Proofs.YthdpgfdfgidokaaDoor
open Go.RowKit
theorem grown_bytes (w : World) (e : TypeId) (s : ByteArray) : w.grownBy (Lib.bytesWorld w e s) none := by
 refine ⟨?_, ?_, ?_, by rw [Lib.bytesWorld_size]; omega, fun k hk _ => Lib.bytesWorld_at_old w e s k hk⟩ <;>
  simp [Lib.bytesWorld, World.freeze, World.alloc, World.drew, -World.alloc_eq, -World.drew_eq]
theorem lies_bytes (w : World) (e : TypeId) (xs : List Int) (hx : allB xs) {M : List Blk} {b : Nat} {fr : Nat × Nat} (h : Blk.heap [(b, .cells (Lib.bytesCells w e (bytesOf xs)) e fr)] ∈ M) : LiesH (HM M) (some ⟨b, 0, none⟩) (cc (.ints .u8 xs)) := by
 refine .inr ⟨b, 0, _, _, _, rfl, ⟨_, h, List.mem_singleton.2 rfl⟩, fun j u hj => ?_⟩
 have hjl : j < xs.length := by
  have := (List.getElem?_eq_some_iff.1 hj).1
  simpa [cc] using this
 rw [Nat.zero_add]
 have e1 : (Lib.bytesCells w e (bytesOf xs)).toList = xs.map (Value.int .u8) ++ (Array.replicate (grownCap w (bytesOf xs).size 0 e - (bytesOf xs).size) (Value.int .u8 0)).toList := by
  unfold Lib.bytesCells
  rw [Array.toList_append, Array.toList_map, bytesOf_data, List.map_map]
  congr 1
  apply List.map_congr_left
  intro x hxm
  have := hx x hxm
  simp only [Function.comp, Value.int.injEq, true_and]
  rw [UInt8.toNat_ofNat']
  omega
 rw [← Array.getElem?_toList, e1, List.getElem?_append_left (by rw [List.length_map]; exact hjl)]
 exact hj
theorem Vc.regionCnv {P : Program} {T : Tab} (hT : TabOk P T) {G : Ctr} (hG : GOk P G) {id : Nat} {pre rest all : List Oper} {d : Tmp} {s t e : TypeId} {es eb : Nat} {x : Operand} {ty : TypeId} {pos : String} {af : Array Edge} {env : List SV} {m : List Blk} {K : Kont}
  (ha : all = pre ++ (⟨some d, .convert s t x, ty, pos, af, none⟩ :: rest)) (hs : T.ty s = .str)
  (ht : T.ty t = .sl e es eb) (he : T.ty e = .int .u8)
  (h : vcOpst .go T G all pre env m (fun _ env' m' => ∃ xs, ev T env' x = .str xs ∧ allB xs ∧
   ∀ (b cap : Nat) (o : Obj), xs.length ≤ cap → (∀ M, Blk.heap [(b, o)] ∈ M → LiesH (HM M) (some ⟨b, 0, none⟩) (cc (.ints .u8 xs))) →
    vcOpst .go T G all rest (sset env' d (.gh (some ⟨b, 0, none⟩) xs.length cap (.ints .u8 xs))) (bpush m' (.heap [(b, o)])) (fun _ => K .normal))) :
  Vc P (.region id all.toArray false) env m K := by
 intro w0 B a w hf hd hm
 refine wp_region_lit ?_
 show wpList P all.toArray _ all a w
 conv => arg 4; rw [ha]
 refine vcOps_pre hT hG (ds := []) (fun env m a w hf hd hm h4 => ?_) pre env m a w h hf hd hm
 obtain ⟨xs, hz, hx, h⟩ := h4
 unfold wpList
 rw [if_pos (by simp [Region.wanted])]
 refine .inl ?_
 have hxv : a.eval x = .string (bytesOf xs) := by
  have := hf.ev hT.gl x
  rw [hz] at this
  exact this
 have hc := Lib.run_convert_string_bytes (P := P) w s t e (bytesOf xs) (u := .string) (by have := hT.ty s; rw [hs] at this; exact this) (by have := hT.ty t; rw [ht] at this; exact this.1) (by have := hT.ty e; rw [he] at this; exact this)
 refine wp_of_run (w' := Lib.bytesWorld w e (bytesOf xs)) (u := .slice (some ⟨w.heap.size, 0, none⟩) (bytesOf xs).size (grownCap w (bytesOf xs).size 0 e)) (by
  simp only [execOp, hxv, Sem.run_bind, hc, Result.andThen_ok, Sem.run_pure]) ?_
 have hm' := hm.push (grown_bytes w e (bytesOf xs)) (e := .heap [(w.heap.size, .cells (Lib.bytesCells w e (bytesOf xs)) e ((Lib.bytesCells w e (bytesOf xs)).size, (Lib.bytesCells w e (bytesOf xs)).size + 1))])
  (fun p hp => by rw [List.mem_singleton] at hp; subst hp; exact ⟨Lib.bytesWorld_at_new _ _ _, .inl hm.size⟩)
  (fun b hb => by simp only [Blk.nums, List.map_cons, List.map_nil, List.mem_singleton] at hb; omega)
  (by simp [Blk.nums])
 rw [← bpush_eq] at hm'
 rw [bytesOf_size]
 refine vcOps_sound hT hG (ds := []) (fun e m a w h1 h2 h3 h4 => ⟨e, m, h1, h2, h3, h4⟩) rest _ _ _ _ (h w.heap.size (grownCap w xs.length 0 e) _ (grownCap_ge _ _ _ _) (fun M hM => lies_bytes w e xs hx hM)) (hf.put (some d) (.gh (some ⟨w.heap.size, 0, none⟩) xs.length (grownCap w xs.length 0 e) (.ints .u8 xs))) (by rw [← hd]; rfl) hm'
def selB (xs : List Int) : List Int := (bytI (kSum xs) 32).take 4
noncomputable def GD3 : Ctr := fun f args m => match f with
 | 52 => g_From args m
 | 43 => g_rFrom args m
 | 141 => g_Small args m
 | 109 => g_lowByte args m
 | 120 => g_Shl args m
 | 89 => g_Shr args m
 | 54 => g_Cmp args m
 | 53 => g_Add args m
 | 51 => g_Mul args m
 | 93 => g_length args m
 | 102 => g_Read args m
 | 79 => g_Addr args m
 | 67 => g_Wide args m
 | 101 => g_Bytes args m
 | 107 => g_Count args m
 | 108 => g_apTail args m
 | 76 => g_abEnc args m
 | 100 => g_kSum args m
 | _ => .none
theorem GD3_ok : GOk Tryd.prog GD3 := by
 intro w0 B f args m; unfold GD3; split
 ·exact g_From_ok _ _ _ _
 ·exact g_rFrom_ok _ _ _ _
 ·exact g_Small_ok _ _ _ _
 ·exact g_lowByte_ok _ _ _ _
 ·exact g_Shl_ok _ _ _ _
 ·exact g_Shr_ok _ _ _ _
 ·exact g_Cmp_ok _ _ _ _
 ·exact g_Add_ok _ _ _ _
 ·exact g_Mul_ok _ _ _ _
 ·exact g_length_ok _ _ _ _
 ·exact g_Read_ok _ _ _ _
 ·exact g_Addr_ok _ _ _ _
 ·exact g_Wide_ok _ _ _ _
 ·exact g_Bytes_ok _ _ _ _
 ·exact g_Count_ok _ _ _ _
 ·exact g_apTail_ok _ _ _ _
 ·exact g_abEnc_ok _ _ _ _
 ·exact g_kSum_ok _ _ _ _
 ·exact trivial
theorem GD3_From : GD3 52 = g_From := by funext args m; rfl
theorem GD3_rFrom : GD3 43 = g_rFrom := by funext args m; rfl
theorem GD3_Small : GD3 141 = g_Small := by funext args m; rfl
theorem GD3_lowByte : GD3 109 = g_lowByte := by funext args m; rfl
theorem GD3_Shl : GD3 120 = g_Shl := by funext args m; rfl
theorem GD3_Shr : GD3 89 = g_Shr := by funext args m; rfl
theorem GD3_Cmp : GD3 54 = g_Cmp := by funext args m; rfl
theorem GD3_Add : GD3 53 = g_Add := by funext args m; rfl
theorem GD3_Mul : GD3 51 = g_Mul := by funext args m; rfl
theorem GD3_length : GD3 93 = g_length := by funext args m; rfl
theorem GD3_Read : GD3 102 = g_Read := by funext args m; rfl
theorem GD3_Addr : GD3 79 = g_Addr := by funext args m; rfl
theorem GD3_Wide : GD3 67 = g_Wide := by funext args m; rfl
theorem GD3_Bytes : GD3 101 = g_Bytes := by funext args m; rfl
theorem GD3_Count : GD3 107 = g_Count := by funext args m; rfl
theorem GD3_apTail : GD3 108 = g_apTail := by funext args m; rfl
theorem GD3_abEnc : GD3 76 = g_abEnc := by funext args m; rfl
theorem GD3_kSum : GD3 100 = g_kSum := by funext args m; rfl
def GD3_set := And.intro (And.intro (And.intro (And.intro (And.intro (@GD3_From) (@g_From.eq_def)) (And.intro (@GD3_rFrom) (@g_rFrom.eq_def))) (And.intro (And.intro (@GD3_Small) (@g_Small.eq_def)) (And.intro (@GD3_lowByte) (And.intro (@g_lowByte.eq_def) (@GD3_Shl))))) (And.intro (And.intro (And.intro (@g_Shl.eq_def) (@GD3_Shr)) (And.intro (@g_Shr.eq_def) (@GD3_Cmp))) (And.intro (And.intro (@g_Cmp.eq_def) (@GD3_Add)) (And.intro (@g_Add.eq_def) (And.intro (@GD3_Mul) (@g_Mul.eq_def)))))) (And.intro (And.intro (And.intro (And.intro (@GD3_length) (@g_length.eq_def)) (And.intro (@GD3_Read) (@g_Read.eq_def))) (And.intro (And.intro (@GD3_Addr) (@g_Addr.eq_def)) (And.intro (@GD3_Wide) (And.intro (@g_Wide.eq_def) (@GD3_Bytes))))) (And.intro (And.intro (And.intro (@g_Bytes.eq_def) (@GD3_Count)) (And.intro (@g_Count.eq_def) (@GD3_apTail))) (And.intro (And.intro (@g_apTail.eq_def) (@GD3_abEnc)) (And.intro (@g_abEnc.eq_def) (And.intro (@GD3_kSum) (@g_kSum.eq_def))))))

theorem sel_vc (xs : List Int) (hx : allB xs) (hl : xs.length ≤ 1000000) (w : World) (hm : MemOk w [] [.ro (some ⟨1, 0, none⟩) (.ints .u64 kKeys), .ro (some ⟨2, 0, none⟩) (.ints .u8 kPathI)] w) :
  Calls Tryd.prog 75 (cvs [.str xs]).toArray w (fun en w' => ∃ u, en = .returned u ∧ ∃ v' m', u = cv v' ∧ MemOk w [] m' w' ∧ ∃ k s, v' = .sl k (some ⟨blkOf s, 0, none⟩) 0 0 1 4 (max 32 (capOf s)) ∧ bget m' k = .own s 32 5 1 (.ints .u8 (bytI (kSum xs) 32))) := by
 have u1 : xs.take xs.length = xs := List.take_length
 refine Vc.calls T0_ok Tryd.func75 rfl rfl (args := [.str xs]) (k := 7) rfl hm ?_; change Vc _ _ (c8 (.str xs) .undef .undef .undef .undef .undef .undef .undef ([])) _ _
 ((with_reducible refine Vc.seq fun N hN => ?_); (refine Vc.regiont T0_ok GD3_ok ?_); simp only [v8Y, Nat.beq, Nat.ble, seval, tabs, GD3_set]; (try simp (disch := omega) only [v8W]); (repeat (first | ((with_reducible refine And.intro ?_ ?_); exact sdB))); (first | (refine hN _ _ ?_; clear hN N; (try simp (disch := omega) only [v8W])) | skip))
 refine Vc.seq fun N hN => ?_
 refine Vc.regionCnv T0_ok GD3_ok (pre := [⟨some 3, .move (.tmp 0), _, _, _, none⟩]) rfl rfl rfl rfl ?_
 (simp only [v8Y, Nat.beq, Nat.ble, seval, tabs])
 refine ⟨trivial, xs, rfl, hx, fun b cap o hcp hLi => ?_⟩
 have hLb : ∀ M, Blk.heap [(b, o)] ∈ M → LiesH (HM M) (some ⟨b, 0, none⟩) (cc (.ints .u8 xs)) := hLi
 (simp only [v8Y, Nat.beq, Nat.ble, seval, tabs, GD3_set, u1, List.drop_zero]; (try simp (disch := omega) only [v8W]); (repeat (first | with_reducible intro _ | ((with_reducible refine And.intro ?_ ?_); exact sX17))); (first | (refine hN _ _ ?_; clear hN N; (try simp (disch := omega) only [v8W])) | skip))
 rename_i v
 ((repeat (first | ((first | ((with_reducible refine Vc.fin ?_); dsimp only [thenK, blockK, retK, resS, resOne, resAll])); (try simp only [v8Y, Nat.beq, Nat.ble, seval, tabs, GD3_set])))); (try ((with_reducible refine Fin.of ?_); (try with_reducible exact True.intro))))
 exact ⟨trivial, 3, v, rfl, rfl⟩
def g_Sel (args : List SV) (m : List Blk) : CR :=
 match args with
 | [.str xs] => match bget m 0, bget m 1 with
  | .ro a0 c0, .ro a1 c1 => .own (allB xs ∧ xs.length ≤ 1000000 ∧ a0 = some ⟨1, 0, none⟩ ∧ c0 = .ints .u64 kKeys ∧ a1 = some ⟨2, 0, none⟩ ∧ c1 = .ints .u8 kPathI) 5 1 4 (.ints .u8 (selB xs)) (fun v => v)
  | _, _ => .none
 | _ => .none
theorem g_Sel_ok (w0 : World) (B : List Nat) (args : List SV) (m : List Blk) : CROk Tryd.prog w0 B 75 args m (g_Sel args m) := by
 unfold g_Sel
 split
 ·rename_i xs
  split
  ·rename_i a0 c0 a1 c1 h0 h1
   intro ⟨hx, hl, r0, r1, r2, r3⟩ w hm
   subst r0 r1 r2 r3
   refine .inr ⟨enter_run Tryd.func75 rfl rfl _ w, (sel_vc xs hx hl w (ro_front (ro_ro hm h1) (ro_ro hm h0))).mono fun e w' ⟨u, he, v', m', hu, hm', k, s, hv, hs⟩ => ?_⟩
   have hok := own_ok0 (hm'.each _ (bget_mem hs (by simp)))
   obtain ⟨h2, h3⟩ := hok
   rcases h3 with ⟨_, h4⟩ | ⟨g, cap, cur, rfl, k1, k2, k3, k4, k5, k6⟩
   ·exact absurd h4 (by decide)
   refine ⟨u, he, .slice (some ⟨g, 0, none⟩) 4 cap, ?_, hm'.grown, ?_, .inr ⟨g, cap, cur, rfl, k1, k2, by omega, k4, k5, ?_⟩⟩
   ·rw [hu, hv]
    have e0 : max 32 (capOf (.slice (some ⟨g, 0, none⟩) 32 cap)) = cap := Nat.max_eq_right k3
    rw [e0]
    simp [cv, slV, blkOf, blkO, addr_add]
   ·unfold selB; simp [cc, bytI_len]
   ·have e1 : cur.toList.take (4 * 1) = (cur.toList.take (32 * 1)).take 4 := by rw [List.take_take]; rfl
    rw [e1, k6]
    unfold selB
    simp [cc]
  ·exact trivial
 ·exact trivial
end Go.Proofs.YthdpgfdfgidokaaDoor

/-
 A symbolic walk of my own: a region whose order is drawn, walked along a tree: where several new things may come first, each of these is walked. No condition.
-/
import Derived.Test.YthdpgfdfgidokaaDoorD2
import Derived.Test.YthdpgfdfgidokaaDoorKC
import Derived.Lib.ConvBytes
import Derived.Test.YthdpgfdfgidokaaDoorEO
set_option maxRecDepth 10000
set_option maxHeartbeats 4000000
set_option linter.defProp false
set_option linter.unusedVariables false
set_option linter.unusedSimpArgs false
namespace Go.Proofs.YthdpgfdfgidokaaDoor
open Go.RowKit
theorem grown_bytes (w : World) (e : TypeId) (s : ByteArray) : w.grownBy (Lib.bytesWorld w e s) none := by
 refine ⟨?_, ?_, ?_, by rw [Lib.bytesWorld_size]; omega, fun k hk _ => Lib.bytesWorld_at_old w e s k hk⟩ <;>
  simp [Lib.bytesWorld, World.freeze, World.alloc, World.drew, -World.alloc_eq, -World.drew_eq]
theorem lies_bytes (w : World) (e : TypeId) (xs : List Int) (hx : allB xs) {M : List Blk} {b : Nat} {fr : Nat × Nat} (h : Blk.heap [(b, .cells (Lib.bytesCells w e (bytesOf xs)) e fr)] ∈ M) : LiesH (HM M) (some ⟨b, 0, none⟩) (cc (.ints .u8 xs)) := by
 refine .inr ⟨b, 0, _, _, _, rfl, ⟨_, h, List.mem_singleton.2 rfl⟩, fun j u hj => ?_⟩
 have hjl : j < xs.length := by
  have := (List.getElem?_eq_some_iff.1 hj).1
  simpa [cc] using this
 rw [Nat.zero_add]
 have e1 : (Lib.bytesCells w e (bytesOf xs)).toList = xs.map (Value.int .u8) ++ (Array.replicate (grownCap w (bytesOf xs).size 0 e - (bytesOf xs).size) (Value.int .u8 0)).toList := by
  unfold Lib.bytesCells
  rw [Array.toList_append, Array.toList_map, bytesOf_data, List.map_map]
  congr 1
  apply List.map_congr_left
  intro x hxm
  have := hx x hxm
  simp only [Function.comp, Value.int.injEq, true_and]
  rw [UInt8.toNat_ofNat']
  omega
 rw [← Array.getElem?_toList, e1, List.getElem?_append_left (by rw [List.length_map]; exact hjl)]
 exact hj
theorem Vc.regionCnv {P : Program} {T : Tab} (hT : TabOk P T) {G : Ctr} (hG : GOk P G) {id : Nat} {pre rest all : List Oper} {d : Tmp} {s t e : TypeId} {es eb : Nat} {x : Operand} {ty : TypeId} {pos : String} {af : Array Edge} {env : List SV} {m : List Blk} {K : Kont}
  (ha : all = pre ++ (⟨some d, .convert s t x, ty, pos, af, none⟩ :: rest)) (hs : T.ty s = .str)
  (ht : T.ty t = .sl e es eb) (he : T.ty e = .int .u8)
  (h : vcOpst .go T G all pre env m (fun _ env' m' => ∃ xs, ev T env' x = .str xs ∧ allB xs ∧
   ∀ (b cap : Nat) (o : Obj), xs.length ≤ cap → (∀ M, Blk.heap [(b, o)] ∈ M → LiesH (HM M) (some ⟨b, 0, none⟩) (cc (.ints .u8 xs))) →
    vcOpst .go T G all rest (sset env' d (.gh (some ⟨b, 0, none⟩) xs.length cap (.ints .u8 xs))) (bpush m' (.heap [(b, o)])) (fun _ => K .normal))) :
  Vc P (.region id all.toArray false) env m K := by
 intro w0 B a w hf hd hm
 refine wp_region_lit ?_
 show wpList P all.toArray _ all a w
 conv => arg 4; rw [ha]
 refine vcOps_pre hT hG (ds := []) (fun env m a w hf hd hm h4 => ?_) pre env m a w h hf hd hm
 obtain ⟨xs, hz, hx, h⟩ := h4
 unfold wpList
 rw [if_pos (by simp [Region.wanted])]
 refine .inl ?_
 have hxv : a.eval x = .string (bytesOf xs) := by
  have := hf.ev hT.gl x
  rw [hz] at this
  exact this
 have hc := Lib.run_convert_string_bytes (P := P) w s t e (bytesOf xs) (u := .string) (by have := hT.ty s; rw [hs] at this; exact this) (by have := hT.ty t; rw [ht] at this; exact this.1) (by have := hT.ty e; rw [he] at this; exact this)
 refine wp_of_run (w' := Lib.bytesWorld w e (bytesOf xs)) (u := .slice (some ⟨w.heap.size, 0, none⟩) (bytesOf xs).size (grownCap w (bytesOf xs).size 0 e)) (by
  simp only [execOp, hxv, Sem.run_bind, hc, Result.andThen_ok, Sem.run_pure]) ?_
 have hm' := hm.push (grown_bytes w e (bytesOf xs)) (e := .heap [(w.heap.size, .cells (Lib.bytesCells w e (bytesOf xs)) e ((Lib.bytesCells w e (bytesOf xs)).size, (Lib.bytesCells w e (bytesOf xs)).size + 1))])
  (fun p hp => by rw [List.mem_singleton] at hp; subst hp; exact ⟨Lib.bytesWorld_at_new _ _ _, .inl hm.size⟩)
  (fun b hb => by simp only [Blk.nums, List.map_cons, List.map_nil, List.mem_singleton] at hb; omega)
  (by simp [Blk.nums])
 rw [← bpush_eq] at hm'
 rw [bytesOf_size]
 refine vcOps_sound hT hG (ds := []) (fun e m a w h1 h2 h3 h4 => ⟨e, m, h1, h2, h3, h4⟩) rest _ _ _ _ (h w.heap.size (grownCap w xs.length 0 e) _ (grownCap_ge _ _ _ _) (fun M hM => lies_bytes w e xs hx hM)) (hf.put (some d) (.gh (some ⟨w.heap.size, 0, none⟩) xs.length (grownCap w xs.length 0 e) (.ints .u8 xs))) (by rw [← hd]; rfl) hm'
def selB (xs : List Int) : List Int := (bytI (kSum xs) 32).take 4
noncomputable def GD3 : Ctr := fun f args m => match f with
 | 52 => g_From args m
 | 43 => g_rFrom args m
 | 141 => g_Small args m
 | 109 => g_lowByte args m
 | 120 => g_Shl args m
 | 89 => g_Shr args m
 | 54 => g_Cmp args m
 | 53 => g_Add args m
 | 51 => g_Mul args m
 | 93 => g_length args m
 | 102 => g_Read args m
 | 79 => g_Addr args m
 | 67 => g_Wide args m
 | 101 => g_Bytes args m
 | 107 => g_Count args m
 | 108 => g_apTail args m
 | 76 => g_abEnc args m
 | 100 => g_kSum args m
 | _ => .none
theorem GD3_ok : GOk Tryd.prog GD3 := by
 intro w0 B f args m; unfold GD3; split
 ·exact g_From_ok _ _ _ _
 ·exact g_rFrom_ok _ _ _ _
 ·exact g_Small_ok _ _ _ _
 ·exact g_lowByte_ok _ _ _ _
 ·exact g_Shl_ok _ _ _ _
 ·exact g_Shr_ok _ _ _ _
 ·exact g_Cmp_ok _ _ _ _
 ·exact g_Add_ok _ _ _ _
 ·exact g_Mul_ok _ _ _ _
 ·exact g_length_ok _ _ _ _
 ·exact g_Read_ok _ _ _ _
 ·exact g_Addr_ok _ _ _ _
 ·exact g_Wide_ok _ _ _ _
 ·exact g_Bytes_ok _ _ _ _
 ·exact g_Count_ok _ _ _ _
 ·exact g_apTail_ok _ _ _ _
 ·exact g_abEnc_ok _ _ _ _
 ·exact g_kSum_ok _ _ _ _
 ·exact trivial
theorem GD3_From : GD3 52 = g_From := by funext args m; rfl
theorem GD3_rFrom : GD3 43 = g_rFrom := by funext args m; rfl
theorem GD3_Small : GD3 141 = g_Small := by funext args m; rfl
theorem GD3_lowByte : GD3 109 = g_lowByte := by funext args m; rfl
theorem GD3_Shl : GD3 120 = g_Shl := by funext args m; rfl
theorem GD3_Shr : GD3 89 = g_Shr := by funext args m; rfl
theorem GD3_Cmp : GD3 54 = g_Cmp := by funext args m; rfl
theorem GD3_Add : GD3 53 = g_Add := by funext args m; rfl
theorem GD3_Mul : GD3 51 = g_Mul := by funext args m; rfl
theorem GD3_length : GD3 93 = g_length := by funext args m; rfl
theorem GD3_Read : GD3 102 = g_Read := by funext args m; rfl
theorem GD3_Addr : GD3 79 = g_Addr := by funext args m; rfl
theorem GD3_Wide : GD3 67 = g_Wide := by funext args m; rfl
theorem GD3_Bytes : GD3 101 = g_Bytes := by funext args m; rfl
theorem GD3_Count : GD3 107 = g_Count := by funext args m; rfl
theorem GD3_apTail : GD3 108 = g_apTail := by funext args m; rfl
theorem GD3_abEnc : GD3 76 = g_abEnc := by funext args m; rfl
theorem GD3_kSum : GD3 100 = g_kSum := by funext args m; rfl
def GD3_set := And.intro (And.intro (And.intro (And.intro (And.intro (@GD3_From) (@g_From.eq_def)) (And.intro (@GD3_rFrom) (@g_rFrom.eq_def))) (And.intro (And.intro (@GD3_Small) (@g_Small.eq_def)) (And.intro (@GD3_lowByte) (And.intro (@g_lowByte.eq_def) (@GD3_Shl))))) (And.intro (And.intro (And.intro (@g_Shl.eq_def) (@GD3_Shr)) (And.intro (@g_Shr.eq_def) (@GD3_Cmp))) (And.intro (And.intro (@g_Cmp.eq_def) (@GD3_Add)) (And.intro (@g_Add.eq_def) (And.intro (@GD3_Mul) (@g_Mul.eq_def)))))) (And.intro (And.intro (And.intro (And.intro (@GD3_length) (@g_length.eq_def)) (And.intro (@GD3_Read) (@g_Read.eq_def))) (And.intro (And.intro (@GD3_Addr) (@g_Addr.eq_def)) (And.intro (@GD3_Wide) (And.intro (@g_Wide.eq_def) (@GD3_Bytes))))) (And.intro (And.intro (And.intro (@g_Bytes.eq_def) (@GD3_Count)) (And.intro (@g_Count.eq_def) (@GD3_apTail))) (And.intro (And.intro (@g_apTail.eq_def) (@GD3_abEnc)) (And.intro (@g_abEnc.eq_def) (And.intro (@GD3_kSum) (@g_kSum.eq_def))))))

theorem sel_vc (xs : List Int) (hx : allB xs) (hl : xs.length ≤ 1000000) (w : World) (hm : MemOk w [] [.ro (some ⟨1, 0, none⟩) (.ints .u64 kKeys), .ro (some ⟨2, 0, none⟩) (.ints .u8 kPathI)] w) :
  Calls Tryd.prog 75 (cvs [.str xs]).toArray w (fun en w' => ∃ u, en = .returned u ∧ ∃ v' m', u = cv v' ∧ MemOk w [] m' w' ∧ ∃ k s, v' = .sl k (some ⟨blkOf s, 0, none⟩) 0 0 1 4 (max 32 (capOf s)) ∧ bget m' k = .own s 32 5 1 (.ints .u8 (bytI (kSum xs) 32))) := by
 have u1 : xs.take xs.length = xs := List.take_length
 refine Vc.calls T0_ok Tryd.func75 rfl rfl (args := [.str xs]) (k := 7) rfl hm ?_; change Vc _ _ (c8 (.str xs) .undef .undef .undef .undef .undef .undef .undef ([])) _ _
 ((with_reducible refine Vc.seq fun N hN => ?_); (refine Vc.regiont T0_ok GD3_ok ?_); simp only [v8Y, Nat.beq, Nat.ble, seval, tabs, GD3_set]; (try simp (disch := omega) only [v8W]); (repeat (first | ((with_reducible refine And.intro ?_ ?_); exact sdB))); (first | (refine hN _ _ ?_; clear hN N; (try simp (disch := omega) only [v8W])) | skip))
 refine Vc.seq fun N hN => ?_
 refine Vc.regionCnv T0_ok GD3_ok (pre := [⟨some 3, .move (.tmp 0), _, _, _, none⟩]) rfl rfl rfl rfl ?_
 (simp only [v8Y, Nat.beq, Nat.ble, seval, tabs])
 refine ⟨trivial, xs, rfl, hx, fun b cap o hcp hLi => ?_⟩
 have hLb : ∀ M, Blk.heap [(b, o)] ∈ M → LiesH (HM M) (some ⟨b, 0, none⟩) (cc (.ints .u8 xs)) := hLi
 (simp only [v8Y, Nat.beq, Nat.ble, seval, tabs, GD3_set, u1, List.drop_zero]; (try simp (disch := omega) only [v8W]); (repeat (first | with_reducible intro _ | ((with_reducible refine And.intro ?_ ?_); (focus (first | ((repeat' with_reducible apply And.intro) <;> first | exact sideQ | (exact hLb _ (by simp)) | (exact .inl rfl) | (exact kSum_lt _)) | exact sd0))))); (first | (refine hN _ _ ?_; clear hN N; (try simp (disch := omega) only [v8W])) | skip))
 rename_i v
 ((repeat (first | ((first | ((with_reducible refine Vc.fin ?_); dsimp only [thenK, blockK, retK, resS, resOne, resAll])); (try simp only [v8Y, Nat.beq, Nat.ble, seval, tabs, GD3_set])))); (try ((with_reducible refine Fin.of ?_); (try with_reducible exact True.intro))))
 exact ⟨trivial, 3, v, rfl, rfl⟩
def g_Sel (args : List SV) (m : List Blk) : CR :=
 match args with
 | [.str xs] => match bget m 0, bget m 1 with
  | .ro a0 c0, .ro a1 c1 => .own (allB xs ∧ xs.length ≤ 1000000 ∧ a0 = some ⟨1, 0, none⟩ ∧ c0 = .ints .u64 kKeys ∧ a1 = some ⟨2, 0, none⟩ ∧ c1 = .ints .u8 kPathI) 5 1 4 (.ints .u8 (selB xs)) (fun v => v)
  | _, _ => .none
 | _ => .none
theorem g_Sel_ok (w0 : World) (B : List Nat) (args : List SV) (m : List Blk) : CROk Tryd.prog w0 B 75 args m (g_Sel args m) := by
 unfold g_Sel
 split
 ·rename_i xs
  split
  ·rename_i a0 c0 a1 c1 h0 h1
   intro ⟨hx, hl, r0, r1, r2, r3⟩ w hm
   subst r0 r1 r2 r3
   refine .inr ⟨enter_run Tryd.func75 rfl rfl _ w, (sel_vc xs hx hl w (ro_front (ro_ro hm h1) (ro_ro hm h0))).mono fun e w' ⟨u, he, v', m', hu, hm', k, s, hv, hs⟩ => ?_⟩
   have hok := own_ok0 (hm'.each _ (bget_mem hs (by simp)))
   obtain ⟨h2, h3⟩ := hok
   rcases h3 with ⟨_, h4⟩ | ⟨g, cap, cur, rfl, k1, k2, k3, k4, k5, k6⟩
   ·exact absurd h4 (by decide)
   refine ⟨u, he, .slice (some ⟨g, 0, none⟩) 4 cap, ?_, hm'.grown, ?_, .inr ⟨g, cap, cur, rfl, k1, k2, by omega, k4, k5, ?_⟩⟩
   ·rw [hu, hv]
    have e0 : max 32 (capOf (.slice (some ⟨g, 0, none⟩) 32 cap)) = cap := Nat.max_eq_right k3
    rw [e0]
    simp [cv, slV, blkOf, blkO, addr_add]
   ·unfold selB; simp [cc, bytI_len]
   ·have e1 : cur.toList.take (4 * 1) = (cur.toList.take (32 * 1)).take 4 := by rw [List.take_take]; rfl
    rw [e1, k6]
    unfold selB
    simp [cc]
  ·exact trivial
 ·exact trivial
end Go.Proofs.YthdpgfdfgidokaaDoor
namespace Go.Proofs.YthdpgfdfgidokaaDoor
open Go.RowKit
inductive DT where
 | nil
 | op (s : Nat) (r : DT)
 | or (a b : DT)
def DT.heads : DT → List Nat
 | .nil => []
 | .op s _ => [s]
 | .or a b => a.heads ++ b.heads
def DT.alts : DT → List (Nat × DT)
 | .nil => []
 | .op s r => [(s, r)]
 | .or a b => a.alts ++ b.alts
theorem heads_alts : ∀ t : DT, t.heads = t.alts.map (·.1)
 | .nil => rfl
 | .op _ _ => rfl
 | .or a b => by simp only [DT.heads, DT.alts, List.map_append, heads_alts a, heads_alts b]
def nodeT (ops : Array Oper) (n : Nat) (rem hs : List Nat) : Bool :=
 (hs.all fun s => match ops[s]? with
  | some o => readyB ops rem [] n o && (match dOp o.op with | true => (match hs with | [_] => freeB ops rem [] n s o | _ => false) | false => true)
  | none => false) &&
 ((hs.all fun s => match ops[s]? with | some o => dOp o.op | none => false) ||
  rem.all fun j => hs.contains j || match ops[j]? with | some o => o.after.any fun e => Region.binds .any e && rem.contains e.on | none => false)
def ckT (ops : Array Oper) (n : Nat) : Bool → List Nat → DT → Bool
 | i, rem, .nil => !i && rem.isEmpty
 | i, rem, .op s r => (i || nodeT ops n rem [s]) && (rem.contains s && ckT ops n false (rem.erase s) r)
 | i, rem, .or a b => (i || nodeT ops n rem (a.heads ++ b.heads)) && (ckT ops n true rem a && ckT ops n true rem b)
def vcT (T : Tab) (G : Ctr) (all : List Oper) : DT → List SV → List Blk → (List SV → List Blk → Prop) → Prop
 | .nil, env, m, K => K env m
 | .op s r, env, m, K => vcQ T G all (pickO all [s]) env m fun env m => vcT T G all r env m K
 | .or a b, env, m, K => vcT T G all a env m K ∧ vcT T G all b env m K
theorem vcT_alts {T : Tab} {G : Ctr} {all : List Oper} {env : List SV} {m : List Blk} {K : List SV → List Blk → Prop} : ∀ {t : DT}, vcT T G all t env m K → ∀ x ∈ t.alts, vcQ T G all (pickO all [x.1]) env m fun env m => vcT T G all x.2 env m K
 | .nil, _, x, hx => by simp [DT.alts] at hx
 | .op s r, h, x, hx => by simp only [DT.alts, List.mem_singleton] at hx; subst hx; exact h
 | .or a b, h, x, hx => by
  simp only [DT.alts, List.mem_append] at hx
  exact hx.elim (vcT_alts h.1 x) (vcT_alts h.2 x)
theorem ckT_alts {ops : Array Oper} {n : Nat} : ∀ {t : DT} {rem : List Nat}, ckT ops n true rem t = true → t.alts ≠ [] ∧ ∀ x ∈ t.alts, x.1 ∈ rem ∧ ckT ops n false (rem.erase x.1) x.2 = true
 | .nil, rem, h => by simp [ckT] at h
 | .op s r, rem, h => by
  simp only [ckT, Bool.true_or, Bool.true_and, Bool.and_eq_true, List.contains_eq_mem, decide_eq_true_eq] at h
  refine ⟨by simp [DT.alts], fun x hx => ?_⟩
  simp only [DT.alts, List.mem_singleton] at hx
  subst hx; exact h
 | .or a b, rem, h => by
  simp only [ckT, Bool.true_or, Bool.true_and, Bool.and_eq_true] at h
  obtain ⟨h1, h2⟩ := ckT_alts h.1
  obtain ⟨h3, h4⟩ := ckT_alts h.2
  refine ⟨fun h0 => h1 (List.append_eq_nil_iff.1 h0).1, fun x hx => ?_⟩
  simp only [DT.alts, List.mem_append] at hx
  exact hx.elim (h2 x) (h4 x)
theorem ckT_node {ops : Array Oper} {n : Nat} {t : DT} {rem : List Nat} (h : ckT ops n false rem t = true) : (t = .nil ∧ rem = []) ∨ (nodeT ops n rem t.heads = true ∧ ckT ops n true rem t = true) := by
 cases t with
 | nil => exact .inl ⟨rfl, by simpa [ckT] using h⟩
 | op s r =>
  simp only [ckT, Bool.false_or, Bool.and_eq_true] at h
  exact .inr ⟨h.1, by simp only [ckT, Bool.true_or, Bool.true_and, Bool.and_eq_true]; exact h.2⟩
 | or a b =>
  simp only [ckT, Bool.false_or, Bool.and_eq_true] at h
  exact .inr ⟨h.1, by simp only [ckT, Bool.true_or, Bool.true_and, Bool.and_eq_true]; exact h.2⟩
section
variable {P : Program} {T : Tab} {G : Ctr} {l : List Oper} {n g : Nat} {w0 : World} {B : List Nat} {Q : Exit → Act → World → Prop} {K : List SV → List Blk → Prop}
theorem tree_main (hT : TabOk P T) (hG : GOk P G) (hsel : ∀ (j : Nat) (o : Oper) cs b, l.toArray[j]? = some o → o.op ≠ .select cs b) (hns : n ≤ l.toArray.size) (htail : eTail .any l.toArray n = true)
  (hQ : ∀ c (a : Act) d u w, Q (.panic c) (a.put d u) w → Q (.panic c) a w)
  (hL : ∀ a w, wpList P l.toArray Q (l.drop n) a w → wpAny P .any l.toArray Q g (canonE n l.toArray.size) a w)
  (hK : ∀ env m a w, Fr env a → a.defers = [] → MemOk w0 B m w → K env m → wpList P l.toArray Q (l.drop n) a w) :
  ∀ (f : Nat) (t : DT) (rem : List Nat) (env : List SV) (m : List Blk) (a0 : Act) (listed : Array Bool),
   f = rem.length → rem.Nodup → (∀ s ∈ rem, s < n) → ckT l.toArray n false rem t = true → ListedI l.toArray rem n [] (fun _ => false) listed → HeadInv .any l.toArray n listed →
   vcT T G l t env m K → Fr env a0 → a0.defers = [] →
   anyV P .any l.toArray Q n g f listed a0 (MemOk w0 B m) := by
 intro f
 induction f with
 | zero =>
  intro t rem env m a0 listed hf0 hnd hlt hck I H h hf hd
  obtain rfl : rem = [] := List.eq_nil_of_length_eq_zero (by omega)
  obtain ⟨rfl, _⟩ : t = .nil ∧ True := by
   rcases ckT_node hck with h1 | h1
   ·exact ⟨h1.1, trivial⟩
   ·obtain ⟨h2, h3⟩ := ckT_alts h1.2
    obtain ⟨x, hx⟩ := List.exists_mem_of_ne_nil _ h2
    exact absurd (h3 x hx).1 List.not_mem_nil
  have hlist : ∀ k, k < n → listed.getD k true = true := fun k hk => by
   cases hl : listed.getD k true with
   | true => rfl
   | false =>
    rcases (I.2 k (by omega)).1 hl with h1 | ⟨x, hx, _, _⟩ | h1
    ·exact absurd h1 List.not_mem_nil
    ·exact absurd hx List.not_mem_nil
    ·omega
  refine ⟨hlist, fun w hw => ?_⟩
  have hcan : listed = canonE n l.toArray.size := by
   apply Array.ext
   ·simp [canonE, H.size]
   ·intro k hk hk'
    simp only [canonE, Array.getElem_map, Array.getElem_range]
    by_cases hkn : k < n
    ·have := hlist k hkn
     simp [hk] at this
     simp [this, hkn]
    ·have := H.tail k (by omega) (by rw [← H.size]; exact hk)
     simp [hk] at this
     simp [this, hkn]
  rw [hcan]
  exact hL _ _ (hK env _ _ _ hf hd hw h)
 | succ f ih =>
  intro t rem env m a0 listed hf0 hnd hlt hck I H h hf hd
  rcases ckT_node hck with ⟨_, rfl⟩ | ⟨hnode, hck2⟩
  ·simp at hf0
  obtain ⟨hne, hal⟩ := ckT_alts hck2
  have hva := vcT_alts h
  simp only [nodeT, Bool.and_eq_true, Bool.or_eq_true] at hnode
  obtain ⟨hn1, hn2⟩ := hnode
  have hmem : ∀ s, s ∈ t.heads ↔ ∃ x ∈ t.alts, x.1 = s := fun s => by rw [heads_alts]; simp
  -- what stands first
  have one : ∀ x ∈ t.alts, ∃ o, l.toArray[x.1]? = some o ∧ readyB l.toArray rem [] n o = true ∧ (dOp o.op = true → ∃ y, t.heads = [y] ∧ freeB l.toArray rem [] n x.1 o = true) := fun x hx => by
   have h1 := List.all_eq_true.1 hn1 x.1 ((hmem _).2 ⟨x, hx, rfl⟩)
   cases ho : l.toArray[x.1]? with
   | none => rw [ho] at h1; cases h1
   | some o =>
    rw [ho] at h1
    simp only [Bool.and_eq_true] at h1
    refine ⟨o, rfl, h1.1, fun hdo => ?_⟩
    have h2 := h1.2
    rw [hdo] at h2
    dsimp only at h2
    split at h2
    ·rename_i y hy; exact ⟨y, hy, h2⟩
    ·cases h2
  have hunl : ∀ j, j < l.toArray.size → unl rem [] n j = false → listed.getD j true = true := fun j hj hu => by
   simp only [unl, Bool.or_eq_false_iff, List.contains_eq_mem, decide_eq_false_iff_not] at hu
   cases hl : listed.getD j true with
   | true => rfl
   | false =>
    rcases (I.2 j hj).1 hl with h1 | ⟨y, hy, _, _⟩ | h1
    ·exact absurd h1 hu.1.1
    ·exact absurd hy List.not_mem_nil
    ·exact absurd h1 hu.2
  have rdy : ∀ x ∈ t.alts, ∀ o, l.toArray[x.1]? = some o → readyB l.toArray rem [] n o = true → x.1 ∈ Region.ready .any l.toArray listed := fun x hx o ho hready => by
   have hsl : listed.getD x.1 true = false := (I.2 x.1 (Array.getElem?_eq_some_iff.1 ho).1).2 (.inl (hal x hx).1)
   refine mem_ready.2 ⟨hsl, o, ho, fun e he hb => ?_⟩
   have h1 := Array.all_eq_true_iff_forall_mem.1 hready e he
   simp only [hb, Bool.not_true, Bool.false_or, Bool.and_eq_true, decide_eq_true_eq, Bool.not_eq_true'] at h1
   have h2 := hunl e.on h1.1 h1.2
   have : e.on < listed.size := by rw [H.size]; exact h1.1
   simp [this] at h2 ⊢; exact h2
  have hdef : ∀ (o : Oper) (v : Value), (a0.put o.dst v).defers = [] := fun o v => by rw [← hd]; cases o.dst <;> rfl
  have next : ∀ x ∈ t.alts, ∀ o, l.toArray[x.1]? = some o → readyB l.toArray rem [] n o = true → ∀ (v : SV) (r' : List Blk), vcT T G l x.2 (upd env o.dst v) (m ++ r') K →
    anyV P .any l.toArray Q n g f (listed.setIfInBounds x.1 true) (a0.put o.dst (cv v)) (MemOk w0 B (m ++ r')) := fun x hx o ho hready v r' hv => by
   obtain ⟨hin, hckx⟩ := hal x hx
   have hperm := List.perm_cons_erase hin
   have I2 : ListedI l.toArray (x.1 :: rem.erase x.1) n [] (fun _ => false) listed := ⟨I.1, fun j hj => by rw [I.2 j hj, hperm.mem_iff]⟩
   have hnd2 : (x.1 :: rem.erase x.1).Nodup := hperm.nodup_iff.1 hnd
   have hs := hlt _ hin
   refine ih x.2 (rem.erase x.1) _ _ _ _ ?_ (List.nodup_cons.1 hnd2).2 (fun s hs => hlt s (List.mem_of_mem_erase hs)) hckx (I2.pop hnd2 hs (fun y hy => absurd hy List.not_mem_nil)) (H.set (rdy x hx o ho hready) hs) hv (hf.put o.dst v) (hdef _ _)
   have := hperm.length_eq
   simp only [List.length_cons] at this
   omega
  have next0 : ∀ x ∈ t.alts, ∀ o, l.toArray[x.1]? = some o → readyB l.toArray rem [] n o = true → ∀ (v : SV), vcT T G l x.2 (upd env o.dst v) m K →
    anyV P .any l.toArray Q n g f (listed.setIfInBounds x.1 true) (a0.put o.dst (cv v)) (MemOk w0 B m) := fun x hx o ho hready v hv => by
   have := next x hx o ho hready v [] (by rw [List.append_nil]; exact hv)
   rwa [List.append_nil] at this
  have hpk : ∀ x ∈ t.alts, ∀ o, l.toArray[x.1]? = some o → pickO l [x.1] = [o] := fun x _ o ho => by
   have : l[x.1]? = some o := by simpa using ho
   simp only [pickO, nthO_eq, this]
  obtain ⟨x0, hx0⟩ := List.exists_mem_of_ne_nil _ hne
  obtain ⟨o0, ho0, hready0, hfr0⟩ := one x0 hx0
  have hr0 := rdy x0 hx0 o0 ho0 hready0
  have hs0 := hlt _ (hal x0 hx0).1
  cases hdo : dOp o0.op with
  | true =>
   obtain ⟨y, hy, hkind⟩ := hfr0 hdo
   have hfree : ∀ j oj, l.toArray[j]? = some oj → j ≠ x0.1 → listed.getD j true = false → (∀ e ∈ oj.after, Region.binds .any e = true → e.on ≠ x0.1) → o0.apart l.toArray oj = true := by
    intro j oj hoj hjs hjl hno
    have hjz := (Array.getElem?_eq_some_iff.1 hoj).1
    simp only [freeB, List.all_eq_true, List.mem_range] at hkind
    have h1 := hkind j hjz
    have hu : unl rem [] n j = true := by
     cases hu : unl rem [] n j with
     | true => rfl
     | false => rw [hunl j hjz hu] at hjl; cases hjl
    simp only [hoj, hu, Bool.or_eq_true, beq_iff_eq, hjs, false_or, Bool.not_true, Bool.false_eq_true] at h1
    rcases h1 with h1 | h1
    ·obtain ⟨e, he, hb⟩ := Array.any_eq_true'.1 h1
     simp only [Bool.and_eq_true, beq_iff_eq] at hb
     exact absurd hb.2 (hno e he hb.1)
    ·exact h1
   have hv0 := hva x0 hx0
   rw [hpk x0 hx0 o0 ho0] at hv0
   rcases vcQ_step hv0 hf with ⟨hw, h1⟩ | ⟨hw, h1⟩
   ·rw [hdo] at h1
    obtain ⟨p, v, hds, hp, hv⟩ := effQ_true h1
    refine anyV_first ho0 hsel htail hs0 hQ f listed _ _ H hfree hr0 ?_ (next0 x0 hx0 o0 ho0 hready0 v hv)
    have := dyields (P := P) (T := T) (l := l) (w0 := w0) (B := B) hT hds hp hf (a := a0) rfl hw (m' := [])
    rwa [List.append_nil] at this
   ·exact anyV_first (v := undef) ho0 hsel htail hs0 hQ f listed _ _ H hfree hr0 (.inr ⟨hw, rfl⟩) (next0 x0 hx0 o0 ho0 hready0 .undef h1)
  | false =>
   refine ⟨fun h0 => List.not_mem_nil (h0 ▸ hr0), fun j hj => ⟨fun hjn w hw => ?_, fun hjn w hw => ?_⟩⟩
   ·obtain ⟨hjl, oj, hoj, hall⟩ := mem_ready.1 hj
    rcases (I.2 j (by omega)).1 hjl with h1 | ⟨y, hy, _, _⟩ | h1
    ·rcases hn2 with h2 | h2
     ·have h3 := List.all_eq_true.1 h2 x0.1 ((hmem _).2 ⟨x0, hx0, rfl⟩)
      rw [ho0] at h3
      exact Bool.noConfusion (hdo.symm.trans h3)
     ·have h3 := List.all_eq_true.1 h2 j h1
      rw [hoj] at h3
      simp only [Bool.or_eq_true] at h3
      rcases h3 with h3 | h3
      ·obtain ⟨x, hx, rfl⟩ := (hmem j).1 (by simpa using h3)
       obtain ⟨o, ho, hready, hfr⟩ := one x hx
       obtain rfl : oj = o := Option.some.inj (hoj.symm.trans ho)
       have hdj : dOp oj.op = false := by
        cases hdj : dOp oj.op with
        | false => rfl
        | true =>
         obtain ⟨y, hy, _⟩ := hfr hdj
         have e1 := (hmem x.1).2 ⟨x, hx, rfl⟩
         have e2 := (hmem x0.1).2 ⟨x0, hx0, rfl⟩
         rw [hy, List.mem_singleton] at e1 e2
         rw [e1, ← e2] at ho
         obtain rfl := Option.some.inj (ho.symm.trans ho0)
         exact Bool.noConfusion (hdo.symm.trans hdj)
       have hv0 := hva x hx
       rw [hpk x hx oj ho] at hv0
       unfold wpOp
       simp only [ho]
       rcases vcQ_step hv0 hf with ⟨hwt, h4⟩ | ⟨hwt, h4⟩
       ·rw [if_pos hwt]
        rw [hdj] at h4
        refine .inl (Oper.wp_mono (fun a' w' ⟨v, r', ha, hg, hn, hv⟩ => ?_) (effQ_sound hT hG h4 hf rfl hw))
        subst ha
        exact ⟨_, fun w'' hw'' => hw''.front, hw.pushes hg hn, next x hx oj ho hready v r' hv⟩
       ·rw [if_neg (by rw [hwt]; simp)]
        exact ⟨_, fun _ h => h, hw, next0 x hx oj ho hready .undef h4⟩
      ·exfalso
       obtain ⟨e, he, hb⟩ := Array.any_eq_true'.1 h3
       simp only [Bool.and_eq_true, List.contains_eq_mem, decide_eq_true_eq] at hb
       have h4 := hall e he hb.1
       have h5 := (I.2 e.on (by have := hlt e.on hb.2; omega)).2 (.inl hb.2)
       rw [getD_both h5] at h4
       cases h4
    ·exact absurd hy List.not_mem_nil
    ·omega
   ·have := eplain_dop (e_tail_plain ho0 htail hs0 H (mem_ready.1 hr0).1 hj hjn)
    rw [this] at hdo; cases hdo
def treeB (ops : Array Oper) (n : Nat) (t : DT) : Bool :=
 Region.noSelect ops && (decide (n ≤ ops.size) && (eTail .any ops n && (Region.seqB .any ops (ops.size - n) n (canonE n ops.size) && ckT ops n false (List.range n) t)))
end
theorem Vc.tree {P : Program} {T : Tab} (hT : TabOk P T) {G : Ctr} (hG : GOk P G) (hm : P.follows .mixedOrders = true) {id : Nat} {l : List Oper} {env : List SV} {m : List Blk} {K : Kont} (t : DT) (n : Nat)
  (hB : treeB l.toArray n t = true)
  (h : vcT T G l t env m fun env m => vcOps T G l (l.drop n) env m (K .normal)) : Vc P (.region id l.toArray true) env m K := by
 intro w0 B a w hf hd hmm
 simp only [treeB, Bool.and_eq_true, decide_eq_true_eq] at hB
 obtain ⟨h1, h2, h3, h4, h5⟩ := hB
 let Q : Exit → Act → World → Prop := fun x a w => x = .normal ∧ ∃ env m, Fr env a ∧ a.defers = [] ∧ MemOk w0 B m w ∧ K .normal env m
 refine wp_mono (Q := Q) (wp_region_any hm ?_) fun x a' w' ⟨hx, env', m', h1, h2, h3, h4⟩ => by subst hx; exact ⟨env', m', h1, h2, h3, h4⟩
 have hm2 : MemOk w0 B m { w with drawn := w.drawn + 1 } := ⟨hmm.os, hmm.tape, hmm.output, hmm.size, hmm.old, fun e he => by
  have := hmm.each e he
  cases e <;> exact this, hmm.nodup⟩
 have key := tree_main (g := l.length - n) (w0 := w0) (B := B) (Q := Q) hT hG (Region.noSelect_spec h1) h2 h3 (fun c a d u w h => nomatch h.1)
  (fun a w hL => by
   have hdl : (l.drop n).length = l.length - n := by simp
   have h6 := wpAny_of_seq (P := P) (md := .any) (Q' := Q) (ops := l.toArray) (l.drop n) n (canonE n l.toArray.size) a w (fun j => by simp [List.getElem?_drop]) (by rw [hdl]; simpa using h4) hL
   rwa [hdl] at h6)
  (fun env m a w h1 h2 h3 h4 => vcOps_sound hT hG (ds := []) (fun e m a w h1 h2 h3 h4 => ⟨rfl, e, m, h1, h2, h3, h4⟩) _ env m a w h4 h1 h2 h3)
  (List.range n).length t (List.range n) env m a (Array.replicate l.toArray.size false) rfl List.nodup_range (fun s hs => List.mem_range.1 hs) h5
  ⟨by simp, fun j hj => by
   rw [getD_in (by simpa using hj) (getD_replicate_false _ _)]
   simp only [true_iff, List.mem_range]
   rcases Nat.lt_or_ge j n with hn | hn
   ·exact .inl hn
   ·exact .inr (.inr hn)⟩
  ⟨by simp, fun j oj _ hl => (by rw [getD_replicate_false] at hl; exact Bool.noConfusion hl), fun t _ ht => getD_in (by simpa using ht) (getD_replicate_false _ _)⟩ h hf hd
 have h7 := any_of_V _ _ _ _ _ hm2 key
 have hlen : (List.range n).length + (l.length - n) = l.toArray.size := by
  rw [List.length_range]
  simp at h2 ⊢
  omega
 rwa [hlen] at h7
def vcTt (t : Tok) (T : Tab) (G : Ctr) (all : List Oper) (d : DT) (env : List SV) (m : List Blk) (K : Tok → List SV → List Blk → Prop) : Prop := vcT T G all d env m (K t)
section
variable {T : Tab} {G : Ctr} {m m' : List Blk} {t : Tok} {K : Tok → List SV → List Blk → Prop} {all : List Oper} {env env' : List SV} {d r a b : DT} {s : Nat}
@[congr] theorem vcTt_congr (he : env = env') (hm : m = m') : vcTt t T G all d env m K = vcTt t T G all d env' m' K := by rw [he, hm]
theorem t_tnil : vcTt .go T G all .nil env m K = K .go env m := Eq.trans rfl rfl
theorem t_top : vcTt .go T G all (.op s r) env m K = vcQt .go T G all (pickO all [s]) env m (fun t env m => vcTt t T G all r env m K) := Eq.trans rfl rfl
theorem t_tor : vcTt .go T G all (.or a b) env m K = (vcTt .go T G all a env m K ∧ vcTt .go T G all b env m K) := Eq.trans rfl rfl
end
theorem Vc.treet {P : Program} {T : Tab} (hT : TabOk P T) {G : Ctr} (hG : GOk P G) (hm : P.follows .mixedOrders = true) {id : Nat} {l : List Oper} {env : List SV} {m : List Blk} {K : Kont} (t : DT) (n : Nat)
  (hB : treeB l.toArray n t = true)
  (h : vcTt .go T G l t env m fun t env m => vcOpst t T G l (dropO n l) env m fun _ => K .normal) : Vc P (.region id l.toArray true) env m K :=
 Vc.tree hT hG hm t n hB (by simp only [dropL_eq]; exact h)
def v8T := And.intro @t_tnil <| And.intro @t_top <| @t_tor
end Go.Proofs.YthdpgfdfgidokaaDoor

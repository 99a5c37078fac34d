/-
 A world of accounts as one part of memory: opened into its parts, shut again; what a callee that turns it comes to.
-/
import Derived.Test.YtoadeekdgikghaaDoorHK
import Derived.Test.YtoadeekdgikghaaDoorKC
import Derived.Lib.ConvBytes
import Derived.Test.YtoadeekdgikghaaDoorEG
set_option maxRecDepth 10000
set_option maxHeartbeats 4000000
set_option linter.defProp false
set_option linter.unusedVariables false
set_option linter.unusedSimpArgs false
namespace Go.Proofs.YtoadeekdgikghaaDoor
open Go.RowKit
theorem grown_bytes (w : World) (e : TypeId) (s : ByteArray) : w.grownBy (Lib.bytesWorld w e s) none := by
 refine ⟨?_, ?_, ?_, by rw [Lib.bytesWorld_size]; omega, fun k hk _ => Lib.bytesWorld_at_old w e s k hk⟩ <;>
  simp [Lib.bytesWorld, World.freeze, World.alloc, World.drew, -World.alloc_eq, -World.drew_eq]
theorem lies_bytes (w : World) (e : TypeId) (xs : List Int) (hx : allB xs) {M : List Blk} {b : Nat} {fr : Nat × Nat} (h : Blk.heap [(b, .cells (Lib.bytesCells w e (bytesOf xs)) e fr)] ∈ M) : LiesH (HM M) (some ⟨b, 0, none⟩) (cc (.ints .u8 xs)) := by
 refine .inr ⟨b, 0, _, _, _, rfl, ⟨_, h, List.mem_singleton.2 rfl⟩, fun j u hj => ?_⟩
 have hjl : j < xs.length := by
  have := (List.getElem?_eq_some_iff.1 hj).1
  simpa [cc] using this
 rw [Nat.zero_add]
 have e1 : (Lib.bytesCells w e (bytesOf xs)).toList = xs.map (Value.int .u8) ++ (Array.replicate (grownCap w (bytesOf xs).size 0 e - (bytesOf xs).size) (Value.int .u8 0)).toList := by
  unfold Lib.bytesCells
  rw [Array.toList_append, Array.toList_map, bytesOf_data, List.map_map]
  congr 1
  apply List.map_congr_left
  intro x hxm
  have := hx x hxm
  simp only [Function.comp, Value.int.injEq, true_and]
  rw [UInt8.toNat_ofNat']
  omega
 rw [← Array.getElem?_toList, e1, List.getElem?_append_left (by rw [List.length_map]; exact hjl)]
 exact hj
theorem Vc.regionCnv {P : Program} {T : Tab} (hT : TabOk P T) {G : Ctr} (hG : GOk P G) {id : Nat} {pre rest all : List Oper} {d : Tmp} {s t e : TypeId} {es eb : Nat} {x : Operand} {ty : TypeId} {pos : String} {af : Array Edge} {env : List SV} {m : List Blk} {K : Kont}
  (ha : all = pre ++ (⟨some d, .convert s t x, ty, pos, af, none⟩ :: rest)) (hs : T.ty s = .str)
  (ht : T.ty t = .sl e es eb) (he : T.ty e = .int .u8)
  (h : vcOpst .go T G all pre env m (fun _ env' m' => ∃ xs, ev T env' x = .str xs ∧ allB xs ∧
   ∀ (b cap : Nat) (o : Obj), xs.length ≤ cap → (∀ M, Blk.heap [(b, o)] ∈ M → LiesH (HM M) (some ⟨b, 0, none⟩) (cc (.ints .u8 xs))) →
    vcOpst .go T G all rest (sset env' d (.gh (some ⟨b, 0, none⟩) xs.length cap (.ints .u8 xs))) (bpush m' (.heap [(b, o)])) (fun _ => K .normal))) :
  Vc P (.region id all.toArray false) env m K := by
 intro w0 B a w hf hd hm
 refine wp_region_lit ?_
 show wpList P all.toArray _ all a w
 conv => arg 4; rw [ha]
 refine vcOps_pre hT hG (ds := []) (fun env m a w hf hd hm h4 => ?_) pre env m a w h hf hd hm
 obtain ⟨xs, hz, hx, h⟩ := h4
 unfold wpList
 rw [if_pos (by simp [Region.wanted])]
 refine .inl ?_
 have hxv : a.eval x = .string (bytesOf xs) := by
  have := hf.ev hT.gl x
  rw [hz] at this
  exact this
 have hc := Lib.run_convert_string_bytes (P := P) w s t e (bytesOf xs) (u := .string) (by have := hT.ty s; rw [hs] at this; exact this) (by have := hT.ty t; rw [ht] at this; exact this.1) (by have := hT.ty e; rw [he] at this; exact this)
 refine wp_of_run (w' := Lib.bytesWorld w e (bytesOf xs)) (u := .slice (some ⟨w.heap.size, 0, none⟩) (bytesOf xs).size (grownCap w (bytesOf xs).size 0 e)) (by
  simp only [execOp, hxv, Sem.run_bind, hc, Result.andThen_ok, Sem.run_pure]) ?_
 have hm' := hm.push (grown_bytes w e (bytesOf xs)) (e := .heap [(w.heap.size, .cells (Lib.bytesCells w e (bytesOf xs)) e ((Lib.bytesCells w e (bytesOf xs)).size, (Lib.bytesCells w e (bytesOf xs)).size + 1))])
  (fun p hp => by rw [List.mem_singleton] at hp; subst hp; exact ⟨Lib.bytesWorld_at_new _ _ _, .inl hm.size⟩)
  (fun b hb => by simp only [Blk.nums, List.map_cons, List.map_nil, List.mem_singleton] at hb; omega)
  (by simp [Blk.nums])
 rw [← bpush_eq] at hm'
 rw [bytesOf_size]
 refine vcOps_sound hT hG (ds := []) (fun e m a w h1 h2 h3 h4 => ⟨e, m, h1, h2, h3, h4⟩) rest _ _ _ _ (h w.heap.size (grownCap w xs.length 0 e) _ (grownCap_ge _ _ _ _) (fun M hM => lies_bytes w e xs hx hM)) (hf.put (some d) (.gh (some ⟨w.heap.size, 0, none⟩) xs.length (grownCap w xs.length 0 e) (.ints .u8 xs))) (by rw [← hd]; rfl) hm'
def selB (xs : List Int) : List Int := (bytI (kSum xs) 32).take 4
noncomputable def GD3 : Ctr := fun f args m => match f with
 | 43 => g_From args m
 | 54 => g_lowByte args m
 | 42 => g_Cmp args m
 | 41 => g_Sub args m
 | 53 => g_Read args m
 | 67 => g_Addr args m
 | 36 => g_Wide args m
 | 37 => g_Bytes args m
 | 69 => g_kSum args m
 | _ => .none
theorem GD3_ok : GOk Tryd.prog GD3 := by
 intro w0 B f args m; unfold GD3; split
 ·exact g_From_ok _ _ _ _
 ·exact g_lowByte_ok _ _ _ _
 ·exact g_Cmp_ok _ _ _ _
 ·exact g_Sub_ok _ _ _ _
 ·exact g_Read_ok _ _ _ _
 ·exact g_Addr_ok _ _ _ _
 ·exact g_Wide_ok _ _ _ _
 ·exact g_Bytes_ok _ _ _ _
 ·exact g_kSum_ok _ _ _ _
 ·exact trivial
theorem GD3_From : GD3 43 = g_From := by funext args m; rfl
theorem GD3_lowByte : GD3 54 = g_lowByte := by funext args m; rfl
theorem GD3_Cmp : GD3 42 = g_Cmp := by funext args m; rfl
theorem GD3_Sub : GD3 41 = g_Sub := by funext args m; rfl
theorem GD3_Read : GD3 53 = g_Read := by funext args m; rfl
theorem GD3_Addr : GD3 67 = g_Addr := by funext args m; rfl
theorem GD3_Wide : GD3 36 = g_Wide := by funext args m; rfl
theorem GD3_Bytes : GD3 37 = g_Bytes := by funext args m; rfl
theorem GD3_kSum : GD3 69 = g_kSum := by funext args m; rfl
def GD3_set := And.intro (And.intro (And.intro (And.intro (@GD3_From) (@g_From.eq_def)) (And.intro (@GD3_lowByte) (@g_lowByte.eq_def))) (And.intro (And.intro (@GD3_Cmp) (@g_Cmp.eq_def)) (And.intro (@GD3_Sub) (And.intro (@g_Sub.eq_def) (@GD3_Read))))) (And.intro (And.intro (And.intro (@g_Read.eq_def) (@GD3_Addr)) (And.intro (@g_Addr.eq_def) (@GD3_Wide))) (And.intro (And.intro (@g_Wide.eq_def) (@GD3_Bytes)) (And.intro (@g_Bytes.eq_def) (And.intro (@GD3_kSum) (@g_kSum.eq_def)))))

theorem sel_vc (xs : List Int) (hx : allB xs) (hl : xs.length ≤ 1000000) (w : World) (hm : MemOk w [] [.ro (some ⟨0, 0, none⟩) (.ints .u64 kKeys), .ro (some ⟨1, 0, none⟩) (.ints .u8 kPathI)] w) :
  Calls Tryd.prog 63 (cvs [.str xs]).toArray w (fun en w' => ∃ u, en = .returned u ∧ ∃ v' m', u = cv v' ∧ MemOk w [] m' w' ∧ ∃ k s, v' = .sl k (some ⟨blkOf s, 0, none⟩) 0 0 1 4 (max 32 (capOf s)) ∧ bget m' k = .own s 32 5 1 (.ints .u8 (bytI (kSum xs) 32))) := by
 have u1 : xs.take xs.length = xs := List.take_length
 refine Vc.calls T0_ok Tryd.func63 rfl rfl (args := [.str xs]) (k := 7) rfl hm ?_; change Vc _ _ (c8 (.str xs) .undef .undef .undef .undef .undef .undef .undef ([])) _ _
 ((with_reducible refine Vc.seq fun N hN => ?_); (refine Vc.regiont T0_ok GD3_ok ?_); simp only [v8Y, Nat.beq, Nat.ble, seval, tabs, GD3_set]; (try simp (disch := omega) only [v8W]); (repeat (first | ((with_reducible refine And.intro ?_ ?_); exact sdB))); (first | (refine hN _ _ ?_; clear hN N; (try simp (disch := omega) only [v8W])) | skip))
 refine Vc.seq fun N hN => ?_
 refine Vc.regionCnv T0_ok GD3_ok (pre := [⟨some 3, .move (.tmp 0), _, _, _, none⟩]) rfl rfl rfl rfl ?_
 (simp only [v8Y, Nat.beq, Nat.ble, seval, tabs])
 refine ⟨trivial, xs, rfl, hx, fun b cap o hcp hLi => ?_⟩
 have hLb : ∀ M, Blk.heap [(b, o)] ∈ M → LiesH (HM M) (some ⟨b, 0, none⟩) (cc (.ints .u8 xs)) := hLi
 (simp only [v8Y, Nat.beq, Nat.ble, seval, tabs, GD3_set, u1, List.drop_zero]; (try simp (disch := omega) only [v8W]); (repeat (first | with_reducible intro _ | ((with_reducible refine And.intro ?_ ?_); (focus (first | ((repeat' with_reducible apply And.intro) <;> first | exact sideQ | (exact hLb _ (by simp)) | (exact .inl rfl) | (exact kSum_lt _)) | exact sd0))))); (first | (refine hN _ _ ?_; clear hN N; (try simp (disch := omega) only [v8W])) | skip))
 rename_i v
 ((repeat (first | ((first | ((with_reducible refine Vc.fin ?_); dsimp only [thenK, blockK, retK, resS, resOne, resAll])); (try simp only [v8Y, Nat.beq, Nat.ble, seval, tabs, GD3_set])))); (try ((with_reducible refine Fin.of ?_); (try with_reducible exact True.intro))))
 exact ⟨trivial, 3, v, rfl, rfl⟩
end Go.Proofs.YtoadeekdgikghaaDoor
namespace Go.Proofs.YtoadeekdgikghaaDoor
open Go.RowKit
def wdParts (τ : WTy) (p : Nat) (S : Wst) (a s t o d : Nat) (vs vm : Value) : List Blk :=
  [.blk p τ.w (.cells (wdCells S a s t o d vs vm)), .mp a τ.ck (accF S.acc), .mp s τ.ck (sloF S.slo), .mp t τ.ck (setF S.tou), .mp o τ.ck (oriF S.ori), .mp d τ.ck (setF S.dead),
   .own vs S.steps.length τ.st 37 (.rows 37 (S.steps.map stpRow)), .own vm S.marks.length τ.mr 2 (.rows 2 (S.marks.map mrkRow))]
theorem wdParts_nums (τ : WTy) (p : Nat) (S : Wst) (a s t o d : Nat) (vs vm : Value) : (wdParts τ p S a s t o d vs vm).flatMap Blk.nums = [p] ++ ([a] ++ ([s] ++ ([t] ++ ([o] ++ ([d] ++ (vs.ownBlock.toList ++ (vm.ownBlock.toList ++ []))))))) := by
 simp only [wdParts, List.flatMap_cons, List.flatMap_nil, Blk.nums]
structure Chg (w w' : World) (l : List Nat) : Prop where
 os : w'.os = w.os
 tape : w'.tape = w.tape
 output : w'.output = w.output
 size : w.heap.size ≤ w'.heap.size
 old : ∀ k, k < w.heap.size → k ∉ l → w'.heap[k]? = w.heap[k]?
theorem MemOk.chg {w : World} {l : List Nat} {m : List Blk} {w' : World} (h : MemOk w l m w') : Chg w w' l := ⟨h.os, h.tape, h.output, h.size, h.old⟩
theorem ok_chg {w0 : World} {B : List Nat} {w' : World} {e : Blk} : ∀ (l : List Nat) (w : World), Chg w w' l → (∀ b ∈ l, w0.heap.size ≤ b ∨ b ∈ B) → w0.heap.size ≤ w.heap.size → e.ok w0 B w → (∀ b ∈ l, b ∉ e.nums) → e.ok w0 B w'
 | [], w, h, hr, hs, he, hn => ok_grown (row := none) ⟨h.os, h.tape, h.output, h.size, fun k hk _ => h.old k hk List.not_mem_nil⟩ (fun _ h => by cases h) hs he (fun _ h => by cases h)
 | b :: l, w, h, hr, hs, he, hn => by
  by_cases hb : b < w.heap.size
  ·have hb' : b < w'.heap.size := Nat.lt_of_lt_of_le hb h.size
   let w1 : World := { w with heap := w.heap.setIfInBounds b w'.heap[b] }
   have h1 : w.grownBy w1 (some b) := ⟨rfl, rfl, rfl, by simp [w1], fun k hk hkb => by
    show (w.heap.setIfInBounds b w'.heap[b])[k]? = _
    rw [Array.getElem?_setIfInBounds_ne (fun e => hkb (by rw [e]))]⟩
   have h2 : e.ok w0 B w1 := ok_grown h1 (fun k hk => by cases hk; exact hr b List.mem_cons_self) hs he (fun k hk => by cases hk; exact hn b List.mem_cons_self)
   refine ok_chg l w1 ⟨h.os, h.tape, h.output, by simp [w1]; exact h.size, fun k hk hkl => ?_⟩ (fun k hk => hr k (List.mem_cons_of_mem _ hk)) (by simp [w1]; exact hs) h2 (fun k hk => hn k (List.mem_cons_of_mem _ hk))
   show _ = (w.heap.setIfInBounds b w'.heap[b])[k]?
   by_cases hkb : k = b
   ·subst hkb
    rw [Array.getElem?_setIfInBounds_self_of_lt hb, Array.getElem?_eq_getElem hb']
   ·rw [Array.getElem?_setIfInBounds_ne (fun e => hkb e.symm)]
    refine h.old k (by simpa [w1] using hk) (fun hm => ?_)
    rcases List.mem_cons.1 hm with e | e
    ·exact hkb e
    ·exact hkl e
  ·refine ok_chg l w ⟨h.os, h.tape, h.output, h.size, fun k hk hkl => h.old k hk (fun hm => ?_)⟩ (fun k hk => hr k (List.mem_cons_of_mem _ hk)) hs he (fun k hk => hn k (List.mem_cons_of_mem _ hk))
   rcases List.mem_cons.1 hm with e | e
   ·omega
   ·exact hkl e
theorem MemOk.turns {w0 : World} {B : List Nat} {m : List Blk} {w w' : World} (h : MemOk w0 B m w) {nm : Nat} {e0 e : Blk} (hb : bget m nm = e0) (hn : e0 ≠ .gone) (hc : Chg w w' e0.nums) (hr : ∀ b ∈ e0.nums, w0.heap.size ≤ b ∨ b ∈ B)
  (he : e.ok w0 B w') (hnum : ∀ b ∈ e.nums, b ∈ e0.nums ∨ w.heap.size ≤ b) (hee : e.nums.Nodup) : MemOk w0 B (bset m nm e) w' := by
 have hd := nodup_bset (e := e) hb hn h.nodup hee (fun b hbe => (hnum b hbe).imp id (fun h1 h2 => by
  obtain ⟨x, hx, hxb⟩ := List.mem_flatMap.1 h2
  have := bnum_lt (h.each x hx) hxb
  omega))
 refine ⟨hc.os.trans h.os, hc.tape.trans h.tape, hc.output.trans h.output, Nat.le_trans h.size hc.size, fun k hk hkb => ?_, fun x hx => ?_, hd.1⟩
 ·rw [hc.old k (Nat.lt_of_lt_of_le hk h.size) (fun e => ?_)]
  ·exact h.old k hk hkb
  ·rcases hr k e with h4 | h4
   ·omega
   ·exact hkb h4
 ·rcases hd.2 x hx with rfl | ⟨h1, h2⟩
  ·exact he
  ·exact ok_chg _ w hc hr h.size (h.each x h1) h2
theorem wd_ok {w : World} {B : List Nat} {w0 : World} {τ : WTy} {p : Nat} {S : Wst} {a s t o d : Nat} {vs vm : Value} (h : ∀ e ∈ wdParts τ p S a s t o d vs vm, e.ok w0 B w) :
  WdOk w τ p S ((wdParts τ p S a s t o d vs vm).flatMap Blk.nums) := by
 have g := fun e he => h e he
 simp only [wdParts, List.mem_cons, List.not_mem_nil, or_false, forall_eq_or_imp, forall_eq] at g
 obtain ⟨g0, g1, g2, g3, g4, g5, g6, g7⟩ := g
 exact ⟨a, s, t, o, d, vs, vm, wdParts_nums _ _ _ _ _ _ _ _ _ _, g0.1, g1.1, g2.1, g3.1, g4.1, g5.1, g6.1, g7.1⟩
theorem bpre_mem : ∀ {l k : List Blk}, bpre l k → ∃ r, k = l ++ r
 | [], k, _ => ⟨k, rfl⟩
 | a :: l, b :: k, h => by
  obtain ⟨r, hr⟩ := bpre_mem h.2
  exact ⟨r, by rw [h.1, hr]; rfl⟩
 | _ :: _, [], h => h.elim
def ownP : Blk → Bool
 | .blk _ _ _ => true
 | .own _ _ _ _ _ => true
 | .mp _ _ _ => true
 | _ => false
theorem ownP_chg {e : Blk} (h : ownP e = true) {w0 : World} {B : List Nat} {w : World} (he : e.ok w0 B w) {w1 : World} {B' : List Nat} (hb : ∀ b ∈ e.nums, w1.heap.size ≤ b ∨ b ∈ B') : e.ok w1 B' w := by
 cases e with
 | blk b t con => exact ⟨he.1, hb b (by simp [Blk.nums])⟩
 | own v n t es con => exact ⟨he.1, fun b h => hb b (by simp [Blk.nums, h])⟩
 | mp b ks f => exact ⟨he.1, hb b (by simp [Blk.nums])⟩
 | _ => cases h
theorem ownP_nums {e : Blk} (h : ownP e = true) {w0 : World} {B : List Nat} {w : World} (he : e.ok w0 B w) : ∀ b ∈ e.nums, w0.heap.size ≤ b ∨ b ∈ B := by
 cases e with
 | blk b t con => intro k hk; simp [Blk.nums] at hk; subst hk; exact he.2
 | own v n t es con => intro k hk; exact he.2 k (by simpa [Blk.nums] using hk)
 | mp b ks f => intro k hk; simp [Blk.nums] at hk; subst hk; exact he.2
 | _ => cases h
theorem pre_start {w0 : World} {B : List Nat} {pre rest : List Blk} {w : World} (hm : MemOk w0 B (pre ++ rest) w) (ho : ∀ e ∈ pre, ownP e = true) : MemOk w (pre.flatMap Blk.nums) pre w := by
 have hd := hm.nodup
 rw [List.flatMap_append] at hd
 exact ⟨rfl, rfl, rfl, Nat.le_refl _, fun _ _ _ => rfl, fun e he => ownP_chg (ho e he) (hm.each e (List.mem_append_left _ he)) (fun b hb => .inr (List.mem_flatMap.2 ⟨e, he, hb⟩)), (List.nodup_append.1 hd).1⟩
theorem pre_end {w0 : World} {B : List Nat} {pre rest pre' junk : List Blk} {w w' : World} (hm : MemOk w0 B (pre ++ rest) w) (ho : ∀ e ∈ pre, ownP e = true) (h : MemOk w (pre.flatMap Blk.nums) (pre' ++ junk) w') (ho' : ∀ e ∈ pre', ownP e = true) :
  MemOk w0 B (pre' ++ rest) w' := by
 have hd := hm.nodup
 rw [List.flatMap_append] at hd
 obtain ⟨hd1, hd2, hd3⟩ := List.nodup_append.1 hd
 have hd' := h.nodup
 rw [List.flatMap_append] at hd'
 have hpre : ∀ b ∈ pre.flatMap Blk.nums, w0.heap.size ≤ b ∨ b ∈ B := fun b hb => by
  obtain ⟨e, he, hbe⟩ := List.mem_flatMap.1 hb
  exact ownP_nums (ho e he) (hm.each e (List.mem_append_left _ he)) b hbe
 have hnew : ∀ e ∈ pre', ∀ b ∈ e.nums, w.heap.size ≤ b ∨ b ∈ pre.flatMap Blk.nums := fun e he b hb => ownP_nums (ho' e he) (h.each e (List.mem_append_left _ he)) b hb
 refine ⟨h.os.trans hm.os, h.tape.trans hm.tape, h.output.trans hm.output, Nat.le_trans hm.size h.size, fun k hk hkb => ?_, fun e he => ?_, ?_⟩
 ·rw [h.old k (Nat.lt_of_lt_of_le hk hm.size) (fun hin => ?_)]
  ·exact hm.old k hk hkb
  ·rcases hpre k hin with h4 | h4
   ·omega
   ·exact hkb h4
 ·rcases List.mem_append.1 he with he | he
  ·exact ownP_chg (ho' e he) (h.each e (List.mem_append_left _ he)) (fun b hb => (hnew e he b hb).elim (fun h5 => .inl (Nat.le_trans hm.size h5)) (fun h5 => hpre b h5))
  ·exact ok_chg _ w h.chg hpre hm.size (hm.each e (List.mem_append_right _ he)) (fun b hb hbe => hd3 b hb b (List.mem_flatMap.2 ⟨e, he, hbe⟩) rfl)
 ·rw [List.flatMap_append]
  refine List.nodup_append.2 ⟨(List.nodup_append.1 hd').1, hd2, fun b hb c hc e => ?_⟩
  subst e
  obtain ⟨e, he, hbe⟩ := List.mem_flatMap.1 hb
  obtain ⟨e2, he2, hbe2⟩ := List.mem_flatMap.1 hc
  rcases hnew e he b hbe with h5 | h5
  ·have := bnum_lt (hm.each e2 (List.mem_append_right _ he2)) hbe2
   omega
  ·exact hd3 b h5 b hc rfl
theorem calls_pre {P : Program} {f : FuncId} {fn : Func} {args args' : List SV} {w0 w : World} {B : List Nat} {pre rest : List Blk} {A : Type} {Q : A → Prop} {Fv : A → SV} {pre' : A → List Blk} (hf : P.funcs[f]? = some fn) (hn : (fn.name == "runtime.NumGoroutine") = false) (hb : fn.body.isNone = false)
  (hm : MemOk w0 B (pre ++ rest) w) (ho : ∀ e ∈ pre, ownP e = true) (ho' : ∀ a, Q a → ∀ e ∈ pre' a, ownP e = true) (he : cvs args = cvs args')
  (h : MemOk w (pre.flatMap Blk.nums) pre w → Calls P f (cvs args').toArray w (fun en w' => ∃ u, en = .returned u ∧ ∃ v' m', u = cv v' ∧ MemOk w (pre.flatMap Blk.nums) m' w' ∧ ∃ a, Q a ∧ v' = Fv a ∧ bpre (pre' a) m')) :
  Enters P f (cvs args).toArray w fun u w' => ∃ a : A, Q a ∧ u = cv (Fv a) ∧ MemOk w0 B (pre' a ++ rest) w' := by
 rw [he]
 refine .inr ⟨enter_run hf hn hb _ w, (h (pre_start hm ho)).mono fun e w' ⟨u, hu, v', m', hv, hm', a, hQ, hva, hp⟩ => ⟨u, hu, a, hQ, by rw [hv, hva], ?_⟩⟩
 obtain ⟨r, rfl⟩ := bpre_mem hp
 exact pre_end hm ho hm' (ho' a hQ)
end Go.Proofs.YtoadeekdgikghaaDoor

/-
 What a law is handed, whatever its types: read again behind the call; truth values and parts opened. No condition.
-/
import Derived.Test.YtjonbbmnjbnefaaDoorOJ
import Derived.Test.YtjonbbmnjbnefaaDoorOH
import Derived.Test.YtjonbbmnjbnefaaDoorOT
import Derived.Test.YtjonbbmnjbnefaaDoorRE
import Derived.Deep.Slices
import Derived.Test.YtjonbbmnjbnefaaDoorD2
import Derived.ReadAgain
import Derived.ChangeReads
import Derived.ChangeBears
import Derived.Deep.Strs
set_option maxRecDepth 10000
set_option maxHeartbeats 4000000
set_option linter.defProp false
set_option linter.unusedVariables false
set_option linter.unusedSimpArgs false
namespace Go.Proofs.YtjonbbmnjbnefaaDoor
open Go.RowKit
theorem may_tg {x : OpD} (h : mayO x = true) : tgO x = false := by
 simp only [mayO, chkO, Bool.and_eq_true, Bool.not_eq_true', Bool.or_eq_false_iff] at h
 exact h.2.2.1
noncomputable def GOY : Ctr := fun f args m => match f with
 | 15 => g_may args m
 | 12 => g_ulK args m
 | 16 => g_gasAll args m
 | 17 => g_rgas args m
 | 18 => g_prefund args m
 | 19 => g_rprefund args m
 | 20 => g_price args m
 | 21 => g_rprice args m
 | _ => .none
theorem GOY_ok : GOk Tryd.prog GOY := by
 intro w0 B f args m; unfold GOY; split
 ·exact g_may_ok _ _ _ _
 ·exact g_ulK_ok _ _ _ _
 ·exact g_gasAll_ok _ _ _ _
 ·exact g_rgas_ok _ _ _ _
 ·exact g_prefund_ok _ _ _ _
 ·exact g_rprefund_ok _ _ _ _
 ·exact g_price_ok _ _ _ _
 ·exact g_rprice_ok _ _ _ _
 ·exact trivial
theorem GOY_may : GOY 15 = g_may := by funext args m; rfl
theorem GOY_ulK : GOY 12 = g_ulK := by funext args m; rfl
theorem GOY_gasAll : GOY 16 = g_gasAll := by funext args m; rfl
theorem GOY_rgas : GOY 17 = g_rgas := by funext args m; rfl
theorem GOY_prefund : GOY 18 = g_prefund := by funext args m; rfl
theorem GOY_rprefund : GOY 19 = g_rprefund := by funext args m; rfl
theorem GOY_price : GOY 20 = g_price := by funext args m; rfl
theorem GOY_rprice : GOY 21 = g_rprice := by funext args m; rfl
def GOY_set := And.intro (And.intro (And.intro (And.intro (@GOY_may) (@g_may.eq_def)) (And.intro (@GOY_ulK) (@g_ulK.eq_def))) (And.intro (And.intro (@GOY_gasAll) (@g_gasAll.eq_def)) (And.intro (@GOY_rgas) (@g_rgas.eq_def)))) (And.intro (And.intro (And.intro (@GOY_prefund) (@g_prefund.eq_def)) (And.intro (@GOY_rprefund) (@g_rprefund.eq_def))) (And.intro (And.intro (@GOY_price) (@g_price.eq_def)) (And.intro (@GOY_rprice) (@g_rprice.eq_def))))

set_option maxRecDepth 20000 in
theorem numbers_law (l : List SV) (x : OpD) (base : Nat) (hb0 : base < W) (w : World) (hm : MemOk w [] [.ro (some ⟨1, 0, none⟩) (.ints .u64 kKeys), .ro (some ⟨2, 0, none⟩) (.ints .u8 kPathI), allOld w] w) (hO : OpR (H0 w) l x) : Calls Tryd.prog 4 (cvs [.agg l, .word base]).toArray w (Yes w) := by
 have hOx : ∀ m, allOld w ∈ m → OpR (HM m) l x := fun m hin => hO.mono (H0.hm hin)
 have hop := opOf_eq hO
 have f3 := hO.all
 cases hc : mayO x with
 | false =>
  refine Vc.calls T0_ok Tryd.func4 rfl rfl (args := [.agg l, .word base]) (k := 33) rfl hm ?_; change Vc _ _ (c8 (.agg l) (.word base) .undef .undef .undef .undef .undef .undef (c8 .undef .undef .undef .undef .undef .undef .undef .undef (c8 .undef .undef .undef .undef .undef .undef .undef .undef (c8 .undef .undef .undef .undef .undef .undef .undef .undef ([.undef, .undef, .undef]))))) _ _
  ((repeat (first | (with_reducible first | refine Vc.seq fun N hN => ?_ | refine Vc.block ?_) | ((with_reducible first | refine Vc.skip ?_ | refine Vc.exit ?_); dsimp only [thenK, blockK, Nat.beq]; (first | (refine hN _ _ ?_; clear hN N) | skip)) | (with_reducible intro _) | ((with_reducible refine And.intro ?_ ?_); (focus (first | ((repeat' with_reducible apply And.intro) <;> first | exact sideQ | (exact ⟨x, hOx _ (by simp)⟩) | (exact ⟨x, hOx _ (by simp), hg⟩)) | exact sd0))) | ((first | ((with_reducible refine askT_of ?_ (fun hb => ?_)); (focus (first | ((repeat' with_reducible apply And.intro) <;> first | exact sideQ | (exact ⟨x, hOx _ (by simp)⟩) | (exact ⟨x, hOx _ (by simp), hg⟩)) | exact sd0)); (try simp only [hb])) | ((with_reducible refine Vc.fin ?_); dsimp only [thenK, blockK, retK, resS, resOne, resAll]) | ((with_reducible refine Vc.hold ?_); first | refine Vc.regiont T0_ok GOY_ok ?_ | refine Vc.drawt (id := 4) T0_ok GOY_ok (by kernel_rfl) [0, 1, 2, 4, 3, 5, 6, 7, 8, 9, 11, 10, 12, 13, 14, 15, 16, 17, 19, 20, 18] 21 [] trivial (by kernel_rfl) ?_)); (try simp only [v8Y, Nat.beq, Nat.ble, Int.reduceToNat, Int.reduceLE, Int.reduceLT, Nat.reduceLT, Nat.reduceLeDiff, Nat.reduceAdd, Nat.reduceMul, Nat.reduceSub, Int.reduceAdd, Int.reduceSub, Int.reduceMul, v8S, IntKind.bits, tabs, GOY_set, hop, f3, hc]); (try simp (disch := omega) only [v8W])) | ((with_reducible refine hN _ _ ?_); clear hN N; (try simp (disch := omega) only [v8W])))); (try ((with_reducible refine Fin.of ?_); (try with_reducible exact True.intro))))
  (refine Vc.cond T0_ok (t := true) (by rfl) (fun _ => ?_) (fun h => Bool.noConfusion h))
  ((repeat (first | (with_reducible first | refine Vc.seq fun N hN => ?_ | refine Vc.block ?_) | ((with_reducible first | refine Vc.skip ?_ | refine Vc.exit ?_); dsimp only [thenK, blockK, Nat.beq]; (first | (refine hN _ _ ?_; clear hN N) | skip)) | (with_reducible intro _) | ((with_reducible refine And.intro ?_ ?_); (focus (first | ((repeat' with_reducible apply And.intro) <;> first | exact sideQ | (exact ⟨x, hOx _ (by simp)⟩) | (exact ⟨x, hOx _ (by simp), hg⟩)) | exact sd0))) | ((first | ((with_reducible refine askT_of ?_ (fun hb => ?_)); (focus (first | ((repeat' with_reducible apply And.intro) <;> first | exact sideQ | (exact ⟨x, hOx _ (by simp)⟩) | (exact ⟨x, hOx _ (by simp), hg⟩)) | exact sd0)); (try simp only [hb])) | ((with_reducible refine Vc.fin ?_); dsimp only [thenK, blockK, retK, resS, resOne, resAll]) | ((with_reducible refine Vc.hold ?_); first | refine Vc.regiont T0_ok GOY_ok ?_ | refine Vc.drawt (id := 4) T0_ok GOY_ok (by kernel_rfl) [0, 1, 2, 4, 3, 5, 6, 7, 8, 9, 11, 10, 12, 13, 14, 15, 16, 17, 19, 20, 18] 21 [] trivial (by kernel_rfl) ?_)); (try simp only [v8Y, Nat.beq, Nat.ble, Int.reduceToNat, Int.reduceLE, Int.reduceLT, Nat.reduceLT, Nat.reduceLeDiff, Nat.reduceAdd, Nat.reduceMul, Nat.reduceSub, Int.reduceAdd, Int.reduceSub, Int.reduceMul, v8S, IntKind.bits, tabs, GOY_set]); (try simp (disch := omega) only [v8W])) | ((with_reducible refine hN _ _ ?_); clear hN N; (try simp (disch := omega) only [v8W])))); (try ((with_reducible refine Fin.of ?_); (try with_reducible exact True.intro))))
  exact ⟨by simp, trivial⟩
 | true =>
  have hg := may_tg hc
  have q1 : eqW (pfN x) (pfN x) = true := eqW_of rfl
  have q2 : eqW (prN x base) (prN x base) = true := eqW_of rfl
  refine Vc.calls T0_ok Tryd.func4 rfl rfl (args := [.agg l, .word base]) (k := 33) rfl hm ?_; change Vc _ _ (c8 (.agg l) (.word base) .undef .undef .undef .undef .undef .undef (c8 .undef .undef .undef .undef .undef .undef .undef .undef (c8 .undef .undef .undef .undef .undef .undef .undef .undef (c8 .undef .undef .undef .undef .undef .undef .undef .undef ([.undef, .undef, .undef]))))) _ _
  ((repeat (first | (with_reducible first | refine Vc.seq fun N hN => ?_ | refine Vc.block ?_) | ((with_reducible first | refine Vc.skip ?_ | refine Vc.exit ?_); dsimp only [thenK, blockK, Nat.beq]; (first | (refine hN _ _ ?_; clear hN N) | skip)) | (with_reducible intro _) | ((with_reducible refine And.intro ?_ ?_); (focus (first | ((repeat' with_reducible apply And.intro) <;> first | exact sideQ | (exact ⟨x, hOx _ (by simp)⟩) | (exact ⟨x, hOx _ (by simp), hg⟩)) | exact sd0))) | ((first | ((with_reducible refine askT_of ?_ (fun hb => ?_)); (focus (first | ((repeat' with_reducible apply And.intro) <;> first | exact sideQ | (exact ⟨x, hOx _ (by simp)⟩) | (exact ⟨x, hOx _ (by simp), hg⟩)) | exact sd0)); (try simp only [hb])) | ((with_reducible refine Vc.fin ?_); dsimp only [thenK, blockK, retK, resS, resOne, resAll]) | ((with_reducible refine Vc.hold ?_); first | refine Vc.regiont T0_ok GOY_ok ?_ | refine Vc.drawt (id := 4) T0_ok GOY_ok (by kernel_rfl) [0, 1, 2, 4, 3, 5, 6, 7, 8, 9, 11, 10, 12, 13, 14, 15, 16, 17, 19, 20, 18] 21 [] trivial (by kernel_rfl) ?_)); (try simp only [v8Y, Nat.beq, Nat.ble, Int.reduceToNat, Int.reduceLE, Int.reduceLT, Nat.reduceLT, Nat.reduceLeDiff, Nat.reduceAdd, Nat.reduceMul, Nat.reduceSub, Int.reduceAdd, Int.reduceSub, Int.reduceMul, v8S, IntKind.bits, tabs, GOY_set, hop, f3, hc]); (try simp (disch := omega) only [v8W])) | ((with_reducible refine hN _ _ ?_); clear hN N; (try simp (disch := omega) only [v8W])))); (try ((with_reducible refine Fin.of ?_); (try with_reducible exact True.intro))))
  (refine Vc.cond T0_ok (t := false) (by rfl) (fun h => Bool.noConfusion h) (fun _ => ?_))
  ((repeat (first | (with_reducible first | refine Vc.seq fun N hN => ?_ | refine Vc.block ?_) | ((with_reducible first | refine Vc.skip ?_ | refine Vc.exit ?_); dsimp only [thenK, blockK, Nat.beq]; (first | (refine hN _ _ ?_; clear hN N) | skip)) | (with_reducible intro _) | ((with_reducible refine And.intro ?_ ?_); (focus (first | ((repeat' with_reducible apply And.intro) <;> first | exact sideQ | (exact ⟨x, hOx _ (by simp)⟩) | (exact ⟨x, hOx _ (by simp), hg⟩)) | exact sd0))) | ((first | ((with_reducible refine askT_of ?_ (fun hb => ?_)); (focus (first | ((repeat' with_reducible apply And.intro) <;> first | exact sideQ | (exact ⟨x, hOx _ (by simp)⟩) | (exact ⟨x, hOx _ (by simp), hg⟩)) | exact sd0)); (try simp only [hb])) | ((with_reducible refine Vc.fin ?_); dsimp only [thenK, blockK, retK, resS, resOne, resAll]) | ((with_reducible refine Vc.hold ?_); first | refine Vc.regiont T0_ok GOY_ok ?_ | refine Vc.drawt (id := 4) T0_ok GOY_ok (by kernel_rfl) [0, 1, 2, 4, 3, 5, 6, 7, 8, 9, 11, 10, 12, 13, 14, 15, 16, 17, 19, 20, 18] 21 [] trivial (by kernel_rfl) ?_)); (try simp only [v8Y, Nat.beq, Nat.ble, Int.reduceToNat, Int.reduceLE, Int.reduceLT, Nat.reduceLT, Nat.reduceLeDiff, Nat.reduceAdd, Nat.reduceMul, Nat.reduceSub, Int.reduceAdd, Int.reduceSub, Int.reduceMul, v8S, IntKind.bits, tabs, GOY_set, hop, f3, q1, q2]); (try simp (disch := omega) only [v8W])) | ((with_reducible refine hN _ _ ?_); clear hN N; (try simp (disch := omega) only [v8W])))); (try ((with_reducible refine Fin.of ?_); (try with_reducible exact True.intro))))
  exact ⟨by simp, trivial⟩
end Go.Proofs.YtjonbbmnjbnefaaDoor
namespace Go.Proofs.YtjonbbmnjbnefaaDoor
open Go.RowKit Go.ChangeShapes Go.WideShapes Go.ChangeAt
section
variable {H : Type} {enc : TypeId × Value → H} {w : World} {base : Nat} {spare : Nat → Bool} {held : Bool}
theorem word_cells {fuel : Nat} {cs : List Value} {x : DataW H × List MemPlace} (hf : DataW.trod enc Tryd.prog w base spare held fuel 26 cs = some x) (hl : cs.length = 4) :
  ∃ a, cs = wcs a ∧ x = (DV a, []) ∧ a < W := by
 obtain ⟨c0, c1, c2, c3, rfl⟩ := list4 cs hl
 obtain ⟨y0, y1, y2, y3, m, hx, hy0, hy1, hy2, hy3⟩ := trod_array4 Tryd.underlying26 cellsU hf
 obtain ⟨x0, e0, rfl, w0⟩ := DataW.trod_int Tryd.underlying24 hy0
 obtain ⟨x1, e1, rfl, w1⟩ := DataW.trod_int Tryd.underlying24 hy1
 obtain ⟨x2, e2, rfl, w2⟩ := DataW.trod_int Tryd.underlying24 hy2
 obtain ⟨x3, e3, rfl, w3⟩ := DataW.trod_int Tryd.underlying24 hy3
 simp at e0 e1 e2 e3
 subst e0 e1 e2 e3
 subst hx
 obtain ⟨n0, rfl, h0⟩ := of_wf w0
 obtain ⟨n1, rfl, h1⟩ := of_wf w1
 obtain ⟨n2, rfl, h2⟩ := of_wf w2
 obtain ⟨n3, rfl, h3⟩ := of_wf w3
 refine ⟨num n0 n1 n2 n3, ?_, ?_, num_lt h0 h1 h2 h3⟩
 ·unfold wcs; rw [lm0_num h0, lm1_num h0 h1, lm2_num h0 h1 h2, lm3_num h0 h1 h2 h3]
 ·unfold DV; rw [lm0_num h0, lm1_num h0 h1, lm2_num h0 h1 h2, lm3_num h0 h1 h2 h3]; rfl
end
end Go.Proofs.YtjonbbmnjbnefaaDoor
namespace Go.Proofs.YtjonbbmnjbnefaaDoor
open Go.RowKit Go.ChangeShapes Go.WideShapes Go.ChangeAt
theorem Tryd.laidOut : laidOutB Tryd.prog = true := by kernel_rfl
theorem Tryd.mapsRow : mapsRowed Tryd.prog = true := by kernel_rfl
theorem Tryd.slicesFull : ((List.range Tryd.prog.types.size).all fun t => match Tryd.prog.underlying t with | some (.slice e) => decide (0 < Tryd.prog.cellsOf e) | _ => true) = true := by kernel_rfl
section
variable {H : Type} {enc : TypeId × Value → H} {P : Program} {w w' : World} {base : Nat} {spare : Nat → Bool} {held : Bool}
theorem Trod.carry {t : TypeId} {v : Value} {d : DataW H} {ps : List MemPlace} (h : DataW.Trod enc P w base spare held t v d ps) (hs : ∀ p ∈ ps, w.sameAt w' p) : DataW.Trod enc P w' base spare held t v d ps := by
 obtain ⟨n, hn⟩ := h
 exact ⟨n, DataW.trod_carry n _ _ _ hn hs⟩
theorem TrodAll.carry : ∀ {ts : List TypeId} {vs : List Value} {ds : List (DataW H)} {ps : List MemPlace}, DataW.TrodAll enc P w base spare held ts vs ds ps → (∀ p ∈ ps, w.sameAt w' p) → DataW.TrodAll enc P w' base spare held ts vs ds ps
 | [], [], [], _, h, _ => h
 | _ :: _, _ :: _, _ :: _, _, ⟨p, q, h1, h2, e⟩, hs => ⟨p, q, Trod.carry h1 (fun x hx => hs x (by rw [e]; exact List.mem_append_left _ hx)), TrodAll.carry h2 (fun x hx => hs x (by rw [e]; exact List.mem_append_right _ hx)), e⟩
end
theorem post_any {H : Type} {enc : TypeId × Value → H} {f : Func} {s : ChangeSpec} {apart fresh handsOn again : Bool} {W W' : World} {args : Array Value} {v : Value} {ds gs : List (DataW H)} {before : List MemPlace}
  (hW : DataW.Whole enc Tryd.prog f.params.toList s.vars apart W args.toList ds gs before) (hvn : s.vars = []) (hp : ∃ p, W' = gw W p)
  (hT : (f.params.toList.all fun t => decide (t < Tryd.prog.types.size)) = true) (hfa : (s.fn H (ds ++ gs)).args = ds)
  (hres : ∀ (b : Nat) (sp : Nat → Bool) (hd : Bool), DataW.TrodAll enc Tryd.prog W' b sp hd f.resultTypes.toList (v.resultList f.resultTypes.size) (s.fn H (ds ++ gs)).results [])
  (hvars : ∀ sp : Nat → Bool, DataW.TrodVars enc Tryd.prog W' sp s.vars (s.fn H (ds ++ gs)).vars [])
  (hok : ∀ (j : Nat) (t : TypeId) (r : Value), f.resultTypes[j]? = some t → (v.resultList f.resultTypes.size)[j]? = some r → Value.okWide Tryd.prog W' .any 0 t r) :
  s.post enc Tryd.prog f apart fresh handsOn again W args v W' := by
 refine post_gr hW hp hres (fun q sp hsp => ?_) hvars hok
 have hlt := hW.lt
 rw [hfa]
 obtain ⟨p, q', hA, hV, rfl, _, _⟩ := hW
 rw [hvn] at hV
 have hq : q' = [] := by
  cases gs with
  | nil => exact hV
  | cons g gs => exact hV.elim
 subst hq
 rw [List.append_nil] at hsp hlt ⊢
 refine TrodAll.carry (DataW.TrodAll.respare (kids_rows Tryd.laidOut Tryd.mapsRow) (slices_full_of Tryd.prog Tryd.slicesFull) (fun t ht => of_decide_eq_true (List.all_eq_true.1 hT t ht)) hA hsp) (fun x hx => ?_)
 have hb := hlt x hx
 cases x with
 | cell b off => exact gw_cell W q b _ hb
 | map b => show (gw W q).heap[b]? = W.heap[b]?; unfold gw; exact Array.getElem?_append_left hb
theorem cells8 : Tryd.prog.cellsOf 5 = 1 := by kernel_rfl
theorem adr_spot {a : Addr} {len cap : Nat} (h1 : len ≤ cap) (h : 0 < cap → a.spot = none) : adr (some a) len cap := by
 by_cases hc : 0 < cap
 ·obtain ⟨b, o, sp⟩ := a
  have := h hc
  simp only at this
  subst this
  exact .inl rfl
 ·exact .inr ⟨rfl, by omega, by omega⟩
theorem lies_cells {w : World} {b off : Nat} {cs : List Value} (hc : ∀ j u, cs[j]? = some u → w.cell? ⟨b, off + j, none⟩ = some u) : LiesH (H0 w) (some ⟨b, off, none⟩) cs := by
 cases cs with
 | nil => exact .inl rfl
 | cons u0 l =>
  have h4 := hc 0 u0 rfl
  have hcell : ∃ arr t fr, w.heap[b]? = some (.cells arr t fr) := by
   cases ho : w.heap[b]? with
   | none => simp [World.cell?, ho] at h4
   | some o =>
    cases o with
    | cells arr t fr => exact ⟨arr, t, fr, rfl⟩
    | _ => simp [World.cell?, ho] at h4
  obtain ⟨arr, t, fr, ho⟩ := hcell
  refine .inr ⟨b, off, arr, t, fr, rfl, ho, fun j u hj => ?_⟩
  have h5 := hc j u hj
  simpa [World.cell?, ho] using h5
section
variable {H : Type} {enc : TypeId × Value → H} {w : World}
theorem bytes_cell {fuel : Nat} {cs : List Value} {x : DataW H × List MemPlace} (h : DataW.trod enc Tryd.prog w 0 (fun _ => true) true fuel 27 cs = some x) :
  ∃ a n c bs, cs = [.slice a n c] ∧ bs.length = n ∧ n ≤ c ∧ adr a n c ∧ LiesH (H0 w) a (cc (.ints .u8 bs)) ∧ allB bs ∧ n ≤ maxLen := by
 rcases open_ints Tryd.underlying27 Tryd.underlying5 cells8 h with ⟨rfl, _⟩ | ⟨a, len, cap, zs, rfl, _, h3, h4, h5, _, h7, h8⟩
 ·exact ⟨none, 0, 0, [], rfl, rfl, Nat.le_refl _, .inr ⟨rfl, rfl, rfl⟩, .inl rfl, fun _ h => absurd h List.not_mem_nil, Nat.zero_le _⟩
 ·rw [if_pos rfl] at h5
  have hsp : 0 < cap → a.spot = none := fun hc => by
   have := World.cell?_spot (h7 0 (by omega))
   simpa [Addr.add] using this
  refine ⟨some a, len, cap, zs.take len, rfl, by rw [List.length_take]; omega, h3, adr_spot h3 hsp, ?_, allB_wf (fun x hx => h8 x (List.mem_of_mem_take hx)), Nat.le_trans h3 h4⟩
  by_cases hc : 0 < cap
  ·obtain ⟨b, o, sp⟩ := a
   have := hsp hc
   simp only at this
   subst this
   refine lies_cells fun j u hj => ?_
   simp only [cc, List.getElem?_map, Option.map_eq_some_iff, List.getElem?_take] at hj
   obtain ⟨x, hx, rfl⟩ := hj
   split at hx
   ·have hjl := (List.getElem?_eq_some_iff.1 hx).1
    have := h7 j hjl
    rw [addr_add, List.getD_eq_getElem?_getD, hx] at this
    exact this
   ·cases hx
  ·have : len = 0 := by omega
   subst this
   exact .inl rfl

end
theorem PsR.lt {H : Nat → Obj → Prop} {rs : List (List SV)} {l : List Prt} (h : PsR H rs l) : ∀ p ∈ l, p.w < W := fun p hp => by
 obtain ⟨i, hi⟩ := List.getElem?_of_mem hp
 have hlt : i < rs.length := by rw [h.1]; exact (List.getElem?_eq_some_iff.1 hi).1
 obtain ⟨x0, x1, x2, x3, a, n, c, e, g1, g2, _⟩ := h.2.2 i _ p (List.getElem?_eq_getElem hlt) hi
 rw [← g2]; exact numI_lt g1
theorem PsR.all {H : Nat → Obj → Prop} {rs : List (List SV)} {l : List Prt} (h : PsR H rs l) : ∀ p ∈ l, allB p.bs := fun p hp => by
 obtain ⟨i, hi⟩ := List.getElem?_of_mem hp
 have hlt : i < rs.length := by rw [h.1]; exact (List.getElem?_eq_some_iff.1 hi).1
 obtain ⟨x0, x1, x2, x3, a, n, c, e, g1, g2, g3, g4, g5, g6, g7, g8⟩ := h.2.2 i _ p (List.getElem?_eq_getElem hlt) hi
 exact g7
section
variable {H : Type} {enc : TypeId × Value → H} {w : World}
instance : Inhabited Prt := ⟨⟨false, 0, []⟩⟩
end
end Go.Proofs.YtjonbbmnjbnefaaDoor

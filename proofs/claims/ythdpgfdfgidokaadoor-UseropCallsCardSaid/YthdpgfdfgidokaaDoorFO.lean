/-
 An operation, a time's span as a law is handed them. No condition.
-/
import Derived.Test.YthdpgfdfgidokaaDoorOD
import Derived.Test.YthdpgfdfgidokaaDoorKC
import Derived.Test.YthdpgfdfgidokaaDoorCards
import Derived.Test.YthdpgfdfgidokaaDoorTie
import Derived.Deep.DeepHandedRow
import Derived.Lib.LaidTab
import Derived.LaidHandle
import Derived.OpenShut
import Derived.Test.YthdpgfdfgidokaaDoorRE
import Derived.Deep.Slices
import Derived.Test.YthdpgfdfgidokaaDoorD2
import Derived.ReadAgain
import Derived.ChangeReads
import Derived.ChangeBears
import Derived.Deep.Strs
import Derived.Test.YthdpgfdfgidokaaDoorOC
set_option maxRecDepth 10000
set_option linter.unusedVariables false
set_option linter.unusedSimpArgs false
namespace Go.Proofs.YthdpgfdfgidokaaDoor
open Go.ChangeShapes Go.WideShapes Go.ChangeAt Go.RowKit
theorem uo_laid {w : World} (h : laidMetH Tryd.prog [("quaestor/keccak.keys", Rows.laid_quaestor_keccak_keys), ("quaestor/keccak.path", Rows.laid_quaestor_keccak_path)] w) : MemOk w [] [.ro (some ⟨1, 0, none⟩) (.ints .u64 kKeys), .ro (some ⟨2, 0, none⟩) (.ints .u8 kPathI), allOld w] w := by
 have hh : RoOk w (some ⟨1, 0, none⟩) (.ints .u64 kKeys) ∧ RoOk w (some ⟨2, 0, none⟩) (.ints .u8 kPathI) :=
  laid_two (n1 := "quaestor/keccak.keys") (n2 := "quaestor/keccak.path") h (by kernel_rfl) (by kernel_rfl) (by kernel_rfl) (by kernel_rfl) (by kernel_rfl) (by kernel_rfl)
 exact MemOk.wold (ro_front (ro_cons (ro_nil w) hh.2) (ro_cons (ro_nil w) hh.1))
end Go.Proofs.YthdpgfdfgidokaaDoor
namespace Go.Proofs.YthdpgfdfgidokaaDoor
open Go.RowKit Go.ChangeShapes Go.WideShapes Go.ChangeAt
section
variable {H : Type} {enc : TypeId × Value → H} {w : World} {base : Nat} {spare : Nat → Bool} {held : Bool}
theorem word_cells {fuel : Nat} {cs : List Value} {x : DataW H × List MemPlace} (hf : DataW.trod enc Tryd.prog w base spare held fuel 26 cs = some x) (hl : cs.length = 4) :
  ∃ a, cs = wcs a ∧ x = (DV a, []) ∧ a < W := by
 obtain ⟨c0, c1, c2, c3, rfl⟩ := list4 cs hl
 obtain ⟨y0, y1, y2, y3, m, hx, hy0, hy1, hy2, hy3⟩ := trod_array4 Tryd.underlying26 cellsU hf
 obtain ⟨x0, e0, rfl, w0⟩ := DataW.trod_int Tryd.underlying24 hy0
 obtain ⟨x1, e1, rfl, w1⟩ := DataW.trod_int Tryd.underlying24 hy1
 obtain ⟨x2, e2, rfl, w2⟩ := DataW.trod_int Tryd.underlying24 hy2
 obtain ⟨x3, e3, rfl, w3⟩ := DataW.trod_int Tryd.underlying24 hy3
 simp at e0 e1 e2 e3
 subst e0 e1 e2 e3
 subst hx
 obtain ⟨n0, rfl, h0⟩ := of_wf w0
 obtain ⟨n1, rfl, h1⟩ := of_wf w1
 obtain ⟨n2, rfl, h2⟩ := of_wf w2
 obtain ⟨n3, rfl, h3⟩ := of_wf w3
 refine ⟨num n0 n1 n2 n3, ?_, ?_, num_lt h0 h1 h2 h3⟩
 ·unfold wcs; rw [lm0_num h0, lm1_num h0 h1, lm2_num h0 h1 h2, lm3_num h0 h1 h2 h3]
 ·unfold DV; rw [lm0_num h0, lm1_num h0 h1, lm2_num h0 h1 h2, lm3_num h0 h1 h2 h3]; rfl
end
end Go.Proofs.YthdpgfdfgidokaaDoor
namespace Go.Proofs.YthdpgfdfgidokaaDoor
open Go.RowKit Go.ChangeShapes Go.WideShapes Go.ChangeAt
theorem Tryd.laidOut : laidOutB Tryd.prog = true := by kernel_rfl
theorem Tryd.mapsRow : mapsRowed Tryd.prog = true := by kernel_rfl
theorem Tryd.slicesFull : ((List.range Tryd.prog.types.size).all fun t => match Tryd.prog.underlying t with | some (.slice e) => decide (0 < Tryd.prog.cellsOf e) | _ => true) = true := by kernel_rfl
section
variable {H : Type} {enc : TypeId × Value → H} {P : Program} {w w' : World} {base : Nat} {spare : Nat → Bool} {held : Bool}
theorem Trod.carry {t : TypeId} {v : Value} {d : DataW H} {ps : List MemPlace} (h : DataW.Trod enc P w base spare held t v d ps) (hs : ∀ p ∈ ps, w.sameAt w' p) : DataW.Trod enc P w' base spare held t v d ps := by
 obtain ⟨n, hn⟩ := h
 exact ⟨n, DataW.trod_carry n _ _ _ hn hs⟩
theorem TrodAll.carry : ∀ {ts : List TypeId} {vs : List Value} {ds : List (DataW H)} {ps : List MemPlace}, DataW.TrodAll enc P w base spare held ts vs ds ps → (∀ p ∈ ps, w.sameAt w' p) → DataW.TrodAll enc P w' base spare held ts vs ds ps
 | [], [], [], _, h, _ => h
 | _ :: _, _ :: _, _ :: _, _, ⟨p, q, h1, h2, e⟩, hs => ⟨p, q, Trod.carry h1 (fun x hx => hs x (by rw [e]; exact List.mem_append_left _ hx)), TrodAll.carry h2 (fun x hx => hs x (by rw [e]; exact List.mem_append_right _ hx)), e⟩
end
theorem post_any {H : Type} {enc : TypeId × Value → H} {f : Func} {s : ChangeSpec} {apart fresh handsOn again : Bool} {W W' : World} {args : Array Value} {v : Value} {ds gs : List (DataW H)} {before : List MemPlace}
  (hW : DataW.Whole enc Tryd.prog f.params.toList s.vars apart W args.toList ds gs before) (hvn : s.vars = []) (hp : ∃ p, W' = gw W p)
  (hT : (f.params.toList.all fun t => decide (t < Tryd.prog.types.size)) = true) (hfa : (s.fn H (ds ++ gs)).args = ds)
  (hres : ∀ (b : Nat) (sp : Nat → Bool) (hd : Bool), DataW.TrodAll enc Tryd.prog W' b sp hd f.resultTypes.toList (v.resultList f.resultTypes.size) (s.fn H (ds ++ gs)).results [])
  (hvars : ∀ sp : Nat → Bool, DataW.TrodVars enc Tryd.prog W' sp s.vars (s.fn H (ds ++ gs)).vars [])
  (hok : ∀ (j : Nat) (t : TypeId) (r : Value), f.resultTypes[j]? = some t → (v.resultList f.resultTypes.size)[j]? = some r → Value.okWide Tryd.prog W' .any 0 t r) :
  s.post enc Tryd.prog f apart fresh handsOn again W args v W' := by
 refine post_gr hW hp hres (fun q sp hsp => ?_) hvars hok
 have hlt := hW.lt
 rw [hfa]
 obtain ⟨p, q', hA, hV, rfl, _, _⟩ := hW
 rw [hvn] at hV
 have hq : q' = [] := by
  cases gs with
  | nil => exact hV
  | cons g gs => exact hV.elim
 subst hq
 rw [List.append_nil] at hsp hlt ⊢
 refine TrodAll.carry (DataW.TrodAll.respare (kids_rows Tryd.laidOut Tryd.mapsRow) (slices_full_of Tryd.prog Tryd.slicesFull) (fun t ht => of_decide_eq_true (List.all_eq_true.1 hT t ht)) hA hsp) (fun x hx => ?_)
 have hb := hlt x hx
 cases x with
 | cell b off => exact gw_cell W q b _ hb
 | map b => show (gw W q).heap[b]? = W.heap[b]?; unfold gw; exact Array.getElem?_append_left hb
theorem cells8 : Tryd.prog.cellsOf 5 = 1 := by kernel_rfl
theorem adr_spot {a : Addr} {len cap : Nat} (h1 : len ≤ cap) (h : 0 < cap → a.spot = none) : adr (some a) len cap := by
 by_cases hc : 0 < cap
 ·obtain ⟨b, o, sp⟩ := a
  have := h hc
  simp only at this
  subst this
  exact .inl rfl
 ·exact .inr ⟨rfl, by omega, by omega⟩
theorem lies_cells {w : World} {b off : Nat} {cs : List Value} (hc : ∀ j u, cs[j]? = some u → w.cell? ⟨b, off + j, none⟩ = some u) : LiesH (H0 w) (some ⟨b, off, none⟩) cs := by
 cases cs with
 | nil => exact .inl rfl
 | cons u0 l =>
  have h4 := hc 0 u0 rfl
  have hcell : ∃ arr t fr, w.heap[b]? = some (.cells arr t fr) := by
   cases ho : w.heap[b]? with
   | none => simp [World.cell?, ho] at h4
   | some o =>
    cases o with
    | cells arr t fr => exact ⟨arr, t, fr, rfl⟩
    | _ => simp [World.cell?, ho] at h4
  obtain ⟨arr, t, fr, ho⟩ := hcell
  refine .inr ⟨b, off, arr, t, fr, rfl, ho, fun j u hj => ?_⟩
  have h5 := hc j u hj
  simpa [World.cell?, ho] using h5
section
variable {H : Type} {enc : TypeId × Value → H} {w : World}
theorem bytes_cell {fuel : Nat} {cs : List Value} {x : DataW H × List MemPlace} (h : DataW.trod enc Tryd.prog w 0 (fun _ => true) true fuel 27 cs = some x) :
  ∃ a n c bs, cs = [.slice a n c] ∧ bs.length = n ∧ n ≤ c ∧ adr a n c ∧ LiesH (H0 w) a (cc (.ints .u8 bs)) ∧ allB bs ∧ n ≤ maxLen := by
 rcases open_ints Tryd.underlying27 Tryd.underlying5 cells8 h with ⟨rfl, _⟩ | ⟨a, len, cap, zs, rfl, _, h3, h4, h5, _, h7, h8⟩
 ·exact ⟨none, 0, 0, [], rfl, rfl, Nat.le_refl _, .inr ⟨rfl, rfl, rfl⟩, .inl rfl, fun _ h => absurd h List.not_mem_nil, Nat.zero_le _⟩
 ·rw [if_pos rfl] at h5
  have hsp : 0 < cap → a.spot = none := fun hc => by
   have := World.cell?_spot (h7 0 (by omega))
   simpa [Addr.add] using this
  refine ⟨some a, len, cap, zs.take len, rfl, by rw [List.length_take]; omega, h3, adr_spot h3 hsp, ?_, allB_wf (fun x hx => h8 x (List.mem_of_mem_take hx)), Nat.le_trans h3 h4⟩
  by_cases hc : 0 < cap
  ·obtain ⟨b, o, sp⟩ := a
   have := hsp hc
   simp only at this
   subst this
   refine lies_cells fun j u hj => ?_
   simp only [cc, List.getElem?_map, Option.map_eq_some_iff, List.getElem?_take] at hj
   obtain ⟨x, hx, rfl⟩ := hj
   split at hx
   ·have hjl := (List.getElem?_eq_some_iff.1 hx).1
    have := h7 j hjl
    rw [addr_add, List.getD_eq_getElem?_getD, hx] at this
    exact this
   ·cases hx
  ·have : len = 0 := by omega
   subst this
   exact .inl rfl

theorem byt_open {r : Reach} {b0 : Nat} {v : Value} {d : DataW H} {p : List MemPlace} (hval : Value.okWide Tryd.prog w r b0 27 v) (h : DataW.Trod enc Tryd.prog w 0 (fun _ => true) true 27 v d p) :
  ∃ (a : Option Addr) (n c : Nat) (xs : List Int), v = .slice a n c ∧ xs.length = n ∧ n ≤ c ∧ adr a n c ∧ LiesH (H0 w) a (cc (.ints .u8 xs)) ∧ allB xs ∧ n ≤ maxLen := by
 obtain ⟨a0, n0, c0, rfl⟩ := sl_form Tryd.underlying27 hval
 obtain ⟨fuel, hf⟩ := h
 obtain ⟨a, n, c, bs, h1, h2⟩ := bytes_cell hf
 cases h1
 exact ⟨a0, n0, c0, bs, rfl, h2⟩
end
theorem PsR.lt {H : Nat → Obj → Prop} {rs : List (List SV)} {l : List Prt} (h : PsR H rs l) : ∀ p ∈ l, p.w < W := fun p hp => by
 obtain ⟨i, hi⟩ := List.getElem?_of_mem hp
 have hlt : i < rs.length := by rw [h.1]; exact (List.getElem?_eq_some_iff.1 hi).1
 obtain ⟨x0, x1, x2, x3, a, n, c, e, g1, g2, _⟩ := h.2.2 i _ p (List.getElem?_eq_getElem hlt) hi
 rw [← g2]; exact numI_lt g1
theorem PsR.all {H : Nat → Obj → Prop} {rs : List (List SV)} {l : List Prt} (h : PsR H rs l) : ∀ p ∈ l, allB p.bs := fun p hp => by
 obtain ⟨i, hi⟩ := List.getElem?_of_mem hp
 have hlt : i < rs.length := by rw [h.1]; exact (List.getElem?_eq_some_iff.1 hi).1
 obtain ⟨x0, x1, x2, x3, a, n, c, e, g1, g2, g3, g4, g5, g6, g7, g8⟩ := h.2.2 i _ p (List.getElem?_eq_getElem hlt) hi
 exact g7
section
variable {H : Type} {enc : TypeId × Value → H} {w : World}
instance : Inhabited Prt := ⟨⟨false, 0, []⟩⟩
end
end Go.Proofs.YthdpgfdfgidokaaDoor
namespace Go.Proofs.YthdpgfdfgidokaaDoor
open Go.RowKit Go.ChangeShapes Go.WideShapes Go.ChangeAt
def opWit : Value := .agg (List.replicate 20 (Value.int .u8 0) ++ (List.replicate 4 (Value.int .u64 0) ++ (Value.bool false :: (List.replicate 20 (Value.int .u8 0) ++ ([Value.slice none 0 0, Value.slice none 0 0, .int .u64 0, .int .u64 0, .int .u64 0] ++ (List.replicate 8 (Value.int .u64 0) ++ (Value.bool false :: (List.replicate 20 (Value.int .u8 0) ++ [Value.int .u64 0, .int .u64 0, .slice none 0 0, .slice none 0 0])))))))).toArray
theorem cellsOp : Tryd.prog.cellsOf 29 = 83 := by kernel_rfl
theorem listO20 {α : Type} (l : List α) (h : l.length = 20) : ∃ a0 a1 a2 a3 a4 a5 a6 a7 a8 a9 a10 a11 a12 a13 a14 a15 a16 a17 a18 a19, l = [a0, a1, a2, a3, a4, a5, a6, a7, a8, a9, a10, a11, a12, a13, a14, a15, a16, a17, a18, a19] := by
 match l, h with
 | [a0, a1, a2, a3, a4, a5, a6, a7, a8, a9, a10, a11, a12, a13, a14, a15, a16, a17, a18, a19], _ => exact ⟨_, _, _, _, _, _, _, _, _, _, _, _, _, _, _, _, _, _, _, _, rfl⟩
theorem listO17 {α : Type} (l : List α) (h : l.length = 17) : ∃ a0 a1 a2 a3 a4 a5 a6 a7 a8 a9 a10 a11 a12 a13 a14 a15 a16, l = [a0, a1, a2, a3, a4, a5, a6, a7, a8, a9, a10, a11, a12, a13, a14, a15, a16] := by
 match l, h with
 | [a0, a1, a2, a3, a4, a5, a6, a7, a8, a9, a10, a11, a12, a13, a14, a15, a16], _ => exact ⟨_, _, _, _, _, _, _, _, _, _, _, _, _, _, _, _, _, rfl⟩
theorem cutO {cs : List Value} (n k : Nat) (h : n + k ≤ cs.length) : (List.take k (List.drop n cs)).length = k := by rw [List.length_take, List.length_drop]; omega
section
variable {H : Type} {enc : TypeId × Value → H} {w : World}
set_option maxRecDepth 40000 in
theorem op_cells {fuel : Nat} {cs : List Value} {x : DataW H × List MemPlace} (h : DataW.trod enc Tryd.prog w 0 (fun _ => true) true fuel 29 cs = some x) : ∃ l o, cs = cvs l ∧ OpR (H0 w) l o := by
 obtain ⟨xs, n, rfl, _, hl, hxl, hf⟩ := DataW.trod_struct Tryd.underlying29 h
 rw [cellsOp] at hl
 obtain ⟨z0, z1, z2, z3, z4, z5, z6, z7, z8, z9, z10, z11, z12, z13, z14, z15, z16, rfl⟩ := listO17 xs hxl
 have ka : Tryd.prog.cellsOf 23 = 20 := by kernel_rfl
 have kw : Tryd.prog.cellsOf 26 = 4 := by kernel_rfl
 have kb : Tryd.prog.cellsOf 4 = 1 := by kernel_rfl
 have ks : Tryd.prog.cellsOf 27 = 1 := by kernel_rfl
 have ku : Tryd.prog.cellsOf 24 = 1 := by kernel_rfl
 have h0 : DataW.trod enc Tryd.prog w 0 (fun _ => true) true n 23 (List.take (Tryd.prog.cellsOf 23) (List.drop 0 cs)) = some z0 := hf 0 _ rfl
 rw [ka] at h0
 have h1 : DataW.trod enc Tryd.prog w 0 (fun _ => true) true n 26 (List.take (Tryd.prog.cellsOf 26) (List.drop 20 cs)) = some z1 := hf 1 _ rfl
 rw [kw] at h1
 have h2 : DataW.trod enc Tryd.prog w 0 (fun _ => true) true n 4 (List.take (Tryd.prog.cellsOf 4) (List.drop 24 cs)) = some z2 := hf 2 _ rfl
 rw [kb] at h2
 have h3 : DataW.trod enc Tryd.prog w 0 (fun _ => true) true n 23 (List.take (Tryd.prog.cellsOf 23) (List.drop 25 cs)) = some z3 := hf 3 _ rfl
 rw [ka] at h3
 have h4 : DataW.trod enc Tryd.prog w 0 (fun _ => true) true n 27 (List.take (Tryd.prog.cellsOf 27) (List.drop 45 cs)) = some z4 := hf 4 _ rfl
 rw [ks] at h4
 have h5 : DataW.trod enc Tryd.prog w 0 (fun _ => true) true n 27 (List.take (Tryd.prog.cellsOf 27) (List.drop 46 cs)) = some z5 := hf 5 _ rfl
 rw [ks] at h5
 have h6 : DataW.trod enc Tryd.prog w 0 (fun _ => true) true n 24 (List.take (Tryd.prog.cellsOf 24) (List.drop 47 cs)) = some z6 := hf 6 _ rfl
 rw [ku] at h6
 have h7 : DataW.trod enc Tryd.prog w 0 (fun _ => true) true n 24 (List.take (Tryd.prog.cellsOf 24) (List.drop 48 cs)) = some z7 := hf 7 _ rfl
 rw [ku] at h7
 have h8 : DataW.trod enc Tryd.prog w 0 (fun _ => true) true n 24 (List.take (Tryd.prog.cellsOf 24) (List.drop 49 cs)) = some z8 := hf 8 _ rfl
 rw [ku] at h8
 have h9 : DataW.trod enc Tryd.prog w 0 (fun _ => true) true n 26 (List.take (Tryd.prog.cellsOf 26) (List.drop 50 cs)) = some z9 := hf 9 _ rfl
 rw [kw] at h9
 have h10 : DataW.trod enc Tryd.prog w 0 (fun _ => true) true n 26 (List.take (Tryd.prog.cellsOf 26) (List.drop 54 cs)) = some z10 := hf 10 _ rfl
 rw [kw] at h10
 have h11 : DataW.trod enc Tryd.prog w 0 (fun _ => true) true n 4 (List.take (Tryd.prog.cellsOf 4) (List.drop 58 cs)) = some z11 := hf 11 _ rfl
 rw [kb] at h11
 have h12 : DataW.trod enc Tryd.prog w 0 (fun _ => true) true n 23 (List.take (Tryd.prog.cellsOf 23) (List.drop 59 cs)) = some z12 := hf 12 _ rfl
 rw [ka] at h12
 have h13 : DataW.trod enc Tryd.prog w 0 (fun _ => true) true n 24 (List.take (Tryd.prog.cellsOf 24) (List.drop 79 cs)) = some z13 := hf 13 _ rfl
 rw [ku] at h13
 have h14 : DataW.trod enc Tryd.prog w 0 (fun _ => true) true n 24 (List.take (Tryd.prog.cellsOf 24) (List.drop 80 cs)) = some z14 := hf 14 _ rfl
 rw [ku] at h14
 have h15 : DataW.trod enc Tryd.prog w 0 (fun _ => true) true n 27 (List.take (Tryd.prog.cellsOf 27) (List.drop 81 cs)) = some z15 := hf 15 _ rfl
 rw [ks] at h15
 have h16 : DataW.trod enc Tryd.prog w 0 (fun _ => true) true n 27 (List.take (Tryd.prog.cellsOf 27) (List.drop 82 cs)) = some z16 := hf 16 _ rfl
 rw [ks] at h16
 clear hf
 have hs : cs = List.take 20 (List.drop 0 cs) ++ (List.take 4 (List.drop 20 cs) ++ (List.take 1 (List.drop 24 cs) ++ (List.take 20 (List.drop 25 cs) ++ (List.take 1 (List.drop 45 cs) ++ (List.take 1 (List.drop 46 cs) ++ (List.take 1 (List.drop 47 cs) ++ (List.take 1 (List.drop 48 cs) ++ (List.take 1 (List.drop 49 cs) ++ (List.take 4 (List.drop 50 cs) ++ (List.take 4 (List.drop 54 cs) ++ (List.take 1 (List.drop 58 cs) ++ (List.take 20 (List.drop 59 cs) ++ (List.take 1 (List.drop 79 cs) ++ (List.take 1 (List.drop 80 cs) ++ (List.take 1 (List.drop 81 cs) ++ (List.take 1 (List.drop 82 cs))))))))))))))))) := by
  rw [show List.take 1 (List.drop 82 cs) = List.drop 82 cs from List.take_of_length_le (by rw [List.length_drop]; omega)]
  have st : ∀ (i j : Nat) (l : List Value), List.drop i l = List.take j (List.drop i l) ++ List.drop (i + j) l := fun i j l => by rw [← List.drop_drop, List.take_append_drop]
  conv => lhs; rw [← List.drop_zero (l := cs), st (0) 20 cs, st (0 + 20) 4 cs, st (0 + 20 + 4) 1 cs, st (0 + 20 + 4 + 1) 20 cs, st (0 + 20 + 4 + 1 + 20) 1 cs, st (0 + 20 + 4 + 1 + 20 + 1) 1 cs, st (0 + 20 + 4 + 1 + 20 + 1 + 1) 1 cs, st (0 + 20 + 4 + 1 + 20 + 1 + 1 + 1) 1 cs, st (0 + 20 + 4 + 1 + 20 + 1 + 1 + 1 + 1) 1 cs, st (0 + 20 + 4 + 1 + 20 + 1 + 1 + 1 + 1 + 1) 4 cs, st (0 + 20 + 4 + 1 + 20 + 1 + 1 + 1 + 1 + 1 + 4) 4 cs, st (0 + 20 + 4 + 1 + 20 + 1 + 1 + 1 + 1 + 1 + 4 + 4) 1 cs, st (0 + 20 + 4 + 1 + 20 + 1 + 1 + 1 + 1 + 1 + 4 + 4 + 1) 20 cs, st (0 + 20 + 4 + 1 + 20 + 1 + 1 + 1 + 1 + 1 + 4 + 4 + 1 + 20) 1 cs, st (0 + 20 + 4 + 1 + 20 + 1 + 1 + 1 + 1 + 1 + 4 + 4 + 1 + 20 + 1) 1 cs, st (0 + 20 + 4 + 1 + 20 + 1 + 1 + 1 + 1 + 1 + 4 + 4 + 1 + 20 + 1 + 1) 1 cs]
 have l1 := cutO (cs := cs) 20 4 (by omega)
 have l9 := cutO (cs := cs) 50 4 (by omega)
 have l10 := cutO (cs := cs) 54 4 (by omega)
 revert h0 h1 h2 h3 h4 h5 h6 h7 h8 h9 h10 h11 h12 h13 h14 h15 h16 l1 l9 l10 hs
 generalize List.take 20 (List.drop 0 cs) = q0
 generalize List.take 4 (List.drop 20 cs) = q1
 generalize List.take 1 (List.drop 24 cs) = q2
 generalize List.take 20 (List.drop 25 cs) = q3
 generalize List.take 1 (List.drop 45 cs) = q4
 generalize List.take 1 (List.drop 46 cs) = q5
 generalize List.take 1 (List.drop 47 cs) = q6
 generalize List.take 1 (List.drop 48 cs) = q7
 generalize List.take 1 (List.drop 49 cs) = q8
 generalize List.take 4 (List.drop 50 cs) = q9
 generalize List.take 4 (List.drop 54 cs) = q10
 generalize List.take 1 (List.drop 58 cs) = q11
 generalize List.take 20 (List.drop 59 cs) = q12
 generalize List.take 1 (List.drop 79 cs) = q13
 generalize List.take 1 (List.drop 80 cs) = q14
 generalize List.take 1 (List.drop 81 cs) = q15
 generalize List.take 1 (List.drop 82 cs) = q16
 intro h0 h1 h2 h3 h4 h5 h6 h7 h8 h9 h10 h11 h12 h13 h14 h15 h16 hs l1 l9 l10
 subst hs
 obtain ⟨y0, e0, rfl, _, m0⟩ := arr_open Tryd.underlying23 Tryd.underlying5 byte_cells addr_cells h0
 have b0 := allB_wf m0
 obtain ⟨s0_0, s0_1, s0_2, s0_3, s0_4, s0_5, s0_6, s0_7, s0_8, s0_9, s0_10, s0_11, s0_12, s0_13, s0_14, s0_15, s0_16, s0_17, s0_18, s0_19, rfl⟩ := listO20 y0 e0
 obtain ⟨g1, rfl, _, m1⟩ := word_cells h1 l1
 obtain ⟨g2, rfl, _⟩ := DataW.trod_bool Tryd.underlying4 h2
 obtain ⟨y3, e3, rfl, _, m3⟩ := arr_open Tryd.underlying23 Tryd.underlying5 byte_cells addr_cells h3
 have b3 := allB_wf m3
 obtain ⟨s3_0, s3_1, s3_2, s3_3, s3_4, s3_5, s3_6, s3_7, s3_8, s3_9, s3_10, s3_11, s3_12, s3_13, s3_14, s3_15, s3_16, s3_17, s3_18, s3_19, rfl⟩ := listO20 y3 e3
 obtain ⟨a4, n4, c4, d4, rfl, f4⟩ := bytes_cell h4
 obtain ⟨a5, n5, c5, d5, rfl, f5⟩ := bytes_cell h5
 obtain ⟨g6, rfl, _, m6⟩ := DataW.trod_int Tryd.underlying24 h6
 have u6 := wf_u64 _ m6
 have r6 : u64I g6 := ⟨u6.1, by omega⟩
 obtain ⟨g7, rfl, _, m7⟩ := DataW.trod_int Tryd.underlying24 h7
 have u7 := wf_u64 _ m7
 have r7 : u64I g7 := ⟨u7.1, by omega⟩
 obtain ⟨g8, rfl, _, m8⟩ := DataW.trod_int Tryd.underlying24 h8
 have u8 := wf_u64 _ m8
 have r8 : u64I g8 := ⟨u8.1, by omega⟩
 obtain ⟨g9, rfl, _, m9⟩ := word_cells h9 l9
 obtain ⟨g10, rfl, _, m10⟩ := word_cells h10 l10
 obtain ⟨g11, rfl, _⟩ := DataW.trod_bool Tryd.underlying4 h11
 obtain ⟨y12, e12, rfl, _, m12⟩ := arr_open Tryd.underlying23 Tryd.underlying5 byte_cells addr_cells h12
 have b12 := allB_wf m12
 obtain ⟨s12_0, s12_1, s12_2, s12_3, s12_4, s12_5, s12_6, s12_7, s12_8, s12_9, s12_10, s12_11, s12_12, s12_13, s12_14, s12_15, s12_16, s12_17, s12_18, s12_19, rfl⟩ := listO20 y12 e12
 obtain ⟨g13, rfl, _, m13⟩ := DataW.trod_int Tryd.underlying24 h13
 have u13 := wf_u64 _ m13
 have r13 : u64I g13 := ⟨u13.1, by omega⟩
 obtain ⟨g14, rfl, _, m14⟩ := DataW.trod_int Tryd.underlying24 h14
 have u14 := wf_u64 _ m14
 have r14 : u64I g14 := ⟨u14.1, by omega⟩
 obtain ⟨a15, n15, c15, d15, rfl, f15⟩ := bytes_cell h15
 obtain ⟨a16, n16, c16, d16, rfl, f16⟩ := bytes_cell h16
 refine ⟨(.int .u8 s0_0) :: (.int .u8 s0_1) :: (.int .u8 s0_2) :: (.int .u8 s0_3) :: (.int .u8 s0_4) :: (.int .u8 s0_5) :: (.int .u8 s0_6) :: (.int .u8 s0_7) :: (.int .u8 s0_8) :: (.int .u8 s0_9) :: (.int .u8 s0_10) :: (.int .u8 s0_11) :: (.int .u8 s0_12) :: (.int .u8 s0_13) :: (.int .u8 s0_14) :: (.int .u8 s0_15) :: (.int .u8 s0_16) :: (.int .u8 s0_17) :: (.int .u8 s0_18) :: (.int .u8 s0_19) :: (.int .u64 (lm g1 0 : Nat)) :: (.int .u64 (lm g1 1 : Nat)) :: (.int .u64 (lm g1 2 : Nat)) :: (.int .u64 (lm g1 3 : Nat)) :: (.bool g2) :: (.int .u8 s3_0) :: (.int .u8 s3_1) :: (.int .u8 s3_2) :: (.int .u8 s3_3) :: (.int .u8 s3_4) :: (.int .u8 s3_5) :: (.int .u8 s3_6) :: (.int .u8 s3_7) :: (.int .u8 s3_8) :: (.int .u8 s3_9) :: (.int .u8 s3_10) :: (.int .u8 s3_11) :: (.int .u8 s3_12) :: (.int .u8 s3_13) :: (.int .u8 s3_14) :: (.int .u8 s3_15) :: (.int .u8 s3_16) :: (.int .u8 s3_17) :: (.int .u8 s3_18) :: (.int .u8 s3_19) :: (.gh a4 n4 c4 (.ints .u8 d4)) :: (.gh a5 n5 c5 (.ints .u8 d5)) :: (.int .u64 g6) :: (.int .u64 g7) :: (.int .u64 g8) :: (.int .u64 (lm g9 0 : Nat)) :: (.int .u64 (lm g9 1 : Nat)) :: (.int .u64 (lm g9 2 : Nat)) :: (.int .u64 (lm g9 3 : Nat)) :: (.int .u64 (lm g10 0 : Nat)) :: (.int .u64 (lm g10 1 : Nat)) :: (.int .u64 (lm g10 2 : Nat)) :: (.int .u64 (lm g10 3 : Nat)) :: (.bool g11) :: (.int .u8 s12_0) :: (.int .u8 s12_1) :: (.int .u8 s12_2) :: (.int .u8 s12_3) :: (.int .u8 s12_4) :: (.int .u8 s12_5) :: (.int .u8 s12_6) :: (.int .u8 s12_7) :: (.int .u8 s12_8) :: (.int .u8 s12_9) :: (.int .u8 s12_10) :: (.int .u8 s12_11) :: (.int .u8 s12_12) :: (.int .u8 s12_13) :: (.int .u8 s12_14) :: (.int .u8 s12_15) :: (.int .u8 s12_16) :: (.int .u8 s12_17) :: (.int .u8 s12_18) :: (.int .u8 s12_19) :: (.int .u64 g13) :: (.int .u64 g14) :: (.gh a15 n15 c15 (.ints .u8 d15)) :: (.gh a16 n16 c16 (.ints .u8 d16)) :: [], ⟨[s0_0, s0_1, s0_2, s0_3, s0_4, s0_5, s0_6, s0_7, s0_8, s0_9, s0_10, s0_11, s0_12, s0_13, s0_14, s0_15, s0_16, s0_17, s0_18, s0_19], g1, g2, [s3_0, s3_1, s3_2, s3_3, s3_4, s3_5, s3_6, s3_7, s3_8, s3_9, s3_10, s3_11, s3_12, s3_13, s3_14, s3_15, s3_16, s3_17, s3_18, s3_19], d4, d5, g6, g7, g8, g9, g10, g11, [s12_0, s12_1, s12_2, s12_3, s12_4, s12_5, s12_6, s12_7, s12_8, s12_9, s12_10, s12_11, s12_12, s12_13, s12_14, s12_15, s12_16, s12_17, s12_18, s12_19], g13, g14, d15, d16⟩, rfl, ?_⟩
 exact ⟨rfl, rfl, rfl, rfl, rfl, rfl, rfl, rfl, ⟨_, rfl, a4, n4, c4, rfl, f4⟩, ⟨_, rfl, a5, n5, c5, rfl, f5⟩, rfl, rfl, rfl, rfl, rfl, rfl, rfl, rfl, rfl, rfl, ⟨_, rfl, a15, n15, c15, rfl, f15⟩, ⟨_, rfl, a16, n16, c16, rfl, f16⟩, rfl, rfl, rfl, b0, b3, b12, m1, m9, m10, r6, r7, r8, r13, r14⟩
theorem op_open {r : Reach} {b0 : Nat} {v : Value} {d : DataW H} {p : List MemPlace} (hval : Value.okWide Tryd.prog w r b0 29 v) (h : DataW.Trod enc Tryd.prog w 0 (fun _ => true) true 29 v d p) :
  ∃ l o, v = cv (.agg l) ∧ OpR (H0 w) l o := by
 obtain ⟨cs, rfl, hsz, _⟩ : ∃ cs, v = .agg cs ∧ cs.size = Tryd.prog.cellsOf 29 ∧ Row.okWide Tryd.prog w r b0 29 cs := by
  simpa [Value.okWide, Tryd.underlying29] using hval
 obtain ⟨fuel, hf⟩ := h
 obtain ⟨l, t, h1, h2⟩ := op_cells hf
 refine ⟨l, t, ?_, h2⟩
 have : cs.toList = cvs l := h1
 simp only [cv]
 congr 1
 exact Array.ext' this
end
end Go.Proofs.YthdpgfdfgidokaaDoor

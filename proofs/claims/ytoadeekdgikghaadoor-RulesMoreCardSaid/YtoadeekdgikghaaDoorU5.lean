/-
 Package quaestorlaw14: the chapter's examples (known), walked. No condition.
-/
import Derived.Test.YtoadeekdgikghaaDoorKC
import Derived.Test.YtoadeekdgikghaaDoorFJ
import Derived.Test.YtoadeekdgikghaaDoorU4
import Derived.Test.YtoadeekdgikghaaDoorRE
set_option maxRecDepth 10000
set_option linter.defProp false
set_option linter.unusedVariables false
set_option linter.unusedSimpArgs false
namespace Go.Proofs.YtoadeekdgikghaaDoor
open Go.RowKit Go.ChangeShapes Go.WideShapes Go.ChangeAt
def opWit : Value := .agg (List.replicate 20 (Value.int .u8 0) ++ (List.replicate 4 (Value.int .u64 0) ++ (Value.bool false :: (List.replicate 20 (Value.int .u8 0) ++ ([Value.slice none 0 0, Value.slice none 0 0, .int .u64 0, .int .u64 0, .int .u64 0] ++ (List.replicate 8 (Value.int .u64 0) ++ (Value.bool false :: (List.replicate 20 (Value.int .u8 0) ++ [Value.int .u64 0, .int .u64 0, .slice none 0 0, .slice none 0 0])))))))).toArray
theorem cellsOp : Tryd.prog.cellsOf 30 = 83 := by kernel_rfl
theorem listO20 {α : Type} (l : List α) (h : l.length = 20) : ∃ a0 a1 a2 a3 a4 a5 a6 a7 a8 a9 a10 a11 a12 a13 a14 a15 a16 a17 a18 a19, l = [a0, a1, a2, a3, a4, a5, a6, a7, a8, a9, a10, a11, a12, a13, a14, a15, a16, a17, a18, a19] := by
 match l, h with
 | [a0, a1, a2, a3, a4, a5, a6, a7, a8, a9, a10, a11, a12, a13, a14, a15, a16, a17, a18, a19], _ => exact ⟨_, _, _, _, _, _, _, _, _, _, _, _, _, _, _, _, _, _, _, _, rfl⟩
theorem listO17 {α : Type} (l : List α) (h : l.length = 17) : ∃ a0 a1 a2 a3 a4 a5 a6 a7 a8 a9 a10 a11 a12 a13 a14 a15 a16, l = [a0, a1, a2, a3, a4, a5, a6, a7, a8, a9, a10, a11, a12, a13, a14, a15, a16] := by
 match l, h with
 | [a0, a1, a2, a3, a4, a5, a6, a7, a8, a9, a10, a11, a12, a13, a14, a15, a16], _ => exact ⟨_, _, _, _, _, _, _, _, _, _, _, _, _, _, _, _, _, rfl⟩
theorem cutO {cs : List Value} (n k : Nat) (h : n + k ≤ cs.length) : (List.take k (List.drop n cs)).length = k := by rw [List.length_take, List.length_drop]; omega
section
variable {H : Type} {enc : TypeId × Value → H} {w : World}
set_option maxRecDepth 40000 in
theorem op_cells {fuel : Nat} {cs : List Value} {x : DataW H × List MemPlace} (h : DataW.trod enc Tryd.prog w 0 (fun _ => true) true fuel 30 cs = some x) : ∃ l o, cs = cvs l ∧ OpR (H0 w) l o := by
 obtain ⟨xs, n, rfl, _, hl, hxl, hf⟩ := DataW.trod_struct Tryd.underlying30 h
 rw [cellsOp] at hl
 obtain ⟨z0, z1, z2, z3, z4, z5, z6, z7, z8, z9, z10, z11, z12, z13, z14, z15, z16, rfl⟩ := listO17 xs hxl
 have ka : Tryd.prog.cellsOf 24 = 20 := by kernel_rfl
 have kw : Tryd.prog.cellsOf 27 = 4 := by kernel_rfl
 have kb : Tryd.prog.cellsOf 4 = 1 := by kernel_rfl
 have ks : Tryd.prog.cellsOf 28 = 1 := by kernel_rfl
 have ku : Tryd.prog.cellsOf 25 = 1 := by kernel_rfl
 have h0 : DataW.trod enc Tryd.prog w 0 (fun _ => true) true n 24 (List.take (Tryd.prog.cellsOf 24) (List.drop 0 cs)) = some z0 := hf 0 _ rfl
 rw [ka] at h0
 have h1 : DataW.trod enc Tryd.prog w 0 (fun _ => true) true n 27 (List.take (Tryd.prog.cellsOf 27) (List.drop 20 cs)) = some z1 := hf 1 _ rfl
 rw [kw] at h1
 have h2 : DataW.trod enc Tryd.prog w 0 (fun _ => true) true n 4 (List.take (Tryd.prog.cellsOf 4) (List.drop 24 cs)) = some z2 := hf 2 _ rfl
 rw [kb] at h2
 have h3 : DataW.trod enc Tryd.prog w 0 (fun _ => true) true n 24 (List.take (Tryd.prog.cellsOf 24) (List.drop 25 cs)) = some z3 := hf 3 _ rfl
 rw [ka] at h3
 have h4 : DataW.trod enc Tryd.prog w 0 (fun _ => true) true n 28 (List.take (Tryd.prog.cellsOf 28) (List.drop 45 cs)) = some z4 := hf 4 _ rfl
 rw [ks] at h4
 have h5 : DataW.trod enc Tryd.prog w 0 (fun _ => true) true n 28 (List.take (Tryd.prog.cellsOf 28) (List.drop 46 cs)) = some z5 := hf 5 _ rfl
 rw [ks] at h5
 have h6 : DataW.trod enc Tryd.prog w 0 (fun _ => true) true n 25 (List.take (Tryd.prog.cellsOf 25) (List.drop 47 cs)) = some z6 := hf 6 _ rfl
 rw [ku] at h6
 have h7 : DataW.trod enc Tryd.prog w 0 (fun _ => true) true n 25 (List.take (Tryd.prog.cellsOf 25) (List.drop 48 cs)) = some z7 := hf 7 _ rfl
 rw [ku] at h7
 have h8 : DataW.trod enc Tryd.prog w 0 (fun _ => true) true n 25 (List.take (Tryd.prog.cellsOf 25) (List.drop 49 cs)) = some z8 := hf 8 _ rfl
 rw [ku] at h8
 have h9 : DataW.trod enc Tryd.prog w 0 (fun _ => true) true n 27 (List.take (Tryd.prog.cellsOf 27) (List.drop 50 cs)) = some z9 := hf 9 _ rfl
 rw [kw] at h9
 have h10 : DataW.trod enc Tryd.prog w 0 (fun _ => true) true n 27 (List.take (Tryd.prog.cellsOf 27) (List.drop 54 cs)) = some z10 := hf 10 _ rfl
 rw [kw] at h10
 have h11 : DataW.trod enc Tryd.prog w 0 (fun _ => true) true n 4 (List.take (Tryd.prog.cellsOf 4) (List.drop 58 cs)) = some z11 := hf 11 _ rfl
 rw [kb] at h11
 have h12 : DataW.trod enc Tryd.prog w 0 (fun _ => true) true n 24 (List.take (Tryd.prog.cellsOf 24) (List.drop 59 cs)) = some z12 := hf 12 _ rfl
 rw [ka] at h12
 have h13 : DataW.trod enc Tryd.prog w 0 (fun _ => true) true n 25 (List.take (Tryd.prog.cellsOf 25) (List.drop 79 cs)) = some z13 := hf 13 _ rfl
 rw [ku] at h13
 have h14 : DataW.trod enc Tryd.prog w 0 (fun _ => true) true n 25 (List.take (Tryd.prog.cellsOf 25) (List.drop 80 cs)) = some z14 := hf 14 _ rfl
 rw [ku] at h14
 have h15 : DataW.trod enc Tryd.prog w 0 (fun _ => true) true n 28 (List.take (Tryd.prog.cellsOf 28) (List.drop 81 cs)) = some z15 := hf 15 _ rfl
 rw [ks] at h15
 have h16 : DataW.trod enc Tryd.prog w 0 (fun _ => true) true n 28 (List.take (Tryd.prog.cellsOf 28) (List.drop 82 cs)) = some z16 := hf 16 _ rfl
 rw [ks] at h16
 clear hf
 have hs : cs = List.take 20 (List.drop 0 cs) ++ (List.take 4 (List.drop 20 cs) ++ (List.take 1 (List.drop 24 cs) ++ (List.take 20 (List.drop 25 cs) ++ (List.take 1 (List.drop 45 cs) ++ (List.take 1 (List.drop 46 cs) ++ (List.take 1 (List.drop 47 cs) ++ (List.take 1 (List.drop 48 cs) ++ (List.take 1 (List.drop 49 cs) ++ (List.take 4 (List.drop 50 cs) ++ (List.take 4 (List.drop 54 cs) ++ (List.take 1 (List.drop 58 cs) ++ (List.take 20 (List.drop 59 cs) ++ (List.take 1 (List.drop 79 cs) ++ (List.take 1 (List.drop 80 cs) ++ (List.take 1 (List.drop 81 cs) ++ (List.take 1 (List.drop 82 cs))))))))))))))))) := by
  rw [show List.take 1 (List.drop 82 cs) = List.drop 82 cs from List.take_of_length_le (by rw [List.length_drop]; omega)]
  have st : ∀ (i j : Nat) (l : List Value), List.drop i l = List.take j (List.drop i l) ++ List.drop (i + j) l := fun i j l => by rw [← List.drop_drop, List.take_append_drop]
  conv => lhs; rw [← List.drop_zero (l := cs), st (0) 20 cs, st (0 + 20) 4 cs, st (0 + 20 + 4) 1 cs, st (0 + 20 + 4 + 1) 20 cs, st (0 + 20 + 4 + 1 + 20) 1 cs, st (0 + 20 + 4 + 1 + 20 + 1) 1 cs, st (0 + 20 + 4 + 1 + 20 + 1 + 1) 1 cs, st (0 + 20 + 4 + 1 + 20 + 1 + 1 + 1) 1 cs, st (0 + 20 + 4 + 1 + 20 + 1 + 1 + 1 + 1) 1 cs, st (0 + 20 + 4 + 1 + 20 + 1 + 1 + 1 + 1 + 1) 4 cs, st (0 + 20 + 4 + 1 + 20 + 1 + 1 + 1 + 1 + 1 + 4) 4 cs, st (0 + 20 + 4 + 1 + 20 + 1 + 1 + 1 + 1 + 1 + 4 + 4) 1 cs, st (0 + 20 + 4 + 1 + 20 + 1 + 1 + 1 + 1 + 1 + 4 + 4 + 1) 20 cs, st (0 + 20 + 4 + 1 + 20 + 1 + 1 + 1 + 1 + 1 + 4 + 4 + 1 + 20) 1 cs, st (0 + 20 + 4 + 1 + 20 + 1 + 1 + 1 + 1 + 1 + 4 + 4 + 1 + 20 + 1) 1 cs, st (0 + 20 + 4 + 1 + 20 + 1 + 1 + 1 + 1 + 1 + 4 + 4 + 1 + 20 + 1 + 1) 1 cs]
 have l1 := cutO (cs := cs) 20 4 (by omega)
 have l9 := cutO (cs := cs) 50 4 (by omega)
 have l10 := cutO (cs := cs) 54 4 (by omega)
 revert h0 h1 h2 h3 h4 h5 h6 h7 h8 h9 h10 h11 h12 h13 h14 h15 h16 l1 l9 l10 hs
 generalize List.take 20 (List.drop 0 cs) = q0
 generalize List.take 4 (List.drop 20 cs) = q1
 generalize List.take 1 (List.drop 24 cs) = q2
 generalize List.take 20 (List.drop 25 cs) = q3
 generalize List.take 1 (List.drop 45 cs) = q4
 generalize List.take 1 (List.drop 46 cs) = q5
 generalize List.take 1 (List.drop 47 cs) = q6
 generalize List.take 1 (List.drop 48 cs) = q7
 generalize List.take 1 (List.drop 49 cs) = q8
 generalize List.take 4 (List.drop 50 cs) = q9
 generalize List.take 4 (List.drop 54 cs) = q10
 generalize List.take 1 (List.drop 58 cs) = q11
 generalize List.take 20 (List.drop 59 cs) = q12
 generalize List.take 1 (List.drop 79 cs) = q13
 generalize List.take 1 (List.drop 80 cs) = q14
 generalize List.take 1 (List.drop 81 cs) = q15
 generalize List.take 1 (List.drop 82 cs) = q16
 intro h0 h1 h2 h3 h4 h5 h6 h7 h8 h9 h10 h11 h12 h13 h14 h15 h16 hs l1 l9 l10
 subst hs
 obtain ⟨y0, e0, rfl, _, m0⟩ := arr_open Tryd.underlying24 Tryd.underlying5 byte_cells addr_cells h0
 have b0 := allB_wf m0
 obtain ⟨s0_0, s0_1, s0_2, s0_3, s0_4, s0_5, s0_6, s0_7, s0_8, s0_9, s0_10, s0_11, s0_12, s0_13, s0_14, s0_15, s0_16, s0_17, s0_18, s0_19, rfl⟩ := listO20 y0 e0
 obtain ⟨g1, rfl, _, m1⟩ := word_cells h1 l1
 obtain ⟨g2, rfl, _⟩ := DataW.trod_bool Tryd.underlying4 h2
 obtain ⟨y3, e3, rfl, _, m3⟩ := arr_open Tryd.underlying24 Tryd.underlying5 byte_cells addr_cells h3
 have b3 := allB_wf m3
 obtain ⟨s3_0, s3_1, s3_2, s3_3, s3_4, s3_5, s3_6, s3_7, s3_8, s3_9, s3_10, s3_11, s3_12, s3_13, s3_14, s3_15, s3_16, s3_17, s3_18, s3_19, rfl⟩ := listO20 y3 e3
 obtain ⟨a4, n4, c4, d4, rfl, f4⟩ := bytes_cell h4
 obtain ⟨a5, n5, c5, d5, rfl, f5⟩ := bytes_cell h5
 obtain ⟨g6, rfl, _, m6⟩ := DataW.trod_int Tryd.underlying25 h6
 have u6 := wf_u64 _ m6
 have r6 : u64I g6 := ⟨u6.1, by omega⟩
 obtain ⟨g7, rfl, _, m7⟩ := DataW.trod_int Tryd.underlying25 h7
 have u7 := wf_u64 _ m7
 have r7 : u64I g7 := ⟨u7.1, by omega⟩
 obtain ⟨g8, rfl, _, m8⟩ := DataW.trod_int Tryd.underlying25 h8
 have u8 := wf_u64 _ m8
 have r8 : u64I g8 := ⟨u8.1, by omega⟩
 obtain ⟨g9, rfl, _, m9⟩ := word_cells h9 l9
 obtain ⟨g10, rfl, _, m10⟩ := word_cells h10 l10
 obtain ⟨g11, rfl, _⟩ := DataW.trod_bool Tryd.underlying4 h11
 obtain ⟨y12, e12, rfl, _, m12⟩ := arr_open Tryd.underlying24 Tryd.underlying5 byte_cells addr_cells h12
 have b12 := allB_wf m12
 obtain ⟨s12_0, s12_1, s12_2, s12_3, s12_4, s12_5, s12_6, s12_7, s12_8, s12_9, s12_10, s12_11, s12_12, s12_13, s12_14, s12_15, s12_16, s12_17, s12_18, s12_19, rfl⟩ := listO20 y12 e12
 obtain ⟨g13, rfl, _, m13⟩ := DataW.trod_int Tryd.underlying25 h13
 have u13 := wf_u64 _ m13
 have r13 : u64I g13 := ⟨u13.1, by omega⟩
 obtain ⟨g14, rfl, _, m14⟩ := DataW.trod_int Tryd.underlying25 h14
 have u14 := wf_u64 _ m14
 have r14 : u64I g14 := ⟨u14.1, by omega⟩
 obtain ⟨a15, n15, c15, d15, rfl, f15⟩ := bytes_cell h15
 obtain ⟨a16, n16, c16, d16, rfl, f16⟩ := bytes_cell h16
 refine ⟨(.int .u8 s0_0) :: (.int .u8 s0_1) :: (.int .u8 s0_2) :: (.int .u8 s0_3) :: (.int .u8 s0_4) :: (.int .u8 s0_5) :: (.int .u8 s0_6) :: (.int .u8 s0_7) :: (.int .u8 s0_8) :: (.int .u8 s0_9) :: (.int .u8 s0_10) :: (.int .u8 s0_11) :: (.int .u8 s0_12) :: (.int .u8 s0_13) :: (.int .u8 s0_14) :: (.int .u8 s0_15) :: (.int .u8 s0_16) :: (.int .u8 s0_17) :: (.int .u8 s0_18) :: (.int .u8 s0_19) :: (.int .u64 (lm g1 0 : Nat)) :: (.int .u64 (lm g1 1 : Nat)) :: (.int .u64 (lm g1 2 : Nat)) :: (.int .u64 (lm g1 3 : Nat)) :: (.bool g2) :: (.int .u8 s3_0) :: (.int .u8 s3_1) :: (.int .u8 s3_2) :: (.int .u8 s3_3) :: (.int .u8 s3_4) :: (.int .u8 s3_5) :: (.int .u8 s3_6) :: (.int .u8 s3_7) :: (.int .u8 s3_8) :: (.int .u8 s3_9) :: (.int .u8 s3_10) :: (.int .u8 s3_11) :: (.int .u8 s3_12) :: (.int .u8 s3_13) :: (.int .u8 s3_14) :: (.int .u8 s3_15) :: (.int .u8 s3_16) :: (.int .u8 s3_17) :: (.int .u8 s3_18) :: (.int .u8 s3_19) :: (.gh a4 n4 c4 (.ints .u8 d4)) :: (.gh a5 n5 c5 (.ints .u8 d5)) :: (.int .u64 g6) :: (.int .u64 g7) :: (.int .u64 g8) :: (.int .u64 (lm g9 0 : Nat)) :: (.int .u64 (lm g9 1 : Nat)) :: (.int .u64 (lm g9 2 : Nat)) :: (.int .u64 (lm g9 3 : Nat)) :: (.int .u64 (lm g10 0 : Nat)) :: (.int .u64 (lm g10 1 : Nat)) :: (.int .u64 (lm g10 2 : Nat)) :: (.int .u64 (lm g10 3 : Nat)) :: (.bool g11) :: (.int .u8 s12_0) :: (.int .u8 s12_1) :: (.int .u8 s12_2) :: (.int .u8 s12_3) :: (.int .u8 s12_4) :: (.int .u8 s12_5) :: (.int .u8 s12_6) :: (.int .u8 s12_7) :: (.int .u8 s12_8) :: (.int .u8 s12_9) :: (.int .u8 s12_10) :: (.int .u8 s12_11) :: (.int .u8 s12_12) :: (.int .u8 s12_13) :: (.int .u8 s12_14) :: (.int .u8 s12_15) :: (.int .u8 s12_16) :: (.int .u8 s12_17) :: (.int .u8 s12_18) :: (.int .u8 s12_19) :: (.int .u64 g13) :: (.int .u64 g14) :: (.gh a15 n15 c15 (.ints .u8 d15)) :: (.gh a16 n16 c16 (.ints .u8 d16)) :: [], ⟨[s0_0, s0_1, s0_2, s0_3, s0_4, s0_5, s0_6, s0_7, s0_8, s0_9, s0_10, s0_11, s0_12, s0_13, s0_14, s0_15, s0_16, s0_17, s0_18, s0_19], g1, g2, [s3_0, s3_1, s3_2, s3_3, s3_4, s3_5, s3_6, s3_7, s3_8, s3_9, s3_10, s3_11, s3_12, s3_13, s3_14, s3_15, s3_16, s3_17, s3_18, s3_19], d4, d5, g6, g7, g8, g9, g10, g11, [s12_0, s12_1, s12_2, s12_3, s12_4, s12_5, s12_6, s12_7, s12_8, s12_9, s12_10, s12_11, s12_12, s12_13, s12_14, s12_15, s12_16, s12_17, s12_18, s12_19], g13, g14, d15, d16⟩, rfl, ?_⟩
 exact ⟨rfl, rfl, rfl, rfl, rfl, rfl, rfl, rfl, ⟨_, rfl, a4, n4, c4, rfl, f4⟩, ⟨_, rfl, a5, n5, c5, rfl, f5⟩, rfl, rfl, rfl, rfl, rfl, rfl, rfl, rfl, rfl, rfl, ⟨_, rfl, a15, n15, c15, rfl, f15⟩, ⟨_, rfl, a16, n16, c16, rfl, f16⟩, rfl, rfl, rfl, b0, b3, b12, m1, m9, m10, r6, r7, r8, r13, r14⟩
theorem op_open {r : Reach} {b0 : Nat} {v : Value} {d : DataW H} {p : List MemPlace} (hval : Value.okWide Tryd.prog w r b0 30 v) (h : DataW.Trod enc Tryd.prog w 0 (fun _ => true) true 30 v d p) :
  ∃ l o, v = cv (.agg l) ∧ OpR (H0 w) l o := by
 obtain ⟨cs, rfl, hsz, _⟩ : ∃ cs, v = .agg cs ∧ cs.size = Tryd.prog.cellsOf 30 ∧ Row.okWide Tryd.prog w r b0 30 cs := by
  simpa [Value.okWide, Tryd.underlying30] using hval
 obtain ⟨fuel, hf⟩ := h
 obtain ⟨l, t, h1, h2⟩ := op_cells hf
 refine ⟨l, t, ?_, h2⟩
 have : cs.toList = cvs l := h1
 simp only [cv]
 congr 1
 exact Array.ext' this
end
end Go.Proofs.YtoadeekdgikghaaDoor
namespace Go.Proofs.YtoadeekdgikghaaDoor
open Go.RowKit
def datK (x : SV) (m : List Blk) : Option (Prop × List Int) :=
 match x with
 | .nilsl => some (True, [])
 | .own nm v n => match srcC (.own nm v n) m with
  | some (q, k, .ints .u8 xs) => some (q ∧ k ≤ 1000 ∧ allB xs, xs)
  | _ => none
 | _ => none
theorem datK_sound {x : SV} {m : List Blk} {q : Prop} {xs : List Int} (h : datK x m = some (q, xs)) (hq : q) {w0 : World} {B : List Nat} {w : World} (hm : MemOk w0 B m w) :
  ∃ a n c, cv x = cv (.gh a n c (.ints .u8 xs)) ∧ xs.length = n ∧ n ≤ c ∧ adr a n c ∧ LiesH (H0 w) a (cc (.ints .u8 xs)) ∧ allB xs ∧ n ≤ maxLen := by
 unfold datK at h
 split at h
 ·cases h
  exact ⟨none, 0, 0, rfl, rfl, Nat.le_refl _, .inr ⟨rfl, rfl, rfl⟩, .inl rfl, (fun y hy => absurd hy List.not_mem_nil), Nat.zero_le _⟩
 ·split at h
  ·rename_i nm v n q' k xs' hs
   simp only [Option.some.injEq, Prod.mk.injEq] at h
   obtain ⟨rfl, rfl⟩ := h
   obtain ⟨h1, h2, h3⟩ := hq
   obtain ⟨l1, a, cp, ex, b1, m1, d1⟩ := src_ro hs h1 hm
   refine ⟨a, k, cp, ?_, by simpa [cc, conEs] using l1, b1, d1, lies_of_ro m1, h3, by unfold maxLen; omega⟩
   rw [ex]; cases a <;> simp [cv, addr_add, conEs, Addr.add]
  ·cases h
 ·cases h
def evK (m : List Blk) (r : List SV) : Option (Prop × Evt) :=
 match r with
 | [.int .u8 op, .int .i64 dep, .int .u8 s0, .int .u8 s1, .int .u8 s2, .int .u8 s3, .int .u8 s4, .int .u8 s5, .int .u8 s6, .int .u8 s7, .int .u8 s8, .int .u8 s9, .int .u8 s10, .int .u8 s11, .int .u8 s12, .int .u8 s13, .int .u8 s14, .int .u8 s15, .int .u8 s16, .int .u8 s17, .int .u8 s18, .int .u8 s19, .int .u64 x0, .int .u64 x1, .int .u64 x2, .int .u64 x3, .int .u64 y0, .int .u64 y1, .int .u64 y2, .int .u64 y3, x, .int .u16 flt] => match datK x m with
  | some (q, bs) => some (q ∧ 0 ≤ op ∧ op ≤ 255 ∧ inK .i64 dep ∧ 0 ≤ flt ∧ flt ≤ 65535 ∧ allB [s0, s1, s2, s3, s4, s5, s6, s7, s8, s9, s10, s11, s12, s13, s14, s15, s16, s17, s18, s19] ∧ allU [x0, x1, x2, x3] ∧ allU [y0, y1, y2, y3], ⟨op, dep, [s0, s1, s2, s3, s4, s5, s6, s7, s8, s9, s10, s11, s12, s13, s14, s15, s16, s17, s18, s19], numI [x0, x1, x2, x3], numI [y0, y1, y2, y3], bs, flt⟩)
  | none => none
 | _ => none
theorem evK_sound {m : List Blk} {r : List SV} {q : Prop} {e : Evt} (h : evK m r = some (q, e)) (hq : q) {w0 : World} {B : List Nat} {w : World} (hm : MemOk w0 B m w) :
  ∃ r', cvs r = cvs r' ∧ r'.length = 32 ∧ EvR (H0 w) r' e := by
 unfold evK at h
 split at h
 ·rename_i op dep s0 s1 s2 s3 s4 s5 s6 s7 s8 s9 s10 s11 s12 s13 s14 s15 s16 s17 s18 s19 x0 x1 x2 x3 y0 y1 y2 y3 x flt
  split at h
  ·rename_i q' bs hd
   simp only [Option.some.injEq, Prod.mk.injEq] at h
   obtain ⟨rfl, rfl⟩ := h
   obtain ⟨h1, h2, h3, h4, h5, h6, h7, h8, h9⟩ := hq
   obtain ⟨a, n, c, e1, e2, e3, e4, e5, e6, e7⟩ := datK_sound hd h1 hm
   refine ⟨[.int .u8 op, .int .i64 dep, .int .u8 s0, .int .u8 s1, .int .u8 s2, .int .u8 s3, .int .u8 s4, .int .u8 s5, .int .u8 s6, .int .u8 s7, .int .u8 s8, .int .u8 s9, .int .u8 s10, .int .u8 s11, .int .u8 s12, .int .u8 s13, .int .u8 s14, .int .u8 s15, .int .u8 s16, .int .u8 s17, .int .u8 s18, .int .u8 s19, .int .u64 x0, .int .u64 x1, .int .u64 x2, .int .u64 x3, .int .u64 y0, .int .u64 y1, .int .u64 y2, .int .u64 y3, .gh a n c (.ints .u8 bs), .int .u16 flt], ?_, rfl, s0, s1, s2, s3, s4, s5, s6, s7, s8, s9, s10, s11, s12, s13, s14, s15, s16, s17, s18, s19, x0, x1, x2, x3, y0, y1, y2, y3, a, n, c, rfl, rfl, h7, h8, rfl, h9, rfl, e2, e3, e4, e5, e6, e7, h2, h3, h4, h5, h6⟩
   simp only [cvs, e1]
  ·cases h
 ·cases h
def evKs (m : List Blk) : List (List SV) → Option (Prop × List Evt)
 | [] => some (True, [])
 | r :: rs => match evK m r with
  | some (q, e) => match evKs m rs with | some (q', l) => some (q ∧ q', e :: l) | none => none
  | none => none
theorem evKs_sound : ∀ {m : List Blk} {rs : List (List SV)} {q : Prop} {l : List Evt} (_h : evKs m rs = some (q, l)) (_hq : q) {w0 : World} {B : List Nat} {w : World} (_hm : MemOk w0 B m w),
  ∃ rs', rs.map cvs = rs'.map cvs ∧ EvsR (H0 w) rs' l
 | m, [], q, l, h, hq, w0, B, w, hm => by
  cases h
  exact ⟨[], rfl, rfl, (fun r hr => absurd hr List.not_mem_nil), (fun i r e hr _ => by cases hr)⟩
 | m, r :: rs, q, l, h, hq, w0, B, w, hm => by
  simp only [evKs] at h
  split at h
  ·rename_i q1 e he
   split at h
   ·rename_i q2 l2 hl
    simp only [Option.some.injEq, Prod.mk.injEq] at h
    obtain ⟨rfl, rfl⟩ := h
    obtain ⟨r', h1, h2, h3⟩ := evK_sound he hq.1 hm
    obtain ⟨rs', h4, h5, h6, h7⟩ := evKs_sound hl hq.2 hm
    refine ⟨r' :: rs', by simp only [List.map_cons, h1, h4], by simp only [List.length_cons, h5], fun x hx => ?_, fun i x y hx hy => ?_⟩
    ·rcases List.mem_cons.1 hx with rfl | hx
     ·exact h2
     ·exact h6 x hx
    ·match i, hx, hy with
     | 0, hx, hy => cases hx; cases hy; exact h3
     | i + 1, hx, hy => exact h7 i x y hx hy
   ·cases h
  ·cases h
theorem evKs_len : ∀ {m : List Blk} {rs : List (List SV)} {q : Prop} {l : List Evt} (_h : evKs m rs = some (q, l)), l.length = rs.length
 | m, [], q, l, h => by cases h; rfl
 | m, r :: rs, q, l, h => by
  simp only [evKs] at h
  split at h
  ·split at h
   ·rename_i q2 l2 hl
    simp only [Option.some.injEq, Prod.mk.injEq] at h
    obtain ⟨rfl, rfl⟩ := h
    simp only [List.length_cons, evKs_len hl]
   ·cases h
  ·cases h
theorem lit_evs {m : List Blk} {nm b n : Nat} {t : TypeId} {rs : List (List SV)} {q : Prop} {l : List Evt} (hb : bget m nm = .blk b t (.rows 32 rs)) (h : evKs m rs = some (q, l)) (hq : q) (hn : n = rs.length) (hM : n ≤ 1000) {w0 : World} {B : List Nat} {w : World} (hm : MemOk w0 B m w) :
  ∃ rs', EvL (H0 w) (some ⟨b, 0, none⟩) n n rs' l := by
 obtain ⟨rs', h1, h2⟩ := evKs_sound h hq hm
 have k1 := (hm.each _ (bget_mem hb (by simp))).1
 have hl := evKs_len h
 have hcc : cc (.rows 32 rs) = cc (.rows 32 rs') := by simp only [cc, List.flatMap_def, h1]
 rw [hcc] at k1
 refine ⟨rs', by omega, Nat.le_refl _, .inl rfl, by unfold maxLen; omega, .inr ⟨b, 0, _, _, _, rfl, k1, fun j u hj => ?_⟩, h2⟩
 rw [Nat.zero_add, List.getElem?_toArray, ← hj]
end Go.Proofs.YtoadeekdgikghaaDoor

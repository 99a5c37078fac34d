/-
  Feet as a law is handed them. No condition.
-/
import Derived.Test.YtdanlclhnehieaaIF
import Derived.Test.YtdanlclhnehieaaT6
set_option maxRecDepth 20000
namespace Go.Proofs.Ytdanlclhnehieaa
set_option linter.unusedSimpArgs false
set_option linter.unusedVariables false
open Go.RowKit Go.ChangeShapes Go.WideShapes Go.ChangeAt
theorem wfP_u64 (a i : Nat) : (Lit.int .u64 ((lm a i : Nat) : Int)).wf = true := by
  have := lm_lt a i
  exact wf_inK (by simp only [inK]; omega)
theorem wfP_u8 {x : Int} (h : 0 ≤ x ∧ x ≤ 255) : (Lit.int .u8 x).wf = true := wf_inK (by simp only [inK]; omega)
theorem listP20 {α : Type} {a : List α} (h : a.length = 20) : ∃ z0 z1 z2 z3 z4 z5 z6 z7 z8 z9 z10 z11 z12 z13 z14 z15 z16 z17 z18 z19 : α, a = [z0, z1, z2, z3, z4, z5, z6, z7, z8, z9, z10, z11, z12, z13, z14, z15, z16, z17, z18, z19] := by
  match a, h with
  | [z0, z1, z2, z3, z4, z5, z6, z7, z8, z9, z10, z11, z12, z13, z14, z15, z16, z17, z18, z19], _ => exact ⟨z0, z1, z2, z3, z4, z5, z6, z7, z8, z9, z10, z11, z12, z13, z14, z15, z16, z17, z18, z19, rfl⟩
theorem listP3 {α : Type} (l : List α) (h : l.length = 3) : ∃ a b c, l = [a, b, c] := by
  match l, h with
  | [a, b, c], _ => exact ⟨a, b, c, rfl⟩
theorem cutP {cs : List Value} (n k : Nat) (h : n + k ≤ cs.length) : (List.take k (List.drop n cs)).length = k := by rw [List.length_take, List.length_drop]; omega
theorem cellsPl : Try.prog.cellsOf 38 = 25 := by kernel_rfl
theorem cellsFt : Try.prog.cellsOf 24 = 2 := by kernel_rfl
section
variable {H : Type} {enc : TypeId × Value → H} {w : World}
theorem place_cells {fuel : Nat} {cs : List Value} {x : DataW H × List MemPlace} (h : DataW.trod enc Try.prog w 0 (fun _ => true) true fuel 38 cs = some x) : ∃ (l : List SV) (p : List Int), cs = cvs l ∧ (okP p ∧ l = plL p) := by
  obtain ⟨xs, n, rfl, _, hl, hxl, hf⟩ := DataW.trod_struct Try.underlying38 h
  rw [cellsPl] at hl
  obtain ⟨z0, z1, z2, rfl⟩ := listP3 xs hxl
  have ka : Try.prog.cellsOf 33 = 20 := by kernel_rfl
  have kw : Try.prog.cellsOf 36 = 4 := by kernel_rfl
  have kb : Try.prog.cellsOf 4 = 1 := by kernel_rfl
  have h0 : DataW.trod enc Try.prog w 0 (fun _ => true) true n 33 (List.take (Try.prog.cellsOf 33) (List.drop 0 cs)) = some z0 := hf 0 _ rfl
  rw [ka] at h0
  have h1 : DataW.trod enc Try.prog w 0 (fun _ => true) true n 4 (List.take (Try.prog.cellsOf 4) (List.drop 20 cs)) = some z1 := hf 1 _ rfl
  rw [kb] at h1
  have h2 : DataW.trod enc Try.prog w 0 (fun _ => true) true n 36 (List.take (Try.prog.cellsOf 36) (List.drop 21 cs)) = some z2 := hf 2 _ rfl
  rw [kw] at h2
  clear hf
  have hs : cs = List.take 20 (List.drop 0 cs) ++ (List.take 1 (List.drop 20 cs) ++ List.take 4 (List.drop 21 cs)) := by
    rw [show List.take 4 (List.drop 21 cs) = List.drop 21 cs from List.take_of_length_le (by rw [List.length_drop]; omega)]
    have st : ∀ (i j : Nat) (l : List Value), List.drop i l = List.take j (List.drop i l) ++ List.drop (i + j) l := fun i j l => by rw [← List.drop_drop, List.take_append_drop]
    conv => lhs; rw [← List.drop_zero (l := cs), st 0 20 cs, st (0 + 20) 1 cs]
  have l2 := cutP (cs := cs) 21 4 (by omega)
  revert h0 h1 h2 l2 hs
  generalize List.take 20 (List.drop 0 cs) = q0
  generalize List.take 1 (List.drop 20 cs) = q1
  generalize List.take 4 (List.drop 21 cs) = q2
  intro h0 h1 h2 hs l2
  subst hs
  obtain ⟨self, hsl, rfl, _, wself⟩ := arr_open Try.underlying33 Try.underlying5 byte_cells addr_cells h0
  obtain ⟨bx, rfl, _⟩ := DataW.trod_bool Try.underlying4 h1
  obtain ⟨key, rfl, _, hW1⟩ := word_cells h2 l2
  have hall := allB_wf wself
  obtain ⟨s0, s1, s2, s3, s4, s5, s6, s7, s8, s9, s10, s11, s12, s13, s14, s15, s16, s17, s18, s19, rfl⟩ := listP20 hsl
  have hbx : decide ((cond bx (1 : Int) 0) = 1) = bx := by cases bx <;> rfl
  refine ⟨_, [s0, s1, s2, s3, s4, s5, s6, s7, s8, s9, s10, s11, s12, s13, s14, s15, s16, s17, s18, s19, cond bx 1 0, ((lm key 0 : Nat) : Int), ((lm key 1 : Nat) : Int), ((lm key 2 : Nat) : Int), ((lm key 3 : Nat) : Int)], ?_, ?_, rfl⟩
  · simp only [plL, hbx]; rfl
  · unfold okP
    simp only [ck_38, inCs, inC]
    (repeat' apply And.intro) <;> first | exact trivial | exact wfP_u64 _ _ | exact wfP_u8 (hall _ (by simp)) | (cases bx; exact .inl rfl; exact .inr rfl)
instance inhPl : Inhabited (List Int) := ⟨[]⟩
theorem places_cell {fuel : Nat} {c : Value} {x : DataW H × List MemPlace} (h : DataW.trod enc Try.prog w 0 (fun _ => true) true fuel 22 [c] = some x) :
    ∃ a n cp l, c = cv (.gh a n cp (.rows 25 (l.map plL))) ∧ PlL (H0 w) a n cp l ∧ n ≤ maxLen := by
  obtain ⟨a, n, cp, rs, ps, h1, h2, h3, h4, h5, h6, h7, h8, h9⟩ := sl_rows (α := List Int) (Q := fun l p => okP p ∧ l = plL p) (sz := 25) Try.underlying22 cellsPl (by omega) h (fun k cs' y hk => place_cells hk)
  cases h1
  have e : rs = ps.map plL := by
    apply List.ext_getElem?
    intro i
    by_cases hi : i < n
    · have e1 := List.getElem?_eq_getElem (show i < rs.length by omega)
      have e2 := List.getElem?_eq_getElem (show i < ps.length by omega)
      rw [List.getElem?_map, e1, e2, (h9 i _ _ e1 e2).2]; rfl
    · rw [List.getElem?_eq_none (by omega), List.getElem?_eq_none (by rw [List.length_map]; omega)]
  refine ⟨a, n, cp, ps, rfl, ⟨h3, h4, h5, ?_, fun p hp => ?_⟩, Nat.le_trans h4 h6⟩
  · rw [← e]; exact h8
  · obtain ⟨i, hi⟩ := List.getElem?_of_mem hp
    have hlt : i < rs.length := by have := (List.getElem?_eq_some_iff.1 hi).1; omega
    exact (h9 i _ p (List.getElem?_eq_getElem hlt) hi).1
structure FtD where
  a1 : Option Addr
  n1 : Nat
  c1 : Nat
  l1 : List (List Int)
  a2 : Option Addr
  n2 : Nat
  c2 : Nat
  l2 : List (List Int)
instance : Inhabited FtD := ⟨⟨none, 0, 0, [], none, 0, 0, []⟩⟩
def ftRow (f : FtD) : List SV := [.gh f.a1 f.n1 f.c1 (.rows 25 (f.l1.map plL)), .gh f.a2 f.n2 f.c2 (.rows 25 (f.l2.map plL))]
structure FtOk (H : Nat → Obj → Prop) (f : FtD) : Prop where
  p1 : PlL H f.a1 f.n1 f.c1 f.l1
  p2 : PlL H f.a2 f.n2 f.c2 f.l2
  b1 : f.n1 ≤ maxLen
  b2 : f.n2 ≤ maxLen
theorem FtOk.mono {H H' : Nat → Obj → Prop} {f : FtD} (h : FtOk H f) (hH : ∀ b o, H b o → H' b o) : FtOk H' f := ⟨h.p1.mono hH, h.p2.mono hH, h.b1, h.b2⟩
theorem foot_cells {fuel : Nat} {cs : List Value} {x : DataW H × List MemPlace} (h : DataW.trod enc Try.prog w 0 (fun _ => true) true fuel 24 cs = some x) : ∃ (l : List SV) (f : FtD), cs = cvs l ∧ (FtOk (H0 w) f ∧ l = ftRow f) := by
  obtain ⟨xs, n, rfl, _, hl, hxl, hf⟩ := DataW.trod_struct Try.underlying24 h
  rw [cellsFt] at hl
  match cs, hl, xs, hxl with
  | [c0, c1], _, [y0, y1], _ =>
    have ks : Try.prog.cellsOf 22 = 1 := by kernel_rfl
    have h0 : DataW.trod enc Try.prog w 0 (fun _ => true) true n 22 (List.take (Try.prog.cellsOf 22) (List.drop 0 [c0, c1])) = some y0 := hf 0 _ rfl
    have h1 : DataW.trod enc Try.prog w 0 (fun _ => true) true n 22 (List.take (Try.prog.cellsOf 22) (List.drop 1 [c0, c1])) = some y1 := hf 1 _ rfl
    clear hf
    rw [ks] at h0 h1
    replace h0 : DataW.trod enc Try.prog w 0 (fun _ => true) true n 22 [c0] = some y0 := h0
    replace h1 : DataW.trod enc Try.prog w 0 (fun _ => true) true n 22 [c1] = some y1 := h1
    obtain ⟨a1, n1, k1, l1, rfl, g1, m1⟩ := places_cell h0
    obtain ⟨a2, n2, k2, l2, rfl, g2, m2⟩ := places_cell h1
    exact ⟨_, ⟨a1, n1, k1, l1, a2, n2, k2, l2⟩, rfl, ⟨g1, g2, m1, m2⟩, rfl⟩
theorem foot_open {r : Reach} {b0 : Nat} {v : Value} {d : DataW H} {p : List MemPlace} (hval : Value.okWide Try.prog w r b0 24 v) (h : DataW.Trod enc Try.prog w 0 (fun _ => true) true 24 v d p) :
    ∃ f : FtD, v = cv (.agg (ftRow f)) ∧ FtOk (H0 w) f := by
  obtain ⟨cs, rfl, hsz, _⟩ : ∃ cs, v = .agg cs ∧ cs.size = Try.prog.cellsOf 24 ∧ Row.okWide Try.prog w r b0 24 cs := by
    simpa [Value.okWide, Try.underlying24] using hval
  obtain ⟨fuel, hf⟩ := h
  obtain ⟨l, t, h1, h2, rfl⟩ := foot_cells hf
  refine ⟨t, ?_, h2⟩
  have : cs.toList = cvs (ftRow t) := h1
  simp only [cv]
  congr 1
  exact Array.ext' this
theorem feet_open {r : Reach} {b0 : Nat} {v : Value} {d : DataW H} {p : List MemPlace} (hval : Value.okWide Try.prog w r b0 25 v) (h : DataW.Trod enc Try.prog w 0 (fun _ => true) true 25 v d p) :
    ∃ (a : Option Addr) (n c : Nat) (fs : List FtD), v = .slice a n c ∧ fs.length = n ∧ n ≤ c ∧ adr a n c ∧ n ≤ maxLen ∧ LiesH (H0 w) a (cc (.rows 2 (fs.map ftRow))) ∧ ∀ f ∈ fs, FtOk (H0 w) f := by
  obtain ⟨a0, n0, c0, rfl⟩ := sl_form Try.underlying25 hval
  obtain ⟨fuel, hf⟩ := h
  obtain ⟨a, n, cp, rs, ps, h1, h2, h3, h4, h5, h6, h7, h8, h9⟩ := sl_rows (α := FtD) (Q := fun l f => FtOk (H0 w) f ∧ l = ftRow f) (sz := 2) Try.underlying25 cellsFt (by omega) hf (fun k cs' y hk => foot_cells hk)
  cases h1
  have e : rs = ps.map ftRow := by
    apply List.ext_getElem?
    intro i
    by_cases hi : i < n0
    · have e1 := List.getElem?_eq_getElem (show i < rs.length by omega)
      have e2 := List.getElem?_eq_getElem (show i < ps.length by omega)
      rw [List.getElem?_map, e1, e2, (h9 i _ _ e1 e2).2]; rfl
    · rw [List.getElem?_eq_none (by omega), List.getElem?_eq_none (by rw [List.length_map]; omega)]
  refine ⟨a0, n0, c0, ps, rfl, h3, h4, h5, Nat.le_trans h4 h6, ?_, fun p hp => ?_⟩
  · rw [← e]; exact h8
  · obtain ⟨i, hi⟩ := List.getElem?_of_mem hp
    have hlt : i < rs.length := by have := (List.getElem?_eq_some_iff.1 hi).1; omega
    exact (h9 i _ p (List.getElem?_eq_getElem hlt) hi).1
end
end Go.Proofs.Ytdanlclhnehieaa

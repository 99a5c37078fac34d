/-
 Package trace: take, walked; what an event reads and writes. No condition.
-/
import Derived.Test.YtpebhddacbdicaaV6
import Derived.Test.YtpebhddacbdicaaU2
set_option maxHeartbeats 4000000
set_option linter.defProp false
set_option linter.unusedVariables false
set_option linter.unusedSimpArgs false
namespace Go.Proofs.Ytpebhddacbdicaa
open Go.RowKit
def plW (a : List Int) : List Int := a ++ [1, 0, 0, 0, 0]
def plS (a : List Int) (k : Nat) : List Int := a ++ [0, ((lm k 0 : Nat) : Int), ((lm k 1 : Nat) : Int), ((lm k 2 : Nat) : Int), ((lm k 3 : Nat) : Int)]
def isSee (x : Int) : Bool := decide (x = 49) || (decide (x = 59) || (decide (x = 60) || decide (x = 63)))
def isCall (x : Int) : Bool := decide (x = 241) || (decide (x = 242) || (decide (x = 244) || decide (x = 250)))
def isMake (x : Int) : Bool := decide (x = 240) || (decide (x = 245) || decide (x = 255))
def rdE (e : Evt) : List (List Int) := cond (decide (e.op = 84)) [plS e.self e.arg] (cond (decide (e.op = 71)) [plW e.self] (cond (isSee e.op || isCall e.op) [plW (bytI e.arg 20)] []))
def wrE (e : Evt) : List (List Int) := cond (decide (e.op = 85)) [plS e.self e.arg] (cond (isMake e.op || (isCall e.op && !eqW e.val 0)) [plW e.self, plW (bytI e.arg 20)] [])
theorem ok_two {a b : List Int} (ha : okP a) (hb : okP b) : ∀ x ∈ [a, b], okP x := fun x hx => by
 simp only [List.mem_cons, List.not_mem_nil, or_false] at hx
 rcases hx with rfl | rfl
 ·exact ha
 ·exact hb
theorem op_cases (x : Int) : x = 84 ∨ x = 85 ∨ x = 71 ∨ x = 49 ∨ x = 59 ∨ x = 60 ∨ x = 63 ∨ x = 241 ∨ x = 242 ∨ x = 244 ∨ x = 250 ∨ x = 240 ∨ x = 245 ∨ x = 255 ∨ (x ≠ 84 ∧ x ≠ 85 ∧ x ≠ 71 ∧ x ≠ 49 ∧ x ≠ 59 ∧ x ≠ 60 ∧ x ≠ 63 ∧ x ≠ 241 ∧ x ≠ 242 ∧ x ≠ 244 ∧ x ≠ 250 ∧ x ≠ 240 ∧ x ≠ 245 ∧ x ≠ 255) := by omega
theorem wf_u64n (a i : Nat) : (Lit.int .u64 ((lm a i : Nat) : Int)).wf = true := by
 have := lm_lt a i
 exact wf_inK (by simp only [inK]; omega)
theorem wf_u8b {x : Int} (h : 0 ≤ x ∧ x ≤ 255) : (Lit.int .u8 x).wf = true := wf_inK (by simp only [inK]; omega)
theorem list20i {a : List Int} (h : a.length = 20) : ∃ z0 z1 z2 z3 z4 z5 z6 z7 z8 z9 z10 z11 z12 z13 z14 z15 z16 z17 z18 z19 : Int, a = [z0, z1, z2, z3, z4, z5, z6, z7, z8, z9, z10, z11, z12, z13, z14, z15, z16, z17, z18, z19] := by
 match a, h with
 | [z0, z1, z2, z3, z4, z5, z6, z7, z8, z9, z10, z11, z12, z13, z14, z15, z16, z17, z18, z19], _ => exact ⟨z0, z1, z2, z3, z4, z5, z6, z7, z8, z9, z10, z11, z12, z13, z14, z15, z16, z17, z18, z19, rfl⟩
theorem okP_W {a : List Int} (hl : a.length = 20) (hb : allB a) : okP (plW a) := by
 obtain ⟨z0, z1, z2, z3, z4, z5, z6, z7, z8, z9, z10, z11, z12, z13, z14, z15, z16, z17, z18, z19, rfl⟩ := list20i hl
 unfold okP plW
 simp only [ck_72, List.cons_append, List.nil_append, inCs, inC]
 (repeat' apply And.intro) <;> first | exact trivial | rfl | exact .inr rfl | exact .inr trivial | exact wf_u8b (hb _ (by simp))
theorem okP_S {a : List Int} (hl : a.length = 20) (hb : allB a) (k : Nat) : okP (plS a k) := by
 obtain ⟨z0, z1, z2, z3, z4, z5, z6, z7, z8, z9, z10, z11, z12, z13, z14, z15, z16, z17, z18, z19, rfl⟩ := list20i hl
 unfold okP plS
 simp only [ck_72, List.cons_append, List.nil_append, inCs, inC]
 (repeat' apply And.intro) <;> first | exact trivial | rfl | exact wf_u64n _ _ | exact .inl rfl | exact .inl trivial | exact wf_u8b (hb _ (by simp))
noncomputable def GV7 : Ctr := fun f args m => match f with
 | 29 => g_From args m
 | 63 => g_rFrom args m
 | 45 => g_lowByte args m
 | 28 => g_Cmp args m
 | 27 => g_Sub args m
 | 54 => g_Addr args m
 | 53 => g_pWhole args m
 | 55 => g_setAdd args m
 | _ => .none
theorem GV7_ok : GOk Try.prog GV7 := by
 intro w0 B f args m; unfold GV7; split
 ·exact g_From_ok _ _ _ _
 ·exact g_rFrom_ok _ _ _ _
 ·exact g_lowByte_ok _ _ _ _
 ·exact g_Cmp_ok _ _ _ _
 ·exact g_Sub_ok _ _ _ _
 ·exact g_Addr_ok _ _ _ _
 ·exact g_pWhole_ok _ _ _ _
 ·exact g_setAdd_ok _ _ _ _
 ·exact trivial
theorem GV7_From : GV7 29 = g_From := by funext args m; rfl
theorem GV7_rFrom : GV7 63 = g_rFrom := by funext args m; rfl
theorem GV7_lowByte : GV7 45 = g_lowByte := by funext args m; rfl
theorem GV7_Cmp : GV7 28 = g_Cmp := by funext args m; rfl
theorem GV7_Sub : GV7 27 = g_Sub := by funext args m; rfl
theorem GV7_Addr : GV7 54 = g_Addr := by funext args m; rfl
theorem GV7_pWhole : GV7 53 = g_pWhole := by funext args m; rfl
theorem GV7_setAdd : GV7 55 = g_setAdd := by funext args m; rfl
def GV7_set := And.intro (And.intro (And.intro (And.intro (@GV7_From) (@g_From.eq_def)) (And.intro (@GV7_rFrom) (@g_rFrom.eq_def))) (And.intro (And.intro (@GV7_lowByte) (@g_lowByte.eq_def)) (And.intro (@GV7_Cmp) (@g_Cmp.eq_def)))) (And.intro (And.intro (And.intro (@GV7_Sub) (@g_Sub.eq_def)) (And.intro (@GV7_Addr) (@g_Addr.eq_def))) (And.intro (And.intro (@GV7_pWhole) (@g_pWhole.eq_def)) (And.intro (@GV7_setAdd) (@g_setAdd.eq_def))))

set_option maxRecDepth 20000 in
theorem take_vc (ba bb : Nat) (F G : List Int → Option SV) {H : Nat → Obj → Prop} (r : List SV) (e : Evt) (hR : EvR H r e) (w : World) (hm : MemOk w [ba, bb] [.mp ba ck_72 F, .mp bb ck_72 G] w) :
  Calls Try.prog 40 (cvs [.agg [.mpv 0 ba, .mpv 1 bb], .agg r]).toArray w (fun en w' => ∃ u, en = .returned u ∧ ∃ v' m', u = cv v' ∧ MemOk w [ba, bb] m' w' ∧ v' = .tup [] ∧ bpre [.mp ba ck_72 (addF F (rdE e)), .mp bb ck_72 (addF G (wrE e))] m') := by
 obtain ⟨s0, s1, s2, s3, s4, s5, s6, s7, s8, s9, s10, s11, s12, s13, s14, s15, s16, s17, s18, s19, x0, x1, x2, x3, y0, y1, y2, y3, pa, pn, pc, rfl, g1, g2, g3, g4, g5, g6, g7, g8, g9, g10, g11, g12, g13, g14, g15, g16, g17⟩ := hR
 have hsl : e.self.length = 20 := by rw [g1]; rfl
 have hzb := bytI_all e.arg 20
 have hzl := bytI_len e.arg 20
 obtain ⟨z0, z1, z2, z3, z4, z5, z6, z7, z8, z9, z10, z11, z12, z13, z14, z15, z16, z17, z18, z19, hz⟩ := list20i hzl
 have oW := okP_W hsl g2
 have oO := okP_W hzl hzb
 have oS := okP_S hsl g2 e.arg
 have cW : plL (plW e.self) = [.int .u8 s0, .int .u8 s1, .int .u8 s2, .int .u8 s3, .int .u8 s4, .int .u8 s5, .int .u8 s6, .int .u8 s7, .int .u8 s8, .int .u8 s9, .int .u8 s10, .int .u8 s11, .int .u8 s12, .int .u8 s13, .int .u8 s14, .int .u8 s15, .int .u8 s16, .int .u8 s17, .int .u8 s18, .int .u8 s19, .bool true, .int .u64 0, .int .u64 0, .int .u64 0, .int .u64 0] := by rw [g1]; rfl
 have cO : plL (plW (bytI e.arg 20)) = [.int .u8 z0, .int .u8 z1, .int .u8 z2, .int .u8 z3, .int .u8 z4, .int .u8 z5, .int .u8 z6, .int .u8 z7, .int .u8 z8, .int .u8 z9, .int .u8 z10, .int .u8 z11, .int .u8 z12, .int .u8 z13, .int .u8 z14, .int .u8 z15, .int .u8 z16, .int .u8 z17, .int .u8 z18, .int .u8 z19, .bool true, .int .u64 0, .int .u64 0, .int .u64 0, .int .u64 0] := by rw [hz]; rfl
 have cS : plL (plS e.self e.arg) = [.int .u8 s0, .int .u8 s1, .int .u8 s2, .int .u8 s3, .int .u8 s4, .int .u8 s5, .int .u8 s6, .int .u8 s7, .int .u8 s8, .int .u8 s9, .int .u8 s10, .int .u8 s11, .int .u8 s12, .int .u8 s13, .int .u8 s14, .int .u8 s15, .int .u8 s16, .int .u8 s17, .int .u8 s18, .int .u8 s19, .bool false, .int .u64 (lm e.arg 0 : Nat), .int .u64 (lm e.arg 1 : Nat), .int .u64 (lm e.arg 2 : Nat), .int .u64 (lm e.arg 3 : Nat)] := by rw [g1]; rfl
 have kW : plsOf [[.int .u8 s0, .int .u8 s1, .int .u8 s2, .int .u8 s3, .int .u8 s4, .int .u8 s5, .int .u8 s6, .int .u8 s7, .int .u8 s8, .int .u8 s9, .int .u8 s10, .int .u8 s11, .int .u8 s12, .int .u8 s13, .int .u8 s14, .int .u8 s15, .int .u8 s16, .int .u8 s17, .int .u8 s18, .int .u8 s19, .bool true, .int .u64 0, .int .u64 0, .int .u64 0, .int .u64 0]] = [plW e.self] := by rw [← cW]; exact plsOf_eq (l := [plW e.self]) (fun x hx => by rw [List.mem_singleton] at hx; rw [hx]; exact oW)
 have kO : plsOf [[.int .u8 z0, .int .u8 z1, .int .u8 z2, .int .u8 z3, .int .u8 z4, .int .u8 z5, .int .u8 z6, .int .u8 z7, .int .u8 z8, .int .u8 z9, .int .u8 z10, .int .u8 z11, .int .u8 z12, .int .u8 z13, .int .u8 z14, .int .u8 z15, .int .u8 z16, .int .u8 z17, .int .u8 z18, .int .u8 z19, .bool true, .int .u64 0, .int .u64 0, .int .u64 0, .int .u64 0]] = [plW (bytI e.arg 20)] := by rw [← cO]; exact plsOf_eq (l := [plW (bytI e.arg 20)]) (fun x hx => by rw [List.mem_singleton] at hx; rw [hx]; exact oO)
 have kS : plsOf [[.int .u8 s0, .int .u8 s1, .int .u8 s2, .int .u8 s3, .int .u8 s4, .int .u8 s5, .int .u8 s6, .int .u8 s7, .int .u8 s8, .int .u8 s9, .int .u8 s10, .int .u8 s11, .int .u8 s12, .int .u8 s13, .int .u8 s14, .int .u8 s15, .int .u8 s16, .int .u8 s17, .int .u8 s18, .int .u8 s19, .bool false, .int .u64 (lm e.arg 0 : Nat), .int .u64 (lm e.arg 1 : Nat), .int .u64 (lm e.arg 2 : Nat), .int .u64 (lm e.arg 3 : Nat)]] = [plS e.self e.arg] := by rw [← cS]; exact plsOf_eq (l := [plS e.self e.arg]) (fun x hx => by rw [List.mem_singleton] at hx; rw [hx]; exact oS)
 have kB : plsOf [[.int .u8 s0, .int .u8 s1, .int .u8 s2, .int .u8 s3, .int .u8 s4, .int .u8 s5, .int .u8 s6, .int .u8 s7, .int .u8 s8, .int .u8 s9, .int .u8 s10, .int .u8 s11, .int .u8 s12, .int .u8 s13, .int .u8 s14, .int .u8 s15, .int .u8 s16, .int .u8 s17, .int .u8 s18, .int .u8 s19, .bool true, .int .u64 0, .int .u64 0, .int .u64 0, .int .u64 0], [.int .u8 z0, .int .u8 z1, .int .u8 z2, .int .u8 z3, .int .u8 z4, .int .u8 z5, .int .u8 z6, .int .u8 z7, .int .u8 z8, .int .u8 z9, .int .u8 z10, .int .u8 z11, .int .u8 z12, .int .u8 z13, .int .u8 z14, .int .u8 z15, .int .u8 z16, .int .u8 z17, .int .u8 z18, .int .u8 z19, .bool true, .int .u64 0, .int .u64 0, .int .u64 0, .int .u64 0]] = [plW e.self, plW (bytI e.arg 20)] := by rw [← cW, ← cO]; exact plsOf_eq (l := [plW e.self, plW (bytI e.arg 20)]) (ok_two oW oO)
 have xW : ∃ cs : List (List Int), [[.int .u8 s0, .int .u8 s1, .int .u8 s2, .int .u8 s3, .int .u8 s4, .int .u8 s5, .int .u8 s6, .int .u8 s7, .int .u8 s8, .int .u8 s9, .int .u8 s10, .int .u8 s11, .int .u8 s12, .int .u8 s13, .int .u8 s14, .int .u8 s15, .int .u8 s16, .int .u8 s17, .int .u8 s18, .int .u8 s19, .bool true, .int .u64 0, .int .u64 0, .int .u64 0, .int .u64 0]] = cs.map plL ∧ ∀ c ∈ cs, okP c := ⟨[plW e.self], by rw [← cW]; rfl, fun x hx => by rw [List.mem_singleton] at hx; rw [hx]; exact oW⟩
 have xO : ∃ cs : List (List Int), [[.int .u8 z0, .int .u8 z1, .int .u8 z2, .int .u8 z3, .int .u8 z4, .int .u8 z5, .int .u8 z6, .int .u8 z7, .int .u8 z8, .int .u8 z9, .int .u8 z10, .int .u8 z11, .int .u8 z12, .int .u8 z13, .int .u8 z14, .int .u8 z15, .int .u8 z16, .int .u8 z17, .int .u8 z18, .int .u8 z19, .bool true, .int .u64 0, .int .u64 0, .int .u64 0, .int .u64 0]] = cs.map plL ∧ ∀ c ∈ cs, okP c := ⟨[plW (bytI e.arg 20)], by rw [← cO]; rfl, fun x hx => by rw [List.mem_singleton] at hx; rw [hx]; exact oO⟩
 have xS : ∃ cs : List (List Int), [[.int .u8 s0, .int .u8 s1, .int .u8 s2, .int .u8 s3, .int .u8 s4, .int .u8 s5, .int .u8 s6, .int .u8 s7, .int .u8 s8, .int .u8 s9, .int .u8 s10, .int .u8 s11, .int .u8 s12, .int .u8 s13, .int .u8 s14, .int .u8 s15, .int .u8 s16, .int .u8 s17, .int .u8 s18, .int .u8 s19, .bool false, .int .u64 (lm e.arg 0 : Nat), .int .u64 (lm e.arg 1 : Nat), .int .u64 (lm e.arg 2 : Nat), .int .u64 (lm e.arg 3 : Nat)]] = cs.map plL ∧ ∀ c ∈ cs, okP c := ⟨[plS e.self e.arg], by rw [← cS]; rfl, fun x hx => by rw [List.mem_singleton] at hx; rw [hx]; exact oS⟩
 have xB : ∃ cs : List (List Int), [[.int .u8 s0, .int .u8 s1, .int .u8 s2, .int .u8 s3, .int .u8 s4, .int .u8 s5, .int .u8 s6, .int .u8 s7, .int .u8 s8, .int .u8 s9, .int .u8 s10, .int .u8 s11, .int .u8 s12, .int .u8 s13, .int .u8 s14, .int .u8 s15, .int .u8 s16, .int .u8 s17, .int .u8 s18, .int .u8 s19, .bool true, .int .u64 0, .int .u64 0, .int .u64 0, .int .u64 0], [.int .u8 z0, .int .u8 z1, .int .u8 z2, .int .u8 z3, .int .u8 z4, .int .u8 z5, .int .u8 z6, .int .u8 z7, .int .u8 z8, .int .u8 z9, .int .u8 z10, .int .u8 z11, .int .u8 z12, .int .u8 z13, .int .u8 z14, .int .u8 z15, .int .u8 z16, .int .u8 z17, .int .u8 z18, .int .u8 z19, .bool true, .int .u64 0, .int .u64 0, .int .u64 0, .int .u64 0]] = cs.map plL ∧ ∀ c ∈ cs, okP c := ⟨[plW e.self, plW (bytI e.arg 20)], by rw [← cW, ← cO]; rfl, ok_two oW oO⟩
 have hvW : e.val < W := by rw [← g6]; exact numI_ltE g5
 have U0 : allU [0, 0, 0, 0] := by simp [allU]
 generalize hbz : eqW e.val 0 = bz
 rcases op_cases e.op with h | h | h | h | h | h | h | h | h | h | h | h | h | h | h
 all_goals
  (first | have d84 : decide (e.op = 84) = true := decide_eq_true (by omega) | have d84 : decide (e.op = 84) = false := decide_eq_false (by omega))
  (first | have d85 : decide (e.op = 85) = true := decide_eq_true (by omega) | have d85 : decide (e.op = 85) = false := decide_eq_false (by omega))
  (first | have d71 : decide (e.op = 71) = true := decide_eq_true (by omega) | have d71 : decide (e.op = 71) = false := decide_eq_false (by omega))
  (first | have d49 : decide (e.op = 49) = true := decide_eq_true (by omega) | have d49 : decide (e.op = 49) = false := decide_eq_false (by omega))
  (first | have d59 : decide (e.op = 59) = true := decide_eq_true (by omega) | have d59 : decide (e.op = 59) = false := decide_eq_false (by omega))
  (first | have d60 : decide (e.op = 60) = true := decide_eq_true (by omega) | have d60 : decide (e.op = 60) = false := decide_eq_false (by omega))
  (first | have d63 : decide (e.op = 63) = true := decide_eq_true (by omega) | have d63 : decide (e.op = 63) = false := decide_eq_false (by omega))
  (first | have d241 : decide (e.op = 241) = true := decide_eq_true (by omega) | have d241 : decide (e.op = 241) = false := decide_eq_false (by omega))
  (first | have d242 : decide (e.op = 242) = true := decide_eq_true (by omega) | have d242 : decide (e.op = 242) = false := decide_eq_false (by omega))
  (first | have d244 : decide (e.op = 244) = true := decide_eq_true (by omega) | have d244 : decide (e.op = 244) = false := decide_eq_false (by omega))
  (first | have d250 : decide (e.op = 250) = true := decide_eq_true (by omega) | have d250 : decide (e.op = 250) = false := decide_eq_false (by omega))
  (first | have d240 : decide (e.op = 240) = true := decide_eq_true (by omega) | have d240 : decide (e.op = 240) = false := decide_eq_false (by omega))
  (first | have d245 : decide (e.op = 245) = true := decide_eq_true (by omega) | have d245 : decide (e.op = 245) = false := decide_eq_false (by omega))
  (first | have d255 : decide (e.op = 255) = true := decide_eq_true (by omega) | have d255 : decide (e.op = 255) = false := decide_eq_false (by omega))
 all_goals first | (have hnc : isCall e.op = false := (by unfold isCall; rw [d241, d242, d244, d250]; rfl); clear hnc) | cases bz
 all_goals
  refine Vc.calls T0_ok Try.func40 rfl rfl (args := [.agg [.mpv 0 ba, .mpv 1 bb], .agg [.int .u8 e.op, .int .i64 e.dep, .int .u8 s0, .int .u8 s1, .int .u8 s2, .int .u8 s3, .int .u8 s4, .int .u8 s5, .int .u8 s6, .int .u8 s7, .int .u8 s8, .int .u8 s9, .int .u8 s10, .int .u8 s11, .int .u8 s12, .int .u8 s13, .int .u8 s14, .int .u8 s15, .int .u8 s16, .int .u8 s17, .int .u8 s18, .int .u8 s19, .int .u64 x0, .int .u64 x1, .int .u64 x2, .int .u64 x3, .int .u64 y0, .int .u64 y1, .int .u64 y2, .int .u64 y3, .gh pa pn pc (.ints .u8 e.bs), .int .u16 e.flt]]) (k := 74) rfl hm ?_; change Vc _ _ (c8 (.agg [.mpv 0 ba, .mpv 1 bb]) (.agg [.int .u8 e.op, .int .i64 e.dep, .int .u8 s0, .int .u8 s1, .int .u8 s2, .int .u8 s3, .int .u8 s4, .int .u8 s5, .int .u8 s6, .int .u8 s7, .int .u8 s8, .int .u8 s9, .int .u8 s10, .int .u8 s11, .int .u8 s12, .int .u8 s13, .int .u8 s14, .int .u8 s15, .int .u8 s16, .int .u8 s17, .int .u8 s18, .int .u8 s19, .int .u64 x0, .int .u64 x1, .int .u64 x2, .int .u64 x3, .int .u64 y0, .int .u64 y1, .int .u64 y2, .int .u64 y3, .gh pa pn pc (.ints .u8 e.bs), .int .u16 e.flt]) .undef .undef .undef .undef .undef .undef (c8 .undef .undef .undef .undef .undef .undef .undef .undef (c8 .undef .undef .undef .undef .undef .undef .undef .undef (c8 .undef .undef .undef .undef .undef .undef .undef .undef (c8 .undef .undef .undef .undef .undef .undef .undef .undef (c8 .undef .undef .undef .undef .undef .undef .undef .undef (c8 .undef .undef .undef .undef .undef .undef .undef .undef (c8 .undef .undef .undef .undef .undef .undef .undef .undef (c8 .undef .undef .undef .undef .undef .undef .undef .undef ([.undef, .undef, .undef, .undef])))))))))) _ _
  ((repeat (first | (with_reducible first | refine Vc.seq fun N hN => ?_ | refine Vc.block ?_) | ((with_reducible first | refine Vc.skip ?_ | refine Vc.exit ?_); dsimp only [thenK, blockK, Nat.beq]; (first | (refine hN _ _ ?_; clear hN N) | skip)) | (with_reducible intro _) | ((with_reducible refine And.intro ?_ ?_); exact sX0) | ((first | ((with_reducible refine askT_of ?_ (fun hb => ?_)); exact sX0; (try simp only [hb])) | ((with_reducible refine Vc.fin ?_); dsimp only [thenK, blockK, retK, resS, resOne, resAll]) | ((with_reducible refine Vc.hold ?_); first | refine Vc.regiont T0_ok GV7_ok ?_ | refine Vc.drawt (id := 2) T0_ok GV7_ok (by kernel_rfl) [0, 1, 3, 4, 2, 5, 6] 9 [⟨7, 5, 72, _⟩, ⟨8, 6, 72, _⟩] ⟨⟨⟨_, _, rfl⟩, zc_72⟩, ⟨⟨⟨_, _, rfl⟩, zc_72⟩, trivial⟩⟩ (by kernel_rfl) ?_)); (try simp only [v8Y, Nat.beq, Nat.ble, seval, tabs, GV7_set, d84, d85, d71, d49, d59, d60, d63, d241, d242, d244, d250, d240, d245, d255, g4, g6, hz, hbz, kW, kO, kS, kB, List.drop_zero, List.take_succ_cons, List.take_zero]); (try simp (disch := omega) only [v8W])) | ((with_reducible refine hN _ _ ?_); clear hN N; (try simp (disch := omega) only [v8W])))); (try ((with_reducible refine Fin.of ?_); (try with_reducible exact True.intro))))
  (repeat (first | ((refine Vc.cond T0_ok (t := true) (by rfl) (fun _ => ?_) (fun h => Bool.noConfusion h)); ((repeat (first | (with_reducible first | refine Vc.seq fun N hN => ?_ | refine Vc.block ?_) | ((with_reducible first | refine Vc.skip ?_ | refine Vc.exit ?_); dsimp only [thenK, blockK, Nat.beq]; (first | (refine hN _ _ ?_; clear hN N) | skip)) | (with_reducible intro _) | ((with_reducible refine And.intro ?_ ?_); exact sX0) | ((first | ((with_reducible refine askT_of ?_ (fun hb => ?_)); exact sX0; (try simp only [hb])) | ((with_reducible refine Vc.fin ?_); dsimp only [thenK, blockK, retK, resS, resOne, resAll]) | ((with_reducible refine Vc.hold ?_); first | refine Vc.regiont T0_ok GV7_ok ?_ | refine Vc.drawt (id := 2) T0_ok GV7_ok (by kernel_rfl) [0, 1, 3, 4, 2, 5, 6] 9 [⟨7, 5, 72, _⟩, ⟨8, 6, 72, _⟩] ⟨⟨⟨_, _, rfl⟩, zc_72⟩, ⟨⟨⟨_, _, rfl⟩, zc_72⟩, trivial⟩⟩ (by kernel_rfl) ?_)); (try simp only [v8Y, Nat.beq, Nat.ble, seval, tabs, GV7_set, d84, d85, d71, d49, d59, d60, d63, d241, d242, d244, d250, d240, d245, d255, g4, g6, hz, hbz, kW, kO, kS, kB, List.drop_zero, List.take_succ_cons, List.take_zero]); (try simp (disch := omega) only [v8W])) | ((with_reducible refine hN _ _ ?_); clear hN N; (try simp (disch := omega) only [v8W])))); (try ((with_reducible refine Fin.of ?_); (try with_reducible exact True.intro))))) | ((refine Vc.cond T0_ok (t := false) (by rfl) (fun h => Bool.noConfusion h) (fun _ => ?_)); ((repeat (first | (with_reducible first | refine Vc.seq fun N hN => ?_ | refine Vc.block ?_) | ((with_reducible first | refine Vc.skip ?_ | refine Vc.exit ?_); dsimp only [thenK, blockK, Nat.beq]; (first | (refine hN _ _ ?_; clear hN N) | skip)) | (with_reducible intro _) | ((with_reducible refine And.intro ?_ ?_); exact sX0) | ((first | ((with_reducible refine askT_of ?_ (fun hb => ?_)); exact sX0; (try simp only [hb])) | ((with_reducible refine Vc.fin ?_); dsimp only [thenK, blockK, retK, resS, resOne, resAll]) | ((with_reducible refine Vc.hold ?_); first | refine Vc.regiont T0_ok GV7_ok ?_ | refine Vc.drawt (id := 2) T0_ok GV7_ok (by kernel_rfl) [0, 1, 3, 4, 2, 5, 6] 9 [⟨7, 5, 72, _⟩, ⟨8, 6, 72, _⟩] ⟨⟨⟨_, _, rfl⟩, zc_72⟩, ⟨⟨⟨_, _, rfl⟩, zc_72⟩, trivial⟩⟩ (by kernel_rfl) ?_)); (try simp only [v8Y, Nat.beq, Nat.ble, seval, tabs, GV7_set, d84, d85, d71, d49, d59, d60, d63, d241, d242, d244, d250, d240, d245, d255, g4, g6, hz, hbz, kW, kO, kS, kB, List.drop_zero, List.take_succ_cons, List.take_zero]); (try simp (disch := omega) only [v8W])) | ((with_reducible refine hN _ _ ?_); clear hN N; (try simp (disch := omega) only [v8W])))); (try ((with_reducible refine Fin.of ?_); (try with_reducible exact True.intro))))) | ((with_reducible refine hN _ _ ?_); (clear hN N); ((repeat (first | (with_reducible first | refine Vc.seq fun N hN => ?_ | refine Vc.block ?_) | ((with_reducible first | refine Vc.skip ?_ | refine Vc.exit ?_); dsimp only [thenK, blockK, Nat.beq]; (first | (refine hN _ _ ?_; clear hN N) | skip)) | (with_reducible intro _) | ((with_reducible refine And.intro ?_ ?_); exact sX0) | ((first | ((with_reducible refine askT_of ?_ (fun hb => ?_)); exact sX0; (try simp only [hb])) | ((with_reducible refine Vc.fin ?_); dsimp only [thenK, blockK, retK, resS, resOne, resAll]) | ((with_reducible refine Vc.hold ?_); first | refine Vc.regiont T0_ok GV7_ok ?_ | refine Vc.drawt (id := 2) T0_ok GV7_ok (by kernel_rfl) [0, 1, 3, 4, 2, 5, 6] 9 [⟨7, 5, 72, _⟩, ⟨8, 6, 72, _⟩] ⟨⟨⟨_, _, rfl⟩, zc_72⟩, ⟨⟨⟨_, _, rfl⟩, zc_72⟩, trivial⟩⟩ (by kernel_rfl) ?_)); (try simp only [v8Y, Nat.beq, Nat.ble, seval, tabs, GV7_set, d84, d85, d71, d49, d59, d60, d63, d241, d242, d244, d250, d240, d245, d255, g4, g6, hz, hbz, kW, kO, kS, kB, List.drop_zero, List.take_succ_cons, List.take_zero]); (try simp (disch := omega) only [v8W])) | ((with_reducible refine hN _ _ ?_); clear hN N; (try simp (disch := omega) only [v8W])))); (try ((with_reducible refine Fin.of ?_); (try with_reducible exact True.intro))))) | (clear hN N)))
  first | exact ⟨by simp, by first | exact trivial | rfl, by simp only [rdE, wrE, isSee, isCall, isMake, d84, d85, d71, d49, d59, d60, d63, d241, d242, d244, d250, d240, d245, d255, hbz, hz, Bool.or_false, Bool.or_true, Bool.true_or, Bool.false_or, Bool.not_true, Bool.not_false, Bool.and_true, Bool.and_false, Bool.true_and, Bool.false_and, cond_true, cond_false, addF_nil]; first | exact ⟨rfl, rfl, trivial⟩ | exact ⟨trivial, trivial, trivial⟩⟩
end Go.Proofs.Ytpebhddacbdicaa

/-
 Package trace: Belongs, walked. No condition.
-/
import Derived.Test.YtoadeekdgikghaaDoorU2
import Derived.Test.YtoadeekdgikghaaDoorHK
set_option maxRecDepth 10000
set_option maxHeartbeats 4000000
set_option linter.defProp false
set_option linter.unusedVariables false
set_option linter.unusedSimpArgs false
namespace Go.Proofs.YtoadeekdgikghaaDoor
open Go.RowKit
def belongsD (ys : List Int) (slot : Nat) (e : Evt) : Bool := (decide (e.flt = 0) && decide (e.op = 32)) && ((decide (32 ≤ e.bs.length) && decide (e.bs.take 32 = ys)) && decide (cmpI (subN slot e.val) 128 ≤ 0))
theorem cmp_small {d : Nat} : decide (cmpI d 128 ≤ 0) = (smB d && decide (((smN d : Nat) : Int) ≤ 128)) := by
 unfold cmpI smB smN
 rw [Bool.eq_iff_iff]
 simp only [decide_eq_true_eq, Bool.and_eq_true]
 constructor
 ·intro h
  have h1 : d ≤ 128 := by
   by_cases hd : d = 128
   ·omega
   ·rw [if_neg hd] at h
    by_cases hd2 : d < 128
    ·omega
    ·rw [if_neg hd2] at h; omega
  have h2 : d < 18446744073709551616 := by omega
  exact ⟨h2, by rw [if_pos h2]; omega⟩
 ·intro ⟨h2, h⟩
  rw [if_pos h2] at h
  by_cases hd : d = 128
  ·rw [if_pos hd]; omega
  ·rw [if_neg hd, if_pos (by omega)]; omega
theorem read_eq {t a : List Int} (ht : t.length = 32) (hb : allB t) (ha : allB a) (hl : a.length = 20) : eqW (readN t) (rdI a) = decide (t = bytI (rdI a) 32) := by
 have h1 : readN t = rdI t := by unfold readN; rw [ht, Nat.sub_self, List.drop_zero]
 have hW : (256 : Nat) ^ 32 = W := by decide
 have h2 : rdI t < W := rdI_W hb (by omega)
 have h3 : rdI a < W := rdI_W ha (by omega)
 rw [h1, eqW_dec h2 h3]
 apply decide_eq_decide.2
 constructor
 ·intro h
  have := bytI_rdI hb
  rw [ht] at this
  rw [← h, this]
 ·intro h
  rw [h, rdI_bytI, hW, Nat.mod_eq_of_lt h3]
theorem belongs_eq {a : List Int} {slot : Nat} {e : Evt} (hb : allB e.bs) (ha : allB a) (hl : a.length = 20) : belongsD (bytI (rdI a) 32) slot e = belongsE a slot e := by
 have hc := cmp_small (d := subN slot e.val)
 have h0 : (decide (32 ≤ e.bs.length) && decide (e.bs.take 32 = bytI (rdI a) 32)) = (!decide ((e.bs.length : Int) < 32) && eqW (readN (e.bs.take 32)) (rdI a)) := by
  by_cases h32 : 32 ≤ e.bs.length
  ·have e1 : decide ((e.bs.length : Int) < 32) = false := decide_eq_false (by omega)
   have e2 := read_eq (t := e.bs.take 32) (a := a) (by rw [List.length_take]; omega) (fun z hz => hb z (List.mem_of_mem_take hz)) ha hl
   rw [e1, e2, decide_eq_true h32, Bool.not_false]
  ·have e1 : decide ((e.bs.length : Int) < 32) = true := decide_eq_true (by omega)
   rw [e1, decide_eq_false h32, Bool.not_true, Bool.false_and, Bool.false_and]
 unfold belongsD belongsE
 rw [hc, h0]
 generalize smB (subN slot e.val) = z1
 generalize decide (((smN (subN slot e.val) : Nat) : Int) ≤ 128) = z2
 generalize eqW (readN (e.bs.take 32)) (rdI a) = z3
 generalize (!decide ((e.bs.length : Int) < 32)) = z4
 generalize decide (e.flt = 0) = z5
 generalize decide (e.op = 32) = z6
 cases z1 <;> cases z2 <;> cases z3 <;> cases z4 <;> cases z5 <;> cases z6 <;> rfl
def idxB (f : Evt → Bool) : List Evt → Int → Int
 | [], _ => -1
 | e :: l, i => if f e = true then i else idxB f l (i + 1)
theorem idxB_drop {f : Evt → Bool} {l : List Evt} {k : Nat} {e : Evt} (h : l[k]? = some e) : idxB f (l.drop k) (k : Nat) = if f e = true then ((k : Nat) : Int) else idxB f (l.drop (k + 1)) ((k + 1 : Nat) : Int) := by
 have hk := (List.getElem?_eq_some_iff.1 h).1
 rw [List.drop_eq_getElem_cons hk, (List.getElem?_eq_some_iff.1 h).2]; rfl
theorem idxB_any (f : Evt → Bool) : ∀ (l : List Evt) (i : Int), 0 ≤ i → decide (0 ≤ idxB f l i) = l.any f
 | [], i, _ => rfl
 | e :: l, i, h => by
  rw [List.any_cons]
  cases hx : f e
  ·have h1 : idxB f (e :: l) i = idxB f l (i + 1) := if_neg (by rw [hx]; exact Bool.false_ne_true)
   rw [h1, idxB_any f l (i + 1) (by omega), Bool.false_or]
  ·have h1 : idxB f (e :: l) i = i := if_pos hx
   rw [h1, decide_eq_true h, Bool.true_or]
noncomputable def GU5 : Ctr := fun f args m => match f with
 | 52 => g_index args m
 | 35 => g_contains args m
 | 55 => g_byEqual args m
 | 27 => g_does args m
 | 40 => g_hasPre args m
 | 28 => g_called args m
 | 41 => g_Sub args m
 | 43 => g_From args m
 | 42 => g_Cmp args m
 | 36 => g_Wide args m
 | 37 => g_Bytes args m
 | _ => .none
theorem GU5_ok : GOk Tryd.prog GU5 := by
 intro w0 B f args m; unfold GU5; split
 ·exact g_index_ok _ _ _ _
 ·exact g_contains_ok _ _ _ _
 ·exact g_byEqual_ok _ _ _ _
 ·exact g_does_ok _ _ _ _
 ·exact g_hasPre_ok _ _ _ _
 ·exact g_called_ok _ _ _ _
 ·exact g_Sub_ok _ _ _ _
 ·exact g_From_ok _ _ _ _
 ·exact g_Cmp_ok _ _ _ _
 ·exact g_Wide_ok _ _ _ _
 ·exact g_Bytes_ok _ _ _ _
 ·exact trivial
theorem GU5_index : GU5 52 = g_index := by funext args m; rfl
theorem GU5_contains : GU5 35 = g_contains := by funext args m; rfl
theorem GU5_byEqual : GU5 55 = g_byEqual := by funext args m; rfl
theorem GU5_does : GU5 27 = g_does := by funext args m; rfl
theorem GU5_hasPre : GU5 40 = g_hasPre := by funext args m; rfl
theorem GU5_called : GU5 28 = g_called := by funext args m; rfl
theorem GU5_Sub : GU5 41 = g_Sub := by funext args m; rfl
theorem GU5_From : GU5 43 = g_From := by funext args m; rfl
theorem GU5_Cmp : GU5 42 = g_Cmp := by funext args m; rfl
theorem GU5_Wide : GU5 36 = g_Wide := by funext args m; rfl
theorem GU5_Bytes : GU5 37 = g_Bytes := by funext args m; rfl
def GU5_set := And.intro (And.intro (And.intro (And.intro (@GU5_index) (@g_index.eq_def)) (And.intro (@GU5_contains) (And.intro (@g_contains.eq_def) (@GU5_byEqual)))) (And.intro (And.intro (@g_byEqual.eq_def) (And.intro (@GU5_does) (@g_does.eq_def))) (And.intro (@GU5_hasPre) (And.intro (@g_hasPre.eq_def) (@GU5_called))))) (And.intro (And.intro (And.intro (@g_called.eq_def) (@GU5_Sub)) (And.intro (@g_Sub.eq_def) (And.intro (@GU5_From) (@g_From.eq_def)))) (And.intro (And.intro (@GU5_Cmp) (And.intro (@g_Cmp.eq_def) (@GU5_Wide))) (And.intro (@g_Wide.eq_def) (And.intro (@GU5_Bytes) (@g_Bytes.eq_def)))))

set_option maxRecDepth 20000 in
theorem blg1_vc (r : List SV) (e : Evt) (ys : List Int) (slot : Nat) (fa a1 a2 : Option Addr) (fc : Nat) (w : World) (hR : EvR (H0 w) r e) (hyl : ys.length = 32) (hyb : allB ys) (hfc : 32 ≤ fc) (hfa : adr fa 32 fc) (hY0 : LiesH (H0 w) fa (cc (.ints .u8 ys)))
    (hQ1 : LiesH (H0 w) a1 (cc (.cells [.gh fa 32 fc (.ints .u8 ys)]))) (hQ2 : LiesH (H0 w) a2 (cc (.words [slot]))) (hs : slot < W) :
    Calls Tryd.prog 39 (cvs [.agg r, .gp a1 (.cells [.gh fa 32 fc (.ints .u8 ys)]) 0 0 0, .gp a2 (.words [slot]) 0 0 0]).toArray w (fun en w' => ∃ u, en = .returned u ∧ ∃ v' m', u = cv v' ∧ MemOk w [] m' w' ∧ v' = .bool (belongsD ys slot e)) := by
  have hY : ∀ m, allOld w ∈ m → LiesH (HM m) fa (cc (.ints .u8 ys)) := fun m hin => hY0.mono (H0.hm hin)
  have hP1 : ∀ m, allOld w ∈ m → LiesH (HM m) a1 (cc (.cells [.gh fa 32 fc (.ints .u8 ys)])) := fun m hin => hQ1.mono (H0.hm hin)
  have hP2 : ∀ m, allOld w ∈ m → LiesH (HM m) a2 (cc (.words [slot])) := fun m hin => hQ2.mono (H0.hm hin)
  have hRx : ∀ m, allOld w ∈ m → EvR (HM m) r e := fun m hin => hR.mono (H0.hm hin)
  have hev := evtOf_eq hR
  obtain ⟨s0, s1, s2, s3, s4, s5, s6, s7, s8, s9, s10, s11, s12, s13, s14, s15, s16, s17, s18, s19, x0, x1, x2, x3, y0, y1, y2, y3, pa, pn, pc, rfl, g1, g2, g3, g4, g5, g6, g7, g8, g9, g10, g11, g12, g13, g14, g15, g16, g17⟩ := hR
  have hB : ∀ m, allOld w ∈ m → LiesH (HM m) pa (cc (.ints .u8 e.bs)) := fun m hin => g10.mono (H0.hm hin)
  unfold maxLen at g12
  have hvW : e.val < W := by rw [← g6]; exact numI_ltE g5
  have hsW : subN slot e.val < W := subN_lt _ _
  have h128 : (128 : Nat) < W := by unfold W; omega
  have t128 : (128 : Int).toNat = 128 := rfl
  have tk1 : e.bs.take pn = e.bs := List.take_of_length_le (by omega)
  have tk2 : ys.take 32 = ys := List.take_of_length_le (by omega)
  unfold belongsD
  rw [g7]
  generalize h1 : decide (e.flt = 0) = b1
  generalize h2 : decide (e.op = 32) = b2
  have h2' : hasI [32] e.op = b2 := by rw [hasI_one]; exact h2
  generalize h3 : decide (32 ≤ pn) = b3
  generalize h4 : decide (e.bs.take 32 = ys) = b4
  generalize h5 : decide (cmpI (subN slot e.val) 128 ≤ 0) = b5
  by_cases hb : (b1 && b2) = true ∧ (b3 && b4) = true
  · obtain ⟨q1, q2⟩ := hb
    rw [q1, q2]
    refine Vc.calls T0_ok Tryd.func39 rfl rfl (args := [.agg [.int .u8 e.op, .int .i64 e.dep, .int .u8 s0, .int .u8 s1, .int .u8 s2, .int .u8 s3, .int .u8 s4, .int .u8 s5, .int .u8 s6, .int .u8 s7, .int .u8 s8, .int .u8 s9, .int .u8 s10, .int .u8 s11, .int .u8 s12, .int .u8 s13, .int .u8 s14, .int .u8 s15, .int .u8 s16, .int .u8 s17, .int .u8 s18, .int .u8 s19, .int .u64 x0, .int .u64 x1, .int .u64 x2, .int .u64 x3, .int .u64 y0, .int .u64 y1, .int .u64 y2, .int .u64 y3, .gh pa pn pc (.ints .u8 e.bs), .int .u16 e.flt], .gp a1 (.cells [.gh fa 32 fc (.ints .u8 ys)]) 0 0 0, .gp a2 (.words [slot]) 0 0 0]) (k := 26) rfl (old_start w) ?_; change Vc _ _ (c8 (.agg [.int .u8 e.op, .int .i64 e.dep, .int .u8 s0, .int .u8 s1, .int .u8 s2, .int .u8 s3, .int .u8 s4, .int .u8 s5, .int .u8 s6, .int .u8 s7, .int .u8 s8, .int .u8 s9, .int .u8 s10, .int .u8 s11, .int .u8 s12, .int .u8 s13, .int .u8 s14, .int .u8 s15, .int .u8 s16, .int .u8 s17, .int .u8 s18, .int .u8 s19, .int .u64 x0, .int .u64 x1, .int .u64 x2, .int .u64 x3, .int .u64 y0, .int .u64 y1, .int .u64 y2, .int .u64 y3, .gh pa pn pc (.ints .u8 e.bs), .int .u16 e.flt]) (.gp a1 (.cells [.gh fa 32 fc (.ints .u8 ys)]) 0 0 0) (.gp a2 (.words [slot]) 0 0 0) .undef .undef .undef .undef .undef (c8 .undef .undef .undef .undef .undef .undef .undef .undef (c8 .undef .undef .undef .undef .undef .undef .undef .undef ([.undef, .undef, .undef, .undef, .undef])))) _ _
    ((repeat (first | (with_reducible refine Vc.seq fun N hN => ?_) | (with_reducible intro _) | ((with_reducible refine And.intro ?_ ?_); exact sX2) | ((first | ((with_reducible refine Vc.hold ?_); first | refine Vc.regiont T0_ok GU5_ok ?_)); (try simp only [v8Y, Nat.beq, Nat.ble, seval, tabs, GU5_set, h1, h2', h3, h4, hev, q1, q2, tk1, tk2, t128, List.drop_zero, List.take_succ_cons, List.take_zero, Bool.and_false, Bool.false_and, Bool.and_true, Bool.true_and])) | ((with_reducible refine hN _ _ ?_); clear hN N))))
    (refine Vc.cond T0_ok (t := false) (by rfl) (fun h => Bool.noConfusion h) (fun _ => ?_))
    ((repeat (first | (with_reducible refine Vc.seq fun N hN => ?_) | ((first | with_reducible refine Vc.skip ?_); dsimp only [thenK, blockK, Nat.beq]; (first | (refine hN _ _ ?_; clear hN N))) | (with_reducible intro _) | ((with_reducible refine And.intro ?_ ?_); exact sX2) | ((first | ((with_reducible refine Vc.fin ?_); dsimp only [thenK, blockK, retK, resS, resOne, resAll]) | ((with_reducible refine Vc.hold ?_); first | refine Vc.regiont T0_ok GU5_ok ?_ | refine Vc.drawt (id := 4) T0_ok GU5_ok (by kernel_rfl) [0, 1] 2 [] trivial (by kernel_rfl) ?_)); (try simp only [v8Y, Nat.beq, Nat.ble, seval, tabs, GU5_set, h5, g6, t128, Bool.and_true, Bool.true_and])) | ((with_reducible refine hN _ _ ?_); clear hN N))); (try ((with_reducible refine Fin.of ?_); (try with_reducible exact True.intro))))
    exact ⟨trivial, trivial⟩
  · have hz : (b1 && b2 && (b3 && b4 && b5)) = false := by
      cases b1 <;> cases b2 <;> cases b3 <;> cases b4 <;> first | rfl | exact absurd ⟨rfl, rfl⟩ hb
    rw [hz]
    by_cases q1 : (b1 && b2) = true
    · have q2 : (b3 && b4) = false := by cases hq : (b3 && b4); · rfl
                                         · exact absurd ⟨q1, hq⟩ hb
      refine Vc.calls T0_ok Tryd.func39 rfl rfl (args := [.agg [.int .u8 e.op, .int .i64 e.dep, .int .u8 s0, .int .u8 s1, .int .u8 s2, .int .u8 s3, .int .u8 s4, .int .u8 s5, .int .u8 s6, .int .u8 s7, .int .u8 s8, .int .u8 s9, .int .u8 s10, .int .u8 s11, .int .u8 s12, .int .u8 s13, .int .u8 s14, .int .u8 s15, .int .u8 s16, .int .u8 s17, .int .u8 s18, .int .u8 s19, .int .u64 x0, .int .u64 x1, .int .u64 x2, .int .u64 x3, .int .u64 y0, .int .u64 y1, .int .u64 y2, .int .u64 y3, .gh pa pn pc (.ints .u8 e.bs), .int .u16 e.flt], .gp a1 (.cells [.gh fa 32 fc (.ints .u8 ys)]) 0 0 0, .gp a2 (.words [slot]) 0 0 0]) (k := 26) rfl (old_start w) ?_; change Vc _ _ (c8 (.agg [.int .u8 e.op, .int .i64 e.dep, .int .u8 s0, .int .u8 s1, .int .u8 s2, .int .u8 s3, .int .u8 s4, .int .u8 s5, .int .u8 s6, .int .u8 s7, .int .u8 s8, .int .u8 s9, .int .u8 s10, .int .u8 s11, .int .u8 s12, .int .u8 s13, .int .u8 s14, .int .u8 s15, .int .u8 s16, .int .u8 s17, .int .u8 s18, .int .u8 s19, .int .u64 x0, .int .u64 x1, .int .u64 x2, .int .u64 x3, .int .u64 y0, .int .u64 y1, .int .u64 y2, .int .u64 y3, .gh pa pn pc (.ints .u8 e.bs), .int .u16 e.flt]) (.gp a1 (.cells [.gh fa 32 fc (.ints .u8 ys)]) 0 0 0) (.gp a2 (.words [slot]) 0 0 0) .undef .undef .undef .undef .undef (c8 .undef .undef .undef .undef .undef .undef .undef .undef (c8 .undef .undef .undef .undef .undef .undef .undef .undef ([.undef, .undef, .undef, .undef, .undef])))) _ _
      ((repeat (first | (with_reducible refine Vc.seq fun N hN => ?_) | (with_reducible intro _) | ((with_reducible refine And.intro ?_ ?_); exact sX2) | ((first | ((with_reducible refine Vc.hold ?_); first | refine Vc.regiont T0_ok GU5_ok ?_)); (try simp only [v8Y, Nat.beq, Nat.ble, seval, tabs, GU5_set, h1, h2', h3, h4, hev, q1, q2, tk1, tk2, t128, List.drop_zero, List.take_succ_cons, List.take_zero, Bool.and_false, Bool.false_and, Bool.and_true, Bool.true_and])) | ((with_reducible refine hN _ _ ?_); clear hN N))))
      (refine Vc.cond T0_ok (t := true) (by rfl) (fun _ => ?_) (fun h => Bool.noConfusion h))
      ((repeat (first | (with_reducible refine Vc.seq fun N hN => ?_) | ((with_reducible refine And.intro ?_ ?_); exact sX2) | ((first | ((with_reducible refine Vc.fin ?_); dsimp only [thenK, blockK, retK, resS, resOne, resAll]) | ((with_reducible refine Vc.hold ?_); first | refine Vc.regiont T0_ok GU5_ok ?_)); (try simp only [v8Y, Nat.beq, Nat.ble, seval, tabs, GU5_set, ])) | ((with_reducible refine hN _ _ ?_); clear hN N))); (try ((with_reducible refine Fin.of ?_); (try with_reducible exact True.intro))))
      exact ⟨trivial, trivial⟩
    · have q1' : (b1 && b2) = false := by cases hq : (b1 && b2); · rfl
                                          · exact absurd hq q1
      refine Vc.calls T0_ok Tryd.func39 rfl rfl (args := [.agg [.int .u8 e.op, .int .i64 e.dep, .int .u8 s0, .int .u8 s1, .int .u8 s2, .int .u8 s3, .int .u8 s4, .int .u8 s5, .int .u8 s6, .int .u8 s7, .int .u8 s8, .int .u8 s9, .int .u8 s10, .int .u8 s11, .int .u8 s12, .int .u8 s13, .int .u8 s14, .int .u8 s15, .int .u8 s16, .int .u8 s17, .int .u8 s18, .int .u8 s19, .int .u64 x0, .int .u64 x1, .int .u64 x2, .int .u64 x3, .int .u64 y0, .int .u64 y1, .int .u64 y2, .int .u64 y3, .gh pa pn pc (.ints .u8 e.bs), .int .u16 e.flt], .gp a1 (.cells [.gh fa 32 fc (.ints .u8 ys)]) 0 0 0, .gp a2 (.words [slot]) 0 0 0]) (k := 26) rfl (old_start w) ?_; change Vc _ _ (c8 (.agg [.int .u8 e.op, .int .i64 e.dep, .int .u8 s0, .int .u8 s1, .int .u8 s2, .int .u8 s3, .int .u8 s4, .int .u8 s5, .int .u8 s6, .int .u8 s7, .int .u8 s8, .int .u8 s9, .int .u8 s10, .int .u8 s11, .int .u8 s12, .int .u8 s13, .int .u8 s14, .int .u8 s15, .int .u8 s16, .int .u8 s17, .int .u8 s18, .int .u8 s19, .int .u64 x0, .int .u64 x1, .int .u64 x2, .int .u64 x3, .int .u64 y0, .int .u64 y1, .int .u64 y2, .int .u64 y3, .gh pa pn pc (.ints .u8 e.bs), .int .u16 e.flt]) (.gp a1 (.cells [.gh fa 32 fc (.ints .u8 ys)]) 0 0 0) (.gp a2 (.words [slot]) 0 0 0) .undef .undef .undef .undef .undef (c8 .undef .undef .undef .undef .undef .undef .undef .undef (c8 .undef .undef .undef .undef .undef .undef .undef .undef ([.undef, .undef, .undef, .undef, .undef])))) _ _
      ((repeat (first | (with_reducible refine Vc.seq fun N hN => ?_) | (with_reducible intro _) | ((with_reducible refine And.intro ?_ ?_); exact sX2) | ((first | ((with_reducible refine Vc.hold ?_); first | refine Vc.regiont T0_ok GU5_ok ?_)); (try simp only [v8Y, Nat.beq, Nat.ble, seval, tabs, GU5_set, h1, h2', h3, h4, hev, q1', tk1, tk2, t128, List.drop_zero, List.take_succ_cons, List.take_zero, Bool.and_false, Bool.false_and, Bool.and_true, Bool.true_and])) | ((with_reducible refine hN _ _ ?_); clear hN N))))
      (refine Vc.cond T0_ok (t := true) (by rfl) (fun _ => ?_) (fun h => Bool.noConfusion h))
      ((repeat (first | (with_reducible refine Vc.seq fun N hN => ?_) | ((with_reducible refine And.intro ?_ ?_); exact sX2) | ((first | ((with_reducible refine Vc.fin ?_); dsimp only [thenK, blockK, retK, resS, resOne, resAll]) | ((with_reducible refine Vc.hold ?_); first | refine Vc.regiont T0_ok GU5_ok ?_)); (try simp only [v8Y, Nat.beq, Nat.ble, seval, tabs, GU5_set, ])) | ((with_reducible refine hN _ _ ?_); clear hN N))); (try ((with_reducible refine Fin.of ?_); (try with_reducible exact True.intro))))
      exact ⟨trivial, trivial⟩
structure BlgC (H : Nat → Obj → Prop) (fa a1 a2 : Option Addr) (fc : Nat) (ys : List Int) (slot : Nat) : Prop where
 len : ys.length = 32
 bytes : allB ys
 le : 32 ≤ fc
 adr : adr fa 32 fc
 lies : LiesH H fa (cc (.ints .u8 ys))
 one : LiesH H a1 (cc (.cells [.gh fa 32 fc (.ints .u8 ys)]))
 two : LiesH H a2 (cc (.words [slot]))
 lt : slot < W
theorem BlgC.mono {H H' : Nat → Obj → Prop} {fa a1 a2 : Option Addr} {fc : Nat} {ys : List Int} {slot : Nat} (h : BlgC H fa a1 a2 fc ys slot) (hH : ∀ b o, H b o → H' b o) : BlgC H' fa a1 a2 fc ys slot :=
 ⟨h.len, h.bytes, h.le, h.adr, h.lies.mono hH, h.one.mono hH, h.two.mono hH, h.lt⟩
noncomputable def g_blg1 (args : List SV) (m : List Blk) : CR :=
 match args with
 | [.agg r, .gp a1 (.cells [.gh fa 32 fc (.ints .u8 ys)]) 0 0 0, .gp a2 (.words [slot]) 0 0 0] => .pure ((∃ e, EvR (HM m) r e) ∧ BlgC (HM m) fa a1 a2 fc ys slot) (.bool (belongsD ys slot (evtOf r)))
 | _ => .none
theorem g_blg1_ok (w0 : World) (B : List Nat) (args : List SV) (m : List Blk) : CROk Tryd.prog w0 B 39 args m (g_blg1 args m) := by
 unfold g_blg1
 split
 ·rename_i r a1 fa fc ys a2 slot
  intro ⟨⟨e, hR⟩, hC⟩ w hm
  rw [evtOf_eq hR]
  have hC2 := hC.mono (fun b o h => hm.hm h)
  exact calls_pure Tryd.func39 rfl rfl (blg1_vc r e ys slot fa a1 a2 fc w (hR.mono fun b o h => hm.hm h) hC2.len hC2.bytes hC2.le hC2.adr hC2.lies hC2.one hC2.two hC2.lt)
 ·exact trivial
noncomputable def GU6 : Ctr := fun f args m => match f with
 | 52 => g_index args m
 | 35 => g_contains args m
 | 55 => g_byEqual args m
 | 27 => g_does args m
 | 40 => g_hasPre args m
 | 28 => g_called args m
 | 41 => g_Sub args m
 | 43 => g_From args m
 | 42 => g_Cmp args m
 | 36 => g_Wide args m
 | 37 => g_Bytes args m
 | 39 => g_blg1 args m
 | _ => .none
theorem GU6_ok : GOk Tryd.prog GU6 := by
 intro w0 B f args m; unfold GU6; split
 ·exact g_index_ok _ _ _ _
 ·exact g_contains_ok _ _ _ _
 ·exact g_byEqual_ok _ _ _ _
 ·exact g_does_ok _ _ _ _
 ·exact g_hasPre_ok _ _ _ _
 ·exact g_called_ok _ _ _ _
 ·exact g_Sub_ok _ _ _ _
 ·exact g_From_ok _ _ _ _
 ·exact g_Cmp_ok _ _ _ _
 ·exact g_Wide_ok _ _ _ _
 ·exact g_Bytes_ok _ _ _ _
 ·exact g_blg1_ok _ _ _ _
 ·exact trivial
theorem GU6_index : GU6 52 = g_index := by funext args m; rfl
theorem GU6_contains : GU6 35 = g_contains := by funext args m; rfl
theorem GU6_byEqual : GU6 55 = g_byEqual := by funext args m; rfl
theorem GU6_does : GU6 27 = g_does := by funext args m; rfl
theorem GU6_hasPre : GU6 40 = g_hasPre := by funext args m; rfl
theorem GU6_called : GU6 28 = g_called := by funext args m; rfl
theorem GU6_Sub : GU6 41 = g_Sub := by funext args m; rfl
theorem GU6_From : GU6 43 = g_From := by funext args m; rfl
theorem GU6_Cmp : GU6 42 = g_Cmp := by funext args m; rfl
theorem GU6_Wide : GU6 36 = g_Wide := by funext args m; rfl
theorem GU6_Bytes : GU6 37 = g_Bytes := by funext args m; rfl
theorem GU6_blg1 : GU6 39 = g_blg1 := by funext args m; rfl
def GU6_set := And.intro (And.intro (And.intro (And.intro (@GU6_index) (And.intro (@g_index.eq_def) (@GU6_contains))) (And.intro (@g_contains.eq_def) (And.intro (@GU6_byEqual) (@g_byEqual.eq_def)))) (And.intro (And.intro (@GU6_does) (And.intro (@g_does.eq_def) (@GU6_hasPre))) (And.intro (@g_hasPre.eq_def) (And.intro (@GU6_called) (@g_called.eq_def))))) (And.intro (And.intro (And.intro (@GU6_Sub) (And.intro (@g_Sub.eq_def) (@GU6_From))) (And.intro (@g_From.eq_def) (And.intro (@GU6_Cmp) (@g_Cmp.eq_def)))) (And.intro (And.intro (@GU6_Wide) (And.intro (@g_Wide.eq_def) (@GU6_Bytes))) (And.intro (@g_Bytes.eq_def) (And.intro (@GU6_blg1) (@g_blg1.eq_def)))))

set_option maxRecDepth 20000 in
theorem indexF_vc (la : Option Addr) (n c : Nat) (rs : List (List SV)) (l : List Evt) (ys : List Int) (slot : Nat) (fa a1 a2 : Option Addr) (fc : Nat) (w : World) (hE : EvL (H0 w) la n c rs l) (hM : n ≤ 1000000) (hC : BlgC (H0 w) fa a1 a2 fc ys slot) :
  Calls Tryd.prog 30 (cvs [.gh la n c (.rows 32 rs), .fn (.func 39) [] [.gp a1 (.cells [.gh fa 32 fc (.ints .u8 ys)]) 0 0 0, .gp a2 (.words [slot]) 0 0 0]]).toArray w (fun en w' => ∃ u, en = .returned u ∧ ∃ v' m', u = cv v' ∧ MemOk w [] m' w' ∧ v' = .int .i64 (idxB (belongsD ys slot) l 0)) := by
 obtain ⟨hl, hn, ha, hm, hL, r1, r2, r3⟩ := hE
 unfold maxLen at hm
 have hLx : ∀ m, allOld w ∈ m → LiesH (HM m) la (cc (.rows 32 rs)) := fun m hin => hL.mono (H0.hm hin)
 have hCx : ∀ m, allOld w ∈ m → BlgC (HM m) fa a1 a2 fc ys slot := fun m hin => hC.mono (H0.hm hin)
 refine Vc.calls T0_ok Tryd.func30 rfl rfl (args := [.gh la n c (.rows 32 rs), .fn (.func 39) [] [.gp a1 (.cells [.gh fa 32 fc (.ints .u8 ys)]) 0 0 0, .gp a2 (.words [slot]) 0 0 0]]) (k := 17) rfl (old_start w) ?_; change Vc _ _ (c8 (.gh la n c (.rows 32 rs)) (.fn (.func 39) [] [.gp a1 (.cells [.gh fa 32 fc (.ints .u8 ys)]) 0 0 0, .gp a2 (.words [slot]) 0 0 0]) .undef .undef .undef .undef .undef .undef (c8 .undef .undef .undef .undef .undef .undef .undef .undef ([.undef, .undef, .undef]))) _ _
 ((repeat (first | (with_reducible first | refine Vc.seq fun N hN => ?_ | refine Vc.block ?_) | ((with_reducible refine And.intro ?_ ?_); exact sX2) | ((first | ((with_reducible refine Vc.hold ?_); first | refine Vc.regiont T0_ok GU6_ok ?_)); (try simp only [v8Y, Nat.beq, Nat.ble, seval, tabs, GU6_set, ])) | ((with_reducible refine hN _ _ ?_); clear hN N))))
 (revert N; intro N1 hN1)
 refine Vc.loop 5 19 (fun (k : Nat) => [(6, .gh la n c (.rows 32 rs)), (7, .int .i64 (n : Nat)), (8, .int .i64 (k : Nat))]) (fun k => [allOld w]) (fun k => k ≤ n ∧ idxB (belongsD ys slot) (l.drop k) (k : Nat) = idxB (belongsD ys slot) l 0) (fun k => n - k) 0 ⟨⟨Nat.zero_le _, by rw [List.drop_zero]; rfl⟩, ?_, ?_⟩ (fun k junk hk => ?_)
 ·((try simp only [v8Y, Nat.beq, Nat.ble, seval, tabs]); (repeat' with_reducible apply And.intro) <;> first | with_reducible exact True.intro | rfl | with_reducible rfl | (congr 1 <;> omega) | trivial)
 ·((try simp only [v8Y, Nat.beq, Nat.ble, seval, tabs]); (repeat' with_reducible apply And.intro) <;> first | with_reducible exact True.intro | rfl | with_reducible rfl | (congr 1 <;> omega) | trivial)
 ·obtain ⟨k1, k2⟩ := hk
  (simp only [v8Y, Nat.beq, Nat.ble, seval, tabs])
  by_cases hc1 : k < n
  ·have d1 : decide ((k : Int) < (n : Int)) = true := decide_eq_true (by omega)
   have tk : ((k : Nat) : Int).toNat = k := by omega
   have e1 := List.getElem?_eq_getElem (show k < rs.length by omega)
   have e2 := List.getElem?_eq_getElem (show k < l.length by omega)
   have hp := r3 k _ _ e1 e2
   have hgd := getD_of e1
   have hev := evtOf_eq hp
   have hRx : ∀ m, allOld w ∈ m → EvR (HM m) rs[k] l[k] := fun m hin => hp.mono (H0.hm hin)
   rw [idxB_drop e2] at k2
   generalize rs[k] = r at *
   generalize l[k] = e at *
   obtain ⟨s0, s1, s2, s3, s4, s5, s6, s7, s8, s9, s10, s11, s12, s13, s14, s15, s16, s17, s18, s19, x0, x1, x2, x3, y0, y1, y2, y3, pa, pn, pc, rfl, g1, g2, g3, g4, g5, g6, g7, g8, g9, g10, g11, g12, g13, g14, g15, g16, g17⟩ := hp
   cases h1 : belongsD ys slot e
   ·rw [if_neg (by rw [h1]; exact Bool.false_ne_true)] at k2
    ((repeat (first | (with_reducible refine Vc.seq fun N hN => ?_) | ((with_reducible refine And.intro ?_ ?_); exact sX2) | ((first | ((with_reducible refine Vc.hold ?_); first | refine Vc.regiont T0_ok GU6_ok ?_)); (try simp only [v8Y, Nat.beq, Nat.ble, seval, tabs, GU6_set, d1])) | ((with_reducible refine hN _ _ ?_); clear hN N))))
    (refine Vc.cond T0_ok (t := true) (by rfl) (fun _ => ?_) (fun h => Bool.noConfusion h))
    ((repeat (first | (with_reducible first | refine Vc.seq fun N hN => ?_ | refine Vc.block ?_) | ((first | with_reducible refine Vc.skip ?_); dsimp only [thenK, blockK, Nat.beq]; (first | (refine hN _ _ ?_; clear hN N))) | ((with_reducible refine And.intro ?_ ?_); exact sX21) | ((first | ((with_reducible refine Vc.hold ?_); first | refine Vc.regiont T0_ok GU6_ok ?_)); (try simp only [v8Y, Nat.beq, Nat.ble, seval, tabs, GU6_set, tk, hgd, hev, h1])) | ((with_reducible refine hN _ _ ?_); clear hN N))))
    (refine Vc.cond T0_ok (t := false) (by rfl) (fun h => Bool.noConfusion h) (fun _ => ?_))
    ((repeat (first | (with_reducible refine Vc.seq fun N hN => ?_) | ((first | with_reducible refine Vc.skip ?_); dsimp only [thenK, blockK, Nat.beq]; (first | (refine hN _ _ ?_; clear hN N))) | ((with_reducible refine And.intro ?_ ?_); exact sX2) | ((first | ((with_reducible refine Vc.fin ?_); dsimp only [thenK, blockK, retK, resS, resOne, resAll]) | ((with_reducible refine Vc.hold ?_); first | refine Vc.regiont T0_ok GU6_ok ?_)); (try simp only [v8Y, Nat.beq, Nat.ble, seval, tabs, GU6_set, ])) | ((with_reducible refine hN _ _ ?_); clear hN N))); (try ((with_reducible refine Fin.of ?_); (try with_reducible exact True.intro))))
    refine ⟨k + 1, ⟨by omega, k2⟩, ?_, ?_, by omega⟩
    ·((try simp only [v8Y, Nat.beq, Nat.ble, seval, tabs]); (repeat' with_reducible apply And.intro) <;> first | with_reducible exact True.intro | rfl | (congr 1 <;> omega))
    ·((try simp only [v8Y, Nat.beq, Nat.ble, seval, tabs]); (repeat' with_reducible apply And.intro) <;> first | with_reducible exact True.intro | rfl | (congr 1 <;> omega))
   ·rw [if_pos h1] at k2
    ((repeat (first | (with_reducible refine Vc.seq fun N hN => ?_) | ((with_reducible refine And.intro ?_ ?_); exact sX2) | ((first | ((with_reducible refine Vc.hold ?_); first | refine Vc.regiont T0_ok GU6_ok ?_)); (try simp only [v8Y, Nat.beq, Nat.ble, seval, tabs, GU6_set, d1])) | ((with_reducible refine hN _ _ ?_); clear hN N))))
    (refine Vc.cond T0_ok (t := true) (by rfl) (fun _ => ?_) (fun h => Bool.noConfusion h))
    ((repeat (first | (with_reducible first | refine Vc.seq fun N hN => ?_ | refine Vc.block ?_) | ((first | with_reducible refine Vc.skip ?_); dsimp only [thenK, blockK, Nat.beq]; (first | (refine hN _ _ ?_; clear hN N))) | ((with_reducible refine And.intro ?_ ?_); exact sX21) | ((first | ((with_reducible refine Vc.hold ?_); first | refine Vc.regiont T0_ok GU6_ok ?_)); (try simp only [v8Y, Nat.beq, Nat.ble, seval, tabs, GU6_set, tk, hgd, hev, h1])) | ((with_reducible refine hN _ _ ?_); clear hN N))))
    (refine Vc.cond T0_ok (t := true) (by rfl) (fun _ => ?_) (fun h => Bool.noConfusion h))
    ((repeat (first | (with_reducible refine Vc.seq fun N hN => ?_) | ((first | with_reducible refine Vc.skip ?_); dsimp only [thenK, blockK, Nat.beq]; (first | (refine hN _ _ ?_; clear hN N))) | ((with_reducible refine And.intro ?_ ?_); exact sX2) | ((first | ((with_reducible refine Vc.fin ?_); dsimp only [thenK, blockK, retK, resS, resOne, resAll]) | ((with_reducible refine Vc.hold ?_); first | refine Vc.regiont T0_ok GU6_ok ?_)); (try simp only [v8Y, Nat.beq, Nat.ble, seval, tabs, GU6_set, ])) | ((with_reducible refine hN _ _ ?_); clear hN N))); (try ((with_reducible refine Fin.of ?_); (try with_reducible exact True.intro))))
    exact ⟨trivial, by rw [k2]⟩
  ·have d1 : decide ((k : Int) < (n : Int)) = false := decide_eq_false (by omega)
   obtain rfl : k = n := by omega
   rw [List.drop_eq_nil_of_le (by omega)] at k2
   simp only [idxB] at k2
   ((repeat (first | (with_reducible refine Vc.seq fun N hN => ?_) | ((with_reducible refine And.intro ?_ ?_); exact sX2) | ((first | ((with_reducible refine Vc.hold ?_); first | refine Vc.regiont T0_ok GU6_ok ?_)); (try simp only [v8Y, Nat.beq, Nat.ble, seval, tabs, GU6_set, d1])) | ((with_reducible refine hN _ _ ?_); clear hN N))))
   (refine Vc.cond T0_ok (t := false) (by rfl) (fun h => Bool.noConfusion h) (fun _ => ?_))
   ((repeat (first | (with_reducible refine Vc.seq fun N hN => ?_) | ((first | with_reducible refine Vc.exit ?_); dsimp only [thenK, blockK, Nat.beq]; (first | skip)) | ((with_reducible refine And.intro ?_ ?_); exact sX2) | ((first | ((with_reducible refine Vc.fin ?_); dsimp only [thenK, blockK, retK, resS, resOne, resAll]) | ((with_reducible refine Vc.hold ?_); first | refine Vc.regiont T0_ok GU6_ok ?_)); (try simp only [v8Y, Nat.beq, Nat.ble, seval, tabs, GU6_set])) | ((with_reducible refine hN _ _ ?_); clear hN N))); (try ((with_reducible refine Fin.of ?_); (try with_reducible exact True.intro))))
   (refine hN1 _ _ ?_; (try clear hN N); clear hN1 N1)
   ((repeat (first | (with_reducible refine Vc.seq fun N hN => ?_) | ((first | with_reducible refine Vc.exit ?_); dsimp only [thenK, blockK, Nat.beq]; (first | skip)) | ((with_reducible refine And.intro ?_ ?_); exact sX2) | ((first | ((with_reducible refine Vc.fin ?_); dsimp only [thenK, blockK, retK, resS, resOne, resAll]) | ((with_reducible refine Vc.hold ?_); first | refine Vc.regiont T0_ok GU6_ok ?_)); (try simp only [v8Y, Nat.beq, Nat.ble, seval, tabs, GU6_set])) | ((with_reducible refine hN _ _ ?_); clear hN N))); (try ((with_reducible refine Fin.of ?_); (try with_reducible exact True.intro))))
   exact ⟨trivial, by rw [← k2]⟩
noncomputable def g_indexF (args : List SV) (m : List Blk) : CR :=
 match args with
 | [.gh la n c (.rows 32 rs), .fn (.func 39) [] [.gp a1 (.cells [.gh fa 32 fc (.ints .u8 ys)]) 0 0 0, .gp a2 (.words [slot]) 0 0 0]] => .pure ((∃ l, EvL (HM m) la n c rs l) ∧ n ≤ 1000000 ∧ BlgC (HM m) fa a1 a2 fc ys slot) (.int .i64 (idxB (belongsD ys slot) (evOf rs) 0))
 | _ => .none
theorem g_indexF_ok (w0 : World) (B : List Nat) (args : List SV) (m : List Blk) : CROk Tryd.prog w0 B 30 args m (g_indexF args m) := by
 unfold g_indexF
 split
 ·rename_i la n c rs a1 fa fc ys a2 slot
  intro ⟨⟨l, hE⟩, hM, hC⟩ w hm
  rw [evOf_eq hE.rows]
  exact calls_pure Tryd.func30 rfl rfl (indexF_vc la n c rs l ys slot fa a1 a2 fc w (hE.mono fun b o h => hm.hm h) hM (hC.mono fun b o h => hm.hm h))
 ·exact trivial
noncomputable def GU7 : Ctr := fun f args m => match f with
 | 52 => g_index args m
 | 35 => g_contains args m
 | 55 => g_byEqual args m
 | 27 => g_does args m
 | 40 => g_hasPre args m
 | 28 => g_called args m
 | 41 => g_Sub args m
 | 43 => g_From args m
 | 42 => g_Cmp args m
 | 36 => g_Wide args m
 | 37 => g_Bytes args m
 | 39 => g_blg1 args m
 | 30 => g_indexF args m
 | _ => .none
theorem GU7_ok : GOk Tryd.prog GU7 := by
 intro w0 B f args m; unfold GU7; split
 ·exact g_index_ok _ _ _ _
 ·exact g_contains_ok _ _ _ _
 ·exact g_byEqual_ok _ _ _ _
 ·exact g_does_ok _ _ _ _
 ·exact g_hasPre_ok _ _ _ _
 ·exact g_called_ok _ _ _ _
 ·exact g_Sub_ok _ _ _ _
 ·exact g_From_ok _ _ _ _
 ·exact g_Cmp_ok _ _ _ _
 ·exact g_Wide_ok _ _ _ _
 ·exact g_Bytes_ok _ _ _ _
 ·exact g_blg1_ok _ _ _ _
 ·exact g_indexF_ok _ _ _ _
 ·exact trivial
theorem GU7_index : GU7 52 = g_index := by funext args m; rfl
theorem GU7_contains : GU7 35 = g_contains := by funext args m; rfl
theorem GU7_byEqual : GU7 55 = g_byEqual := by funext args m; rfl
theorem GU7_does : GU7 27 = g_does := by funext args m; rfl
theorem GU7_hasPre : GU7 40 = g_hasPre := by funext args m; rfl
theorem GU7_called : GU7 28 = g_called := by funext args m; rfl
theorem GU7_Sub : GU7 41 = g_Sub := by funext args m; rfl
theorem GU7_From : GU7 43 = g_From := by funext args m; rfl
theorem GU7_Cmp : GU7 42 = g_Cmp := by funext args m; rfl
theorem GU7_Wide : GU7 36 = g_Wide := by funext args m; rfl
theorem GU7_Bytes : GU7 37 = g_Bytes := by funext args m; rfl
theorem GU7_blg1 : GU7 39 = g_blg1 := by funext args m; rfl
theorem GU7_indexF : GU7 30 = g_indexF := by funext args m; rfl
def GU7_set := And.intro (And.intro (And.intro (And.intro (@GU7_index) (And.intro (@g_index.eq_def) (@GU7_contains))) (And.intro (@g_contains.eq_def) (And.intro (@GU7_byEqual) (@g_byEqual.eq_def)))) (And.intro (And.intro (@GU7_does) (And.intro (@g_does.eq_def) (@GU7_hasPre))) (And.intro (And.intro (@g_hasPre.eq_def) (@GU7_called)) (And.intro (@g_called.eq_def) (@GU7_Sub))))) (And.intro (And.intro (And.intro (@g_Sub.eq_def) (And.intro (@GU7_From) (@g_From.eq_def))) (And.intro (@GU7_Cmp) (And.intro (@g_Cmp.eq_def) (@GU7_Wide)))) (And.intro (And.intro (@g_Wide.eq_def) (And.intro (@GU7_Bytes) (@g_Bytes.eq_def))) (And.intro (And.intro (@GU7_blg1) (@g_blg1.eq_def)) (And.intro (@GU7_indexF) (@g_indexF.eq_def)))))

set_option maxRecDepth 20000 in
theorem contF_vc (la : Option Addr) (n c : Nat) (rs : List (List SV)) (l : List Evt) (ys : List Int) (slot : Nat) (fa a1 a2 : Option Addr) (fc : Nat) (w : World) (hE : EvL (H0 w) la n c rs l) (hM : n ≤ 1000000) (hC : BlgC (H0 w) fa a1 a2 fc ys slot) :
  Calls Tryd.prog 38 (cvs [.gh la n c (.rows 32 rs), .fn (.func 39) [] [.gp a1 (.cells [.gh fa 32 fc (.ints .u8 ys)]) 0 0 0, .gp a2 (.words [slot]) 0 0 0]]).toArray w (fun en w' => ∃ u, en = .returned u ∧ ∃ v' m', u = cv v' ∧ MemOk w [] m' w' ∧ v' = .bool (l.any (belongsD ys slot))) := by
 have hEx : ∀ m, allOld w ∈ m → EvL (HM m) la n c rs l := fun m hin => hE.mono (H0.hm hin)
 have hCx : ∀ m, allOld w ∈ m → BlgC (HM m) fa a1 a2 fc ys slot := fun m hin => hC.mono (H0.hm hin)
 have hev := evOf_eq hE.rows
 have e1 := idxB_any (belongsD ys slot) l 0 (Int.le_refl _)
 refine Vc.calls T0_ok Tryd.func38 rfl rfl (args := [.gh la n c (.rows 32 rs), .fn (.func 39) [] [.gp a1 (.cells [.gh fa 32 fc (.ints .u8 ys)]) 0 0 0, .gp a2 (.words [slot]) 0 0 0]]) (k := 7) rfl (old_start w) ?_; change Vc _ _ (c8 (.gh la n c (.rows 32 rs)) (.fn (.func 39) [] [.gp a1 (.cells [.gh fa 32 fc (.ints .u8 ys)]) 0 0 0, .gp a2 (.words [slot]) 0 0 0]) .undef .undef .undef .undef .undef .undef ([.undef])) _ _
 ((repeat (first | (with_reducible refine Vc.seq fun N hN => ?_) | ((with_reducible refine And.intro ?_ ?_); (focus (first | ((repeat' with_reducible apply And.intro) <;> first | exact sideQ | (exact ⟨_, hEx _ (by simp)⟩) | (exact hCx _ (by simp))) | exact sd0))) | ((first | ((with_reducible refine Vc.fin ?_); dsimp only [thenK, blockK, retK, resS, resOne, resAll]) | ((with_reducible refine Vc.hold ?_); first | refine Vc.regiont T0_ok GU7_ok ?_)); (try simp only [v8Y, Nat.beq, Nat.ble, seval, tabs, GU7_set, hev, e1])) | ((with_reducible refine hN _ _ ?_); clear hN N))); (try ((with_reducible refine Fin.of ?_); (try with_reducible exact True.intro))))
 exact ⟨trivial, trivial⟩
noncomputable def g_contF (args : List SV) (m : List Blk) : CR :=
 match args with
 | [.gh la n c (.rows 32 rs), .fn (.func 39) [] [.ptr n1 b1 0 0 0 0, .ptr n2 b2 0 0 0 0]] => match bget m n1, bget m n2 with
  | .blk c1 _ (.cells [x]), .blk c2 _ (.words [slot]) => match srcC x m with
   | some (q, k, .ints .u8 ys) => .pure (q ∧ c1 = b1 ∧ c2 = b2 ∧ k = 32 ∧ allB ys ∧ slot < W ∧ (∃ l, EvL (HM m) la n c rs l) ∧ n ≤ 1000000) (.bool ((evOf rs).any (belongsD ys slot)))
   | _ => .none
  | _, _ => .none
 | _ => .none
theorem g_contF_ok (w0 : World) (B : List Nat) (args : List SV) (m : List Blk) : CROk Tryd.prog w0 B 38 args m (g_contF args m) := by
 unfold g_contF
 split
 ·rename_i la n c rs n1 b1 n2 b2
  split
  ·rename_i c1 t1 x c2 t2 slot h1 h2
   split
   ·rename_i q k ys hs
    intro ⟨hq, e1, e2, e3, e4, e5, ⟨l, hE⟩, hM⟩ w hm
    subst e1 e2 e3
    obtain ⟨l1, a, cp, ex, b1, m1, d1⟩ := src_ro hs hq hm
    have k1 := (hm.each _ (bget_mem h1 (by simp))).1
    have k2 := (hm.each _ (bget_mem h2 (by simp))).1
    have hyl : ys.length = 32 := by simpa [cc, conEs] using l1
    have ex2 : cv x = .slice a 32 cp := by rw [ex]; cases a <;> simp [cv, addr_add, conEs, Addr.add]
    have hcx : cc (.cells [x]) = cc (.cells [.gh a 32 cp (.ints .u8 ys)]) := by simp only [cc, cvs]; rw [ex2]; rfl
    rw [hcx] at k1
    have hC : BlgC (H0 w) a (some ⟨c1, 0, none⟩) (some ⟨c2, 0, none⟩) cp ys slot := by
     refine ⟨hyl, e4, b1, d1, lies_of_ro m1, .inr ⟨c1, 0, _, _, _, rfl, k1, fun j u hj => ?_⟩, .inr ⟨c2, 0, _, _, _, rfl, k2, fun j u hj => ?_⟩, e5⟩
     ·rw [Nat.zero_add, List.getElem?_toArray, ← hj]
     ·rw [Nat.zero_add, List.getElem?_toArray, ← hj]
    rw [evOf_eq hE.rows]
    have e : cvs [.gh la n c (.rows 32 rs), .fn (.func 39) [] [.ptr n1 c1 0 0 0 0, .ptr n2 c2 0 0 0 0]] = cvs [.gh la n c (.rows 32 rs), .fn (.func 39) [] [.gp (some ⟨c1, 0, none⟩) (.cells [.gh a 32 cp (.ints .u8 ys)]) 0 0 0, .gp (some ⟨c2, 0, none⟩) (.words [slot]) 0 0 0]] := rfl
    rw [e]
    exact calls_pure Tryd.func38 rfl rfl (contF_vc la n c rs l ys slot a _ _ cp w (hE.mono fun b o h => hm.hm h) hM hC)
   ·exact trivial
  ·exact trivial
 ·exact trivial
noncomputable def GU8 : Ctr := fun f args m => match f with
 | 52 => g_index args m
 | 35 => g_contains args m
 | 55 => g_byEqual args m
 | 27 => g_does args m
 | 40 => g_hasPre args m
 | 28 => g_called args m
 | 41 => g_Sub args m
 | 43 => g_From args m
 | 42 => g_Cmp args m
 | 36 => g_Wide args m
 | 37 => g_Bytes args m
 | 38 => g_contF args m
 | _ => .none
theorem GU8_ok : GOk Tryd.prog GU8 := by
 intro w0 B f args m; unfold GU8; split
 ·exact g_index_ok _ _ _ _
 ·exact g_contains_ok _ _ _ _
 ·exact g_byEqual_ok _ _ _ _
 ·exact g_does_ok _ _ _ _
 ·exact g_hasPre_ok _ _ _ _
 ·exact g_called_ok _ _ _ _
 ·exact g_Sub_ok _ _ _ _
 ·exact g_From_ok _ _ _ _
 ·exact g_Cmp_ok _ _ _ _
 ·exact g_Wide_ok _ _ _ _
 ·exact g_Bytes_ok _ _ _ _
 ·exact g_contF_ok _ _ _ _
 ·exact trivial
theorem GU8_index : GU8 52 = g_index := by funext args m; rfl
theorem GU8_contains : GU8 35 = g_contains := by funext args m; rfl
theorem GU8_byEqual : GU8 55 = g_byEqual := by funext args m; rfl
theorem GU8_does : GU8 27 = g_does := by funext args m; rfl
theorem GU8_hasPre : GU8 40 = g_hasPre := by funext args m; rfl
theorem GU8_called : GU8 28 = g_called := by funext args m; rfl
theorem GU8_Sub : GU8 41 = g_Sub := by funext args m; rfl
theorem GU8_From : GU8 43 = g_From := by funext args m; rfl
theorem GU8_Cmp : GU8 42 = g_Cmp := by funext args m; rfl
theorem GU8_Wide : GU8 36 = g_Wide := by funext args m; rfl
theorem GU8_Bytes : GU8 37 = g_Bytes := by funext args m; rfl
theorem GU8_contF : GU8 38 = g_contF := by funext args m; rfl
def GU8_set := And.intro (And.intro (And.intro (And.intro (@GU8_index) (And.intro (@g_index.eq_def) (@GU8_contains))) (And.intro (@g_contains.eq_def) (And.intro (@GU8_byEqual) (@g_byEqual.eq_def)))) (And.intro (And.intro (@GU8_does) (And.intro (@g_does.eq_def) (@GU8_hasPre))) (And.intro (@g_hasPre.eq_def) (And.intro (@GU8_called) (@g_called.eq_def))))) (And.intro (And.intro (And.intro (@GU8_Sub) (And.intro (@g_Sub.eq_def) (@GU8_From))) (And.intro (@g_From.eq_def) (And.intro (@GU8_Cmp) (@g_Cmp.eq_def)))) (And.intro (And.intro (@GU8_Wide) (And.intro (@g_Wide.eq_def) (@GU8_Bytes))) (And.intro (@g_Bytes.eq_def) (And.intro (@GU8_contF) (@g_contF.eq_def)))))

set_option maxRecDepth 20000 in
theorem tBelongs_vc (la : Option Addr) (n c : Nat) (rs : List (List SV)) (l : List Evt) (a : List Int) (slot : Nat) (hla : a.length = 20) (hab : allB a) (hsl : slot < W) (w : World) (hE : EvL (H0 w) la n c rs l) (hM : n ≤ 1000000) :
  Calls Tryd.prog 33 (cvs [.gh la n c (.rows 32 rs), .ints .u8 a, .word slot]).toArray w (fun en w' => ∃ u, en = .returned u ∧ ∃ v' m', u = cv v' ∧ MemOk w [] m' w' ∧ v' = .bool (belongs l a slot)) := by
 have hEx : ∀ m, allOld w ∈ m → EvL (HM m) la n c rs l := fun m hin => hE.mono (H0.hm hin)
 have hev := evOf_eq hE.rows
 have hrW : rdI a < W := rdI_W hab (by omega)
 have hbl := bytI_len (rdI a) 32
 have hba := bytI_all (rdI a) 32
 have tk : (bytI (rdI a) 32).take 32 = bytI (rdI a) 32 := List.take_of_length_le (by omega)
 have hany : l.any (belongsD (bytI (rdI a) 32) slot) = l.any (belongsE a slot) := by
  rw [Bool.eq_iff_iff, List.any_eq_true, List.any_eq_true]
  have hq : ∀ e ∈ l, belongsD (bytI (rdI a) 32) slot e = belongsE a slot e := fun e he => by
   obtain ⟨i, hi, rfl⟩ := List.mem_iff_getElem.1 he
   have hi2 : i < rs.length := by have := hE.rows.1; omega
   have hr := hE.rows.2.2 i _ _ (List.getElem?_eq_getElem hi2) (List.getElem?_eq_getElem hi)
   generalize rs[i] = r at hr
   generalize l[i] = e at hr ⊢
   obtain ⟨s0, s1, s2, s3, s4, s5, s6, s7, s8, s9, s10, s11, s12, s13, s14, s15, s16, s17, s18, s19, x0, x1, x2, x3, y0, y1, y2, y3, pa, pn, pc, rfl, g1, g2, g3, g4, g5, g6, g7, g8, g9, g10, g11, g12, g13, g14, g15, g16, g17⟩ := hr
   exact belongs_eq g11 hab hla
  exact ⟨fun ⟨e, he, h⟩ => ⟨e, he, by rw [← hq e he]; exact h⟩, fun ⟨e, he, h⟩ => ⟨e, he, by rw [hq e he]; exact h⟩⟩
 generalize h0 : eqW slot (rdI a) = c0
 refine Vc.calls T0_ok Tryd.func33 rfl rfl (args := [.gh la n c (.rows 32 rs), .ints .u8 a, .word slot]) (k := 16) rfl (old_start w) ?_; change Vc _ _ (c8 (.gh la n c (.rows 32 rs)) (.ints .u8 a) (.word slot) .undef .undef .undef .undef .undef (c8 .undef .undef .undef .undef .undef .undef .undef .undef ([.undef, .undef, .undef]))) _ _
 ((repeat (first | (with_reducible refine Vc.seq fun N hN => ?_) | (with_reducible intro _) | ((with_reducible refine And.intro ?_ ?_); exact sX2) | ((first | ((with_reducible refine Vc.hold ?_); first | refine Vc.regiont T0_ok GU8_ok ?_)); (try simp only [v8Y, Nat.beq, Nat.ble, seval, tabs, GU8_set, h0])) | ((with_reducible refine hN _ _ ?_); clear hN N))))
 cases c0
 case true =>
  (refine Vc.cond T0_ok (t := true) (by rfl) (fun _ => ?_) (fun h => Bool.noConfusion h))
  ((repeat (first | (with_reducible refine Vc.seq fun N hN => ?_) | ((with_reducible refine And.intro ?_ ?_); exact sX2) | ((first | ((with_reducible refine Vc.fin ?_); dsimp only [thenK, blockK, retK, resS, resOne, resAll]) | ((with_reducible refine Vc.hold ?_); first | refine Vc.regiont T0_ok GU8_ok ?_)); (try simp only [v8Y, Nat.beq, Nat.ble, seval, tabs, GU8_set, h0])) | ((with_reducible refine hN _ _ ?_); clear hN N))); (try ((with_reducible refine Fin.of ?_); (try with_reducible exact True.intro))))
  exact ⟨trivial, by unfold belongs; rw [h0]; rfl⟩
 have hbel : belongs l a slot = l.any (belongsE a slot) := by unfold belongs; rw [h0]; rfl
 (refine Vc.cond T0_ok (t := false) (by rfl) (fun h => Bool.noConfusion h) (fun _ => ?_))
 ((repeat (first | (with_reducible refine Vc.seq fun N hN => ?_) | ((first | with_reducible refine Vc.skip ?_); dsimp only [thenK, blockK, Nat.beq]; (first | (refine hN _ _ ?_; clear hN N))) | (with_reducible intro _) | ((with_reducible refine And.intro ?_ ?_); exact sX2) | ((first | ((with_reducible refine Vc.fin ?_); dsimp only [thenK, blockK, retK, resS, resOne, resAll]) | ((with_reducible refine Vc.hold ?_); first | refine Vc.regiont T0_ok GU8_ok ?_)); (try simp only [v8Y, Nat.beq, Nat.ble, seval, tabs, GU8_set, List.drop_zero, tk, hev, hany, hbel])) | ((with_reducible refine hN _ _ ?_); clear hN N))); (try ((with_reducible refine Fin.of ?_); (try with_reducible exact True.intro))))
 exact ⟨trivial, trivial⟩
noncomputable def g_tBelongs (args : List SV) (m : List Blk) : CR :=
 match args with
 | [.gh la n c (.rows 32 rs), .ints .u8 a, .word slot] => .pure ((∃ l, EvL (HM m) la n c rs l) ∧ n ≤ 1000000 ∧ a.length = 20 ∧ allB a ∧ slot < W) (.bool (belongs (evOf rs) a slot))
 | _ => .none
theorem g_tBelongs_ok (w0 : World) (B : List Nat) (args : List SV) (m : List Blk) : CROk Tryd.prog w0 B 33 args m (g_tBelongs args m) := by
 unfold g_tBelongs
 split
 ·rename_i la n c rs a slot
  intro ⟨⟨l, hE⟩, h1, h2, h3, h4⟩ w hm
  rw [evOf_eq hE.rows]
  exact calls_pure Tryd.func33 rfl rfl (tBelongs_vc la n c rs l a slot h2 h3 h4 w (hE.mono fun b o h => hm.hm h) h1)
 ·exact trivial
end Go.Proofs.YtoadeekdgikghaaDoor

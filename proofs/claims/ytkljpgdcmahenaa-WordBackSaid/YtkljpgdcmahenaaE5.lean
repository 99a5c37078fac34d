/-
  A symbolic walk of my own: the step of an operation that leaves the world alone, and that it is right.
-/
import Derived.Test.YtkljpgdcmahenaaE4
namespace Go.Proofs.Ytkljpgdcmahenaa
set_option linter.unusedSimpArgs false
set_option linter.unusedVariables false
open Go.RowKit

/-! ### Arrays of numbers compared -/
section
variable {P : Program}
theorem e_part {k : IntKind} {e : TypeId} (he : P.underlying e = some (.int k)) (w : World) (xs : List Int) (i : Nat) (h : i < xs.length) :
    (part e (xs.map (Value.int k)).toArray i).run P w = .ok (.int k xs[i]) w := by
  have ha : (isAgg e).run P w = .ok false w := by unfold isAgg; simp [run_underlying he, go_sem]
  unfold part
  simp [ha, go_sem, h]
theorem e_loop {k : IntKind} {e : TypeId} (he : P.underlying e = some (.int k)) (d : Nat) (w : World) (xs ys : List Int) :
    ∀ (n i : Nat), i + n ≤ xs.length → i + n ≤ ys.length →
    Sem.run P (forIn (List.range' i n) ((none : Option Bool), ()) fun i __s => do
        if !(← Op.equalIn (d + 1) e (← part e (xs.map (Value.int k)).toArray i) (← part e (ys.map (Value.int k)).toArray i)) then pure (ForInStep.done (some false, ())) else pure (ForInStep.yield (none, ()))) w =
      .ok (if (xs.drop i).take n == (ys.drop i).take n then (none, ()) else (some false, ())) w := by
  intro n
  induction n with
  | zero => intro i _ _; simp [go_sem]
  | succ n ih =>
    intro i hx hy
    have hx' : i < xs.length := by omega
    have hy' : i < ys.length := by omega
    rw [List.range'_succ, List.forIn_cons, List.drop_eq_getElem_cons hx', List.drop_eq_getElem_cons hy', List.take_succ_cons, List.take_succ_cons]
    simp only [Sem.run_bind, e_part he w xs i hx', e_part he w ys i hy', Result.andThen_ok, run_equalIn_int w d e k k _ _ he]
    by_cases hq : xs[i] = ys[i]
    · simp only [hq, beq_self_eq_true, Bool.not_true, Bool.false_eq_true, if_false, Sem.run_pure, Result.andThen_ok]
      rw [ih (i + 1) (by omega) (by omega)]
      simp
    · have hb : (xs[i] == ys[i]) = false := by simpa using hq
      simp [hb, go_sem]
theorem e_eqArr {k : IntKind} {t e : TypeId} (n : Nat) (ht : P.underlying t = some (.array n e)) (he : P.underlying e = some (.int k)) (hs : ∀ w, (sizeOf e).run P w = .ok 1 w)
    (w : World) (xs ys : List Int) (hx : xs.length = n) (hy : ys.length = n) :
    (Op.equal t (.agg (xs.map (Value.int k)).toArray) (.agg (ys.map (Value.int k)).toArray)).run P w = .ok (xs == ys) w := by
  unfold Op.equal
  rw [show Op.maxDepth = 9998 + 1 + 1 from rfl, Op.equalIn]
  simp only [Sem.run_bind, run_underlying ht, Result.andThen_ok, hs, Nat.mul_one]
  simp only [Std.Legacy.Range.forIn_eq_forIn_range', Std.Legacy.Range.size]
  rw [show (n - 0 + 1 - 1) / 1 = n by simp, e_loop he 9998 w xs ys n 0 (by omega) (by omega)]
  have e1 : List.take n (List.drop 0 xs) = xs := by rw [List.drop_zero, ← hx, List.take_length]
  have e2 : List.take n (List.drop 0 ys) = ys := by rw [List.drop_zero, ← hy, List.take_length]
  rw [e1, e2]
  cases hq : xs == ys <;> simp [go_sem]
theorem wcs_ints (a : Nat) : wcs a = [((lm a 0 : Nat) : Int), (lm a 1 : Nat), (lm a 2 : Nat), (lm a 3 : Nat)].map (Value.int .u64) := rfl
theorem wcs_beq (a b : Nat) : ([((lm a 0 : Nat) : Int), (lm a 1 : Nat), (lm a 2 : Nat), (lm a 3 : Nat)] == [((lm b 0 : Nat) : Int), (lm b 1 : Nat), (lm b 2 : Nat), (lm b 3 : Nat)]) = decide (a % W = b % W) := by
  rw [Bool.eq_iff_iff, beq_iff_eq, decide_eq_true_iff]
  constructor
  · intro h
    simp only [List.cons.injEq, and_true] at h
    obtain ⟨h0, h1, h2, h3⟩ := h
    refine eq_of_lm (Nat.mod_lt _ (by decide)) (Nat.mod_lt _ (by decide)) ?_ ?_ ?_ ?_ <;> rw [lm_mod _ _ (by decide), lm_mod _ _ (by decide)] <;> omega
  · intro h
    rw [WV_ext h 0 (by decide), WV_ext h 1 (by decide), WV_ext h 2 (by decide), WV_ext h 3 (by decide)]
end

/-- What two operands come to, by their type. -/
def binT (op : BinOp) (y : Ty) (a b : SV) : Option (Prop × SV) :=
  match a, b with
  | .int k x, .int k' z => bin op (.int k x) (.int k' z)
  | .word x, .word z => match y with | .word => bin op (.word x) (.word z) | _ => none
  | .bool x, .bool z => match y with | .bool => bin op (.bool x) (.bool z) | _ => none
  | .str x, .str z => match y with | .str => bin op (.str x) (.str z) | _ => none
  | .ints k xs, .ints k' zs => match y with
    | .arr n _ 1 (some k'') => match sameK k k'' with | true => addp (xs.length = n) (bin op (.ints k xs) (.ints k' zs)) | false => none
    | _ => none
  | _, _ => none
theorem bin_run {P : Program} {t : TypeId} {y : Ty} (hy : TyOk1 P t y) {op : BinOp} {ox oy : Operand} {a b : SV} {p : Prop} {v : SV} (h : binT op y a b = some (p, v)) (hp : p) (w : World) :
    (do eqGuard op t ox oy (cv a) (cv b); binOp op t (cv a) (cv b) : Sem Value).run P w = .ok (cv v) w := by
  unfold binT at h
  split at h
  · rename_i k x k' z
    simp only [cv, eqGuard_at_int, Sem.run_bind, Sem.run_pure, Result.andThen_ok]
    simp only [bin] at h
    have sh : ∀ (o : BinOp) (p : Prop) (v : SV), shiftS o k x z = some (p, v) → p → (Op.shift o k x k' z).run P w = .ok (cv v) w := by
      intro o p v hh hp
      unfold shiftS at hh
      split at hh
      · simp only [Option.some.injEq, Prod.mk.injEq] at hh
        obtain ⟨rfl, rfl⟩ := hh
        rw [shift_shl_any _ _ _ _ hp]; rfl
      · simp only [Option.some.injEq, Prod.mk.injEq] at hh
        obtain ⟨rfl, rfl⟩ := hh
        unfold Op.shift
        rw [if_neg (by omega)]
        simp only [Sem.run_pure, cv]
        rw [Int.fdiv_eq_ediv_of_nonneg _ (Int.le_of_lt (Int.pow_pos (by decide)))]
      · exact none_of hh
    split at h
    · exact sh _ _ _ h hp
    · exact sh _ _ _ h hp
    · rename_i n1 n2
      split at h
      · rename_i hk
        have hk' := sameK_eq hk
        subst hk'
        have hq : ∀ (a b : Int) (k : IntKind), 0 ≤ a ∧ 0 < b ∧ inK k a → k.wrap (a.tdiv b) = a / b := by
          intro a b k ⟨h0, h1, h2⟩
          rw [Int.tdiv_eq_ediv_of_nonneg h0]
          apply wrap_inK
          have d0 : 0 ≤ a / b := Int.ediv_nonneg h0 (by omega)
          have d1 : a / b ≤ a := Int.ediv_le_self _ h0
          generalize a / b = q at *
          cases k <;> simp only [inK] at h2 ⊢ <;> omega
        unfold arith at h
        split at h
        · split at h <;> (simp only [Option.some.injEq, Prod.mk.injEq] at h; obtain ⟨rfl, rfl⟩ := h; simp only [binOp_add, Op.intArith, Sem.run_pure, cv])
          rw [wrap_inK hp]
        · split at h <;> (simp only [Option.some.injEq, Prod.mk.injEq] at h; obtain ⟨rfl, rfl⟩ := h; simp only [binOp_sub, Op.intArith, Sem.run_pure, cv])
          rw [wrap_inK hp]
        · split at h <;> (simp only [Option.some.injEq, Prod.mk.injEq] at h; obtain ⟨rfl, rfl⟩ := h; simp only [binOp_mul, Op.intArith, Sem.run_pure, cv])
          rw [wrap_inK hp]
        · simp only [Option.some.injEq, Prod.mk.injEq] at h; obtain ⟨rfl, rfl⟩ := h
          simp only [binOp_quo, Op.intDiv]
          rw [if_neg (by omega)]
          simp only [Sem.run_pure, cv, hq _ _ _ hp]
        · simp only [Option.some.injEq, Prod.mk.injEq] at h; obtain ⟨rfl, rfl⟩ := h
          simp only [binOp_rem, Op.intDiv]
          rw [if_neg (by omega)]
          simp only [Sem.run_pure, cv, Int.tmod_eq_emod_of_nonneg hp.1]
        · simp only [Option.some.injEq, Prod.mk.injEq] at h; obtain ⟨rfl, rfl⟩ := h
          simp only [binOp_and, intBits_and, Sem.run_pure, cv]
        · simp only [Option.some.injEq, Prod.mk.injEq] at h; obtain ⟨rfl, rfl⟩ := h
          simp only [binOp_or, intBits_or, Sem.run_pure, cv]
        · simp only [Option.some.injEq, Prod.mk.injEq] at h; obtain ⟨rfl, rfl⟩ := h
          simp only [binOp_xor, intBits_xor, Sem.run_pure, cv]
        · simp only [Option.some.injEq, Prod.mk.injEq] at h; obtain ⟨rfl, rfl⟩ := h
          simp only [binOp_andNot, intBits_andNot, Sem.run_pure, cv]
        · simp only [Option.some.injEq, Prod.mk.injEq] at h; obtain ⟨rfl, rfl⟩ := h
          simp only [binOp_eql, Sem.run_pure, cv]; rfl
        · simp only [Option.some.injEq, Prod.mk.injEq] at h; obtain ⟨rfl, rfl⟩ := h
          simp only [binOp_neq, Sem.run_pure, cv]; rfl
        · simp only [Option.some.injEq, Prod.mk.injEq] at h; obtain ⟨rfl, rfl⟩ := h
          simp only [binOp_lss, Sem.run_pure, cv]
        · simp only [Option.some.injEq, Prod.mk.injEq] at h; obtain ⟨rfl, rfl⟩ := h
          simp only [binOp_leq, Sem.run_pure, cv]
        · simp only [Option.some.injEq, Prod.mk.injEq] at h; obtain ⟨rfl, rfl⟩ := h
          simp only [binOp_gtr, Sem.run_pure, cv]
        · simp only [Option.some.injEq, Prod.mk.injEq] at h; obtain ⟨rfl, rfl⟩ := h
          simp only [binOp_geq, Sem.run_pure, cv]
        · exact none_of h
      · exact none_of h
  · rename_i x z
    split at h
    · obtain ⟨u, h1, h2, h3, h4, h5⟩ := hy
      have hg : ∀ o, (eqGuard o t ox oy (.agg (wcs x).toArray) (.agg (wcs z).toArray)).run P w = .ok () w := by
        intro o; cases o <;> simp [eqGuard, h5]
      have he : (Op.equal t (.agg (wcs x).toArray) (.agg (wcs z).toArray)).run P w = .ok (eqW x z) w := by
        rw [wcs_ints, wcs_ints, e_eqArr 4 h1 h2 h3.run w _ _ rfl rfl, wcs_beq]; rfl
      simp only [bin] at h
      split at h <;> first | exact none_of h | skip
      all_goals
        simp only [Option.some.injEq, Prod.mk.injEq] at h; obtain ⟨rfl, rfl⟩ := h
        simp only [cv, Sem.run_bind, hg, Result.andThen_ok]
        simp [binOp, he]
    · exact none_of h
  · rename_i x z
    split at h
    · have he : (Op.equal t (.bool x) (.bool z)).run P w = .ok (x == z) w := by
        unfold Op.equal
        rw [show Op.maxDepth = 9998 + 1 + 1 from rfl, Op.equalIn]
        simp [run_underlying hy]
      simp only [bin] at h
      split at h <;> first | exact none_of h | skip
      all_goals
        simp only [Option.some.injEq, Prod.mk.injEq] at h; obtain ⟨rfl, rfl⟩ := h
        simp only [cv, eqGuard_at_bool, Sem.run_bind, Sem.run_pure, Result.andThen_ok]
        simp [binOp, he]
    · exact none_of h
  · rename_i x z
    split at h
    · simp only [bin] at h
      split at h <;> first | exact none_of h | skip
      all_goals
        simp only [Option.some.injEq, Prod.mk.injEq] at h; obtain ⟨rfl, rfl⟩ := h
        simp only [cv, eqGuard_at_string, Sem.run_bind, Sem.run_pure, Result.andThen_ok]
        simp [binOp, Op.stringOp]
    · exact none_of h
  · rename_i k xs k' zs
    split at h
    · rename_i n e k''
      split at h
      · rename_i hk
        obtain rfl := sameK_eq hk
        obtain ⟨p', h', hpp⟩ := addp_some h
        obtain ⟨hn, hp'⟩ := hpp hp
        obtain ⟨h1, h2, h3, h4, h5⟩ := hy
        have h6 := h5 _ rfl
        simp only [bin] at h'
        split at h'
        · rename_i hk2
          obtain rfl := sameK_eq hk2
          have hg : ∀ o, (eqGuard o t ox oy (.agg (xs.map (Value.int k)).toArray) (.agg (zs.map (Value.int k)).toArray)).run P w = .ok () w := by
            intro o; cases o <;> simp [eqGuard, h4]
          split at h' <;> first | exact none_of h' | skip
          all_goals
            simp only [Option.some.injEq, Prod.mk.injEq] at h'; obtain ⟨rfl, rfl⟩ := h'
            have he := e_eqArr n h1 h6 h2.run w xs zs hn (by omega)
            have hb : (xs == zs) = decide (xs = zs) := by rw [Bool.eq_iff_iff]; simp
            rw [hb] at he
            simp only [cv, Sem.run_bind, hg, Result.andThen_ok]
            simp [binOp, he]
        · exact none_of h'
      · exact none_of h
    · exact none_of h
  · exact none_of h
end Go.Proofs.Ytkljpgdcmahenaa

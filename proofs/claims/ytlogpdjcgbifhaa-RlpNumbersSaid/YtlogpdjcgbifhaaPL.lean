/-
  RLP: the document's item that bytes begin with (quaestorref04.one): what it needs. No condition.
-/
import Derived.Test.YtlogpdjcgbifhaaPK
namespace Go.Proofs.Ytlogpdjcgbifhaa
set_option linter.unusedSimpArgs false
set_option linter.unusedVariables false
set_option linter.defProp false
open Go.RowKit
/-- A part that holds nothing. -/
theorem Vc.pushnil {P : Program} {c : Code} {env : List SV} {m : List Blk} {K : Kont} (t : TypeId) (es : Nat) (h : Vc P c env (bpush m (.own (.slice none 0 0) 0 t es (.rows es []))) K) : Vc P c env m K := by
  intro w0 B a w hf hd hm
  refine h w0 B a w hf hd ?_
  rw [bpush_eq]
  refine hm.push (grown_refl w) ⟨⟨by simp [cc], .inl ⟨rfl, rfl⟩⟩, fun b hb => by simp [Value.ownBlock] at hb⟩ (fun b hb => ?_)
  simp [Blk.nums, Value.ownBlock] at hb
/-- A callee that only reads, and made blocks that are kept. -/
theorem grow1 {w0 : World} {B : List Nat} {m m' : List Blk} {w w' : World} (hm : MemOk w0 B m w) {k j : Nat} {L l : List (Nat × Obj)} (hk : bget m k = .heap L) (h : MemOk w [] m' w') (hj : bget m' j = .heap l) : MemOk w0 B (bset m k (.heap (L ++ l))) w' := by
  have h1 := hm.grow h.grown
  have hlo := h.each _ (bget_mem hj (by simp))
  have hLo := hm.each _ (bget_mem hk (by simp))
  have hfresh : ∀ p ∈ l, w.heap.size ≤ p.1 := fun p hp => (hlo p hp).2.resolve_right List.not_mem_nil
  refine h1.set hk (by simp) (fun p hp => ?_) ?_ (fun x hx => ?_)
  · rcases List.mem_append.1 hp with hp | hp
    · exact h1.each _ (bget_mem hk (by simp)) p hp
    · exact ⟨(hlo p hp).1, .inl (Nat.le_trans hm.size (hfresh p hp))⟩
  · simp only [Blk.nums, List.map_append]
    rw [List.nodup_append]
    refine ⟨by have := nums_nodup (i := k) hm.nodup; rwa [hk] at this, by have := nums_nodup (i := j) h.nodup; rwa [hj] at this, fun x hx y hy => ?_⟩
    rintro rfl
    obtain ⟨p, hp, rfl⟩ := List.mem_map.1 hy
    have h3 := hfresh p hp
    have h4 := bnum_lt (e := .heap L) hLo hx
    omega
  · simp only [Blk.nums, List.map_append] at hx
    rcases List.mem_append.1 hx with hx | hx
    · exact .inl hx
    · refine .inr fun hc => ?_
      obtain ⟨p, hp, rfl⟩ := List.mem_map.1 hx
      have h3 := hfresh p hp
      obtain ⟨y, hy, hyx⟩ := List.mem_flatMap.1 hc
      have := bnum_lt (hm.each y hy) hyx; omega
theorem calls_grow1 {P : Program} {f : FuncId} {fn : Func} {args args' : List SV} {w0 w : World} {B : List Nat} {m : List Blk} {k j : Nat} {L : List (Nat × Obj)} {A : Type} {Q : A → Prop} {F : A → SV} {l : A → List (Nat × Obj)}
    (hf : P.funcs[f]? = some fn) (hn : (fn.name == "runtime.NumGoroutine") = false) (hb : fn.body.isNone = false)
    (hm : MemOk w0 B m w) (hk : bget m k = .heap L) (he : cvs args = cvs args') (h : Calls P f (cvs args').toArray w (fun en w' => ∃ u, en = .returned u ∧ ∃ m' x, MemOk w [] m' w' ∧ Q x ∧ u = cv (F x) ∧ bget m' j = .heap (l x))) :
    Enters P f (cvs args).toArray w fun u w' => ∃ x, Q x ∧ u = cv (F x) ∧ MemOk w0 B (bset m k (.heap (L ++ l x))) w' := by
  rw [he]
  exact .inr ⟨enter_run hf hn hb _ w, h.mono fun e w' ⟨u, hu, m', x, hm', hx, hv, hk2⟩ => ⟨u, hu, x, hx, hv, grow1 hm hk hm' hk2⟩⟩
theorem lnO_drop {ys : List Int} {f : Int} {nb : Nat} {zs : List Int} (h : lnO ys f = some (nb, zs)) : ys.drop (ys.length - zs.length) = zs := by
  unfold lnO at h
  split at h
  · simp only [Option.some.injEq, Prod.mk.injEq] at h; obtain ⟨_, rfl⟩ := h; rw [Nat.sub_self]; rfl
  · split at h
    · rename_i hh
      simp only [Option.some.injEq, Prod.mk.injEq] at h; obtain ⟨_, rfl⟩ := h
      rw [List.length_drop]; congr 1; omega
    · cases h
/-- What the document's length tells, put otherwise. -/
theorem rl_cases (n : Nat) (f : Int) (ys : List Int) (hl : ys.length + 1 = n) (hf : 128 ≤ f ∧ f ≤ 255) (hn : n ≤ 1000000) :
    (hdd (f :: ys) = none ∧ ∃ (nb fr : Int) (ok : Bool), rlV n f ys = .tup [.int .i64 nb, .int .i64 fr, .bool ok] ∧ 0 ≤ fr ∧ fr ≤ n ∧ (ok = true → n - fr < nb)) ∨
    ∃ (nb : Nat) (zs : List Int), rlV n f ys = .tup [.int .i64 (nb : Nat), .int .i64 (1 + (ys.length - zs.length : Nat)), .bool true] ∧ lnO ys f = some (nb, zs) ∧ nb ≤ zs.length ∧ zs.length ≤ ys.length ∧ ys.drop (ys.length - zs.length) = zs := by
  have hf1 : ¬ f < 128 := by omega
  cases ho : lnO ys f with
  | none =>
    refine .inl ⟨hdd_no hf1 ho, 0, 0, false, by unfold rlV; rw [ho], by omega, by omega, fun h => Bool.noConfusion h⟩
  | some o =>
    obtain ⟨nb, zs⟩ := o
    have hle := lnO_le ho
    by_cases hN : nb ≤ zs.length
    · refine .inr ⟨nb, zs, ?_, rfl, hN, hle, lnO_drop ho⟩
      unfold rlV; rw [ho]
      by_cases hk : f % 64 ≤ 55
      · simp only [if_pos hk]
        have hz : zs = ys := by unfold lnO at ho; rw [if_pos hk] at ho; simp only [Option.some.injEq, Prod.mk.injEq] at ho; exact ho.2.symm
        subst hz; rw [Nat.sub_self]; rfl
      · simp only [if_neg hk]
        rw [if_pos (by omega)]
    · refine .inl ⟨(hdd_hi hf1 ho).trans (if_neg hN), ?_⟩
      unfold rlV; rw [ho]
      by_cases hk : f % 64 ≤ 55
      · simp only [if_pos hk]
        have hz : zs = ys := by unfold lnO at ho; rw [if_pos hk] at ho; simp only [Option.some.injEq, Prod.mk.injEq] at ho; exact ho.2.symm
        subst hz
        exact ⟨_, _, _, rfl, by omega, by omega, fun _ => by omega⟩
      · simp only [if_neg hk]
        by_cases h2 : nb ≤ n
        · rw [if_pos h2]
          exact ⟨_, _, _, rfl, by omega, by omega, fun _ => by omega⟩
        · rw [if_neg h2]
          exact ⟨_, _, _, rfl, by omega, by omega, fun h => Bool.noConfusion h⟩
/-- What is left to chance of the document's item. -/
noncomputable def g_roneD (d : Nat) (args : List SV) (m : List Blk) : CR :=
  match args with
  | [.gh a n c (.ints .u8 xs), .int .i64 dp] => match bget m 2 with
    | .heap L => match dec (65 - dp).toNat xs with
      | none => .rel (xs.length = n ∧ n ≤ c ∧ n ≤ 1000000 ∧ adr a n c ∧ allB xs ∧ (1 ≤ dp ∧ dp ≤ 65) ∧ xs.length < d ∧ LiesH (HM m) a (cc (.ints .u8 xs))) (List (Nat × Obj)) (fun _ => True)
          (fun _ => .tup [.agg [.bool false, .nilsl, .nilsl], .int .i64 0]) (fun l => bset m 2 (.heap (L ++ l)))
      | some (tt, zs) => .rel (xs.length = n ∧ n ≤ c ∧ n ≤ 1000000 ∧ adr a n c ∧ allB xs ∧ (1 ≤ dp ∧ dp ≤ 65) ∧ xs.length < d ∧ LiesH (HM m) a (cc (.ints .u8 xs))) ItY
          (fun x => ItR (Hl x.l) [.bool x.lb, .gh x.ba x.bn x.bc (.ints .u8 x.bs), .gh x.ka x.kn x.kc (.rows 3 x.rs)] tt)
          (fun x => .tup [.agg [.bool x.lb, .gh x.ba x.bn x.bc (.ints .u8 x.bs), .gh x.ka x.kn x.kc (.rows 3 x.rs)], .int .i64 (xs.length - zs.length : Nat)])
          (fun x => bset m 2 (.heap (L ++ x.l)))
    | _ => .none
  | _ => .none
noncomputable def GRO (d : Nat) : Ctr := fun f args m => match f with
  | 28 => g_roneD d args m
  | 35 => g_rrl args m
  | _ => .none
theorem GRO_mk {d : Nat} (h_roneD : ∀ w0 B args m, CROk Try.prog w0 B 28 args m (g_roneD d args m)) : GOk Try.prog (GRO d) := by
  intro w0 B f args m; unfold GRO; split
  · exact h_roneD _ _ _ _
  · exact g_rrl_ok _ _ _ _
  · exact trivial
theorem GRO_roneD {d : Nat} : GRO d 28 = g_roneD d := by funext args m; rfl
theorem GRO_rrl {d : Nat} : GRO d 35 = g_rrl := by funext args m; rfl
def GRO_set := And.intro (And.intro (@GRO_roneD) (@g_roneD.eq_def)) (And.intro (@GRO_rrl) (@g_rrl.eq_def))

end Go.Proofs.Ytlogpdjcgbifhaa

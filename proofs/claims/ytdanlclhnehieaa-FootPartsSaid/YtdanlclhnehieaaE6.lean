/-
  A symbolic walk of my own: one step, for all operations that leave the world alone.
-/
import Derived.Test.YtdanlclhnehieaaE1
namespace Go.Proofs.Ytdanlclhnehieaa
set_option linter.unusedSimpArgs false
set_option linter.unusedVariables false
open Go.RowKit

theorem una_run {P : Program} {op : UnOp} {x : SV} {p : Prop} {v : SV} (h : una op x = some (p, v)) (hp : p) (w : World) : (Op.unary op (cv x)).run P w = .ok (cv v) w := by
  unfold una at h
  split at h
  · simp only [Option.some.injEq, Prod.mk.injEq] at h; obtain ⟨rfl, rfl⟩ := h
    simp [cv, Op.unary]
  · rename_i k n
    split at h <;> (simp only [Option.some.injEq, Prod.mk.injEq] at h; obtain ⟨rfl, rfl⟩ := h; simp only [cv, Op.unary, Op.intArith, Sem.run_pure])
    rw [wrap_inK hp]
  · simp only [Option.some.injEq, Prod.mk.injEq] at h; obtain ⟨rfl, rfl⟩ := h
    simp only [cv, Op.unary, intBits_xor, Sem.run_pure]
  · exact none_of h
theorem pickS_run {P : Program} {c a b : SV} {p : Prop} {v : SV} (h : pickS c a b = some (p, v)) (_hp : p) (w : World) :
    (do pure (Next.value (if ← asBool (cv c) then cv a else cv b)) : Sem Next).run P w = .ok (.value (cv v)) w := by
  unfold pickS at h
  split at h <;> first | exact none_of h | skip
  all_goals
    simp only [Option.some.injEq, Prod.mk.injEq] at h; obtain ⟨rfl, rfl⟩ := h
    simp [cv, asBool]
theorem extS_run {P : Program} {x : SV} {i : Nat} {p : Prop} {v : SV} (h : extS x i = some (p, v)) (_hp : p) (w : World) : (Instr.extract (cv x) i).run P w = .ok (cv v) w := by
  unfold extS at h
  split at h
  · split at h
    · rename_i u hu
      simp only [Option.some.injEq, Prod.mk.injEq] at h; obtain ⟨rfl, rfl⟩ := h
      simp [cv, Instr.extract, nth?_some hu]
    · exact none_of h
  · exact none_of h
def convT (a b : Ty) (x : SV) : Option (Prop × SV) :=
  match a with
  | .int _ => convS b x
  | _ => none
theorem convT_run {P : Program} {s d : TypeId} {a b : Ty} (ha : TyOk1 P s a) (hb : TyOk1 P d b) {x : SV} {p : Prop} {v : SV} (h : convT a b x = some (p, v)) (_hp : p) (w : World) :
    (convert s d (cv x)).run P w = .ok (cv v) w := by
  unfold convT at h
  split at h
  · unfold convS at h
    split at h
    · simp only [Option.some.injEq, Prod.mk.injEq] at h; obtain ⟨rfl, rfl⟩ := h
      unfold convert
      simp [run_underlying ha, run_underlying hb, cv, Conv.intToInt]
    · exact none_of h
  · exact none_of h
theorem arrPS_run {P : Program} {t : TypeId} {y : Ty} (hy : TyOk1 P t y) {x : SV} {p : Prop} {v : SV} (h : arrPS y x = some (p, v)) (hp : p) (w : World) : (Instr.arrayAt t (cv x)).run P w = .ok (cv v) w := by
  unfold arrPS at h
  split at h
  · rename_i nm a st st0 es len cap
    have key : ∀ (N : Nat) (e : TypeId), P.underlying t = some (.array N e) → N ≤ len → 0 < N → len ≤ cap → adr a len cap → es = 1 →
        (Instr.arrayAt t (.slice (a.map (·.add ((if cap = 0 then st0 else st) * es))) len cap)).run P w = .ok (.pointer (some ⟨blkO a, offO a + (0 * 0 + st), none⟩)) w := by
      intro N e h1 q1 q2 q3 q4' q5
      have q4 := adr_pos q4' (by omega)
      clear q4'
      subst q5
      unfold Instr.arrayAt
      simp only [Sem.run_bind, run_underlying h1, Result.andThen_ok]
      rw [if_neg (by omega), if_neg (by omega)]
      generalize blkO a = b at *
      generalize offO a = o at *
      subst q4
      simp only [Option.map_some, Sem.run_pure, addr_add]
      simp
    split at h
    · split at h
      · simp only [Option.some.injEq, Prod.mk.injEq] at h; obtain ⟨rfl, rfl⟩ := h
        obtain ⟨u, h1, _⟩ := hy
        exact key 4 u h1 hp.1 (by omega) hp.2.1 hp.2.2 rfl
      · exact none_of h
    · rename_i N e es' ek
      split at h
      · simp only [Option.some.injEq, Prod.mk.injEq] at h; obtain ⟨rfl, rfl⟩ := h
        refine Eq.trans (key N e hy.1 hp.1 hp.2.1 hp.2.2.1 hp.2.2.2 rfl) ?_
        simp only [cv, Nat.mul_one, Nat.add_zero, Nat.mul_zero, Nat.zero_add]
      · exact none_of h
    · exact none_of h
  · exact none_of h
def arrPM (y : Ty) (x : SV) (m : List Blk) : Option (Prop × SV) :=
  match x with
  | .own nm v len =>
    match y, bget m nm with
    | .arr N _ es _, .own v' len' _ es' _ => match es, es == es' with
      | 1, true => some (0 < N ∧ N ≤ len ∧ v = v' ∧ len = len', .ptr nm (blkOf v) 0 0 0 0)
      | _, _ => none
    | _, _ => none
  | x => arrPS y x
theorem arrPM_run {P : Program} {t : TypeId} {y : Ty} (hy : TyOk1 P t y) {x : SV} {m : List Blk} {p : Prop} {v : SV} (h : arrPM y x m = some (p, v)) (hp : p) {w0 : World} {B : List Nat} {w : World} (hm : MemOk w0 B m w) :
    (Instr.arrayAt t (cv x)).run P w = .ok (cv v) w := by
  unfold arrPM at h
  split at h
  · rename_i nm v len
    split at h
    · rename_i N e es ek v' len' tt es' con hbg
      split at h
      · simp only [Option.some.injEq, Prod.mk.injEq] at h; obtain ⟨rfl, rfl⟩ := h
        obtain ⟨h0, h1, rfl, rfl⟩ := hp
        obtain ⟨g, cap, rfl⟩ := own_pos (hm.each _ (bget_mem hbg (by simp))).1 (by omega)
        unfold Instr.arrayAt
        simp only [cv, slV, Sem.run_bind, run_underlying hy.1, Result.andThen_ok]
        rw [if_neg (by omega)]
        simp [blkOf, blkO]
      · exact none_of h
    · exact none_of h
  · exact arrPS_run hy h hp w
def tys (T : Tab) : List TypeId → List Ty
  | [] => []
  | t :: l => T.ty t :: tys T l
theorem tys_one {T : Tab} {ts : List TypeId} {y : Ty} (h : tys T ts = [y]) : ∃ t, ts = [t] ∧ T.ty t = y := by
  match ts, h with
  | [t], h => simp [tys] at h; exact ⟨t, rfl, h⟩
  | _ :: _ :: _, h => simp [tys] at h
theorem bltS_run {P : Program} {T : Tab} (hT : TabOk P T) {b : Builtin} {ts : List TypeId} {ty : TypeId} {cs : Array Bool} {xs : List SV} {p : Prop} {v : SV} (h : bltS b (tys T ts) xs = some (p, v)) (_hp : p) (w : World) :
    (builtin b ts.toArray ty cs (cvs xs).toArray).run P w = .ok (.value (cv v)) w := by
  unfold bltS at h
  split at h
  · rename_i hts
    obtain ⟨t, rfl, hts'⟩ := tys_one hts
    · have h1 := hT.ty t
      rw [hts'] at h1
      simp only [Option.some.injEq, Prod.mk.injEq] at h; obtain ⟨rfl, rfl⟩ := h
      simp [builtin, Builtin.len_, cvs, cv, run_underlying h1.1, goInt]
  · rename_i hts
    obtain ⟨t, rfl, hts'⟩ := tys_one hts
    · have h1 := hT.ty t
      rw [hts'] at h1
      simp only [Option.some.injEq, Prod.mk.injEq] at h; obtain ⟨rfl, rfl⟩ := h
      simp [builtin, Builtin.len_, cvs, cv, run_underlying h1.1, goInt]
  · rename_i hts
    obtain ⟨t, rfl, hts'⟩ := tys_one hts
    · have h1 := hT.ty t
      rw [hts'] at h1
      simp only [Option.some.injEq, Prod.mk.injEq] at h; obtain ⟨rfl, rfl⟩ := h
      simp [builtin, Builtin.len_, cvs, cv, run_underlying h1.1, goInt]
  · rename_i hts
    obtain ⟨t, rfl, hts'⟩ := tys_one hts
    · have h1 := hT.ty t
      rw [hts'] at h1
      simp only [Option.some.injEq, Prod.mk.injEq] at h; obtain ⟨rfl, rfl⟩ := h
      rename_i nm v n
      cases v <;> simp [builtin, Builtin.len_, cvs, cv, slV, run_underlying h1.1, goInt]
  · rename_i hts
    obtain ⟨t, rfl, hts'⟩ := tys_one hts
    · have h1 := hT.ty t
      rw [hts'] at h1
      simp only [Option.some.injEq, Prod.mk.injEq] at h; obtain ⟨rfl, rfl⟩ := h
      simp [builtin, Builtin.len_, cvs, cv, run_underlying h1, goInt, bytesOf_size]
  · rename_i hts
    obtain ⟨t, rfl, hts'⟩ := tys_one hts
    · have h1 := hT.ty t
      rw [hts'] at h1
      simp only [Option.some.injEq, Prod.mk.injEq] at h; obtain ⟨rfl, rfl⟩ := h
      simp [builtin, Builtin.cap_, cvs, cv, run_underlying h1.1, goInt]
  · simp only [Option.some.injEq, Prod.mk.injEq] at h; obtain ⟨rfl, rfl⟩ := h
    simp [builtin, Builtin.min_, Builtin.min2, cvs, cv]
  · simp only [Option.some.injEq, Prod.mk.injEq] at h; obtain ⟨rfl, rfl⟩ := h
    simp [builtin, Builtin.max_, Builtin.max2, cvs, cv]
  · simp only [Option.some.injEq, Prod.mk.injEq] at h; obtain ⟨rfl, rfl⟩ := h
    simp [builtin, Builtin.max_, Builtin.max2, cvs, cv, mxI]; rfl
  · exact none_of h
theorem own_len {w : World} {base : Nat} {t : TypeId} {es n : Nat} {v : Value} {xs : List Value} (h : w.ownsRow base t es v n xs) : ∃ a c, v = .slice a n c := by
  obtain ⟨_, h⟩ := h
  rcases h with ⟨rfl, rfl⟩ | ⟨g, cap, cur, rfl, _⟩
  · exact ⟨none, 0, rfl⟩
  · exact ⟨_, _, rfl⟩
theorem own_slV {w : World} {base : Nat} {t : TypeId} {es n : Nat} {v : Value} {xs : List Value} (h : w.ownsRow base t es v n xs) : slV v n = v := by
  obtain ⟨a, c, rfl⟩ := own_len h; rfl
def evp (T : Tab) (env : List SV) : List (Nat × Operand) → List (Nat × SV)
  | [] => []
  | (i, x) :: l => (i, ev T env x) :: evp T env l
def evo (T : Tab) (env : List SV) : Option Operand → Option SV
  | none => none
  | some x => some (ev T env x)

def fldS (y : Ty) (x : SV) (i : Nat) : Option (Prop × SV) :=
  match y, x with
  | .struct _ fs, .ptr nm b base i0 sz j0 => match nthF fs i with
    | some (o, s, _) => match s with | 0 => none | _ => some (True, .ptr nm b base i0 sz (j0 + o))
    | none => none
  | .struct _ fs, .gp a con i0 sz j0 => match nthF fs i with
    | some (o, s, _) => match s with | 0 => none | _ => some (True, .gp a con i0 sz (j0 + o))
    | none => none
  | _, _ => none
theorem fld_get {P : Program} {fields : Array Field} {fs : List (Nat × Nat × TypeId)} {i o s : Nat} {q : TypeId} (h3 : (fields.toList.mapM fun f => (P.info? f.type).map fun i => (f.offset, i.size)) = some (fs.map fun x => (x.1, x.2.1)))
    (h4 : fields.toList.map (·.type) = fs.map (·.2.2)) (hq : nthF fs i = some (o, s, q)) : ∃ f, fields[i]? = some f ∧ f.offset = o ∧ f.type = q ∧ Sz P q s := by
  have key : ∀ {l : List Field} {fs : List (Nat × Nat × TypeId)} {i : Nat}, (l.mapM fun f => (P.info? f.type).map fun i => (f.offset, i.size)) = some (fs.map fun x => (x.1, x.2.1)) → l.map (·.type) = fs.map (·.2.2) →
      fs[i]? = some (o, s, q) → ∃ f, l[i]? = some f ∧ f.offset = o ∧ f.type = q ∧ Sz P q s := by
    intro l
    induction l with
    | nil => intro fs i h3 h4 hq; cases fs with
      | nil => simp at hq
      | cons x fs => simp at h4
    | cons f l ih =>
      intro fs i h3 h4 hq
      cases fs with
      | nil => simp at hq
      | cons x fs =>
        simp only [List.mapM_cons, Option.bind_eq_bind, Option.pure_def] at h3
        cases hi : P.info? f.type with
        | none => simp [hi] at h3
        | some inf =>
          cases hr : l.mapM (fun f => (P.info? f.type).map fun i => (f.offset, i.size)) with
          | none => simp [hi, hr] at h3
          | some rest =>
            simp [hi, hr] at h3
            simp at h4
            cases i with
            | zero =>
              simp at hq; subst hq
              exact ⟨f, rfl, h3.1.1, h4.1, by have h41 : f.type = q := h4.1; have h31 : inf.size = s := h3.1.2; unfold Sz; rw [← h41, hi]; simp [h31]⟩
            | succ i =>
              simp at hq
              simpa using ih (by rw [hr, h3.2]) (by simpa using h4.2) hq
  obtain ⟨f, h5, h6⟩ := key (l := fields.toList) (i := i) h3 h4 (by rw [nthF_some]; exact hq)
  exact ⟨f, by simpa using h5, h6⟩
theorem fldS_run {P : Program} {t : TypeId} {y : Ty} (hy : TyOk1 P t y) {x : SV} {i : Nat} {p : Prop} {v : SV} (h : fldS y x i = some (p, v)) (w : World) :
    (Instr.fieldAt t (cv x) i).run P w = .ok (cv v) w := by
  unfold fldS at h
  split at h
  · rename_i size fs nm b base i0 sz j0
    obtain ⟨fields, h1, h2, h3, h4⟩ := hy
    split at h
    · rename_i o s q hq
      obtain ⟨f, g1, g2, g3, g4⟩ := fld_get h3 h4 hq
      split at h
      · cases h
      · rename_i hs
        simp only [Option.some.injEq, Prod.mk.injEq] at h
        obtain ⟨rfl, rfl⟩ := h
        unfold Instr.fieldAt
        simp only [run_underlying h1, Sem.run_bind, Result.andThen_ok, g1, Instr.sureAddr, cv, Sem.run_pure]
        unfold fieldPlace
        rw [g3]
        simp only [Sem.run_bind, g4.run, Result.andThen_ok]
        rw [if_neg (fun e => hs e)]
        simp only [Sem.run_pure, Result.andThen_ok, g2]
        congr 3
        unfold Addr.add
        split
        · rename_i h0; subst h0; rfl
        · simp only [Addr.mk.injEq, and_true, true_and]; omega
    · cases h
  · rename_i size fs a con i0 sz j0
    obtain ⟨fields, h1, h2, h3, h4⟩ := hy
    split at h
    · rename_i o s q hq
      obtain ⟨f, g1, g2, g3, g4⟩ := fld_get h3 h4 hq
      split at h
      · cases h
      · rename_i hs
        simp only [Option.some.injEq, Prod.mk.injEq] at h
        obtain ⟨rfl, rfl⟩ := h
        unfold Instr.fieldAt
        simp only [run_underlying h1, Sem.run_bind, Result.andThen_ok, g1, Instr.sureAddr, cv, Sem.run_pure]
        unfold fieldPlace
        rw [g3]
        simp only [Sem.run_bind, g4.run, Result.andThen_ok]
        rw [if_neg (fun e => hs e)]
        simp only [Sem.run_pure, Result.andThen_ok, g2]
        congr 3
        unfold Addr.add
        split
        · rename_i h0; subst h0; rfl
        · simp only [Addr.mk.injEq, and_true, true_and]; omega
    · cases h
  · cases h
def fldV (T : Tab) (y : Ty) (x : SV) (i : Nat) : Option (Prop × SV) :=
  match y, x with
  | .struct _ fs, .agg l => match nthF fs i with
    | some (o, s, q) => match aggN (T.ty q) with
      | some none => match nth? l o with | some v => some (True, v) | none => none
      | some (some _) => match takeN l o s with | some r => aggV (T.ty q) r | none => none
      | none => none
    | none => none
  | _, _ => none
theorem fldV_run {P : Program} {T : Tab} (hT : TabOk P T) {t : TypeId} {x : SV} {i : Nat} {p : Prop} {v : SV} (h : fldV T (T.ty t) x i = some (p, v)) (hp : p) (w : World) :
    (Instr.field t (cv x) i).run P w = .ok (cv v) w := by
  have hy := hT.ty t
  unfold fldV at h
  split at h
  · rename_i size fs l hyt
    rw [hyt] at hy
    obtain ⟨fields, h1, h2, h3, h4⟩ := hy
    split at h
    · rename_i o s q hq
      obtain ⟨f, g1, g2, g3, g4⟩ := fld_get h3 h4 hq
      unfold Instr.field
      simp only [run_underlying h1, Sem.run_bind, Result.andThen_ok, g1, asAgg, cv, Sem.run_pure, g2, g3]
      unfold part
      split at h
      · rename_i ha
        split at h
        · rename_i v' hv
          simp only [Option.some.injEq, Prod.mk.injEq] at h
          obtain ⟨rfl, rfl⟩ := h
          have h5 := nth?_some hv
          simp only [Sem.run_bind, isAgg_one (hT.ty q) ha, Result.andThen_ok, Bool.false_eq_true, if_false]
          simp [h5]
        · cases h
      · rename_i n ha
        split at h
        · rename_i r hr
          obtain ⟨k1, k2⟩ := takeN_some hr
          obtain ⟨m1, m2⟩ := isAgg_many (hT.ty q) ha
          simp only [Sem.run_bind, m1, Result.andThen_ok, if_true, g4.run, Sem.run_pure]
          rw [aggV_some h hp]
          congr 2
          apply Array.ext'
          simp only [Array.toList_extract]
          apply List.ext_getElem?
          intro j
          rw [List.extract_eq_take_drop, show o + s - o = s by omega, List.getElem?_take]
          split
          · rename_i hj
            have : j < (cvs r).length := by rw [cvs_len, k1]; exact hj
            rw [List.getElem?_drop, List.getElem?_eq_getElem this]
            exact k2 j _ (List.getElem?_eq_getElem this)
          · rename_i hj
            rw [List.getElem?_eq_none (by rw [cvs_len, k1]; omega)]
        · cases h
      · cases h
    · cases h
  · cases h

def isC : Operand → Bool
  | .const _ => true
  | _ => false
def ifT (op : BinOp) (y : Ty) (xc : Bool) (a b : SV) : Option (Prop × SV) :=
  match y, a, b with
  | .ifc, .raw .nilIface, .raw .nilIface => match xc, op with | true, .eql => some (True, .bool true) | true, .neq => some (True, .bool false) | _, _ => none
  | .ifc, .ifc _ _, .raw .nilIface => match op with | .eql => some (True, .bool false) | .neq => some (True, .bool true) | _ => none
  | .ifc, .raw .nilIface, .ifc _ _ => match op with | .eql => some (True, .bool false) | .neq => some (True, .bool true) | _ => none
  | .sl _ _ _, .nilsl, .nilsl => match op with | .eql => some (True, .bool true) | .neq => some (True, .bool false) | _ => none
  | .sl _ _ _, .gh a _ _ _, .nilsl => match op with | .eql => some (True, .bool a.isNone) | .neq => some (True, .bool (!a.isNone)) | _ => none
  | _, _, _ => none
theorem equal_sl {P : Program} {t e : TypeId} (h : P.underlying t = some (.slice e)) (w : World) (a : Option Addr) (n c : Nat) : (Op.equal t (.slice a n c) (.slice none 0 0)).run P w = .ok a.isNone w := by
  cases a <;> (unfold Op.equal; rw [show Op.maxDepth = 9998 + 1 + 1 from rfl, Op.equalIn]; simp [run_underlying h])
theorem equal_ifc {P : Program} {t : TypeId} {ms : Array (String × TypeId)} (h : P.underlying t = some (.interface ms)) (w : World) :
    (Op.equal t .nilIface .nilIface).run P w = .ok true w ∧ (∀ u v, (Op.equal t (.iface u v) .nilIface).run P w = .ok false w) ∧ (∀ u v, (Op.equal t .nilIface (.iface u v)).run P w = .ok false w) := by
  refine ⟨?_, fun u v => ?_, fun u v => ?_⟩ <;>
    (unfold Op.equal; rw [show Op.maxDepth = 9998 + 1 + 1 from rfl, Op.equalIn]; simp [run_underlying h])
theorem ifT_run {P : Program} {t : TypeId} {y : Ty} (hy : TyOk1 P t y) {op : BinOp} {ox oy : Operand} {a b : SV} {p : Prop} {v : SV} (h : ifT op y (isC ox || isC oy) a b = some (p, v)) (w : World) :
    (do eqGuard op t ox oy (cv a) (cv b); binOp op t (cv a) (cv b) : Sem Value).run P w = .ok (cv v) w := by
  unfold ifT at h
  split at h
  · obtain ⟨ms, hy⟩ := hy
    have e1 := (equal_ifc hy w).1
    have hg : ∀ o, (isC ox || isC oy) = true → (eqGuard o t ox oy .nilIface .nilIface).run P w = .ok () w := by
      intro o hc
      unfold eqGuard
      cases ox <;> cases oy <;> first | (cases hc; done) | (cases o <;> simp [go_sem])
    split at h <;> first | (cases h; done) | skip
    all_goals
      rename_i hc
      simp only [Option.some.injEq, Prod.mk.injEq] at h
      obtain ⟨rfl, rfl⟩ := h
      simp only [cv, Sem.run_bind, hg _ hc, Result.andThen_ok]
      simp [binOp, e1]
  · rename_i u x
    obtain ⟨ms, hy⟩ := hy
    have e1 := (equal_ifc hy w).2.1
    have hg : ∀ o, (eqGuard o t ox oy (.iface u (cv x)) .nilIface).run P w = .ok () w := by intro o; unfold eqGuard; cases o <;> simp [go_sem]
    split at h <;> first | (cases h; done) | skip
    all_goals
      simp only [Option.some.injEq, Prod.mk.injEq] at h
      obtain ⟨rfl, rfl⟩ := h
      simp only [cv, Sem.run_bind, hg, Result.andThen_ok]
      simp [binOp, e1]
  · rename_i u x
    obtain ⟨ms, hy⟩ := hy
    have e1 := (equal_ifc hy w).2.2
    have hg : ∀ o, (eqGuard o t ox oy .nilIface (.iface u (cv x))).run P w = .ok () w := by intro o; unfold eqGuard; cases o <;> simp [go_sem]
    split at h <;> first | (cases h; done) | skip
    all_goals
      simp only [Option.some.injEq, Prod.mk.injEq] at h
      obtain ⟨rfl, rfl⟩ := h
      simp only [cv, Sem.run_bind, hg, Result.andThen_ok]
      simp [binOp, e1]
  · have e1 := equal_sl hy.1 w none 0 0
    have hg : ∀ o, (eqGuard o t ox oy (.slice none 0 0) (.slice none 0 0)).run P w = .ok () w := by intro o; unfold eqGuard; cases o <;> simp [go_sem]
    split at h <;> first | (cases h; done) | skip
    all_goals
      simp only [Option.some.injEq, Prod.mk.injEq] at h
      obtain ⟨rfl, rfl⟩ := h
      simp only [cv, Sem.run_bind, hg, Result.andThen_ok]
      simp [binOp, e1]
  · rename_i a n c con
    have e1 := equal_sl hy.1 w a n c
    have hg : ∀ o, (eqGuard o t ox oy (.slice a n c) (.slice none 0 0)).run P w = .ok () w := by intro o; unfold eqGuard; cases o <;> simp [go_sem]
    split at h <;> first | (cases h; done) | skip
    all_goals
      simp only [Option.some.injEq, Prod.mk.injEq] at h
      obtain ⟨rfl, rfl⟩ := h
      simp only [cv, Sem.run_bind, hg, Result.andThen_ok]
      simp [binOp, e1]
  · cases h
def mkI (y : Ty) (t : TypeId) (x : SV) : Option (Prop × SV) :=
  match y with
  | .int _ => some (True, .ifc t x)
  | .struct _ _ => some (True, .ifc t x)
  | .ptr _ => some (True, .ifc t x)
  | _ => none
theorem mkI_run {P : Program} {t : TypeId} {y : Ty} (hy : TyOk1 P t y) {x : SV} {p : Prop} {v : SV} (h : mkI y t x = some (p, v)) (w : World) : (Instr.makeInterface t (cv x)).run P w = .ok (cv v) w := by
  unfold mkI at h
  split at h
  · simp only [Option.some.injEq, Prod.mk.injEq] at h
    obtain ⟨rfl, rfl⟩ := h
    unfold Instr.makeInterface
    simp [run_underlying hy, cv]
  · simp only [Option.some.injEq, Prod.mk.injEq] at h
    obtain ⟨rfl, rfl⟩ := h
    obtain ⟨fields, h1, _⟩ := hy
    unfold Instr.makeInterface
    simp [run_underlying h1, cv]
  · simp only [Option.some.injEq, Prod.mk.injEq] at h
    obtain ⟨rfl, rfl⟩ := h
    unfold Instr.makeInterface
    simp [run_underlying hy, cv]
  · cases h

def codeC : List CK → List SV → Option (List Int)
  | [], [] => some []
  | .i k :: ks, .int k' n :: l => match sameK k k' with
    | true => match codeC ks l with | some c => some (n :: c) | none => none
    | false => none
  | .b :: ks, .bool v :: l => match codeC ks l with | some c => some ((cond v 1 0) :: c) | none => none
  | _, _ => none
def allCk (k : IntKind) : List CK → Bool
  | [] => true
  | .i k' :: ks => match sameK k k' with | true => allCk k ks | false => false
  | _ => false
def codeK (ks : List CK) (x : SV) : Option (Prop × List Int) :=
  match x with
  | .agg l => match codeC ks l with | some c => some (inCs ks c, c) | none => none
  | .ints k xs => match allCk k ks with | true => some (inCs ks xs, xs) | false => none
  | .word a => match allCk .u64 ks with | true => some (inCs ks [((lm a 0 : Nat) : Int), (lm a 1 : Nat), (lm a 2 : Nat), (lm a 3 : Nat)], [((lm a 0 : Nat) : Int), (lm a 1 : Nat), (lm a 2 : Nat), (lm a 3 : Nat)]) | false => none
  | _ => none
theorem codeC_cells : ∀ {ks : List CK} {l : List SV} {c : List Int}, codeC ks l = some c → cellsC ks c = cvs l
  | [], [], c, h => by simp [codeC] at h; subst h; rfl
  | k :: ks, x :: l, c, h => by
    unfold codeC at h
    split at h
    · rename_i heq _; cases heq
    · rename_i k' ks' k2 n l' e1 e2
      cases e1; cases e2
      split at h
      · rename_i hk
        obtain rfl := sameK_eq hk
        split at h
        · rename_i c' hc
          simp only [Option.some.injEq] at h; subst h
          simp [cellsC, cvs, cellC, cv, codeC_cells hc]
        · cases h
      · cases h
    · rename_i ks' v l' e1 e2
      cases e1; cases e2
      split at h
      · rename_i c' hc
        simp only [Option.some.injEq] at h; subst h
        cases v <;> simp [cellsC, cvs, cellC, cv, codeC_cells hc]
      · cases h
    · cases h
  | [], _ :: _, c, h => by simp [codeC] at h
  | k :: _, [], c, h => by cases k <;> simp [codeC] at h
theorem allCk_cells : ∀ {k : IntKind} {ks : List CK} {c : List Int}, allCk k ks = true → inCs ks c → cellsC ks c = c.map (Value.int k)
  | _, [], [], _, _ => rfl
  | k, q :: ks, n :: c, h, hc => by
    unfold allCk at h
    split at h
    · rename_i e; cases e
    · rename_i k' ks' e
      cases e
      split at h
      · rename_i hk
        obtain rfl := sameK_eq hk
        simp [cellsC, cellC, allCk_cells h hc.2]
      · cases h
    · cases h
  | _, [], _ :: _, _, hc => hc.elim
  | _, _ :: _, [], _, hc => hc.elim
theorem codeK_sound {ks : List CK} {x : SV} {p : Prop} {c : List Int} (h : codeK ks x = some (p, c)) (hp : p) : inCs ks c ∧ cv x = kv ks c := by
  unfold codeK at h
  split at h
  · split at h
    · rename_i l c' hc
      simp only [Option.some.injEq, Prod.mk.injEq] at h
      obtain ⟨rfl, rfl⟩ := h
      exact ⟨hp, by simp [cv, kv, codeC_cells hc]⟩
    · cases h
  · split at h
    · rename_i k xs hk
      simp only [Option.some.injEq, Prod.mk.injEq] at h
      obtain ⟨rfl, rfl⟩ := h
      exact ⟨hp, by simp [cv, kv, allCk_cells hk hp]⟩
    · cases h
  · split at h
    · rename_i a hk
      simp only [Option.some.injEq, Prod.mk.injEq] at h
      obtain ⟨rfl, rfl⟩ := h
      exact ⟨hp, by simp only [cv, kv, allCk_cells hk hp]; rfl⟩
    · cases h
  · cases h
def cellS : CK → Int → SV
  | .i k, n => .int k n
  | _, n => .bool (decide (n = 1))
def cellsS : List CK → List Int → List SV
  | k :: ks, n :: ns => cellS k n :: cellsS ks ns
  | _, _ => []
theorem cellsS_cv : ∀ (ks : List CK) (c : List Int), cvs (cellsS ks c) = cellsC ks c
  | [], _ => by simp [cellsS, cellsC, cvs]
  | _ :: _, [] => by simp [cellsS, cellsC, cvs]
  | k :: ks, n :: ns => by
    simp only [cellsS, cellsC, cvs, cellsS_cv ks ns]
    cases k <;> rfl
def keyS (ks : List CK) (c : List Int) : SV := match allCk .u8 ks with | true => .ints .u8 c | false => .agg (cellsS ks c)
theorem keyS_cv {ks : List CK} {c : List Int} (h : inCs ks c) : cv (keyS ks c) = kv ks c := by
  unfold keyS
  split
  · rename_i hk; simp [cv, kv, allCk_cells hk h]
  · simp [cv, kv, cellsS_cv]
def lookV (ks ks' : List CK) (b b' : Nat) (f : List Int → Option SV) (z i : SV) (ok : Bool) : Option (Prop × SV) :=
  match codeK ks i with
  | some (p, c) => match ok with
    | true => some (p ∧ b = b' ∧ ks = ks', .tup [(f c).getD z, .bool (f c).isSome])
    | false => some (p ∧ b = b' ∧ ks = ks', (f c).getD z)
  | none => none
def lookS (y : Ty) (x i : SV) (ok : Bool) (m : List Blk) : Option (Prop × SV) :=
  match x with
  | .mpv nm b => match y, bget m nm with
    | .map ks z, .mp b' ks' f => lookV ks ks' b b' f z i ok
    | .map ks z, .mo b' ks' f => lookV ks ks' b b' f z i ok
    | _, _ => none
  | _ => none
theorem getD_cv (o : Option SV) (z : SV) : (o.map cv).getD (cv z) = cv (o.getD z) := by cases o <;> rfl
theorem lookV_run {P : Program} {t : TypeId} {ks ks' : List CK} {z : SV} (hy : TyOk1 P t (.map ks z)) {b b' nm : Nat} {f : List Int → Option SV} {i : SV} {ok : Bool} {p : Prop} {v : SV} (h : lookV ks ks' b b' f z i ok = some (p, v)) (hp : p) {w : World}
    (h4 : MapIs w b' ks' (fun c => (f c).map cv)) : (Instr.lookup t (cv (.mpv nm b)) (cv i) ok).run P w = .ok (cv v) w := by
  unfold lookV at h
  split at h
  · rename_i p' c hc
    have key : p' ∧ b = b' ∧ ks = ks' → (Instr.lookup t (cv (.mpv nm b)) (cv i) ok).run P w = .ok (if ok then .tuple #[cv ((f c).getD z), .bool (f c).isSome] else cv ((f c).getD z)) w := by
      rintro ⟨q1, rfl, rfl⟩
      obtain ⟨k, e, h1, h2, h3⟩ := hy
      obtain ⟨g1, g2⟩ := codeK_sound hc q1
      have h5 := map_look h2 h1 (h3 w) h4 g1 ok
      rw [g2]
      simp only [cv]
      rw [h5, getD_cv]
      cases f c <;> rfl
    split at h
    · simp only [Option.some.injEq, Prod.mk.injEq] at h
      obtain ⟨rfl, rfl⟩ := h
      rw [key hp]; rfl
    · simp only [Option.some.injEq, Prod.mk.injEq] at h
      obtain ⟨rfl, rfl⟩ := h
      rw [key hp]; rfl
  · cases h
theorem lookS_run {P : Program} {t : TypeId} {y : Ty} (hy : TyOk1 P t y) {x i : SV} {ok : Bool} {m : List Blk} {p : Prop} {v : SV} (h : lookS y x i ok m = some (p, v)) (hp : p) {w0 : World} {B : List Nat} {w : World} (hm : MemOk w0 B m w) :
    (Instr.lookup t (cv x) (cv i) ok).run P w = .ok (cv v) w := by
  unfold lookS at h
  split at h
  · split at h
    · rename_i hb
      exact lookV_run hy h hp (hm.each _ (bget_mem hb (by simp))).1
    · rename_i hb
      exact lookV_run hy h hp (hm.each _ (bget_mem hb (by simp))).1
    · cases h
  · cases h
def entS (x : SV) (m : List Blk) : Option (Prop × SV) :=
  match x with
  | .ptr nm r 0 0 0 0 => match bget m nm with
    | .rg _ r' ks _ _ _ (some (c, v)) => some (r = r' ∧ inCs ks c, .tup [keyS ks c, v])
    | _ => none
  | _ => none
theorem entS_run {P : Program} {x : SV} {m : List Blk} {p : Prop} {v : SV} (h : entS x m = some (p, v)) (hp : p) {w0 : World} {B : List Nat} {w : World} (hm : MemOk w0 B m w) :
    (Instr.entry (cv x)).run P w = .ok (cv v) w := by
  unfold entS at h
  split at h
  · rename_i nm r
    split at h
    · rename_i b r' ks f left cnt c u hb
      simp only [Option.some.injEq, Prod.mk.injEq] at h
      obtain ⟨rfl, rfl⟩ := h
      obtain ⟨rfl, h2⟩ := hp
      have h4 := (hm.each _ (bget_mem hb (by simp))).1
      have := map_entry (P := P) h4
      simp only [cv, Nat.zero_mul, Nat.add_zero, cvs, keyS_cv h2]
      exact this
    · cases h
  · cases h

def bld0 (T : Tab) (t : TypeId) (parts : List (Nat × SV)) : Option (Prop × SV) :=
  match T.ty t, T.zc t, parts with
  | .struct 0 [], some (.cells []), [] => some (True, .agg [])
  | _, _, _ => none
theorem bld0_run {P : Program} {T : Tab} (hT : TabOk P T) {t : TypeId} {parts : List (Nat × SV)} {p : Prop} {v : SV} (h : bld0 T t parts = some (p, v)) (w : World) :
    (Instr.build t (parts.map fun p => (p.1, cv p.2)).toArray).run P w = .ok (cv v) w := by
  unfold bld0 at h
  split at h
  · rename_i h1 h2
    simp only [Option.some.injEq, Prod.mk.injEq] at h
    obtain ⟨rfl, rfl⟩ := h
    have hy := hT.ty t
    rw [h1] at hy
    obtain ⟨fields, g1, g2, g3, g4⟩ := hy
    obtain ⟨i, z, k1, k2, k3⟩ := hT.zc _ _ h2
    have z1 : ∀ w, (zeroValue t).run P w = .ok z w := fun w => by simp [zeroValue, typeInfo, k1, k2]
    have e0 : fields.toList = [] := by
      have := congrArg List.length g4
      simpa using this
    have e1 : fields = #[] := by apply Array.ext'; simpa using e0
    unfold Instr.build
    simp only [Sem.run_bind, z1, Result.andThen_ok, k3, run_underlying g1, e1]
    simp [Instr.fill, cv, cc, cvs, go_sem]
  · cases h

def dstep (T : Tab) (env : List SV) (m : List Blk) (o : Oper) : Option (Prop × SV) :=
  match o.op with
  | .move x => some (True, ev T env x)
  | .assign x => some (True, ev T env x)
  | .pick c a b => pickS (ev T env c) (ev T env a) (ev T env b)
  | .binOp op t x y _ => match ifT op (T.ty t) (isC x || isC y) (ev T env x) (ev T env y) with
    | some r => some r
    | none => match binT op (T.ty t) (ev T env x) (ev T env y) with
      | some r => some r
      | none => eqA T op t (ev T env x) (ev T env y)
  | .makeInterface t x => mkI (T.ty t) t (ev T env x)
  | .unOp op _ x => una op (ev T env x)
  | .convert s d x => match convT (T.ty s) (T.ty d) (ev T env x) with
    | some r => some r
    | none => convM T (T.ty s) (T.ty d) (ev T env x) m
  | .extract x i => extS (ev T env x) i
  | .load t x => loadS (T.ty t) (ev T env x) m
  | .indexAddr t x i => idxS (T.ty t) (ev T env x) (ev T env i) m
  | .index t x i => strIx (T.ty t) (ev T env x) (ev T env i)
  | .slice t x lo hi none => sliceS (T.ty t) (ev T env x) (evo T env lo) (evo T env hi) m
  | .nilCheck x => nilS (ev T env x)
  | .sliceToArrayPointer t x => arrPM (T.ty t) (ev T env x) m
  | .makeFunc f a c => some (True, .fn f (evs T env a.toList) (evs T env c.toList))
  | .build t parts => match buildS (T.ty t) (T.zr t) (evp T env parts.toList) with
    | some r => some r
    | none => bld0 T t (evp T env parts.toList)
  | .fieldAddr t x i => fldS (T.ty t) (ev T env x) i
  | .field t x i => fldV T (T.ty t) (ev T env x) i
  | .lookup t x i ok => lookS (T.ty t) (ev T env x) (ev T env i) ok m
  | .entry x => entS (ev T env x) m
  | .call { callee := .builtin b, args, argTypes } =>
    bltS b (tys T argTypes.toList) (evs T env args.toList)
  | _ => none
theorem evo_none (T : Tab) (env : List SV) : evo T env none = none := rfl
theorem evo_map {T : Tab} (hT : ∀ g, cv (T.gl g) = .pointer (some ⟨g, 0, none⟩)) {env : List SV} {a : Act} (h : Fr env a) (x : Option Operand) : x.map a.eval = (evo T env x).map cv := by
  cases x with
  | none => rfl
  | some x => simp [evo, h.ev hT]
theorem evp_map {T : Tab} (hT : ∀ g, cv (T.gl g) = .pointer (some ⟨g, 0, none⟩)) {env : List SV} {a : Act} (h : Fr env a) : ∀ (l : List (Nat × Operand)), l.map (fun p => (p.1, a.eval p.2)) = (evp T env l).map fun p => (p.1, cv p.2)
  | [] => rfl
  | (i, x) :: l => by simp only [evp, List.map_cons, h.ev hT x, evp_map hT h l]
theorem dstep_sound {P : Program} {T : Tab} (hT : TabOk P T) {env : List SV} {m : List Blk} {o : Oper} {p : Prop} {v : SV} (h : dstep T env m o = some (p, v)) (hp : p)
    {a : Act} (hf : Fr env a) {w0 : World} {B : List Nat} {w : World} (hm : MemOk w0 B m w) : (execOp a.eval o).run P w = .ok (.value (cv v)) w := by
  obtain ⟨dst, op, type, pos, after, guard⟩ := o
  unfold dstep at h
  simp only at h
  have E := fun x => hf.ev hT.gl x
  split at h <;> try (exact none_of h)
  · simp only [Option.some.injEq, Prod.mk.injEq] at h; obtain ⟨rfl, rfl⟩ := h
    simp [execOp, E]
  · simp only [Option.some.injEq, Prod.mk.injEq] at h; obtain ⟨rfl, rfl⟩ := h
    simp [execOp, E]
  · simp only [execOp, E]
    exact pickS_run h hp w
  · simp only [execOp, E]
    rename_i op t x y _
    have h1 : (do eqGuard op t x y (cv (ev T env x)) (cv (ev T env y)); binOp op t (cv (ev T env x)) (cv (ev T env y)) : Sem Value).run P w = .ok (cv v) w := by
      split at h
      · rename_i r hr
        simp only [Option.some.injEq] at h; subst h
        exact ifT_run (hT.ty t) hr w
      · split at h
        · rename_i r hr
          simp only [Option.some.injEq] at h; subst h
          exact bin_run (ox := x) (oy := y) (hT.ty t) hr hp w
        · exact eqA_run (ox := x) (oy := y) hT h hp w
    simp only [Sem.run_bind, Sem.run_pure] at h1 ⊢
    rw [h1]; rfl
  · simp only [execOp, E, Sem.run_bind, mkI_run (hT.ty _) h, Result.andThen_ok, Sem.run_pure]
  · simp only [execOp, E, Sem.run_bind, una_run h hp, Result.andThen_ok, Sem.run_pure]
  · split at h
    · rename_i r hr
      simp only [Option.some.injEq] at h; subst h
      simp only [execOp, E, Sem.run_bind, convT_run (hT.ty _) (hT.ty _) hr hp, Result.andThen_ok, Sem.run_pure]
    · simp only [execOp, E, Sem.run_bind, convM_sound hT h hp hm, Result.andThen_ok, Sem.run_pure]
  · simp only [execOp, E, Sem.run_bind, extS_run h hp, Result.andThen_ok, Sem.run_pure]
  · simp only [execOp, E, Sem.run_bind, loadS_sound (hT.ty _) h hp hm, Result.andThen_ok, Sem.run_pure]
  · simp only [execOp, E, Sem.run_bind, idxS_sound (hT.ty _) h hp hm, Result.andThen_ok, Sem.run_pure]
  · simp only [execOp, E, Sem.run_bind, strIx_run (hT.ty _) h hp, Result.andThen_ok, Sem.run_pure]
  · simp only [execOp, E, evo_map hT.gl hf, evo_none, Option.map_none, Sem.run_bind, sliceS_sound (hT.ty _) h hp hm, Result.andThen_ok, Sem.run_pure]
  · simp only [execOp, E]
    unfold nilS at h
    split at h <;> first | exact none_of h | skip
    all_goals
      rename_i hx
      simp only [Option.some.injEq, Prod.mk.injEq] at h; obtain ⟨rfl, rfl⟩ := h
      rw [hx]; simp [cv]
  · simp only [execOp, E, Sem.run_bind, arrPM_run (hT.ty _) h hp hm, Result.andThen_ok, Sem.run_pure]
  · rename_i f xs cs
    simp only [Option.some.injEq, Prod.mk.injEq] at h; obtain ⟨rfl, rfl⟩ := h
    have e1 : xs.map a.eval = (cvs (evs T env xs.toList)).toArray := by apply Array.ext'; rw [← hf.evs hT.gl]; simp
    have e2 : cs.map a.eval = (cvs (evs T env cs.toList)).toArray := by apply Array.ext'; rw [← hf.evs hT.gl]; simp
    simp only [execOp, e1, e2, Instr.makeFunc, Sem.run_bind, Sem.run_pure, Result.andThen_ok, cv]
  · rename_i t parts
    have e1 : (parts.map fun (i, x) => (i, a.eval x)) = ((evp T env parts.toList).map fun p => (p.1, cv p.2)).toArray := by
      rw [← evp_map hT.gl hf]
      apply Array.ext'
      simp
    have hb : (Instr.build t ((evp T env parts.toList).map fun p => (p.1, cv p.2)).toArray).run P w = .ok (cv v) w := by
      split at h
      · rename_i r hr
        simp only [Option.some.injEq] at h; subst h
        exact buildS_sound hT hr hp w
      · exact bld0_run hT h w
    simp only [execOp, e1, Sem.run_bind, hb, Result.andThen_ok, Sem.run_pure]
  · simp only [execOp, E, Sem.run_bind, fldS_run (hT.ty _) h, Result.andThen_ok, Sem.run_pure]
  · simp only [execOp, E, Sem.run_bind, fldV_run hT h hp, Result.andThen_ok, Sem.run_pure]
  · simp only [execOp, E, Sem.run_bind, lookS_run (hT.ty _) h hp hm, Result.andThen_ok, Sem.run_pure]
  · simp only [execOp, E, Sem.run_bind, entS_run h hp hm, Result.andThen_ok, Sem.run_pure]
  · rename_i b args argTypes
    have e1 : args.map a.eval = (cvs (evs T env args.toList)).toArray := by apply Array.ext'; rw [← hf.evs hT.gl]; simp
    simp only [execOp, resolve, Sem.run_bind, Sem.run_pure, Result.andThen_ok, invoke, e1]
    have e2 : argTypes = argTypes.toList.toArray := by simp
    rw [e2]
    exact bltS_run hT h hp w
end Go.Proofs.Ytdanlclhnehieaa

/-
  A symbolic walk of my own: what changes memory.
-/
namespace Go.Proofs.Ytdanlclhnehieaa
set_option linter.unusedSimpArgs false
set_option linter.unusedVariables false
open Go.RowKit

theorem own_grown {w w' : World} {row : Option Nat} (h : w.grownBy w' row) {base : Nat} {t : TypeId} {es n : Nat} {v : Value} {xs : List Value} (ho : w.ownsRow base t es v n xs)
    (hne : ∀ b, row = some b → v.ownBlock ≠ some b) : w'.ownsRow base t es v n xs := by
  obtain ⟨hl, h0⟩ := ho
  refine ⟨hl, ?_⟩
  rcases h0 with h0 | ⟨g, cap, cur, rfl, h1, h2, h3⟩
  · exact .inl h0
  · refine .inr ⟨g, cap, cur, rfl, h1, ?_, h3⟩
    have hg : g < w.heap.size := by
      have := (Array.getElem?_eq_some_iff.1 h2).1; exact this
    rw [h.block g hg (fun e => by
      cases row with
      | none => cases e
      | some b => simp at e; exact hne b rfl (by simp [Value.ownBlock, e]))]
    exact h2
theorem map_lt {w : World} {b : Nat} {ks : List CK} {f : List Int → Option Value} (h : MapIs w b ks f) : b < w.heap.size := by
  obtain ⟨es, clock, h1, _⟩ := h
  exact (Array.getElem?_eq_some_iff.1 h1).1
theorem map_grown {w w' : World} {row : Option Nat} (hg : w.grownBy w' row) {b : Nat} {ks : List CK} {f : List Int → Option Value} (h : MapIs w b ks f) (hne : ∀ k, row = some k → k ≠ b) : MapIs w' b ks f := by
  have hb := map_lt h
  obtain ⟨es, clock, h1, h2⟩ := h
  exact ⟨es, clock, by rw [hg.block b hb (fun e => hne b e.symm rfl)]; exact h1, h2⟩
theorem ownb_lt {w : World} {base : Nat} {t : TypeId} {es n : Nat} {v : Value} {xs : List Value} (h : w.ownsRow base t es v n xs) {b : Nat} (hb : v.ownBlock = some b) : b < w.heap.size := by
  obtain ⟨_, h⟩ := h
  rcases h with ⟨rfl, _⟩ | ⟨g, cap, cur, rfl, _, h2, _⟩
  · simp [Value.ownBlock] at hb
  · simp [Value.ownBlock] at hb; subst hb
    exact (Array.getElem?_eq_some_iff.1 h2).1
theorem wd_lt {w : World} {τ : WTy} {p : Nat} {S : Wst} {l : List Nat} (h : WdOk w τ p S l) {b : Nat} (hb : b ∈ l) : b < w.heap.size := by
  obtain ⟨a, s, t, o, d, vs, vm, rfl, h0, h1, h2, h3, h4, h5, h6, h7⟩ := h
  simp only [List.mem_append, List.mem_singleton, Option.mem_toList, List.not_mem_nil, or_false] at hb
  rcases hb with rfl | rfl | rfl | rfl | rfl | rfl | hb | hb
  · exact (Array.getElem?_eq_some_iff.1 h0).1
  · exact map_lt h1
  · exact map_lt h2
  · exact map_lt h3
  · exact map_lt h4
  · exact map_lt h5
  · exact ownb_lt h6 hb
  · exact ownb_lt h7 hb
theorem wd_grown {w w' : World} {row : Option Nat} (hg : w.grownBy w' row) {τ : WTy} {p : Nat} {S : Wst} {l : List Nat} (h : WdOk w τ p S l) (hne : ∀ k, row = some k → k ∉ l) : WdOk w' τ p S l := by
  have hl : ∀ {b}, b ∈ l → b < w.heap.size := fun hb => wd_lt h hb
  obtain ⟨a, s, t, o, d, vs, vm, rfl, h0, h1, h2, h3, h4, h5, h6, h7⟩ := h
  have hn : ∀ b, b ∈ [p] ++ ([a] ++ ([s] ++ ([t] ++ ([o] ++ ([d] ++ (vs.ownBlock.toList ++ (vm.ownBlock.toList ++ []))))))) → ∀ k, row = some k → k ≠ b := fun b hb k hk e => hne k hk (e ▸ hb)
  refine ⟨a, s, t, o, d, vs, vm, rfl, ?_, map_grown hg h1 (hn a (by simp)), map_grown hg h2 (hn s (by simp)), map_grown hg h3 (hn t (by simp)), map_grown hg h4 (hn o (by simp)), map_grown hg h5 (hn d (by simp)),
    own_grown hg h6 (fun b hb e => hn b (by simp [e]) b hb rfl), own_grown hg h7 (fun b hb e => hn b (by simp [e]) b hb rfl)⟩
  rw [hg.block p (hl (by simp)) (fun e => hn p (by simp) p e.symm rfl)]
  exact h0
theorem bnum_lt {w0 : World} {B : List Nat} {w : World} {e : Blk} (h : e.ok w0 B w) {b : Nat} (hb : b ∈ e.nums) : b < w.heap.size := by
  cases e with
  | blk b' t con =>
    simp [Blk.nums] at hb; subst hb
    exact (Array.getElem?_eq_some_iff.1 h.1).1
  | own v n t es con =>
    obtain ⟨⟨_, h⟩, _⟩ := h
    rcases h with ⟨rfl, _⟩ | ⟨g, cap, cur, rfl, _, h2, _⟩
    · simp [Blk.nums, Value.ownBlock] at hb
    · simp [Blk.nums, Value.ownBlock] at hb; subst hb
      exact (Array.getElem?_eq_some_iff.1 h2).1
  | heap l =>
    obtain ⟨p, hp, rfl⟩ := List.mem_map.1 hb
    exact (Array.getElem?_eq_some_iff.1 (h p hp).1).1
  | ro a con => simp [Blk.nums] at hb
  | old h => simp [Blk.nums] at hb
  | wd τ p S l => exact wd_lt h.1 hb
  | mo b ks f => simp [Blk.nums] at hb
  | mp b' ks f =>
    simp [Blk.nums] at hb; subst hb
    obtain ⟨⟨es, clock, h1, _⟩, _⟩ := h
    exact (Array.getElem?_eq_some_iff.1 h1).1
  | rg b' r ks f left cnt last =>
    obtain ⟨⟨es, clock, since, seen, c0, h1, _, _, h2, _⟩, _⟩ := h
    simp only [Blk.nums, List.mem_cons, List.not_mem_nil, or_false] at hb
    rcases hb with rfl | rfl
    · exact (Array.getElem?_eq_some_iff.1 h1).1
    · exact (Array.getElem?_eq_some_iff.1 h2).1
  | gone => simp [Blk.nums] at hb
theorem ok_grown {w0 : World} {B : List Nat} {w w' : World} {row : Option Nat} (h : w.grownBy w' row) (hrow : ∀ b, row = some b → w0.heap.size ≤ b ∨ b ∈ B) (_hsz : w0.heap.size ≤ w.heap.size)
    {e : Blk} (he : e.ok w0 B w) (hne : ∀ b, row = some b → b ∉ e.nums) : e.ok w0 B w' := by
  cases e with
  | blk b t con =>
    refine ⟨?_, he.2⟩
    have hb := bnum_lt he (b := b) (by simp [Blk.nums])
    rw [h.block b hb (fun e => hne b e.symm (by simp [Blk.nums]))]
    exact he.1
  | own v n t es con => exact ⟨own_grown h he.1 (fun b hb => by simpa [Blk.nums] using hne b hb), he.2⟩
  | heap l =>
    intro p hp
    have hb := bnum_lt he (b := p.1) (List.mem_map_of_mem hp)
    exact ⟨by rw [h.block p.1 hb (fun e => hne p.1 e.symm (List.mem_map_of_mem hp))]; exact (he p hp).1, (he p hp).2⟩
  | old g =>
    intro b o hbo
    obtain ⟨h1, h2, h3⟩ := he b o hbo
    refine ⟨?_, h2, h3⟩
    rw [h.block b (Nat.lt_of_lt_of_le h2 _hsz) (fun e => ?_)]
    · exact h1
    · rcases hrow b e.symm with h4 | h4
      · omega
      · exact h3 h4
  | wd τ p S l => exact ⟨wd_grown h he.1 hne, he.2⟩
  | mo b ks f =>
    obtain ⟨h1, h2, h3⟩ := he
    refine ⟨map_grown h h1 (fun k hk e => ?_), h2, h3⟩
    subst e
    rcases hrow k hk with h4 | h4
    · omega
    · exact h3 h4
  | mp b ks f =>
    have hb := bnum_lt he (b := b) (by simp [Blk.nums])
    obtain ⟨⟨es, clock, h1, h2⟩, h3⟩ := he
    exact ⟨⟨es, clock, by rw [h.block b hb (fun e => hne b e.symm (by simp [Blk.nums]))]; exact h1, h2⟩, h3⟩
  | rg b r ks f left cnt last =>
    have hb := bnum_lt he (b := b) (by simp [Blk.nums])
    have hr := bnum_lt he (b := r) (by simp [Blk.nums])
    obtain ⟨⟨es, clock, since, seen, c0, h1, h2, h4, h5, h6⟩, h3⟩ := he
    exact ⟨⟨es, clock, since, seen, c0, by rw [h.block b hb (fun e => hne b e.symm (by simp [Blk.nums]))]; exact h1, h2, h4, by rw [h.block r hr (fun e => hne r e.symm (by simp [Blk.nums]))]; exact h5, h6⟩, h3⟩
  | ro a con =>
    intro j u hj
    obtain ⟨b, off, rfl, h1, h2, h3⟩ := he j u hj
    refine ⟨b, off, rfl, h1, h2, ?_⟩
    refine h.cell h3 (fun e => ?_)
    rcases hrow b e.symm with h4 | h4
    · omega
    · exact h2 h4
  | gone => trivial
theorem MemOk.grow {w0 : World} {B : List Nat} {m : List Blk} {w w' : World} (h : MemOk w0 B m w) (hg : w.grownBy w' none) : MemOk w0 B m w' :=
  ⟨hg.os.trans h.os, hg.tape.trans h.tape, hg.output.trans h.output, Nat.le_trans h.size hg.size, fun k hk hb => (hg.block k (Nat.lt_of_lt_of_le hk h.size) (by simp)).trans (h.old k hk hb),
    fun e he => ok_grown hg (by simp) h.size (h.each e he) (by simp), h.nodup⟩
def oneNum : Blk → Bool
  | .heap _ => false
  | .rg _ _ _ _ _ _ _ => false
  | .wd _ _ _ _ => false
  | _ => true
theorem oneNum_nodup {e : Blk} (h : oneNum e = true) : e.nums.Nodup := by
  cases e with
  | heap l => cases h
  | rg b r ks f left cnt last => cases h
  | wd τ p S l => cases h
  | own v n t es con => simp only [Blk.nums]; cases v.ownBlock <;> simp
  | _ => simp [Blk.nums]
theorem MemOk.push {w0 : World} {B : List Nat} {m : List Blk} {w w' : World} (h : MemOk w0 B m w) (hg : w.grownBy w' none) {e : Blk} (he : e.ok w0 B w') (hn : ∀ b ∈ e.nums, w.heap.size ≤ b) (hd : e.nums.Nodup := by exact oneNum_nodup rfl) :
    MemOk w0 B (m ++ [e]) w' := by
  have h1 := h.grow hg
  refine ⟨h1.os, h1.tape, h1.output, h1.size, h1.old, fun x hx => ?_, ?_⟩
  · rcases List.mem_append.1 hx with hx | hx
    · exact h1.each x hx
    · rw [List.mem_singleton.1 hx]; exact he
  · rw [List.flatMap_append, List.nodup_append]
    refine ⟨h.nodup, ?_, ?_⟩
    · simpa using hd
    · intro a ha b hb hab
      subst hab
      obtain ⟨x, hx, hxa⟩ := List.mem_flatMap.1 ha
      obtain ⟨y, hy, hya⟩ := List.mem_flatMap.1 hb
      rw [List.mem_singleton.1 hy] at hya
      have h2 := bnum_lt (h.each x hx) hxa
      have h3 := hn a hya
      omega
theorem nodup_bset : ∀ {l : List Blk} {n : Nat} {e e0 : Blk}, bget l n = e0 → e0 ≠ .gone → (l.flatMap Blk.nums).Nodup → e.nums.Nodup →
    (∀ b ∈ e.nums, b ∈ e0.nums ∨ b ∉ l.flatMap Blk.nums) →
    ((bset l n e).flatMap Blk.nums).Nodup ∧ (∀ x ∈ bset l n e, x = e ∨ (x ∈ l ∧ ∀ b ∈ e0.nums, b ∉ x.nums))
  | [], _, _, _, h, hn, _, _, _ => absurd h.symm hn
  | x :: l, 0, e, e0, h, hn, hd, hee, hb => by
    simp only [bget] at h; subst h
    rw [List.flatMap_cons, List.nodup_append] at hd
    obtain ⟨d1, d2, d3⟩ := hd
    refine ⟨?_, fun y hy => ?_⟩
    · simp only [bset]
      rw [List.flatMap_cons, List.nodup_append]
      refine ⟨hee, d2, fun a ha b hbm hab => ?_⟩
      subst hab
      rcases hb a ha with h1 | h1
      · exact d3 a h1 a hbm rfl
      · exact h1 (by rw [List.flatMap_cons]; exact List.mem_append_right _ hbm)
    · simp only [bset] at hy
      rcases List.mem_cons.1 hy with hy | hy
      · exact .inl hy
      · refine .inr ⟨List.mem_cons_of_mem _ hy, fun b hxb hyb => d3 b hxb b (List.mem_flatMap.2 ⟨y, hy, hyb⟩) rfl⟩
  | x :: l, n + 1, e, e0, h, hn, hd, hee, hb => by
    simp only [bget] at h
    rw [List.flatMap_cons, List.nodup_append] at hd
    obtain ⟨d1, d2, d3⟩ := hd
    have he0 := bget_mem h hn
    have ih := nodup_bset (e := e) h hn d2 hee (fun b hbe => (hb b hbe).imp id (fun h1 h2 => h1 (by rw [List.flatMap_cons]; exact List.mem_append_right _ h2)))
    refine ⟨?_, fun y hy => ?_⟩
    · simp only [bset]
      rw [List.flatMap_cons, List.nodup_append]
      refine ⟨d1, ih.1, fun a ha b hbm hab => ?_⟩
      subst hab
      obtain ⟨y, hy, hyb⟩ := List.mem_flatMap.1 hbm
      rcases ih.2 y hy with rfl | ⟨hy', _⟩
      · rcases hb a hyb with h1 | h1
        · exact d3 a ha a (List.mem_flatMap.2 ⟨e0, he0, h1⟩) rfl
        · exact h1 (by rw [List.flatMap_cons]; exact List.mem_append_left _ ha)
      · exact d3 a ha a (List.mem_flatMap.2 ⟨y, hy', hyb⟩) rfl
    · simp only [bset] at hy
      rcases List.mem_cons.1 hy with hy | hy
      · subst hy
        refine .inr ⟨List.mem_cons_self, fun b hb0 hyb => d3 b hyb b (List.mem_flatMap.2 ⟨e0, he0, hb0⟩) rfl⟩
      · rcases ih.2 y hy with h1 | ⟨h1, h2⟩
        · exact .inl h1
        · exact .inr ⟨List.mem_cons_of_mem _ h1, h2⟩
theorem MemOk.turn {w0 : World} {B : List Nat} {m : List Blk} {w w' : World} (h : MemOk w0 B m w) {nm : Nat} {e0 e : Blk} (hb : bget m nm = e0) (hn : e0 ≠ .gone) {row : Option Nat} (hg : w.grownBy w' row) (hrow : ∀ b, row = some b → b ∈ e0.nums)
    (hr : ∀ b ∈ e0.nums, w0.heap.size ≤ b ∨ b ∈ B) (he : e.ok w0 B w') (hnum : ∀ b ∈ e.nums, b ∈ e0.nums ∨ w.heap.size ≤ b) (hee : e.nums.Nodup := by exact oneNum_nodup rfl) : MemOk w0 B (bset m nm e) w' := by
  have hd := nodup_bset (e := e) hb hn h.nodup hee (fun b hbe => (hnum b hbe).imp id (fun h1 h2 => by
    obtain ⟨x, hx, hxb⟩ := List.mem_flatMap.1 h2
    have := bnum_lt (h.each x hx) hxb
    omega))
  have hr' : ∀ b, row = some b → w0.heap.size ≤ b ∨ b ∈ B := fun b hb => hr b (hrow b hb)
  refine ⟨hg.os.trans h.os, hg.tape.trans h.tape, hg.output.trans h.output, Nat.le_trans h.size hg.size, fun k hk hkb => ?_, fun x hx => ?_, hd.1⟩
  · rw [hg.block k (Nat.lt_of_lt_of_le hk h.size) (fun e => ?_)]
    · exact h.old k hk hkb
    · rcases hr' k e.symm with h4 | h4
      · omega
      · exact hkb h4
  · rcases hd.2 x hx with rfl | ⟨h1, h2⟩
    · exact he
    · exact ok_grown hg hr' h.size (h.each x h1) (fun b hb => h2 b (hrow b hb))

def svLen : SV → Nat
  | .word _ => 4
  | .ints _ xs => xs.length
  | .agg cs => cs.length
  | _ => 1
def conStore (con : Con) (i sz j : Nat) (v : SV) : Option (Prop × Con) :=
  match con, v with
  | .ints k xs, .int k' n => match sz, sameK k k' with | 0, true => some (j < xs.length, .ints k (xs.set j n)) | _, _ => none
  | .ints k xs, .ints k' ys => match sz, sameK k k' with | 0, true => some (j = 0 ∧ ys.length = xs.length, .ints k ys) | _, _ => none
  | .ints .u64 xs, .word a => match sz with | 0 => some (j = 0 ∧ xs.length = 4, .words [a]) | _ => none
  | .words xs, .word a => match sz with
    | 0 => some (j = 0 ∧ 0 < xs.length, .words (xs.set 0 a))
    | 4 => some (j = 0 ∧ i < xs.length, .words (xs.set i a))
    | _ => none
  | .words [a], .int .u64 n => match sz with | 0 => some (j < 4, .ints .u64 (([((lm a 0 : Nat) : Int), (lm a 1 : Nat), (lm a 2 : Nat), (lm a 3 : Nat)]).set j n)) | _ => none
  | .words [_], .agg [.int .u64 x0, .int .u64 x1, .int .u64 x2, .int .u64 x3] => match sz, j with | 0, 0 => some (True, .ints .u64 [x0, x1, x2, x3]) | _, _ => none
  | .cells l, v => match cellsOf v with
    | some cs => match allOne cs, splice l (i * sz + j) cs with | true, some l' => some (True, .cells l') | _, _ => none
    | none => none
  | .rows n xs, .agg cs => match n == sz, cs.length == n, allOne cs, j with
    | true, true, true, 0 => some (i < xs.length ∧ ∀ r ∈ xs, r.length = n, .rows n (xs.set i cs))
    | _, _, _, _ => none
  | .rows n xs, v => match n == sz, cellsOf v with
    | true, some cs => match allOne cs, splice (xs.getD i []) j cs with | true, some r => some (i < xs.length ∧ ∀ r ∈ xs, r.length = n, .rows n (xs.set i r)) | _, _ => none
    | _, _ => none
  | _, _ => none
def Over (xs : List Value) (pos : Nat) (vs xs' : List Value) : Prop := pos + vs.length ≤ xs.length ∧ xs' = xs.take pos ++ vs ++ xs.drop (pos + vs.length) ∧ ∀ u ∈ vs, u.oneCell' = true
theorem over_one {xs : List Value} {pos : Nat} {u : Value} (h : pos < xs.length) (hu : u.oneCell' = true) : Over xs pos [u] (xs.set pos u) := by
  refine ⟨by simp; omega, ?_, by simpa using hu⟩
  rw [List.set_eq_take_append_cons_drop, if_pos h]
  simp
theorem over_all {xs vs : List Value} (h : vs.length = xs.length) (hu : ∀ u ∈ vs, u.oneCell' = true) : Over xs 0 vs vs := by
  refine ⟨by omega, ?_, hu⟩
  rw [Nat.zero_add, h]; simp
theorem over_flat {α : Type} (f : α → List Value) (n : Nat) : ∀ (xs : List α) (i : Nat) (y : α), (∀ r ∈ xs, (f r).length = n) → (f y).length = n → i < xs.length → (∀ u ∈ f y, u.oneCell' = true) →
    Over (xs.flatMap f) (i * n) (f y) ((xs.set i y).flatMap f)
  | [], i, y, _, _, h, _ => by simp at h
  | x :: xs, 0, y, hl, hy, _, hu => by
    have hx := hl x List.mem_cons_self
    refine ⟨by simp [hy, hx], ?_, hu⟩
    simp [hy, hx]
  | x :: xs, i + 1, y, hl, hy, hi, hu => by
    have hx := hl x List.mem_cons_self
    obtain ⟨h1, h2, h3⟩ := over_flat f n xs i y (fun r hr => hl r (List.mem_cons_of_mem _ hr)) hy (by simpa using hi) hu
    have e : (i + 1) * n = (f x).length + i * n := by rw [Nat.add_mul, hx]; omega
    rw [e]
    generalize i * n = q at *
    refine ⟨by simp only [List.flatMap_cons, List.length_append]; omega, ?_, hu⟩
    simp only [List.set_cons_succ, List.flatMap_cons, h2]
    rw [List.take_length_add_append, show (f x).length + q + (f y).length = (f x).length + (q + (f y).length) by omega, List.drop_length_add_append]
    simp [List.append_assoc]
end Go.Proofs.Ytdanlclhnehieaa

/-
  A symbolic walk of my own: a store is right.
-/
namespace Go.Proofs.Ytdanlclhnehieaa
set_option linter.unusedSimpArgs false
set_option linter.unusedVariables false
open Go.RowKit

theorem cvs_app (a b : List SV) : cvs (a ++ b) = cvs a ++ cvs b := by simp [cvs_eq]
theorem cvs_take (l : List SV) (n : Nat) : cvs (l.take n) = (cvs l).take n := by simp [cvs_eq]
theorem cvs_drop (l : List SV) (n : Nat) : cvs (l.drop n) = (cvs l).drop n := by simp [cvs_eq]
theorem over_splice {l : List SV} {n : Nat} {ys r : List SV} (h : splice l n ys = some r) (h1 : allOne ys = true) : Over (cvs l) n (cvs ys) (cvs r) := by
  obtain ⟨h2, h3⟩ := splice_some h
  refine ⟨by rw [cvs_len, cvs_len]; exact h2, ?_, allOne_mem h1⟩
  rw [h3, cvs_app, cvs_app, cvs_take, cvs_drop, cvs_len]
theorem over_flat_in {α : Type} (f : α → List Value) (n : Nat) : ∀ (xs : List α) (i j : Nat) (x y : α) (vs : List Value), (∀ r ∈ xs, (f r).length = n) → xs[i]? = some x → Over (f x) j vs (f y) →
    Over (xs.flatMap f) (i * n + j) vs ((xs.set i y).flatMap f)
  | [], i, j, x, y, vs, _, h, _ => by simp at h
  | z :: xs, 0, j, x, y, vs, hl, h, ho => by
    simp at h; subst h
    obtain ⟨h1, h2, h3⟩ := ho
    refine ⟨by simp; omega, ?_, h3⟩
    simp only [List.set_cons_zero, List.flatMap_cons, h2, Nat.zero_mul, Nat.zero_add]
    rw [List.take_append_of_le_length (by omega), List.drop_append_of_le_length h1]
    simp [List.append_assoc]
  | z :: xs, i + 1, j, x, y, vs, hl, h, ho => by
    have hx := hl z List.mem_cons_self
    obtain ⟨h1, h2, h3⟩ := over_flat_in f n xs i j x y vs (fun r hr => hl r (List.mem_cons_of_mem _ hr)) (by simpa using h) ho
    have e : (i + 1) * n + j = (f z).length + (i * n + j) := by rw [Nat.add_mul, hx]; omega
    rw [e]
    generalize i * n + j = q at *
    refine ⟨by simp only [List.flatMap_cons, List.length_append]; omega, ?_, h3⟩
    simp only [List.set_cons_succ, List.flatMap_cons, h2]
    rw [List.take_length_add_append, show (f z).length + q + vs.length = (f z).length + (q + vs.length) by omega, List.drop_length_add_append]
    simp [List.append_assoc]
theorem cvs_ints4 (x0 x1 x2 x3 : Int) : cvs [.int .u64 x0, .int .u64 x1, .int .u64 x2, .int .u64 x3] = [x0, x1, x2, x3].map (Value.int .u64) := rfl
theorem conStore_sound {con con' : Con} {i sz j : Nat} {v : SV} {p : Prop} (h : conStore con i sz j v = some (p, con')) (hp : p) : Over (cc con) (i * sz + j) (cv v).cells.toList (cc con') := by
  unfold conStore at h
  split at h
  · rename_i k xs k' n
    split at h
    · rename_i hk
      obtain rfl := sameK_eq hk
      simp only [Option.some.injEq, Prod.mk.injEq] at h; obtain ⟨rfl, rfl⟩ := h
      have := over_one (xs := xs.map (Value.int k)) (pos := j) (u := .int k n) (by simpa using hp) rfl
      simpa [cc, cv, Value.cells] using this
    · exact none_of h
  · rename_i k xs k' ys
    split at h
    · rename_i hk
      obtain rfl := sameK_eq hk
      simp only [Option.some.injEq, Prod.mk.injEq] at h; obtain ⟨rfl, rfl⟩ := h
      obtain ⟨rfl, h2⟩ := hp
      have := over_all (xs := xs.map (Value.int k)) (vs := ys.map (Value.int k)) (by simpa using h2) (int_one _ _)
      simpa [cc, cv, Value.cells] using this
    · exact none_of h
  · rename_i xs a
    split at h
    · simp only [Option.some.injEq, Prod.mk.injEq] at h; obtain ⟨rfl, rfl⟩ := h
      obtain ⟨rfl, h2⟩ := hp
      have := over_all (xs := xs.map (Value.int .u64)) (vs := wcs a) (by rw [wcs_len]; simpa using h2.symm) (wcs_one a)
      simpa [cc, cv, Value.cells] using this
    · exact none_of h
  · rename_i xs a
    split at h
    · simp only [Option.some.injEq, Prod.mk.injEq] at h; obtain ⟨rfl, rfl⟩ := h
      obtain ⟨rfl, h2⟩ := hp
      have := over_flat wcs 4 xs 0 a (fun r _ => wcs_len r) (wcs_len a) h2 (wcs_one a)
      simpa [cc, cv, Value.cells] using this
    · simp only [Option.some.injEq, Prod.mk.injEq] at h; obtain ⟨rfl, rfl⟩ := h
      obtain ⟨rfl, h2⟩ := hp
      have := over_flat wcs 4 xs i a (fun r _ => wcs_len r) (wcs_len a) h2 (wcs_one a)
      simpa [cc, cv, Value.cells] using this
    · exact none_of h
  · rename_i a n
    split at h
    · simp only [Option.some.injEq, Prod.mk.injEq] at h; obtain ⟨rfl, rfl⟩ := h
      have := over_one (xs := wcs a) (pos := j) (u := .int .u64 n) (by rw [wcs_len]; exact hp) rfl
      simpa [cc, cv, Value.cells, wcs_ints] using this
    · exact none_of h
  · rename_i a x0 x1 x2 x3
    split at h
    · simp only [Option.some.injEq, Prod.mk.injEq] at h; obtain ⟨rfl, rfl⟩ := h
      have := over_all (xs := wcs a) (vs := [x0, x1, x2, x3].map (Value.int .u64)) rfl (int_one _ _)
      simpa [cc, cv, Value.cells, cvs_ints4] using this
    · exact none_of h
  · split at h
    · rename_i cs hcs
      split at h
      · rename_i l' h1 hs
        simp only [Option.some.injEq, Prod.mk.injEq] at h; obtain ⟨rfl, rfl⟩ := h
        rw [cellsOf_some hcs]
        exact over_splice hs h1
      · exact none_of h
    · exact none_of h
  · rename_i n xs cs
    split at h
    · rename_i hn hl h1
      simp only [Option.some.injEq, Prod.mk.injEq] at h; obtain ⟨rfl, rfl⟩ := h
      have hn' : n = sz := by simpa using hn
      have hl' : cs.length = n := by simpa using hl
      subst hn'
      have := over_flat cvs n xs i cs (fun r hr => by rw [cvs_len]; exact hp.2 r hr) (by rw [cvs_len]; exact hl') hp.1 (allOne_mem h1)
      simpa [cc, cv, Value.cells] using this
    · exact none_of h
  · rename_i n xs _
    split at h
    · rename_i cs hn hcs
      split at h
      · rename_i r h1 hs
        simp only [Option.some.injEq, Prod.mk.injEq] at h; obtain ⟨rfl, rfl⟩ := h
        have hn' : n = sz := by simpa using hn
        subst hn'
        rw [cellsOf_some hcs]
        exact over_flat_in cvs n xs i j _ _ _ (fun r hr => by rw [cvs_len]; exact hp.2 r hr) (getD_get [] hp.1) (over_splice hs h1)
      · exact none_of h
    · exact none_of h
  · exact none_of h

def storeS (y : Ty) (x v : SV) (m : List Blk) : Option (Prop × List Blk) :=
  match x with
  | .ptr nm b base i sz j =>
    match bget m nm with
    | .blk b' t con => match tsz y, conStore con i sz j v with
      | some n, some (q, con') => some (b = b' ∧ base = 0 ∧ svLen v = n ∧ q, bset m nm (.blk b' t con'))
      | _, _ => none
    | .own u n t es con => match tsz y, conStore con i sz j v with
      | some k, some (q, con') => some (b = blkOf u ∧ base = 0 ∧ svLen v = k ∧ 0 < k ∧ q, bset m nm (.own u n t es con'))
      | _, _ => none
    | _ => none
  | _ => none
theorem svLen_cells {con con' : Con} {i sz j : Nat} {v : SV} {p : Prop} (h : conStore con i sz j v = some (p, con')) : (cv v).cells.size = svLen v := by
  unfold conStore at h
  have hc : ∀ {v : SV} {cs : List SV}, cellsOf v = some cs → (cv v).cells.size = svLen v := by
    intro v cs h
    rw [cellsOf_some h]
    unfold cellsOf at h
    split at h <;> first | (cases h; done) | (simp only [Option.some.injEq] at h; subst h; simp [svLen, cvs_len, intsL_len])
  split at h <;> first | (simp [cv, Value.cells, svLen, wcs_len, cvs_len]; done) | skip
  · split at h
    · rename_i hcs; exact hc hcs
    · exact none_of h
  · split at h
    · rename_i hcs; exact hc hcs
    · exact none_of h
  · exact none_of h
theorem setRow_grown (w : World) (g : Nat) (cs : Array Value) : w.grownBy (w.setRow g cs) (some g) :=
  ⟨rfl, rfl, rfl, by simp [World.setRow], fun k _ hk => by
    simp only [World.setRow, Array.getElem?_modify]
    rw [if_neg (fun e => hk (by rw [e]))]⟩
theorem setRow_E {w : World} {g : Nat} {c cs : Array Value} {t : TypeId} (h : w.heap[g]? = some (.cells c t (0, 0))) : (w.setRow g cs).heap[g]? = some (.cells cs t (0, 0)) := by
  simp only [World.setRow, Array.getElem?_modify, if_true, h, Option.map_some]
theorem run_storeAt {P : Program} {t : TypeId} {n : Nat} (hs : Sz P t n) {b off : Nat} {v : SV} (hn : svLen v = n) (hv : (cv v).cells.size = svLen v) {w : World} {cur : Array Value} {et : TypeId}
    (hb : w.heap[b]? = some (.cells cur et (0, 0))) (hl : off + (cv v).cells.toList.length ≤ cur.size) (h1 : ∀ u ∈ (cv v).cells.toList, u.oneCell' = true) :
    (Instr.storeAt t (.pointer (some ⟨b, off, none⟩)) (cv v)).run P w = .ok () (w.setRow b (cur.toList.take off ++ (cv v).cells.toList ++ cur.toList.drop (off + (cv v).cells.toList.length)).toArray) := by
  have := run_storeCells_at (P := P) b off et (cv v).cells.toList 0 cur w hb (by simpa using hl) h1
  simp only [Nat.add_zero] at this
  simp only [Instr.storeAt, Instr.sureAddr, storeVar, Sem.run_bind, Sem.run_pure, Result.andThen_ok, hs.run]
  rw [if_neg (by rw [hv, hn]; simp)]
  exact this
theorem take_over {l vs : List Value} {q L : Nat} (h : q + vs.length ≤ L) (hL : L ≤ l.length) :
    (l.take q ++ vs ++ l.drop (q + vs.length)).take L = (l.take L).take q ++ vs ++ (l.take L).drop (q + vs.length) := by
  rw [List.take_take, Nat.min_eq_left (by omega), List.drop_take]
  rw [List.take_append, List.take_of_length_le (by simp; omega)]
  congr 2
  simp; omega
theorem storeS_sound {P : Program} {T : Tab} (hT : TabOk P T) {t : TypeId} {x v : SV} {m m' : List Blk} {p : Prop} (h : storeS (T.ty t) x v m = some (p, m')) (hp : p)
    {w0 : World} {B : List Nat} {w : World} (hm : MemOk w0 B m w) : ∃ w', (Instr.storeAt t (cv x) (cv v)).run P w = .ok () w' ∧ MemOk w0 B m' w' := by
  unfold storeS at h
  split at h
  · rename_i nm b base i sz j
    split at h
    · rename_i b' et con hbg
      split at h
      · rename_i n q con' hn hc
        simp only [Option.some.injEq, Prod.mk.injEq] at h; obtain ⟨rfl, rfl⟩ := h
        obtain ⟨rfl, rfl, h2, h3⟩ := hp
        have h4 := hm.each _ (bget_mem hbg (by simp))
        obtain ⟨o1, o2, o3⟩ := conStore_sound hc h3
        refine ⟨_, run_storeAt (hT.sz _ _ hn) h2 (svLen_cells hc) h4.1 (by simpa using o1) o3, ?_⟩
        refine hm.turn hbg (by simp) (setRow_grown _ _ _) (fun b hb => by cases hb; simp [Blk.nums]) (fun b hb => by simp [Blk.nums] at hb; subst hb; exact h4.2) ⟨?_, h4.2⟩ (fun b hb => .inl (by simpa [Blk.nums] using hb))
        rw [setRow_E h4.1, o2]
        simp
      · exact none_of h
    · rename_i u n et es con hbg
      split at h
      · rename_i k q con' hn hc
        simp only [Option.some.injEq, Prod.mk.injEq] at h; obtain ⟨rfl, rfl⟩ := h
        obtain ⟨rfl, rfl, h2, h2p, h3⟩ := hp
        have h4 := hm.each _ (bget_mem hbg (by simp))
        obtain ⟨o1, o2, o3⟩ := conStore_sound hc h3
        obtain ⟨⟨hl, h5⟩, h4b⟩ := h4
        rcases h5 with ⟨rfl, rfl⟩ | ⟨g, cap, cur, rfl, g1, g2, g3, g4, g5, g6⟩
        · exfalso
          rw [Nat.zero_mul] at hl
          have e : (cv v).cells.toList.length = 0 := by omega
          have e2 : (cv v).cells.toList.length = svLen v := by rw [← svLen_cells hc]; simp
          omega
        · have hcl : (cc con).length ≤ cur.size := by rw [hl, g5]; exact Nat.mul_le_mul_right _ g3
          refine ⟨_, run_storeAt (hT.sz _ _ hn) h2 (svLen_cells hc) g2 (by simp at o1 ⊢; omega) o3, ?_⟩
          refine hm.turn hbg (by simp) (setRow_grown _ _ _) (fun b hb => by cases hb; simp [Blk.nums, Value.ownBlock, blkOf, blkO]) (fun b hb => by simp [Blk.nums, Value.ownBlock] at hb; subst hb; exact h4b _ rfl) ⟨⟨?_, .inr ⟨g, cap, _, rfl, g1, setRow_E g2, g3, g4, ?_, ?_⟩⟩, h4b⟩ (fun b hb => .inl (by simpa [Blk.nums, Value.ownBlock] using hb))
          · rw [o2]; simp; simp at o1; omega
          · simp at o1 ⊢; omega
          · rw [o2, Nat.zero_add]
            rw [← g6] at o1 ⊢
            rw [List.length_take] at o1
            generalize (cv v).cells.toList = vs at *
            have hL : i * sz + j + vs.length ≤ n * es := by omega
            have hL2 : n * es ≤ cur.toList.length := by simp; rw [g5]; exact Nat.mul_le_mul_right _ g3
            generalize i * sz + j = q at *
            generalize n * es = L at *
            rw [List.toList_toArray]
            exact take_over hL hL2
      · exact none_of h
    · exact none_of h
  · exact none_of h
end Go.Proofs.Ytdanlclhnehieaa

/-
  A symbolic walk of my own: new memory, append.
-/
namespace Go.Proofs.Ytdanlclhnehieaa
set_option linter.unusedSimpArgs false
set_option linter.unusedVariables false
open Go.RowKit

def blen : List Blk → Nat
  | [] => 0
  | _ :: l => blen l + 1
def bpush : List Blk → Blk → List Blk
  | [], e => [e]
  | x :: l, e => x :: bpush l e
theorem bpush_eq : ∀ (l : List Blk) (e : Blk), bpush l e = l ++ [e]
  | [], _ => rfl
  | x :: l, e => by simp [bpush, bpush_eq l e]
def boxCon (x : SV) : Option Con :=
  match x with
  | .word a => some (.words [a])
  | .ints k xs => some (.ints k xs)
  | .int k n => some (.ints k [n])
  | x => match cellsOf x with | some cs => some (.cells cs) | none => none
theorem boxCon_some {x : SV} {c : Con} (h : boxCon x = some c) : (cv x).cells = (cc c).toArray := by
  unfold boxCon at h
  split at h
  · simp at h; subst h; simp [cv, Value.cells, cc]
  · simp at h; subst h; simp [cv, Value.cells, cc]
  · simp at h; subst h; simp [cv, Value.cells, cc]
  · split at h
    · rename_i hcs; simp at h; subst h; exact cellsOf_some hcs
    · cases h
theorem alloc_new {w0 : World} {B : List Nat} {m : List Blk} {w : World} (hm : MemOk w0 B m w) (t : TypeId) (c : Con) :
    MemOk w0 B (bpush m (.blk w.heap.size t c)) (w.alloc (.cells (cc c).toArray t)) := by
  rw [bpush_eq]
  refine hm.push (World.grownBy_alloc w _ none) ⟨?_, .inl hm.size⟩ (fun b hb => by simp [Blk.nums] at hb; omega)
  exact heap_alloc_new w _
def zerosC (c : Option Con) (n : Nat) : Option Con :=
  match c with
  | some (.ints k [z]) => some (.ints k (List.replicate n z))
  | some (.words [a]) => some (.words (List.replicate n a))
  | some (.cells l) => some (.rows l.length (List.replicate n l))
  | _ => none
theorem made_flat (z : List Value) (hz : 0 < z.length) (n : Nat) : (madeCells z.toArray (n * z.length)).toList = (List.replicate n z).flatMap id := by
  apply List.ext_getElem?
  intro i
  have hlen : ((List.replicate n z).flatMap id).length = n * z.length := by simp
  by_cases hi : i < n * z.length
  · have hd : i / z.length < n := (Nat.div_lt_iff_lt_mul hz).2 hi
    have hm : i % z.length < z.length := Nat.mod_lt _ hz
    have h1 := flat_get id z.length (List.replicate n z) (i / z.length) (i % z.length) z (fun r hr => by rw [List.eq_of_mem_replicate hr]; rfl) (by simp [hd]) hm
    rw [Nat.div_add_mod' i z.length] at h1
    rw [h1]
    simp [madeCells, hi, hm]
  · rw [List.getElem?_eq_none (by simp [size_madeCells]; omega), List.getElem?_eq_none (by omega)]
theorem zerosC_cells {c c' : Con} {n : Nat} (h : zerosC (some c) n = some c') : cc c' = (List.replicate n (cc c)).flatMap id := by
  unfold zerosC at h
  split at h
  · rename_i k z hz
    simp at hz h; subst hz; subst h
    induction n with
    | zero => rfl
    | succ n ih => simp only [List.replicate_succ, List.flatMap_cons, cc, List.map_cons, List.map_nil, id] at ih ⊢; rw [← ih]; rfl
  · rename_i a hz
    simp at hz h; subst hz; subst h
    induction n with
    | zero => rfl
    | succ n ih => simp only [List.replicate_succ, List.flatMap_cons, cc, List.flatMap_nil, List.append_nil, id] at ih ⊢; rw [← ih]
  · rename_i l hz
    simp at hz h; subst hz; subst h
    induction n with
    | zero => rfl
    | succ n ih => simp only [List.replicate_succ, List.flatMap_cons, cc, id] at ih ⊢; rw [← ih]
  · cases h
def makeS (T : Tab) (t : TypeId) (l c : SV) : Option (Prop × TypeId × Nat × Nat × Con) :=
  match T.ty t, l, c with
  | .sl e es eb, .int _ n, .int _ k => match zerosC (T.zc e) n.toNat with
    | some z => some (0 ≤ n ∧ n ≤ k ∧ (eb : Int) * k ≤ 281474976710656 ∧ k ≤ 9223372036854775807, e, es, n.toNat, z)
    | none => none
  | _, _, _ => none
theorem makeS_sound {P : Program} {T : Tab} (hT : TabOk P T) {t e : TypeId} {l c : SV} {p : Prop} {es n : Nat} {z : Con} (h : makeS T t l c = some (p, e, es, n, z)) (hp : p)
    {w0 : World} {B : List Nat} {m : List Blk} {w : World} (hm : MemOk w0 B m w) :
    ∃ v w', (Instr.makeSlice t (cv l) (cv c)).run P w = .ok v w' ∧ MemOk w0 B (bpush m (.own v n e es z)) w' ∧ w.grownBy w' none := by
  unfold makeS at h
  split at h
  · rename_i e' es' eb kn n' kc k hy
    split at h
    · rename_i z' hz
      simp only [Option.some.injEq, Prod.mk.injEq] at h
      obtain ⟨rfl, rfl, rfl, rfl, rfl⟩ := h
      obtain ⟨h0, h1, h2, h3⟩ := hp
      have hty := hT.ty t
      rw [hy] at hty
      obtain ⟨g1, g2, i, zv, g3, g4, g5, g6, g7⟩ := hty
      cases hc : T.zc e' with
      | none => rw [hc] at hz; cases hz
      | some c0 =>
        rw [hc] at hz
        obtain ⟨i', zv', q1, q2, q3⟩ := hT.zc _ _ hc
        rw [g3] at q1; cases q1
        rw [g4] at q2; cases q2
        have hzc := zerosC_cells hz
        have hl : (cc c0).length = es' := by rw [← g7, q3]; simp
        have hr := run_make (P := P) w t e' i zv g1 g3 g4 kn kc n' k h0 h1 (by rw [g6]; exact h2) h3
        refine ⟨_, _, by simpa only [cv] using hr, ?_, World.grownBy_alloc w _ none⟩
        rw [bpush_eq]
        refine hm.push (World.grownBy_alloc w _ none) ?_ (fun b hb => by simp [Blk.nums, Value.ownBlock] at hb; omega)
        refine ⟨⟨?_, .inr ⟨w.heap.size, k.toNat, _, rfl, Nat.zero_le _, heap_alloc_new w _, by omega, by unfold maxLen; omega, by rw [size_madeCells, g5], ?_⟩⟩, fun b hb => by simp [Value.ownBlock] at hb; subst hb; exact .inl hm.size⟩
        · rw [hzc]; simp [hl]
        · rw [q3, g5, ← hl, made_flat _ (by rw [hl]; exact g2), hzc]
          apply List.ext_getElem?
          intro j
          have hlen : ∀ q, ((List.replicate q (cc c0)).flatMap id).length = q * (cc c0).length := fun q => by simp
          by_cases hj : j < n'.toNat * (cc c0).length
          · rw [List.getElem?_take_of_lt hj]
            have hz0 : 0 < (cc c0).length := by rw [hl]; exact g2
            have hd : j / (cc c0).length < n'.toNat := (Nat.div_lt_iff_lt_mul hz0).2 hj
            have hmd : j % (cc c0).length < (cc c0).length := Nat.mod_lt _ hz0
            have f1 := flat_get id (cc c0).length (List.replicate k.toNat (cc c0)) (j / (cc c0).length) (j % (cc c0).length) (cc c0) (fun r hr => by rw [List.eq_of_mem_replicate hr]; rfl) (by rw [List.getElem?_replicate, if_pos (by omega)]) hmd
            have f2 := flat_get id (cc c0).length (List.replicate n'.toNat (cc c0)) (j / (cc c0).length) (j % (cc c0).length) (cc c0) (fun r hr => by rw [List.eq_of_mem_replicate hr]; rfl) (by simp [hd]) hmd
            rw [Nat.div_add_mod' j (cc c0).length] at f1 f2
            rw [f1, f2]
          · rw [List.getElem?_eq_none (by rw [List.length_take]; omega), List.getElem?_eq_none (by rw [hlen]; omega)]
    · cases h
  · cases h
end Go.Proofs.Ytdanlclhnehieaa

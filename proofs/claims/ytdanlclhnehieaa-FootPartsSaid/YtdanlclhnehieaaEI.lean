/-
  A symbolic walk of my own: what computes the lists of a region that draws; contracts proved otherwise.
-/
import Derived.Test.YtdanlclhnehieaaEF
import Derived.Test.YtdanlclhnehieaaBase
namespace Go.Proofs.Ytdanlclhnehieaa
set_option linter.unusedSimpArgs false
set_option linter.unusedVariables false
set_option linter.defProp false
open Go.RowKit
def nthO : List Oper → Nat → Option Oper
  | [], _ => none
  | x :: _, 0 => some x
  | _ :: l, n + 1 => nthO l n
theorem nthO_eq : ∀ (l : List Oper) (n : Nat), nthO l n = l[n]?
  | [], n => by simp [nthO]
  | x :: l, 0 => by simp [nthO]
  | x :: l, n + 1 => by simp [nthO, nthO_eq l n]
def pickO (l : List Oper) : List Nat → List Oper
  | [] => []
  | i :: r => match nthO l i with | some o => o :: pickO l r | none => pickO l r
theorem pickL_eq (l : List Oper) : ∀ s, pickL l s = pickO l s
  | [] => rfl
  | i :: r => by
    simp only [pickL, pickO, nthO_eq]
    cases l[i]? <;> simp only [pickL_eq l r]
def dropO : Nat → List Oper → List Oper
  | 0, l => l
  | _ + 1, [] => []
  | n + 1, _ :: l => dropO n l
theorem dropL_eq : ∀ (l : List Oper) (n : Nat), l.drop n = dropO n l
  | l, 0 => by simp [dropO]
  | [], n + 1 => by simp [dropO]
  | x :: l, n + 1 => by simp [dropO, dropL_eq l n]
@[congr] theorem vcQ_congr {T : Tab} {G : Ctr} {all l l' : List Oper} {env env' : List SV} {m m' : List Blk} {K : List SV → List Blk → Prop} (h : l = l') (he : env = env') (hm : m = m') : vcQ T G all l env m K = vcQ T G all l' env' m' K := by rw [h, he, hm]
@[congr] theorem vcOps_congr {T : Tab} {G : Ctr} {all l l' : List Oper} {env env' : List SV} {m m' : List Blk} {K : List SV → List Blk → Prop} (h : l = l') (he : env = env') (hm : m = m') : vcOps T G all l env m K = vcOps T G all l' env' m' K := by rw [h, he, hm]
@[congr] theorem alK_congr {AL AL' : List AlD} {env env' : List SV} {m m' : List Blk} {N : List SV → List Blk → Prop} (h : AL = AL') (he : env = env') (hm : m = m') : alK AL env m N = alK AL' env' m' N := by rw [h, he, hm]
@[congr] theorem Vc_congr {P : Program} {c : Code} {env env' : List SV} {m m' : List Blk} {K : Kont} (he : env = env') (hm : m = m') : Vc P c env m K = Vc P c env' m' K := by rw [he, hm]
theorem eqB_t {b : Bool} : eqB b true = b := by cases b <;> rfl
theorem eqB_f {b : Bool} : eqB b false = !b := by cases b <;> rfl
theorem wrap_i8 {x : Int} (h0 : -128 ≤ x) (h1 : x ≤ 127) : IntKind.i8.wrap x = x := wrap_inK (k := .i8) ⟨h0, h1⟩
theorem wrap_i16 {x : Int} (h0 : -32768 ≤ x) (h1 : x ≤ 32767) : IntKind.i16.wrap x = x := wrap_inK (k := .i16) ⟨h0, h1⟩
theorem wrap_i32 {x : Int} (h0 : -2147483648 ≤ x) (h1 : x ≤ 2147483647) : IntKind.i32.wrap x = x := wrap_inK (k := .i32) ⟨h0, h1⟩
theorem wrap_i64 {x : Int} (h0 : -9223372036854775808 ≤ x) (h1 : x ≤ 9223372036854775807) : IntKind.i64.wrap x = x := wrap_inK (k := .i64) ⟨h0, h1⟩
theorem wrap_u8 {x : Int} (h0 : 0 ≤ x) (h1 : x ≤ 255) : IntKind.u8.wrap x = x := wrap_inK (k := .u8) ⟨h0, h1⟩
theorem mod_u8 (x : Int) : IntKind.u8.wrap x = x % 256 := by simp [IntKind.wrap, IntKind.bits, IntKind.signed]
theorem wrap_u16 {x : Int} (h0 : 0 ≤ x) (h1 : x ≤ 65535) : IntKind.u16.wrap x = x := wrap_inK (k := .u16) ⟨h0, h1⟩
theorem mod_u16 (x : Int) : IntKind.u16.wrap x = x % 65536 := by simp [IntKind.wrap, IntKind.bits, IntKind.signed]
theorem wrap_u32 {x : Int} (h0 : 0 ≤ x) (h1 : x ≤ 4294967295) : IntKind.u32.wrap x = x := wrap_inK (k := .u32) ⟨h0, h1⟩
theorem mod_u32 (x : Int) : IntKind.u32.wrap x = x % 4294967296 := by simp [IntKind.wrap, IntKind.bits, IntKind.signed]
theorem wrap_u64 {x : Int} (h0 : 0 ≤ x) (h1 : x ≤ 18446744073709551615) : IntKind.u64.wrap x = x := wrap_inK (k := .u64) ⟨h0, h1⟩
theorem mod_u64 (x : Int) : IntKind.u64.wrap x = x % 18446744073709551616 := by simp [IntKind.wrap, IntKind.bits, IntKind.signed]
def c8 (a b c d e f g h : SV) (l : List SV) : List SV := a :: b :: c :: d :: e :: f :: g :: h :: l
section
variable {a b c d e f g h v : SV} {l : List SV} {n : Nat}
theorem c8g0 : sget (c8 a b c d e f g h l) 0 = a := rfl
theorem c8g1 : sget (c8 a b c d e f g h l) 1 = b := rfl
theorem c8g2 : sget (c8 a b c d e f g h l) 2 = c := rfl
theorem c8g3 : sget (c8 a b c d e f g h l) 3 = d := rfl
theorem c8g4 : sget (c8 a b c d e f g h l) 4 = e := rfl
theorem c8g5 : sget (c8 a b c d e f g h l) 5 = f := rfl
theorem c8g6 : sget (c8 a b c d e f g h l) 6 = g := rfl
theorem c8g7 : sget (c8 a b c d e f g h l) 7 = h := rfl
theorem c8gs : sget (c8 a b c d e f g h l) (n + 8) = sget l n := rfl
theorem c8s0 : sset (c8 a b c d e f g h l) 0 v = c8 v b c d e f g h l := rfl
theorem c8s1 : sset (c8 a b c d e f g h l) 1 v = c8 a v c d e f g h l := rfl
theorem c8s2 : sset (c8 a b c d e f g h l) 2 v = c8 a b v d e f g h l := rfl
theorem c8s3 : sset (c8 a b c d e f g h l) 3 v = c8 a b c v e f g h l := rfl
theorem c8s4 : sset (c8 a b c d e f g h l) 4 v = c8 a b c d v f g h l := rfl
theorem c8s5 : sset (c8 a b c d e f g h l) 5 v = c8 a b c d e v g h l := rfl
theorem c8s6 : sset (c8 a b c d e f g h l) 6 v = c8 a b c d e f v h l := rfl
theorem c8s7 : sset (c8 a b c d e f g h l) 7 v = c8 a b c d e f g v l := rfl
theorem c8ss : sset (c8 a b c d e f g h l) (n + 8) v = c8 a b c d e f g h (sset l n v) := rfl
end
def havV (junk : Nat → SV) (lo hi : Nat) (u : List (Nat × SV)) (i : Nat) (x : SV) : SV := match lk u i with | some v => v | none => match inR lo hi i with | true => junk i | false => x
def agrV (lo hi : Nat) (u : List (Nat × SV)) (i : Nat) (x y : SV) : Prop := match lk u i with | some v => y = v | none => match inR lo hi i with | true => True | false => y = x
theorem c8hav {junk : Nat → SV} {lo hi : Nat} {u : List (Nat × SV)} {i : Nat} {a b c d e f g h : SV} {l : List SV} : hav junk lo hi u i (c8 a b c d e f g h l) = c8 (havV junk lo hi u i a) (havV junk lo hi u (i + 1) b) (havV junk lo hi u (i + 2) c) (havV junk lo hi u (i + 3) d) (havV junk lo hi u (i + 4) e) (havV junk lo hi u (i + 5) f) (havV junk lo hi u (i + 6) g) (havV junk lo hi u (i + 7) h) (hav junk lo hi u (i + 8) l) := rfl
theorem c8agr {lo hi : Nat} {u : List (Nat × SV)} {i : Nat} {a b c d e f g h a' b' c' d' e' f' g' h' : SV} {l k : List SV} : agr lo hi u i (c8 a b c d e f g h l) (c8 a' b' c' d' e' f' g' h' k) = (agrV lo hi u i a a' ∧ agrV lo hi u (i + 1) b b' ∧ agrV lo hi u (i + 2) c c' ∧ agrV lo hi u (i + 3) d d' ∧ agrV lo hi u (i + 4) e e' ∧ agrV lo hi u (i + 5) f f' ∧ agrV lo hi u (i + 6) g g' ∧ agrV lo hi u (i + 7) h h' ∧ agr lo hi u (i + 8) l k) := rfl
theorem gw_grown (w : World) (p : Gro) : w.grownBy (gw w p) none := ⟨rfl, rfl, rfl, by rw [gw_size]; omega, fun k hk _ => gw_block w p hk⟩
theorem gw_of_grown {w w' : World} (h : w.grownBy w' none) : ∃ p : Gro, w' = gw w p := by
  obtain ⟨h1, h2, h3, h4, h5⟩ := h
  exact gw_of_below ⟨h1, h2, h3, h4, fun k hk => h5 k hk (by simp)⟩
theorem pure_old {P : Program} {w0 : World} {B : List Nat} {f : FuncId} {fn : Func} {args : List SV} {m : List Blk} {p : Prop} {v : SV} (hf : P.funcs[f]? = some fn) (hn : (fn.name == "runtime.NumGoroutine") = false) (hb : fn.body.isNone = false)
    (h : p → ∀ w, Calls P f (cvs args).toArray w (Ret w (cv v))) : CROk P w0 B f args m (.pure p v) := fun hp w _ =>
  .inr ⟨enter_run hf hn hb _ w, (h hp w).mono fun e w' ⟨he, q, hq⟩ => ⟨cv v, he, rfl, by rw [hq]; exact gw_grown w q⟩⟩
end Go.Proofs.Ytdanlclhnehieaa

/-
  A symbolic walk of my own: keys, so that what waits for an undecided question is not walked ahead.
-/
namespace Go.Proofs.Ytdanlclhnehieaa
set_option linter.unusedSimpArgs false
set_option linter.unusedVariables false
set_option linter.defProp false
open Go.RowKit
inductive Tok where
  | go
  | no
def callKt (t : Tok) (m : List Blk) (r : CR) (N : Tok → SV → List Blk → Prop) : Prop := callK m r (N t)
def effKt (t : Tok) (G : Ctr) (m : List Blk) (e : Eff) (N : Tok → SV → List Blk → Prop) : Prop := effK G m e (N t)
def callQt (t : Tok) (m : List Blk) (r : CR) (N : Tok → SV → List Blk → Prop) : Prop := callQ m r (N t)
def effQt (t : Tok) (G : Ctr) (m : List Blk) (d : Bool) (e : Eff) (N : Tok → SV → List Blk → Prop) : Prop := effQ G m d e (N t)
def askT (b : Bool) (X S : Tok → Prop) : Prop := askK b (X .go) (S .go)
def gdT (t : Tok) (g : Gd) (X S : Tok → Prop) : Prop := gdK g (X t) (S t)
def vcOpst (t : Tok) (T : Tab) (G : Ctr) (all l : List Oper) (env : List SV) (m : List Blk) (K : Tok → List SV → List Blk → Prop) : Prop := vcOps T G all l env m (K t)
def vcQt (t : Tok) (T : Tab) (G : Ctr) (all l : List Oper) (env : List SV) (m : List Blk) (K : Tok → List SV → List Blk → Prop) : Prop := vcQ T G all l env m (K t)
def alKt (t : Tok) (AL : List AlD) (env : List SV) (m : List Blk) (N : Tok → List SV → List Blk → Prop) : Prop := alK AL env m (N t)
section
variable {T : Tab} {G : Ctr} {m m' : List Blk} {t : Tok} {N : Tok → SV → List Blk → Prop} {K : Tok → List SV → List Blk → Prop} {all l l' : List Oper} {o : Oper} {env env' : List SV}
@[congr] theorem callKt_congr {r r' : CR} (h : r = r') : callKt t m r N = callKt t m r' N := by rw [h]
@[congr] theorem effKt_congr {e e' : Eff} (h : e = e') : effKt t G m e N = effKt t G m e' N := by rw [h]
@[congr] theorem callQt_congr {r r' : CR} (h : r = r') : callQt t m r N = callQt t m r' N := by rw [h]
@[congr] theorem effQt_congr {e e' : Eff} {d d' : Bool} (h : e = e') (hd : d = d') : effQt t G m d e N = effQt t G m d' e' N := by rw [h, hd]
@[congr] theorem askT_congr {b b' : Bool} {X S : Tok → Prop} (h : b = b') : askT b X S = askT b' X S := by rw [h]
@[congr] theorem gdT_congr {g g' : Gd} {X S : Tok → Prop} (h : g = g') : gdT t g X S = gdT t g' X S := by rw [h]
@[congr] theorem vcOpst_congr (h : l = l') (he : env = env') (hm : m = m') : vcOpst t T G all l env m K = vcOpst t T G all l' env' m' K := by rw [h, he, hm]
@[congr] theorem vcQt_congr (h : l = l') (he : env = env') (hm : m = m') : vcQt t T G all l env m K = vcQt t T G all l' env' m' K := by rw [h, he, hm]
@[congr] theorem alKt_congr {AL AL' : List AlD} {N : Tok → List SV → List Blk → Prop} (h : AL = AL') (he : env = env') (hm : m = m') : alKt t AL env m N = alKt t AL' env' m' N := by rw [h, he, hm]
theorem t_askT {X S : Tok → Prop} : askT true X S = X .go := Eq.trans rfl rfl
theorem t_askF {X S : Tok → Prop} : askT false X S = S .go := Eq.trans rfl rfl
theorem t_go {X S : Tok → Prop} : gdT .go .go X S = X .go := Eq.trans rfl rfl
theorem t_skip {X S : Tok → Prop} : gdT .go .skip X S = S .go := Eq.trans rfl rfl
theorem t_ask {b w : Bool} {X S : Tok → Prop} : gdT .go (.ask b w) X S = askT (eqB b w) X S := Eq.trans rfl rfl
theorem t_kval {p : Prop} {v : SV} : effKt .go G m (.val p v) N = (p ∧ N .go v m) := Eq.trans rfl rfl
theorem t_kmem {p : Prop} {m' : List Blk} : effKt .go G m (.mem p m') N = (p ∧ N .go .undef m') := Eq.trans rfl rfl
theorem t_knewb {f : Nat → SV} {e : Nat → Blk} : effKt .go G m (.newb f e) N = ∀ b : Nat, N .go (f b) (bpush m (e b)) := Eq.trans rfl rfl
theorem t_knewo {p : Prop} {f : Value → SV} {e : Value → Blk} : effKt .go G m (.newo p f e) N = (p ∧ ∀ v : Value, N .go (f v) (bpush m (e v))) := Eq.trans rfl rfl
theorem t_kturn {p : Prop} {nm : Nat} {f : Value → SV} {e : Value → Blk} : effKt .go G m (.turn p nm f e) N = (p ∧ ∀ v : Value, N .go (f v) (bset m nm (e v))) := Eq.trans rfl rfl
theorem t_kany {p : Prop} {A : Type} {Q : A → Prop} {f : A → SV} {g : A → List Blk} : effKt .go G m (.any p A Q f g) N = (p ∧ ∀ a : A, Q a → N .go (f a) (g a)) := Eq.trans rfl rfl
theorem t_kcall {f : FuncId} {args : List SV} : effKt .go G m (.call f args) N = callKt .go m (G f args m) N := Eq.trans rfl rfl
theorem t_kpure {p : Prop} {v : SV} : callKt .go m (.pure p v) N = (p ∧ N .go v m) := Eq.trans rfl rfl
theorem t_kown {p : Prop} {ty : TypeId} {es n : Nat} {con : Con} {F : SV → SV} : callKt .go m (.own p ty es n con F) N = (p ∧ ∀ v : Value, N .go (F (.own (blen m) v n)) (bpush m (.own v n ty es con))) := Eq.trans rfl rfl
theorem t_kturnc {p : Prop} {nm : Nat} {con : Con} {v : SV} : callKt .go m (.turn p nm con v) N = (p ∧ N .go v (bset m nm (withCon (bget m nm) con))) := Eq.trans rfl rfl
theorem t_krel {p : Prop} {A : Type} {Q : A → Prop} {f : A → SV} {g : A → List Blk} : callKt .go m (.rel p A Q f g) N = (p ∧ ∀ a : A, Q a → N .go (f a) (g a)) := Eq.trans rfl rfl
theorem t_kgrw {p : Prop} {A : Type} {Q : A → Prop} {f : A → SV} {g : A → Blk} : callKt .go m (.grw p A Q f g) N = (p ∧ ∀ a : A, Q a → N .go (f a) (bpush m (g a))) := Eq.trans rfl rfl
theorem t_qgrw {p : Prop} {A : Type} {Q : A → Prop} {f : A → SV} {g : A → Blk} : callQt .go m (.grw p A Q f g) N = (p ∧ ∀ a : A, Q a → N .go (f a) (bpush m (g a))) := Eq.trans rfl rfl
theorem t_qval {p : Prop} {v : SV} {d : Bool} : effQt .go G m d (.val p v) N = (p ∧ N .go v m) := Eq.trans rfl rfl
theorem t_qnewb {f : Nat → SV} {e : Nat → Blk} : effQt .go G m false (.newb f e) N = ∀ b : Nat, N .go (f b) (bpush m (e b)) := effQ_newb
theorem t_qnewo {p : Prop} {f : Value → SV} {e : Value → Blk} : effQt .go G m false (.newo p f e) N = (p ∧ ∀ v : Value, N .go (f v) (bpush m (e v))) := effQ_newo
theorem t_qcall {f : FuncId} {args : List SV} : effQt .go G m false (.call f args) N = callQt .go m (G f args m) N := effQ_call
theorem t_qpure {p : Prop} {v : SV} : callQt .go m (.pure p v) N = (p ∧ N .go v m) := Eq.trans rfl rfl
theorem t_qown {p : Prop} {ty : TypeId} {es n : Nat} {con : Con} {F : SV → SV} : callQt .go m (.own p ty es n con F) N = (p ∧ ∀ v : Value, N .go (F (.own (blen m) v n)) (bpush m (.own v n ty es con))) := Eq.trans rfl rfl
theorem t_knil : vcOpst .go T G all [] env m K = K .go env m := Eq.trans rfl rfl
theorem t_kcons : vcOpst .go T G all (o :: l) env m K = gdT .go (gd all env o) (fun t => effKt t G m (step T env m o) fun t v m' => vcOpst t T G all l (upd env o.dst v) m' K) (fun t => vcOpst t T G all l (upd env o.dst .undef) m K) := Eq.trans rfl rfl
theorem t_qnil : vcQt .go T G all [] env m K = K .go env m := Eq.trans rfl rfl
theorem t_qcons : vcQt .go T G all (o :: l) env m K = gdT .go (gd all env o) (fun t => effQt t G m (dOp o.op) (step T env m o) fun t v m' => vcQt t T G all l (upd env o.dst v) m' K) (fun t => vcQt t T G all l (upd env o.dst .undef) m K) := Eq.trans rfl rfl
theorem t_alnil {N : Tok → List SV → List Blk → Prop} : alKt .go [] env m N = N .go env m := Eq.trans rfl rfl
theorem t_alcons {x : AlD} {AL : List AlD} {N : Tok → List SV → List Blk → Prop} : alKt .go (x :: AL) env m N = ∀ b : Nat, alKt .go AL (sset env x.d (.ptr (blen m) b 0 0 0 0)) (bpush m (.blk b x.t x.c)) N := Eq.trans rfl rfl
end
theorem cT {α : Type} {a b : α} : cond true a b = a := Eq.trans rfl rfl
theorem cF {α : Type} {a b : α} : cond false a b = b := Eq.trans rfl rfl
theorem tnc {n : Nat} : ((n : Nat) : Int).toNat = n := Eq.trans rfl rfl
theorem sC0 {α : Type} {x y : α} {l : List α} : List.set (x :: l) 0 y = y :: l := Eq.trans rfl rfl
theorem sCs {α : Type} {x y : α} {l : List α} {n : Nat} : List.set (x :: l) (n + 1) y = x :: List.set l n y := Eq.trans rfl rfl
theorem gD0 {α : Type} {x d : α} {l : List α} : List.getD (x :: l) 0 d = x := Eq.trans rfl rfl
theorem gDs {α : Type} {x d : α} {l : List α} {n : Nat} : List.getD (x :: l) (n + 1) d = List.getD l n d := Eq.trans rfl rfl
theorem numI_0 : numI [0, 0, 0, 0] = 0 := Eq.trans rfl rfl
theorem askT_of {b : Bool} {X S : Tok → Prop} (h : b = true) (hX : b = true → X .go) : askT b X S := by subst h; exact hX rfl
theorem Vc.regiont {P : Program} {T : Tab} (hT : TabOk P T) {G : Ctr} (hG : GOk P G) {id : Nat} {ops : List Oper} {env : List SV} {m : List Blk} {K : Kont} (h : vcOpst .go T G ops ops env m (fun _ => K .normal)) : Vc P (.region id ops.toArray false) env m K := Vc.region hT hG h
theorem Vc.drawt {P : Program} {T : Tab} (hT : TabOk P T) {G : Ctr} (hG : GOk P G) (hm : P.follows .mixedOrders = true) {id : Nat} {l : List Oper} {env : List SV} {m : List Blk} {K : Kont} (σ : List Nat) (n : Nat) (AL : List AlD)
    (hAL : alsOk T l AL) (hB : drawB l.toArray σ n (AL.map (·.j)) (AL.map (·.d)) = true)
    (h : vcQt .go T G l (pickO l σ) env m fun t env m => alKt t AL env m fun t env m => vcOpst t T G l (dropO n l) env m fun _ => K .normal) : Vc P (.region id l.toArray true) env m K :=
  Vc.draw hT hG hm σ n AL hAL hB (by rw [pickL_eq]; simp only [dropL_eq]; exact h)
end Go.Proofs.Ytdanlclhnehieaa

/-
  A symbolic walk of my own: what a callee reads of its caller's memory; a content told in another way.
-/
namespace Go.Proofs.Ytdanlclhnehieaa
set_option linter.unusedSimpArgs false
set_option linter.unusedVariables false
set_option linter.defProp false
open Go.RowKit
theorem srcC_cap {x : SV} {m : List Blk} {q : Prop} {k : Nat} {c : Con} (h : srcC x m = some (q, k, c)) (hq : q) {w0 : World} {B : List Nat} {w : World} (hm : MemOk w0 B m w) {a : Option Addr} {cp : Nat} (hv : cv x = .slice a k cp) : k ≤ cp := by
  unfold srcC at h
  split at h
  · rename_i nm a st st0 es len cap
    split at h
    · split at h
      · simp only [Option.some.injEq, Prod.mk.injEq] at h
        obtain ⟨rfl, rfl, rfl⟩ := h
        simp only [cv, Value.slice.injEq] at hv
        obtain ⟨_, _, rfl⟩ := hv
        exact hq.2.2.2
      · cases h
    · cases h
  · rename_i nm v n
    split at h
    · rename_i v' n' t' es con hbg
      split at h
      · simp only [Option.some.injEq, Prod.mk.injEq] at h
        obtain ⟨rfl, rfl, rfl⟩ := h
        obtain ⟨rfl, rfl, h3⟩ := hq
        have h4 := (hm.each _ (bget_mem hbg (by simp))).1
        simp only [cv, own_slV h4] at hv
        rcases h4.2 with ⟨h5, h6⟩ | ⟨g, cap, cur, h5, h6⟩
        · omega
        · rw [h5] at hv
          simp only [Value.slice.injEq] at hv
          obtain ⟨_, _, rfl⟩ := hv
          obtain ⟨_, _, h7, _⟩ := h6
          exact h7
      · cases h
    · cases h
  · split at h
    · simp only [Option.some.injEq, Prod.mk.injEq] at h
      obtain ⟨rfl, rfl, rfl⟩ := h
      simp only [cv, Value.slice.injEq] at hv
      obtain ⟨_, _, rfl⟩ := hv
      exact hq.2.2.2
    · cases h
  · cases h
theorem src_adr {x : SV} {m : List Blk} {q : Prop} {k : Nat} {c : Con} (h : srcC x m = some (q, k, c)) (hq : q) {w0 : World} {B : List Nat} {w : World} (hm : MemOk w0 B m w) {a : Option Addr} {cp : Nat} (hv : cv x = .slice a k cp) : adr a k cp := by
  unfold srcC at h
  split at h
  · rename_i nm a' st st0 es len cap
    split at h
    · split at h
      · simp only [Option.some.injEq, Prod.mk.injEq] at h
        obtain ⟨rfl, rfl, rfl⟩ := h
        simp only [cv, Value.slice.injEq] at hv
        obtain ⟨h1, _, h3⟩ := hv
        rw [← h1, ← h3]
        rcases hq.2.1 with g2 | ⟨_, rfl, rfl⟩
        · generalize blkO a' = b at g2
          generalize offO a' = o at g2
          subst g2
          show adr (some ((⟨b, o, none⟩ : Addr).add _)) _ _
          rw [addr_add]
          exact .inl rfl
        · exact .inr ⟨rfl, rfl, rfl⟩
      · cases h
    · cases h
  · rename_i nm v n
    split at h
    · rename_i v' n' t' es con hbg
      split at h
      · simp only [Option.some.injEq, Prod.mk.injEq] at h
        obtain ⟨rfl, rfl, rfl⟩ := h
        obtain ⟨rfl, rfl, h3⟩ := hq
        have h4 := (hm.each _ (bget_mem hbg (by simp))).1
        simp only [cv, own_slV h4] at hv
        rcases h4.2 with ⟨h5, h6⟩ | ⟨g, cap, cur, h5, h6⟩
        · rw [h5] at hv
          simp only [Value.slice.injEq] at hv
          obtain ⟨rfl, _, rfl⟩ := hv
          exact .inr ⟨rfl, h6, rfl⟩
        · rw [h5] at hv
          simp only [Value.slice.injEq] at hv
          obtain ⟨rfl, _, _⟩ := hv
          exact .inl rfl
      · cases h
    · cases h
  · split at h
    · simp only [Option.some.injEq, Prod.mk.injEq] at h
      obtain ⟨rfl, rfl, rfl⟩ := h
      simp only [cv, Value.slice.injEq] at hv
      obtain ⟨rfl, _, rfl⟩ := hv
      exact hq.2.1
    · cases h
  · cases h
theorem src_ro {x : SV} {m : List Blk} {q : Prop} {k : Nat} {c : Con} (h : srcC x m = some (q, k, c)) (hq : q) {w0 : World} {B : List Nat} {w : World} (hm : MemOk w0 B m w) :
    (cc c).length = k * conEs c ∧ ∃ a cp, cv x = cv (.sl 0 a 0 0 (conEs c) k cp) ∧ k ≤ cp ∧ MemOk w [] [.ro a c] w ∧ adr a k cp := by
  obtain ⟨h1, h2, h3⟩ := srcC_sound h hq hm
  refine ⟨h1, ?_⟩
  have mk : ∀ a : Option Addr, (∀ j u, (cc c)[j]? = some u → ∃ b off, a = some ⟨b, off, none⟩ ∧ b < w.heap.size ∧ w.cell? ⟨b, off + j, none⟩ = some u) → MemOk w [] [.ro a c] w := fun a ha =>
    ⟨rfl, rfl, rfl, Nat.le_refl _, fun _ _ _ => rfl, fun e he => by
      rw [List.mem_singleton] at he
      subst he
      intro j u hj
      obtain ⟨b, off, g1, g2, g3⟩ := ha j u hj
      exact ⟨b, off, g1, g2, List.not_mem_nil, g3⟩, List.nodup_nil⟩
  rcases h3 with ⟨a, cp, hx, hc⟩ | ⟨hx, hk⟩
  · have had := src_adr h hq hm hx
    refine ⟨some a, cp, ?_, srcC_cap h hq hm hx, mk _ fun j u hj => ?_, had⟩
    · rw [hx]
      simp only [cv, ite_self, Nat.zero_mul, Option.map_some]
      unfold Addr.add; rw [if_pos rfl]
    · have h4 := hc j u hj
      rcases had with had | had
      · have e : a = ⟨a.block, a.off, none⟩ := Option.some.inj had
        rw [e, addr_add] at h4
        refine ⟨a.block, a.off, had, ?_, h4⟩
        unfold World.cell? at h4
        split at h4
        · rename_i hh
          exact (Array.getElem?_eq_some_iff.1 hh).1
        · cases h4
      · have h5 := (List.getElem?_eq_some_iff.1 hj).1
        rw [h1, had.2.1, Nat.zero_mul] at h5; omega
  · subst hk
    refine ⟨none, 0, hx, Nat.le_refl _, mk _ fun j u hj => ?_, .inr ⟨rfl, rfl, rfl⟩⟩
    have := (List.getElem?_eq_some_iff.1 hj).1
    rw [h1, Nat.zero_mul] at this; omega
def noAlias (nm : Nat) : SV → Prop
  | .sl nm' _ _ _ _ _ _ => nm' ≠ nm
  | .own nm' _ _ => nm' ≠ nm
  | _ => True
def apC (t : TypeId) (k : IntKind) (m : List Blk) (x : SV) (p : List Int → Prop) (F : List Int → List Int) : CR :=
  match x with
  | .own nm v n => match bget m nm with
    | .own v' n' t' es (.ints k' xs) => .rel (v = v' ∧ n = n' ∧ t' = t ∧ es = 1 ∧ k' = k ∧ p xs) Value (fun _ => True) (fun s => .own nm s (F xs).length) (fun s => bset m nm (.own s (F xs).length t 1 (.ints k (F xs))))
    | _ => .none
  | .nilsl => .own (p []) t 1 (F []).length (.ints k (F [])) (fun v => v)
  | _ => .none
def apS (t : TypeId) (k : IntKind) (m : List Blk) (x y : SV) (p : List Int → List Int → Prop) (F : List Int → List Int → List Int) : CR :=
  match srcC y m with
  | some (q, _, .ints k' ys) => match x with
    | .own nm v n => match bget m nm with
      | .own v' n' t' es (.ints k2 xs) => .rel (q ∧ v = v' ∧ n = n' ∧ t' = t ∧ es = 1 ∧ k' = k ∧ k2 = k ∧ noAlias nm y ∧ p xs ys) Value (fun _ => True) (fun s => .own nm s (F xs ys).length) (fun s => bset m nm (.own s (F xs ys).length t 1 (.ints k (F xs ys))))
      | _ => .none
    | .nilsl => .own (q ∧ k' = k ∧ p [] ys) t 1 (F [] ys).length (.ints k (F [] ys)) (fun v => v)
    | _ => .none
  | _ => .none
theorem Vc.hold {P : Program} {c : Code} {env : List SV} {m : List Blk} {K : Kont} (h : Vc P c env m K) : Vc P c env m K := h
theorem calls_pure {P : Program} {f : FuncId} {fn : Func} {args : Array Value} {w : World} {v : SV} (hf : P.funcs[f]? = some fn) (hn : (fn.name == "runtime.NumGoroutine") = false) (hb : fn.body.isNone = false)
    (h : Calls P f args w (fun e w' => ∃ u, e = .returned u ∧ ∃ v' m', u = cv v' ∧ MemOk w [] m' w' ∧ v' = v)) : Enters P f args w fun u w' => u = cv v ∧ w.grownBy w' none :=
  .inr ⟨enter_run hf hn hb _ w, h.mono fun e w' ⟨u, he, v', m', hu, hm, hv⟩ => ⟨u, he, by rw [hu, hv], hm.grown⟩⟩
end Go.Proofs.Ytdanlclhnehieaa

/-
  A return's end, held till it is told; the rules that the walk reckons by, in two bundles.
-/
namespace Go.Proofs.Ytdanlclhnehieaa
set_option linter.unusedSimpArgs false
set_option linter.unusedVariables false
set_option linter.defProp false
open Go.RowKit
def Fin (p : Prop) : Prop := p
theorem Fin.of {p : Prop} (h : p) : Fin p := h
theorem Vc.fin {P : Program} {env : List SV} {m : List Blk} {K : Kont} (h : Fin (K .ret env m)) : Vc P .ret env m K := Vc.ret h
def v8A := And.intro @t_kany <| And.intro @t_kgrw <| And.intro @t_qgrw <| And.intro @t_askT <| And.intro @t_askF <| And.intro @t_go <| And.intro @t_skip <| And.intro @t_ask <| And.intro @t_kval <| And.intro @t_kmem <| And.intro @t_knewb <| And.intro @t_knewo <| And.intro @t_kturn <| And.intro @t_kcall <| And.intro @t_kpure <| And.intro @t_kown <| And.intro @t_kturnc <| And.intro @t_krel <| And.intro @t_knil <| And.intro @t_kcons <| And.intro @eqB_t <| And.intro @eqB_f <| And.intro @cT <| And.intro @cF <| And.intro @numI_0 <| And.intro @addIx_eq <| And.intro @tnc <| And.intro @sC0 <| And.intro @sCs <| And.intro @gDs <| And.intro @gD0 <| And.intro @t_qval <| And.intro @t_qnewb <| And.intro @t_qnewo <| And.intro @t_qcall <| And.intro @t_qpure <| And.intro @t_qown <| And.intro @t_qnil <| And.intro @t_qcons <| And.intro @t_alnil <| @t_alcons
def v8B := And.intro @eqA.eq_def <| And.intro @okS.eq_1 <| And.intro @okS.eq_2 <| And.intro @okS.eq_3 <| And.intro @okS.eq_4 <| And.intro @intsL.eq_1 <| And.intro @intsL.eq_2 <| And.intro @bld0.eq_def <| And.intro @keyS.eq_def <| And.intro @nxtQ.eq_def <| And.intro @nxtF.eq_def <| And.intro @nxtG.eq_def <| And.intro @lookS.eq_def <| And.intro @lookV.eq_def <| And.intro @codeK.eq_def <|  And.intro @updS.eq_def <| And.intro @delStep.eq_def <| And.intro @mkM.eq_def <| And.intro @rngS.eq_def <| And.intro @nxtS.eq_def <| And.intro @entS.eq_def <| And.intro @gd.eq_def <| And.intro @gdV.eq_def <| And.intro @step.eq_def <| And.intro @dstep.eq_def <| And.intro @ev.eq_def <| And.intro @evo.eq_def <| And.intro @havV.eq_def <| And.intro @agrV.eq_def <| And.intro @upd.eq_def <| And.intro @ofV.eq_def <| And.intro @ofV1.eq_def <| And.intro @boxCon.eq_def <| And.intro @cellsOf.eq_def <| And.intro @thenK.eq_def <| And.intro @blockK.eq_def <| And.intro @binT.eq_def <| And.intro @bin.eq_def <| And.intro @ifT.eq_def <| And.intro @isC.eq_def <| And.intro @mkI.eq_def <| And.intro @conEs.eq_def <| And.intro @conN.eq_def <| And.intro @conSub.eq_def <| And.intro @arith.eq_def <| And.intro @shiftS.eq_def <| And.intro @una.eq_def <| And.intro @pickS.eq_def <| And.intro @extS.eq_def <| And.intro @convT.eq_def <| And.intro @convS.eq_def <| And.intro @nilS.eq_def <| And.intro @arrPM.eq_def <| And.intro @arrPS.eq_def <| And.intro @bltS.eq_def <| And.intro @loadS.eq_def <| And.intro @blkAt.eq_def <| And.intro @addp.eq_def <| And.intro @aggN.eq_def <| And.intro @conOne.eq_def <| And.intro @conMany.eq_def <| And.intro @idxS.eq_def <| And.intro @sliceS.eq_def <| And.intro @bnd.eq_def <| And.intro @sliceP.eq_def <| And.intro @curSt.eq_def <| And.intro @buildS.eq_def <| And.intro @placeOf.eq_def <| And.intro @aggV.eq_def <| And.intro @fldS.eq_def <| And.intro @fldV.eq_def <| And.intro @toW.eq_def <| And.intro @toI.eq_def <| And.intro @toU8.eq_1 <| And.intro @toU8.eq_2 <| And.intro @toU64.eq_def <| And.intro @toU32.eq_def <| And.intro @arrV.eq_def <| And.intro @storeS.eq_def <| And.intro @tsz.eq_def <| And.intro @conStore.eq_def <| And.intro @svLen.eq_def <| And.intro @oneS.eq_def <| And.intro @sameK.eq_def <| And.intro @makeS.eq_def <| And.intro @zerosC.eq_def <| And.intro @litS.eq_def <| And.intro @litC.eq_def <| And.intro @convM.eq_def <| And.intro @appStep.eq_def <| And.intro @appE.eq_def <| And.intro @appP.eq_def <| And.intro @appS.eq_def <| And.intro @srcC.eq_def <| And.intro @conCut.eq_def <| And.intro @conEs.eq_def <| And.intro @conApp.eq_def <| And.intro @conN.eq_def <| And.intro @callStep.eq_def <| And.intro @withCon.eq_def <| And.intro @resS.eq_def <| And.intro @resOne.eq_def <| And.intro @retK.eq_def <| And.intro @inR.eq_def <| And.intro @blkO.eq_def <| @offO.eq_def
def v8C := And.intro @c8g0 <| And.intro @c8g1 <| And.intro @c8g2 <| And.intro @c8g3 <| And.intro @c8g4 <| And.intro @c8g5 <| And.intro @c8g6 <| And.intro @c8g7 <| And.intro @c8gs <| And.intro @c8s0 <| And.intro @c8s1 <| And.intro @c8s2 <| And.intro @c8s3 <| And.intro @c8s4 <| And.intro @c8s5 <| And.intro @c8s6 <| And.intro @c8s7 <| And.intro @c8ss <| And.intro @c8hav <| @c8agr
def v8X := And.intro (And.intro (And.intro (And.intro (And.intro (And.intro (@pickO.eq_1) (And.intro (@pickO.eq_2) (@nthO.eq_1))) (And.intro (@nthO.eq_2) (And.intro (@nthO.eq_3) (@dropO.eq_1)))) (And.intro (And.intro (@dropO.eq_2) (And.intro (@dropO.eq_3) (@dOp.eq_def))) (And.intro (@apC.eq_def) (And.intro (@apS.eq_def) (@noAlias.eq_def))))) (And.intro (And.intro (And.intro (@strIx.eq_def) (And.intro (@appT.eq_def) (@copyStep.eq_def))) (And.intro (@copyC.eq_def) (And.intro (@adr_some) (@adr_nil)))) (And.intro (And.intro (@true_or) (And.intro (@Bool.not_true) (@Bool.not_false))) (And.intro (@Bool.or_true) (And.intro (@Bool.or_false) (@Bool.true_or)))))) (And.intro (And.intro (And.intro (And.intro (@Bool.false_or) (And.intro (@Nat.zero_add) (@Nat.blt.eq_def))) (And.intro (@dstOf.eq_1) (And.intro (@dstOf.eq_2) (@dstOf.eq_3)))) (And.intro (And.intro (@evs.eq_1) (And.intro (@evs.eq_2) (@evp.eq_1))) (And.intro (@evp.eq_2) (And.intro (@sget.eq_1) (@sget.eq_2))))) (And.intro (And.intro (And.intro (@sget.eq_3) (And.intro (@sset.eq_1) (@sset.eq_2))) (And.intro (@sset.eq_3) (And.intro (@blen.eq_1) (@blen.eq_2)))) (And.intro (And.intro (@bpush.eq_1) (And.intro (@bpush.eq_2) (@bget.eq_1))) (And.intro (And.intro (@bget.eq_2) (@bget.eq_3)) (And.intro (@bset.eq_1) (@bset.eq_2))))))) (And.intro (And.intro (And.intro (And.intro (And.intro (@bset.eq_3) (And.intro (@nth?.eq_1) (@nth?.eq_2))) (And.intro (@nth?.eq_3) (And.intro (@nthF.eq_1) (@nthF.eq_2)))) (And.intro (And.intro (@nthF.eq_3) (And.intro (@tys.eq_1) (@tys.eq_2))) (And.intro (@takeN.eq_1) (And.intro (@takeN.eq_2) (@takeN.eq_3))))) (And.intro (And.intro (And.intro (@takeN.eq_4) (And.intro (@fillS.eq_1) (@fillS.eq_2))) (And.intro (@splice.eq_1) (And.intro (@splice.eq_2) (@splice.eq_3)))) (And.intro (And.intro (@splice.eq_4) (And.intro (@allOne.eq_1) (@allOne.eq_2))) (And.intro (@rowsOk.eq_1) (And.intro (@rowsOk.eq_2) (@ordL.eq_1)))))) (And.intro (And.intro (And.intro (And.intro (@ordL.eq_2) (And.intro (@intL.eq_1) (@intL.eq_2))) (And.intro (@intL.eq_3) (And.intro (@wordL.eq_1) (@wordL.eq_2)))) (And.intro (And.intro (@wordL.eq_3) (And.intro (@rowL.eq_1) (@rowL.eq_2))) (And.intro (@sapp.eq_1) (And.intro (@sapp.eq_2) (@und.eq_1))))) (And.intro (And.intro (And.intro (@und.eq_2) (And.intro (@lk.eq_1) (@lk.eq_2))) (And.intro (@hav.eq_1) (And.intro (@hav.eq_2) (@agr.eq_1)))) (And.intro (And.intro (@agr.eq_2) (And.intro (@agr.eq_3) (@bpre.eq_1))) (And.intro (And.intro (@bpre.eq_2) (@bpre.eq_3)) (And.intro (@resAll.eq_1) (@resAll.eq_2)))))))
def v8W := And.intro @wrap_u8 <| And.intro @wrap_u16 <| And.intro @wrap_u32 <| And.intro @wrap_u64 <| And.intro @wrap_i8 <| And.intro @wrap_i16 <| And.intro @wrap_i32 <| And.intro @wrap_i64 <| @tnc
theorem sideQ {p : Prop} (h : p := by (repeat' with_reducible apply And.intro) <;> first | with_reducible exact True.intro | with_reducible assumption | with_reducible rfl | omega) : p := h
theorem sd0 {p : Prop} (h : p := by first | with_reducible exact True.intro | ((repeat' apply And.intro) <;> first | with_reducible exact True.intro | with_reducible rfl | with_reducible assumption | omega | (simp only [mod_u8, mod_u16, mod_u32, mod_u64]; omega) | (simp only [List.length_cons, List.length_nil, List.length_replicate, List.length_set]; omega) | (simp; done))) : p := h
end Go.Proofs.Ytdanlclhnehieaa

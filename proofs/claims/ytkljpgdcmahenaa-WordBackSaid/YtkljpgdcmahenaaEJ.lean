/-
  A symbolic walk of my own: keys, so that what waits for an undecided question is not walked ahead.
-/
import Derived.Test.YtkljpgdcmahenaaEI
namespace Go.Proofs.Ytkljpgdcmahenaa
set_option linter.unusedSimpArgs false
set_option linter.unusedVariables false
open Go.RowKit
inductive Tok where
  | go
  | no
def callKt (t : Tok) (m : List Blk) (r : CR) (N : Tok → SV → List Blk → Prop) : Prop := callK m r (N t)
def effKt (t : Tok) (G : Ctr) (m : List Blk) (e : Eff) (N : Tok → SV → List Blk → Prop) : Prop := effK G m e (N t)
def callQt (t : Tok) (m : List Blk) (r : CR) (N : Tok → SV → List Blk → Prop) : Prop := callQ m r (N t)
def effQt (t : Tok) (G : Ctr) (m : List Blk) (d : Bool) (e : Eff) (N : Tok → SV → List Blk → Prop) : Prop := effQ G m d e (N t)
def askT (b : Bool) (X S : Tok → Prop) : Prop := askK b (X .go) (S .go)
def gdT (t : Tok) (g : Gd) (X S : Tok → Prop) : Prop := gdK g (X t) (S t)
def vcOpst (t : Tok) (T : Tab) (G : Ctr) (all l : List Oper) (env : List SV) (m : List Blk) (K : Tok → List SV → List Blk → Prop) : Prop := vcOps T G all l env m (K t)
def vcQt (t : Tok) (T : Tab) (G : Ctr) (all l : List Oper) (env : List SV) (m : List Blk) (K : Tok → List SV → List Blk → Prop) : Prop := vcQ T G all l env m (K t)
def alKt (t : Tok) (AL : List AlD) (env : List SV) (m : List Blk) (N : Tok → List SV → List Blk → Prop) : Prop := alK AL env m (N t)
section
variable {T : Tab} {G : Ctr} {m m' : List Blk} {t : Tok} {N : Tok → SV → List Blk → Prop} {K : Tok → List SV → List Blk → Prop} {all l l' : List Oper} {o : Oper} {env env' : List SV}
@[congr] theorem callKt_congr {r r' : CR} (h : r = r') : callKt t m r N = callKt t m r' N := by rw [h]
@[congr] theorem effKt_congr {e e' : Eff} (h : e = e') : effKt t G m e N = effKt t G m e' N := by rw [h]
@[congr] theorem callQt_congr {r r' : CR} (h : r = r') : callQt t m r N = callQt t m r' N := by rw [h]
@[congr] theorem effQt_congr {e e' : Eff} {d d' : Bool} (h : e = e') (hd : d = d') : effQt t G m d e N = effQt t G m d' e' N := by rw [h, hd]
@[congr] theorem askT_congr {b b' : Bool} {X S : Tok → Prop} (h : b = b') : askT b X S = askT b' X S := by rw [h]
@[congr] theorem gdT_congr {g g' : Gd} {X S : Tok → Prop} (h : g = g') : gdT t g X S = gdT t g' X S := by rw [h]
@[congr] theorem vcOpst_congr (h : l = l') (he : env = env') (hm : m = m') : vcOpst t T G all l env m K = vcOpst t T G all l' env' m' K := by rw [h, he, hm]
@[congr] theorem vcQt_congr (h : l = l') (he : env = env') (hm : m = m') : vcQt t T G all l env m K = vcQt t T G all l' env' m' K := by rw [h, he, hm]
@[congr] theorem alKt_congr {AL AL' : List AlD} {N : Tok → List SV → List Blk → Prop} (h : AL = AL') (he : env = env') (hm : m = m') : alKt t AL env m N = alKt t AL' env' m' N := by rw [h, he, hm]
theorem t_askT {X S : Tok → Prop} : askT true X S = X .go := Eq.trans rfl rfl
theorem t_askF {X S : Tok → Prop} : askT false X S = S .go := Eq.trans rfl rfl
theorem t_go {X S : Tok → Prop} : gdT .go .go X S = X .go := Eq.trans rfl rfl
theorem t_skip {X S : Tok → Prop} : gdT .go .skip X S = S .go := Eq.trans rfl rfl
theorem t_ask {b w : Bool} {X S : Tok → Prop} : gdT .go (.ask b w) X S = askT (eqB b w) X S := Eq.trans rfl rfl
theorem t_kval {p : Prop} {v : SV} : effKt .go G m (.val p v) N = (p ∧ N .go v m) := Eq.trans rfl rfl
theorem t_kmem {p : Prop} {m' : List Blk} : effKt .go G m (.mem p m') N = (p ∧ N .go .undef m') := Eq.trans rfl rfl
theorem t_knewb {f : Nat → SV} {e : Nat → Blk} : effKt .go G m (.newb f e) N = ∀ b : Nat, N .go (f b) (bpush m (e b)) := Eq.trans rfl rfl
theorem t_knewo {p : Prop} {f : Value → SV} {e : Value → Blk} : effKt .go G m (.newo p f e) N = (p ∧ ∀ v : Value, N .go (f v) (bpush m (e v))) := Eq.trans rfl rfl
theorem t_kturn {p : Prop} {nm : Nat} {f : Value → SV} {e : Value → Blk} : effKt .go G m (.turn p nm f e) N = (p ∧ ∀ v : Value, N .go (f v) (bset m nm (e v))) := Eq.trans rfl rfl
theorem t_kcall {f : FuncId} {args : List SV} : effKt .go G m (.call f args) N = callKt .go m (G f args m) N := Eq.trans rfl rfl
theorem t_kpure {p : Prop} {v : SV} : callKt .go m (.pure p v) N = (p ∧ N .go v m) := Eq.trans rfl rfl
theorem t_kown {p : Prop} {ty : TypeId} {es n : Nat} {con : Con} {F : SV → SV} : callKt .go m (.own p ty es n con F) N = (p ∧ ∀ v : Value, N .go (F (.own (blen m) v n)) (bpush m (.own v n ty es con))) := Eq.trans rfl rfl
theorem t_kturnc {p : Prop} {nm : Nat} {con : Con} {v : SV} : callKt .go m (.turn p nm con v) N = (p ∧ N .go v (bset m nm (withCon (bget m nm) con))) := Eq.trans rfl rfl
theorem t_krel {p : Prop} {R : SV → List Blk → Prop} : callKt .go m (.rel p R) N = (p ∧ ∀ v m', R v m' → N .go v m') := Eq.trans rfl rfl
theorem t_qval {p : Prop} {v : SV} {d : Bool} : effQt .go G m d (.val p v) N = (p ∧ N .go v m) := Eq.trans rfl rfl
theorem t_qnewb {f : Nat → SV} {e : Nat → Blk} : effQt .go G m false (.newb f e) N = ∀ b : Nat, N .go (f b) (bpush m (e b)) := effQ_newb
theorem t_qnewo {p : Prop} {f : Value → SV} {e : Value → Blk} : effQt .go G m false (.newo p f e) N = (p ∧ ∀ v : Value, N .go (f v) (bpush m (e v))) := effQ_newo
theorem t_qcall {f : FuncId} {args : List SV} : effQt .go G m false (.call f args) N = callQt .go m (G f args m) N := effQ_call
theorem t_qpure {p : Prop} {v : SV} : callQt .go m (.pure p v) N = (p ∧ N .go v m) := Eq.trans rfl rfl
theorem t_qown {p : Prop} {ty : TypeId} {es n : Nat} {con : Con} {F : SV → SV} : callQt .go m (.own p ty es n con F) N = (p ∧ ∀ v : Value, N .go (F (.own (blen m) v n)) (bpush m (.own v n ty es con))) := Eq.trans rfl rfl
theorem t_knil : vcOpst .go T G all [] env m K = K .go env m := Eq.trans rfl rfl
theorem t_kcons : vcOpst .go T G all (o :: l) env m K = gdT .go (gd all env o) (fun t => effKt t G m (step T env m o) fun t v m' => vcOpst t T G all l (upd env o.dst v) m' K) (fun t => vcOpst t T G all l (upd env o.dst .undef) m K) := Eq.trans rfl rfl
theorem t_qnil : vcQt .go T G all [] env m K = K .go env m := Eq.trans rfl rfl
theorem t_qcons : vcQt .go T G all (o :: l) env m K = gdT .go (gd all env o) (fun t => effQt t G m (dOp o.op) (step T env m o) fun t v m' => vcQt t T G all l (upd env o.dst v) m' K) (fun t => vcQt t T G all l (upd env o.dst .undef) m K) := Eq.trans rfl rfl
theorem t_alnil {N : Tok → List SV → List Blk → Prop} : alKt .go [] env m N = N .go env m := Eq.trans rfl rfl
theorem t_alcons {x : AlD} {AL : List AlD} {N : Tok → List SV → List Blk → Prop} : alKt .go (x :: AL) env m N = ∀ b : Nat, alKt .go AL (sset env x.d (.ptr (blen m) b 0 0 0 0)) (bpush m (.blk b x.t x.c)) N := Eq.trans rfl rfl
end
/-! Computing by equations that bear their proofs: what the kernel would else compare by unfolding. -/
theorem cT {α : Type} {a b : α} : cond true a b = a := Eq.trans rfl rfl
theorem cF {α : Type} {a b : α} : cond false a b = b := Eq.trans rfl rfl
theorem tnc {n : Nat} : ((n : Nat) : Int).toNat = n := Eq.trans rfl rfl
theorem sC0 {α : Type} {x y : α} {l : List α} : List.set (x :: l) 0 y = y :: l := Eq.trans rfl rfl
theorem sCs {α : Type} {x y : α} {l : List α} {n : Nat} : List.set (x :: l) (n + 1) y = x :: List.set l n y := Eq.trans rfl rfl
theorem gD0 {α : Type} {x d : α} {l : List α} : List.getD (x :: l) 0 d = x := Eq.trans rfl rfl
theorem gDs {α : Type} {x d : α} {l : List α} {n : Nat} : List.getD (x :: l) (n + 1) d = List.getD l n d := Eq.trans rfl rfl
theorem numI_0 : numI [0, 0, 0, 0] = 0 := Eq.trans rfl rfl
theorem askT_of {b : Bool} {X S : Tok → Prop} (h : b = true) (hX : b = true → X .go) : askT b X S := by subst h; exact hX rfl
theorem askT_not {b : Bool} {X S : Tok → Prop} (h : b = false) (hS : S .go) : askT b X S := by subst h; exact hS
theorem askT_both {b : Bool} {X S : Tok → Prop} (hX : b = true → X .go) (hS : b = false → S .go) : askT b X S := by
  cases b
  · exact hS rfl
  · exact hX rfl
theorem Vc.regiont {P : Program} {T : Tab} (hT : TabOk P T) {G : Ctr} (hG : GOk P G) {id : Nat} {ops : List Oper} {env : List SV} {m : List Blk} {K : Kont} (h : vcOpst .go T G ops ops env m (fun _ => K .normal)) : Vc P (.region id ops.toArray false) env m K := Vc.region hT hG h
theorem Vc.drawt {P : Program} {T : Tab} (hT : TabOk P T) {G : Ctr} (hG : GOk P G) (hm : P.follows .mixedOrders = true) {id : Nat} {l : List Oper} {env : List SV} {m : List Blk} {K : Kont} (σ : List Nat) (n : Nat) (AL : List AlD)
    (hAL : alsOk T l AL) (hB : drawB l.toArray σ n (AL.map (·.j)) (AL.map (·.d)) = true)
    (h : vcQt .go T G l (pickO l σ) env m fun t env m => alKt t AL env m fun t env m => vcOpst t T G l (dropO n l) env m fun _ => K .normal) : Vc P (.region id l.toArray true) env m K :=
  Vc.draw hT hG hm σ n AL hAL hB (by rw [pickL_eq]; simp only [dropL_eq]; exact h)
end Go.Proofs.Ytkljpgdcmahenaa

/-
  A symbolic walk of my own: what computes the lists of a region that draws; contracts proved otherwise.
-/
import Derived.Test.YtkljpgdcmahenaaEH
import Derived.Test.YtkljpgdcmahenaaBase
namespace Go.Proofs.Ytkljpgdcmahenaa
set_option linter.unusedSimpArgs false
set_option linter.unusedVariables false
open Go.RowKit
def nthO : List Oper → Nat → Option Oper
  | [], _ => none
  | x :: _, 0 => some x
  | _ :: l, n + 1 => nthO l n
theorem nthO_eq : ∀ (l : List Oper) (n : Nat), nthO l n = l[n]?
  | [], n => by simp [nthO]
  | x :: l, 0 => by simp [nthO]
  | x :: l, n + 1 => by simp [nthO, nthO_eq l n]
def pickO (l : List Oper) : List Nat → List Oper
  | [] => []
  | i :: r => match nthO l i with | some o => o :: pickO l r | none => pickO l r
theorem pickL_eq (l : List Oper) : ∀ s, pickL l s = pickO l s
  | [] => rfl
  | i :: r => by
    simp only [pickL, pickO, nthO_eq]
    cases l[i]? <;> simp only [pickL_eq l r]
def dropO : Nat → List Oper → List Oper
  | 0, l => l
  | _ + 1, [] => []
  | n + 1, _ :: l => dropO n l
theorem dropL_eq : ∀ (l : List Oper) (n : Nat), l.drop n = dropO n l
  | l, 0 => by simp [dropO]
  | [], n + 1 => by simp [dropO]
  | x :: l, n + 1 => by simp [dropO, dropL_eq l n]
@[congr] theorem vcQ_congr {T : Tab} {G : Ctr} {all l l' : List Oper} {env env' : List SV} {m m' : List Blk} {K : List SV → List Blk → Prop} (h : l = l') (he : env = env') (hm : m = m') : vcQ T G all l env m K = vcQ T G all l' env' m' K := by rw [h, he, hm]
@[congr] theorem vcOps_congr {T : Tab} {G : Ctr} {all l l' : List Oper} {env env' : List SV} {m m' : List Blk} {K : List SV → List Blk → Prop} (h : l = l') (he : env = env') (hm : m = m') : vcOps T G all l env m K = vcOps T G all l' env' m' K := by rw [h, he, hm]
@[congr] theorem alK_congr {AL AL' : List AlD} {env env' : List SV} {m m' : List Blk} {N : List SV → List Blk → Prop} (h : AL = AL') (he : env = env') (hm : m = m') : alK AL env m N = alK AL' env' m' N := by rw [h, he, hm]
@[congr] theorem Vc_congr {P : Program} {c : Code} {env env' : List SV} {m m' : List Blk} {K : Kont} (he : env = env') (hm : m = m') : Vc P c env m K = Vc P c env' m' K := by rw [he, hm]
theorem eqB_t {b : Bool} : eqB b true = b := by cases b <;> rfl
theorem eqB_f {b : Bool} : eqB b false = !b := by cases b <;> rfl
theorem askK_of {b : Bool} {X S : Prop} (h : b = true) (hX : X) : askK b X S := by subst h; exact hX
theorem askK_both {b : Bool} {X S : Prop} (hX : b = true → X) (hS : b = false → S) : askK b X S := by
  cases b
  · exact hS rfl
  · exact hX rfl
theorem wrap_i8 {x : Int} (h0 : -128 ≤ x) (h1 : x ≤ 127) : IntKind.i8.wrap x = x := wrap_inK (k := .i8) ⟨h0, h1⟩
theorem wrap_i16 {x : Int} (h0 : -32768 ≤ x) (h1 : x ≤ 32767) : IntKind.i16.wrap x = x := wrap_inK (k := .i16) ⟨h0, h1⟩
theorem wrap_i32 {x : Int} (h0 : -2147483648 ≤ x) (h1 : x ≤ 2147483647) : IntKind.i32.wrap x = x := wrap_inK (k := .i32) ⟨h0, h1⟩
theorem wrap_i64 {x : Int} (h0 : -9223372036854775808 ≤ x) (h1 : x ≤ 9223372036854775807) : IntKind.i64.wrap x = x := wrap_inK (k := .i64) ⟨h0, h1⟩
theorem wrap_u8 {x : Int} (h0 : 0 ≤ x) (h1 : x ≤ 255) : IntKind.u8.wrap x = x := wrap_inK (k := .u8) ⟨h0, h1⟩
theorem mod_u8 (x : Int) : IntKind.u8.wrap x = x % 256 := by simp [IntKind.wrap, IntKind.bits, IntKind.signed]
theorem wrap_u16 {x : Int} (h0 : 0 ≤ x) (h1 : x ≤ 65535) : IntKind.u16.wrap x = x := wrap_inK (k := .u16) ⟨h0, h1⟩
theorem mod_u16 (x : Int) : IntKind.u16.wrap x = x % 65536 := by simp [IntKind.wrap, IntKind.bits, IntKind.signed]
theorem wrap_u32 {x : Int} (h0 : 0 ≤ x) (h1 : x ≤ 4294967295) : IntKind.u32.wrap x = x := wrap_inK (k := .u32) ⟨h0, h1⟩
theorem mod_u32 (x : Int) : IntKind.u32.wrap x = x % 4294967296 := by simp [IntKind.wrap, IntKind.bits, IntKind.signed]
theorem wrap_u64 {x : Int} (h0 : 0 ≤ x) (h1 : x ≤ 18446744073709551615) : IntKind.u64.wrap x = x := wrap_inK (k := .u64) ⟨h0, h1⟩
theorem mod_u64 (x : Int) : IntKind.u64.wrap x = x % 18446744073709551616 := by simp [IntKind.wrap, IntKind.bits, IntKind.signed]
/-- Eight slots of a frame, and what follows. -/
def c8 (a b c d e f g h : SV) (l : List SV) : List SV := a :: b :: c :: d :: e :: f :: g :: h :: l
section
variable {a b c d e f g h v : SV} {l : List SV} {n : Nat}
theorem c8g0 : sget (c8 a b c d e f g h l) 0 = a := rfl
theorem c8g1 : sget (c8 a b c d e f g h l) 1 = b := rfl
theorem c8g2 : sget (c8 a b c d e f g h l) 2 = c := rfl
theorem c8g3 : sget (c8 a b c d e f g h l) 3 = d := rfl
theorem c8g4 : sget (c8 a b c d e f g h l) 4 = e := rfl
theorem c8g5 : sget (c8 a b c d e f g h l) 5 = f := rfl
theorem c8g6 : sget (c8 a b c d e f g h l) 6 = g := rfl
theorem c8g7 : sget (c8 a b c d e f g h l) 7 = h := rfl
theorem c8gs : sget (c8 a b c d e f g h l) (n + 8) = sget l n := rfl
theorem c8s0 : sset (c8 a b c d e f g h l) 0 v = c8 v b c d e f g h l := rfl
theorem c8s1 : sset (c8 a b c d e f g h l) 1 v = c8 a v c d e f g h l := rfl
theorem c8s2 : sset (c8 a b c d e f g h l) 2 v = c8 a b v d e f g h l := rfl
theorem c8s3 : sset (c8 a b c d e f g h l) 3 v = c8 a b c v e f g h l := rfl
theorem c8s4 : sset (c8 a b c d e f g h l) 4 v = c8 a b c d v f g h l := rfl
theorem c8s5 : sset (c8 a b c d e f g h l) 5 v = c8 a b c d e v g h l := rfl
theorem c8s6 : sset (c8 a b c d e f g h l) 6 v = c8 a b c d e f v h l := rfl
theorem c8s7 : sset (c8 a b c d e f g h l) 7 v = c8 a b c d e f g v l := rfl
theorem c8ss : sset (c8 a b c d e f g h l) (n + 8) v = c8 a b c d e f g h (sset l n v) := rfl
end
def havV (junk : Nat → SV) (lo hi : Nat) (u : List (Nat × SV)) (i : Nat) (x : SV) : SV := match lk u i with | some v => v | none => match inR lo hi i with | true => junk i | false => x
def agrV (lo hi : Nat) (u : List (Nat × SV)) (i : Nat) (x y : SV) : Prop := match lk u i with | some v => y = v | none => match inR lo hi i with | true => True | false => y = x
theorem c8hav {junk : Nat → SV} {lo hi : Nat} {u : List (Nat × SV)} {i : Nat} {a b c d e f g h : SV} {l : List SV} : hav junk lo hi u i (c8 a b c d e f g h l) = c8 (havV junk lo hi u i a) (havV junk lo hi u (i + 1) b) (havV junk lo hi u (i + 2) c) (havV junk lo hi u (i + 3) d) (havV junk lo hi u (i + 4) e) (havV junk lo hi u (i + 5) f) (havV junk lo hi u (i + 6) g) (havV junk lo hi u (i + 7) h) (hav junk lo hi u (i + 8) l) := rfl
theorem c8agr {lo hi : Nat} {u : List (Nat × SV)} {i : Nat} {a b c d e f g h a' b' c' d' e' f' g' h' : SV} {l k : List SV} : agr lo hi u i (c8 a b c d e f g h l) (c8 a' b' c' d' e' f' g' h' k) = (agrV lo hi u i a a' ∧ agrV lo hi u (i + 1) b b' ∧ agrV lo hi u (i + 2) c c' ∧ agrV lo hi u (i + 3) d d' ∧ agrV lo hi u (i + 4) e e' ∧ agrV lo hi u (i + 5) f f' ∧ agrV lo hi u (i + 6) g g' ∧ agrV lo hi u (i + 7) h h' ∧ agr lo hi u (i + 8) l k) := rfl
theorem gw_grown (w : World) (p : Gro) : w.grownBy (gw w p) none := ⟨rfl, rfl, rfl, by rw [gw_size]; omega, fun k hk _ => gw_block w p hk⟩
theorem gw_of_grown {w w' : World} (h : w.grownBy w' none) : ∃ p : Gro, w' = gw w p := by
  obtain ⟨h1, h2, h3, h4, h5⟩ := h
  exact gw_of_below ⟨h1, h2, h3, h4, fun k hk => h5 k hk (by simp)⟩
theorem pure_old {P : Program} {w0 : World} {B : List Nat} {f : FuncId} {fn : Func} {args : List SV} {m : List Blk} {p : Prop} {v : SV} (hf : P.funcs[f]? = some fn) (hn : (fn.name == "runtime.NumGoroutine") = false) (hb : fn.body.isNone = false)
    (h : p → ∀ w, Calls P f (cvs args).toArray w (Ret w (cv v))) : CROk P w0 B f args m (.pure p v) := fun hp w _ =>
  .inr ⟨enter_run hf hn hb _ w, (h hp w).mono fun e w' ⟨he, q, hq⟩ => ⟨cv v, he, rfl, by rw [hq]; exact gw_grown w q⟩⟩
end Go.Proofs.Ytkljpgdcmahenaa

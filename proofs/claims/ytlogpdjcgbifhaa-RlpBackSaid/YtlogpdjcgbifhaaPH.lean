/-
  errors.Is, asked for a number that is an error: of nothing, and of a fault that wraps it. No condition.
-/
import Derived.Test.YtlogpdjcgbifhaaPG
import Derived.WalkKit
import Derived.LaidEql
import Derived.Stop.Asserts
import Derived.RowKitTokens
namespace Go.Proofs.Ytlogpdjcgbifhaa
set_option linter.unusedSimpArgs false
set_option linter.unusedVariables false
open Go.RowKit Go.Extern.Stop Go.Stop Go.Extern
theorem nilR {P : Program} {ti : TypeId} {ms : Array (String × TypeId)} (w : World) (tp : TypeId) (v : Value) (hi : P.underlying ti = some (.interface ms)) :
    (binOp .eql ti (.iface tp v) .nilIface).run P w = .ok (.bool false) w := by simp [binOp, (equal_ifc hi w).2.1]
theorem isTypeOf (v : Value) (w : World) : (Extern.ReflectliteType.typeOf #[.iface 36 v]).run Try.prog w = .ok (.iface 81 (.agg #[.pointer (some ⟨0, 36, none⟩)])) w := by kernel_rfl
theorem isComparable (w : World) : ((Extern.ReflectliteType.method fun t => do Go.Extern.Rtype.noPackHeld "Comparable" t; (fun a => Value.bool a.comparable) <$> typeInfo t) #[.agg #[.pointer (some ⟨0, 36, none⟩)]]).run Try.prog w = .ok (.bool true) w := by kernel_rfl
theorem mComp (n : Nat) (v : Value) (w : World) : (Go.method (n + 1) 81 v "Comparable").run Try.prog w = .ok (63, v) w := by kernel_rfl
theorem mUnwrap (n : Nat) (v : Value) (w : World) : (Go.method (n + 1) 67 v "Unwrap").run Try.prog w = .ok (59, v) w := by kernel_rfl
theorem eqErr (w : World) : (binOp .eql 53 (.iface 36 (.int .u16 40)) (.iface 36 (.int .u16 40))).run Try.prog w = .ok (.bool true) w := by kernel_rfl
theorem noIs (v : Value) (xT : TypeId) (w : World) : (Instr.typeAssert (.iface 67 v) xT 83 true).run Try.prog w = .ok (.tuple #[.nilIface, .bool false]) w := run_typeAssert_lacksB Try.underlying83 (by kernel_rfl) (by kernel_rfl) v xT w
theorem hasUnwrap (v : Value) (xT : TypeId) (w : World) : (Instr.typeAssert (.iface 67 v) xT 86 true).run Try.prog w = .ok (.tuple #[.iface 67 v, .bool true]) w := run_typeAssert_hasB Try.underlying86 (by kernel_rfl) v xT w
theorem is_nil (b : Int) (w : World) :
    Calls Try.prog 27 #[.nilIface, .iface 36 (.int .u16 b)] w fun e w' => e = .returned (.bool false) ∧ w' = w := by
  have hn := run_eql_iface_nil_left (P := Try.prog) w 36 (.int .u16 b) Try.underlying53
  go_enter Try.func27, Try.ntmps27
  go_wp2
  go_ret
  exact ⟨rfl, rfl⟩
set_option maxRecDepth 1000000 in
theorem is_flt (p : Int) (w : World) :
    Calls Try.prog 27 #[.iface 67 (.agg #[.int .i64 p, .iface 36 (.int .u16 40)]), .iface 36 (.int .u16 40)] w fun e w' => e = .returned (.bool true) ∧ w.grownBy w' .none := by
  have h33 := @run_callFunc_extern Try.prog 33 _ Extern.ReflectliteType.typeOf Try.func33 (by kernel_rfl) (by kernel_rfl) (by kernel_rfl) (by kernel_rfl)
  have h63 := @run_callFunc_extern Try.prog 63 _ (Extern.ReflectliteType.method fun t => do Go.Extern.Rtype.noPackHeld "Comparable" t; pure (.bool (← typeInfo t).comparable)) Try.func63 (by kernel_rfl) (by kernel_rfl) (by kernel_rfl) (by kernel_rfl)
  have tT := isTypeOf
  have cT := isComparable
  have nI := noIs
  have mC := mComp
  have mU := mUnwrap
  have hee := eqErr
  have uW := hasUnwrap
  have hty := run_eql_iface_types (P := Try.prog) 67 36 (.agg #[.int .i64 p, .iface 36 (.int .u16 40)]) (.int .u16 40) Try.underlying53 (by decide) w
  have hn1 := nilR (P := Try.prog) w 67 (.agg #[.int .i64 p, .iface 36 (.int .u16 40)]) Try.underlying53
  have hn2 := nilR (P := Try.prog) w 36 (.int .u16 40) Try.underlying53
  go_enter Try.func27, Try.ntmps27
  go_wp2
  refine wp_loop_rounds 2 ?_
  rw [rounds_succ]
  go_wp2
  rw [rounds_succ]
  simp (config := { decide := true }) only [Array.getD_eq_getD_getElem?, List.getElem?_toArray, List.getElem?_cons_succ, List.getElem?_cons_zero, Option.getD_some]
  go_wp2
  go_ret
  exact ⟨rfl, World.grownBy_alloc w _ none⟩
/-- errors.Is of what a reader's error may be. -/
def g_isE (args : List SV) (m : List Blk) : CR :=
  match args with
  | [.raw .nilIface, .ifc t (.int .u16 40)] => .pure (t = 36) (.bool false)
  | [.ifc t0 (.agg [.int .i64 p, .ifc t1 (.int .u16 40)]), .ifc t (.int .u16 40)] => .pure (t0 = 67 ∧ t1 = 36 ∧ t = 36) (.bool true)
  | _ => .none
theorem g_isE_ok (w0 : World) (B : List Nat) (args : List SV) (m : List Blk) : CROk Try.prog w0 B 27 args m (g_isE args m) := by
  unfold g_isE
  split
  · rintro rfl w _
    exact .inr ⟨enter_run Try.func27 rfl rfl _ w, (is_nil 40 w).mono fun e w' h => ⟨_, h.1, rfl, h.2 ▸ grown_refl w⟩⟩
  · rename_i t0 p t1 t
    rintro ⟨rfl, rfl, rfl⟩ w _
    exact .inr ⟨enter_run Try.func27 rfl rfl _ w, (is_flt p w).mono fun e w' h => ⟨_, h.1, rfl, h.2⟩⟩
  · exact trivial
end Go.Proofs.Ytlogpdjcgbifhaa

/-
 Two arrays and a type's handle that a row lists: what they hold. No condition.
-/
import Derived.Test.YthdpgfdfgidokaaDoorTab
import Derived.Test.YthdpgfdfgidokaaDoorW3
import Derived.WalkKit
import Derived.LaidEql
import Derived.Stop.Asserts
import Derived.RowKitTokens
import Derived.Test.YthdpgfdfgidokaaDoorFJ
import Derived.Test.YthdpgfdfgidokaaDoorFV
import Derived.Test.YthdpgfdfgidokaaDoorCards
import Derived.Test.YthdpgfdfgidokaaDoorTie
import Derived.Deep.DeepHandedRow
import Derived.Lib.LaidTab
import Derived.LaidHandle
import Derived.OpenShut
set_option maxRecDepth 10000
set_option linter.unusedVariables false
set_option linter.unusedSimpArgs false
namespace Go.Proofs.YthdpgfdfgidokaaDoor
open Go.RowKit Go.Extern.Stop Go.Stop Go.Extern
theorem as_method (z : Sem Value) (f : TypeId → Addr → Nat → Nat → Sem Value) (v : Value) :
  ReflectliteValue.method z f #[v] = (do match ← ReflectliteValue.parts v with | none => z | some (t, a, fl) => f t a fl (fl % 32)) := rfl
theorem v_ptr (b : Nat) (w : World) : (ReflectliteValue.unpack (.iface 98 (.pointer (some ⟨b, 0, none⟩)))).run Tryd.prog w = .ok (.agg #[(.pointer (some ⟨3, 98, none⟩)), .pointer (some ⟨w.heap.size, 0, none⟩), .int .u64 150]) (w.alloc (.cells #[.pointer (some ⟨b, 0, none⟩)] 98)) := by
 have hk : (Rtype.kind 98).run Tryd.prog w = .ok 22 w := by kernel_rfl
 have hh : (Rtype.handle 98).run Tryd.prog (w.alloc (.cells #[.pointer (some ⟨b, 0, none⟩)] 98)) = .ok (.pointer (some ⟨3, 98, none⟩)) (w.alloc (.cells #[.pointer (some ⟨b, 0, none⟩)] 98)) := by kernel_rfl
 have hk' : (Rtype.kind 98).run Tryd.prog (w.alloc (.cells #[.pointer (some ⟨b, 0, none⟩)] 98)) = .ok 22 (w.alloc (.cells #[.pointer (some ⟨b, 0, none⟩)] 98)) := by kernel_rfl
 simp [ReflectliteValue.unpack, ReflectliteValue.mk, newVar, newRow, hh, hk', Result.andThen, Value.cells, ReflectliteValue.flagIndir]
theorem v_flt (p c : Int) (w : World) : (ReflectliteValue.unpack (.iface 96 (.agg #[.int .i64 p, .int .u16 c]))).run Tryd.prog w = .ok (.agg #[(.pointer (some ⟨3, 96, none⟩)), .pointer (some ⟨w.heap.size, 0, none⟩), .int .u64 153]) (w.alloc (.cells #[.int .i64 p, .int .u16 c] 96)) := by
 have hh : (Rtype.handle 96).run Tryd.prog (w.alloc (.cells #[.int .i64 p, .int .u16 c] 96)) = .ok (.pointer (some ⟨3, 96, none⟩)) (w.alloc (.cells #[.int .i64 p, .int .u16 c] 96)) := by kernel_rfl
 have hk' : (Rtype.kind 96).run Tryd.prog (w.alloc (.cells #[.int .i64 p, .int .u16 c] 96)) = .ok 25 (w.alloc (.cells #[.int .i64 p, .int .u16 c] 96)) := by kernel_rfl
 simp [ReflectliteValue.unpack, ReflectliteValue.mk, newVar, newRow, hh, hk', Result.andThen, Value.cells, ReflectliteValue.flagIndir]
theorem v_typ (a : Addr) (w : World) : (ReflectliteValue.methodAny (ReflectliteValue.valueError "reflectlite.Value.Type" 0) (fun t _ _ _ => ReflectliteType.toType t) #[.agg #[(.pointer (some ⟨3, 98, none⟩)), .pointer (some a), .int .u64 150]]).run Tryd.prog w = .ok (.iface 149 (.agg #[.pointer (some ⟨3, 98, none⟩)])) w := by
 kernel_rfl
theorem p_ptr (a : Addr) (w : World) : (ReflectliteValue.parts (.agg #[(.pointer (some ⟨3, 98, none⟩)), .pointer (some a), .int .u64 150])).run Tryd.prog w = .ok (some (98, a, 150)) w := by kernel_rfl
theorem p_dst (a : Addr) (w : World) : (ReflectliteValue.parts (.agg #[(.pointer (some ⟨3, 96, none⟩)), .pointer (some a), .int .u64 409])).run Tryd.prog w = .ok (some (96, a, 409)) w := by kernel_rfl
theorem p_src (a : Addr) (w : World) : (ReflectliteValue.parts (.agg #[(.pointer (some ⟨3, 96, none⟩)), .pointer (some a), .int .u64 153])).run Tryd.prog w = .ok (some (96, a, 153)) w := by kernel_rfl
theorem v_isn (a x : Addr) (w : World) (ha : w.cell? a = some (.pointer (some x))) : (ReflectliteValue.method (ReflectliteValue.valueError "reflectlite.Value.IsNil" 0) ReflectliteValue.isNil #[.agg #[(.pointer (some ⟨3, 98, none⟩)), .pointer (some a), .int .u64 150]]).run Tryd.prog w = .ok (.bool false) w := by
 have hg : (isAgg 98).run Tryd.prog w = .ok false w := by kernel_rfl
 rw [as_method]
 simp only [Sem.run_bind, p_ptr, Result.andThen]
 simp [ReflectliteValue.isNil, loadVar, hg, ha, Result.andThen]
theorem v_elm (a x : Addr) (w : World) (ha : w.cell? a = some (.pointer (some x))) : (ReflectliteValue.method (ReflectliteValue.valueError "reflectlite.Value.Elem" 0) ReflectliteValue.elem #[.agg #[(.pointer (some ⟨3, 98, none⟩)), .pointer (some a), .int .u64 150]]).run Tryd.prog w = .ok (.agg #[(.pointer (some ⟨3, 96, none⟩)), .pointer (some x), .int .u64 409]) w := by
 have hg : (isAgg 98).run Tryd.prog w = .ok false w := by kernel_rfl
 have he : (Rtype.elem? 98).run Tryd.prog w = .ok (some 96) w := by kernel_rfl
 have hh : (Rtype.handle 96).run Tryd.prog w = .ok (.pointer (some ⟨3, 96, none⟩)) w := by kernel_rfl
 have hk' : (Rtype.kind 96).run Tryd.prog w = .ok 25 w := by kernel_rfl
 rw [as_method]
 simp only [Sem.run_bind, p_ptr, Result.andThen]
 simp [ReflectliteValue.elem, ReflectliteValue.mk, loadVar, hg, ha, he, hh, hk', Result.andThen, ReflectliteValue.flagIndir, ReflectliteValue.flagAddr]
theorem as_set (x y : Value) : ReflectliteValue.set #[x, y] = (do
  let (some (dst, a, fl), some (src, b, _)) := (← ReflectliteValue.parts x, ← ReflectliteValue.parts y)
   | unsupported (.noEntry "extern/(internal/reflectlite.Value).Set.zeroValue")
  if fl / ReflectliteValue.flagAddr % 2 == 0 then unsupported (.noEntry "extern/(internal/reflectlite.Value).Set.unaddressable")
  let val ← loadVar src b
  if ← Rtype.directlyAssignable dst src then storeVar dst a val
  else if ← Rtype.implements dst src then
   if (← Rtype.kind src) == 20 then
    match val with
    | .nilIface => unsupported (.noEntry "extern/reflectlite: a nil value of one interface type handed on as a value of another")
    | _ => storeVar dst a val
   else storeVar dst a (.iface src val)
  else panicString ("reflectlite.Set: value of type " ++ (← Rtype.spelt src) ++ " is not assignable to type " ++ (← Rtype.spelt dst))
  pure (.tuple #[])) := rfl
def setFd (w : World) (b : Nat) (p c : Int) : World := w.setRow b #[.int .i64 p, .int .u16 c]
theorem v_set (b s : Nat) (p c p0 c0 : Int) (w : World) (hs : w.heap[s]? = some (.cells #[.int .i64 p, .int .u16 c] 96 (0, 0))) (hb : w.heap[b]? = some (.cells #[.int .i64 p0, .int .u16 c0] 96 (0, 0))) :
  (ReflectliteValue.set #[.agg #[(.pointer (some ⟨3, 96, none⟩)), .pointer (some ⟨b, 0, none⟩), .int .u64 409], .agg #[(.pointer (some ⟨3, 96, none⟩)), .pointer (some ⟨s, 0, none⟩), .int .u64 153]]).run Tryd.prog w = .ok (.tuple #[]) (setFd w b p c) := by
 have hg : (isAgg 96).run Tryd.prog w = .ok true w := by kernel_rfl
 have hz : (sizeOf 96).run Tryd.prog w = .ok 2 w := by kernel_rfl
 have hd : (Rtype.directlyAssignable 96 96).run Tryd.prog w = .ok true w := by kernel_rfl
 rw [as_set]
 have e0 : w.cell? ⟨s, 0, none⟩ = some (.int .i64 p) := by simp [World.cell?, hs]
 have e1 : w.cell? ⟨s, 1, none⟩ = some (.int .u16 c) := by simp [World.cell?, hs]
 have hL : (loadVar 96 ⟨s, 0, none⟩).run Tryd.prog w = .ok (.agg #[.int .i64 p, .int .u16 c]) w := by
  simp [loadVar, hg, hz, loadCells, loadCellsFrom, Addr.add, e0, e1, Result.andThen]
 have hS : (storeVar 96 ⟨b, 0, none⟩ (.agg #[.int .i64 p, .int .u16 c])).run Tryd.prog w = .ok () (setFd w b p c) := by
  have h := run_storeCells_at (P := Tryd.prog) b 0 96 [.int .i64 p, .int .u16 c] 0 #[.int .i64 p0, .int .u16 c0] w hb (by simp) (by simp [Value.oneCell'])
  simp [storeVar, Value.cells, hz, Result.andThen] at h ⊢
  exact h
 simp only [Sem.run_bind, p_dst, p_src, Result.andThen]
 simp [hL, hd, hS, ReflectliteValue.flagAddr, Result.andThen]
theorem m_kind (n : Nat) (t : TypeId) (w : World) : (Go.method (n + 1) 149 (.agg #[(.pointer (some ⟨3, t, none⟩))]) "Kind").run Tryd.prog w = .ok (157, (.pointer (some ⟨3, t, none⟩))) w := by kernel_rfl
theorem m_elem (n : Nat) (v : Value) (w : World) : (Go.method (n + 1) 149 v "Elem").run Tryd.prog w = .ok (169, v) w := by kernel_rfl
theorem m_impl (n : Nat) (v : Value) (w : World) : (Go.method (n + 1) 149 v "Implements").run Tryd.prog w = .ok (170, v) w := by kernel_rfl
theorem m_assn (n : Nat) (v : Value) (w : World) : (Go.method (n + 1) 149 v "AssignableTo").run Tryd.prog w = .ok (167, v) w := by kernel_rfl
theorem x_kindP (w : World) : (ReflectliteType.abiMethod (fun t => (fun (a : Nat) => Value.int .u8 (a : Int)) <$> Rtype.kind t) #[(.pointer (some ⟨3, 98, none⟩))]).run Tryd.prog w = .ok (.int .u8 22) w := by kernel_rfl
theorem x_kindF (w : World) : (ReflectliteType.abiMethod (fun t => (fun (a : Nat) => Value.int .u8 (a : Int)) <$> Rtype.kind t) #[(.pointer (some ⟨3, 96, none⟩))]).run Tryd.prog w = .ok (.int .u8 25) w := by kernel_rfl
theorem x_elem (w : World) : (ReflectliteType.method ReflectliteType.elem #[.agg #[(.pointer (some ⟨3, 98, none⟩))]]).run Tryd.prog w = .ok (.iface 149 (.agg #[.pointer (some ⟨3, 96, none⟩)])) w := by kernel_rfl
theorem x_impl (w : World) : (ReflectliteType.relation "Implements" ReflectliteType.implements_ #[.agg #[(.pointer (some ⟨3, 96, none⟩))], (.iface 149 (.agg #[.pointer (some ⟨3, 92, none⟩)]))]).run Tryd.prog w = .ok (.bool true) w := by kernel_rfl
theorem x_assn (w : World) : (ReflectliteType.relation "AssignableTo" ReflectliteType.assignableTo #[.agg #[(.pointer (some ⟨3, 96, none⟩))], (.iface 149 (.agg #[.pointer (some ⟨3, 96, none⟩)]))]).run Tryd.prog w = .ok (.bool true) w := by kernel_rfl
theorem x_type (v : Value) (w : World) : (Extern.ReflectliteType.typeOf #[.iface 96 v]).run Tryd.prog w = .ok (.iface 149 (.agg #[.pointer (some ⟨3, 96, none⟩)])) w := by kernel_rfl
theorem alloc_at (w : World) (o : Obj) : (w.alloc o).heap[w.heap.size]? = some o := by
 show (w.heap.push o)[w.heap.size]? = some o
 simp
theorem turn_set {w W' : World} {b : Nat} {t : TypeId} {c0 : Array Value} (g : w.grownBy W' none) (hb : w.heap[b]? = some (.cells c0 t (0, 0))) (con : Con) : MemOk w [b] [.blk b t con] (W'.setRow b (cc con).toArray) := by
 have s := setRow_grown W' b (cc con).toArray
 have hb0 : b < w.heap.size := (Array.getElem?_eq_some_iff.1 hb).1
 have hb1 : W'.heap[b]? = some (.cells c0 t (0, 0)) := by rw [g.block b hb0 (by simp)]; exact hb
 refine ⟨s.os.trans g.os, s.tape.trans g.tape, s.output.trans g.output, Nat.le_trans g.size s.size, fun k hk hkb => ?_, fun e he => ?_, by simp [Blk.nums]⟩
 ·rw [s.block k (Nat.lt_of_lt_of_le hk g.size) (by simpa using fun e => hkb (by simp [e])), g.block k hk (by simp)]
 ·rw [List.mem_singleton] at he
  subst he
  exact ⟨setRow_E hb1, .inr (by simp)⟩
set_option maxRecDepth 1000000 in
theorem as_flt (b : Nat) (p c p0 c0 : Int) (w : World) (hb : w.heap[b]? = some (.cells #[.int .i64 p0, .int .u16 c0] 96 (0, 0))) (he : w.cell? ⟨0, 0, none⟩ = some (.iface 149 (.agg #[.pointer (some ⟨3, 92, none⟩)]))) :
  Calls Tryd.prog 85 #[.iface 96 (.agg #[.int .i64 p, .int .u16 c]), .iface 98 (.pointer (some ⟨b, 0, none⟩))] w fun e w' => e = .returned (.bool true) ∧ MemOk w [b] [.blk b 96 (.cells [.int .i64 p, .int .u16 c])] w' := by
 have hVO := @run_callFunc_extern Tryd.prog 111 _ (fun args => ReflectliteValue.unpack (args.getD 0 (.tuple #[]))) Tryd.func111 (by kernel_rfl) (by kernel_rfl) (by kernel_rfl) (by kernel_rfl)
 have hVT := @run_callFunc_extern Tryd.prog 112 _ (ReflectliteValue.methodAny (ReflectliteValue.valueError "reflectlite.Value.Type" 0) (fun t _ _ _ => ReflectliteType.toType t)) Tryd.func112 (by kernel_rfl) (by kernel_rfl) (by kernel_rfl) (by kernel_rfl)
 have hVI := @run_callFunc_extern Tryd.prog 113 _ (ReflectliteValue.method (ReflectliteValue.valueError "reflectlite.Value.IsNil" 0) ReflectliteValue.isNil) Tryd.func113 (by kernel_rfl) (by kernel_rfl) (by kernel_rfl) (by kernel_rfl)
 have hVE := @run_callFunc_extern Tryd.prog 127 _ (ReflectliteValue.method (ReflectliteValue.valueError "reflectlite.Value.Elem" 0) ReflectliteValue.elem) Tryd.func127 (by kernel_rfl) (by kernel_rfl) (by kernel_rfl) (by kernel_rfl)
 have hVS := @run_callFunc_extern Tryd.prog 128 _ ReflectliteValue.set Tryd.func128 (by kernel_rfl) (by kernel_rfl) (by kernel_rfl) (by kernel_rfl)
 have hTO := @run_callFunc_extern Tryd.prog 126 _ Extern.ReflectliteType.typeOf Tryd.func126 (by kernel_rfl) (by kernel_rfl) (by kernel_rfl) (by kernel_rfl)
 have hRE := @run_callFunc_extern Tryd.prog 169 _ (ReflectliteType.method ReflectliteType.elem) Tryd.func169 (by kernel_rfl) (by kernel_rfl) (by kernel_rfl) (by kernel_rfl)
 have hRI := @run_callFunc_extern Tryd.prog 170 _ (ReflectliteType.relation "Implements" ReflectliteType.implements_) Tryd.func170 (by kernel_rfl) (by kernel_rfl) (by kernel_rfl) (by kernel_rfl)
 have hRA := @run_callFunc_extern Tryd.prog 167 _ (ReflectliteType.relation "AssignableTo" ReflectliteType.assignableTo) Tryd.func167 (by kernel_rfl) (by kernel_rfl) (by kernel_rfl) (by kernel_rfl)
 have hTK := @run_callFunc_extern Tryd.prog 157 _ (ReflectliteType.abiMethod (fun t => do pure (.int .u8 (← Rtype.kind t)))) Tryd.func157 (by kernel_rfl) (by kernel_rfl) (by kernel_rfl) (by kernel_rfl)
 have k1 := v_ptr; have k2 := v_flt; have k3 := v_typ; have k4 := v_isn; have k5 := v_elm; have k6 := v_set
 have k7 := m_kind; have k8 := m_elem; have k9 := m_impl; have k10 := m_assn
 have k11 := x_kindP; have k12 := x_kindF; have k13 := x_elem; have k14 := x_impl; have k15 := x_assn; have k16 := x_type
 have hn1 : ∀ w, (binOp .eql 92 (.iface 96 (.agg #[.int .i64 p, .int .u16 c])) .nilIface).run Tryd.prog w = .ok (.bool false) w := fun w => by simp [binOp, (equal_ifc Tryd.underlying92 w).2.1]
 have hn2 : ∀ w, (binOp .eql 20 (.iface 98 (.pointer (some ⟨b, 0, none⟩))) .nilIface).run Tryd.prog w = .ok (.bool false) w := fun w => by simp [binOp, (equal_ifc Tryd.underlying20 w).2.1]
 have he2 : ∀ o o', ((w.alloc o).alloc o').cell? ⟨0, 0, none⟩ = some (.iface 149 (.agg #[.pointer (some ⟨3, 92, none⟩)])) := fun o o' => by
  have h0 : 0 < w.heap.size := by
   cases hz : w.heap.size with
   | zero => rw [World.cell?, Array.getElem?_eq_none (by show w.heap.size ≤ 0; omega)] at he; cases he
   | succ n => omega
  have g := World.grownBy.trans (World.grownBy_alloc w o none) (World.grownBy_alloc (w.alloc o) o' none)
  have := g.block 0 h0 (by simp)
  unfold World.cell? at he ⊢
  rw [this]; exact he
 have hb0 : b < w.heap.size := (Array.getElem?_eq_some_iff.1 hb).1
 have k5' : ∀ o o', (ReflectliteValue.method (ReflectliteValue.valueError "reflectlite.Value.Elem" 0) ReflectliteValue.elem #[.agg #[(.pointer (some ⟨3, 98, none⟩)), .pointer (some ⟨w.heap.size, 0, none⟩), .int .u64 150]]).run Tryd.prog (((w.alloc (.cells #[.pointer (some ⟨b, 0, none⟩)] 98)).alloc o).alloc o') = .ok (.agg #[(.pointer (some ⟨3, 96, none⟩)), .pointer (some ⟨b, 0, none⟩), .int .u64 409]) (((w.alloc (.cells #[.pointer (some ⟨b, 0, none⟩)] 98)).alloc o).alloc o') := fun o o' => v_elm _ _ _ (by
  have g := World.grownBy.trans (World.grownBy_alloc (w.alloc (.cells #[.pointer (some ⟨b, 0, none⟩)] 98)) o none) (World.grownBy_alloc _ o' none)
  have := g.block w.heap.size (by simp) (by simp)
  unfold World.cell?
  rw [this, alloc_at]; rfl)
 have k6' : ∀ o1 o o', (ReflectliteValue.set #[.agg #[(.pointer (some ⟨3, 96, none⟩)), .pointer (some ⟨b, 0, none⟩), .int .u64 409], .agg #[(.pointer (some ⟨3, 96, none⟩)), .pointer (some ⟨w.heap.size + 1 + 1 + 1, 0, none⟩), .int .u64 153]]).run Tryd.prog ((((w.alloc o1).alloc o).alloc o').alloc (.cells #[.int .i64 p, .int .u16 c] 96)) = .ok (.tuple #[]) (setFd ((((w.alloc o1).alloc o).alloc o').alloc (.cells #[.int .i64 p, .int .u16 c] 96)) b p c) := fun o1 o o' => v_set _ _ _ _ p0 c0 _ (by
   have := alloc_at (((w.alloc o1).alloc o).alloc o') (.cells #[.int .i64 p, .int .u16 c] 96)
   simpa using this) (by
   have g := World.grownBy.trans (World.grownBy.trans (World.grownBy.trans (World.grownBy_alloc w o1 none) (World.grownBy_alloc _ o none)) (World.grownBy_alloc _ o' none)) (World.grownBy_alloc _ (.cells #[.int .i64 p, .int .u16 c] 96) none)
   rw [g.block b hb0 (by simp)]; exact hb)
 clear k5 k6
 go_enter Tryd.func85, Tryd.ntmps85
 go_wp2
 refine wp_loop_rounds 1 ?_
 rw [rounds_succ]
 go_wp2
 go_ret
 exact ⟨rfl, turn_set (World.grownBy.trans (World.grownBy.trans (World.grownBy.trans (World.grownBy_alloc w _ none) (World.grownBy_alloc _ _ none)) (World.grownBy_alloc _ _ none)) (World.grownBy_alloc _ _ none)) hb (.cells [.int .i64 p, .int .u16 c])⟩
theorem as_nil (b : Nat) (w : World) : Calls Tryd.prog 85 #[.nilIface, .iface 98 (.pointer (some ⟨b, 0, none⟩))] w fun e w' => e = .returned (.bool false) ∧ w' = w := by
 go_enter Tryd.func85, Tryd.ntmps85
 go_wp2
 go_ret
 exact ⟨rfl, rfl⟩
def eTy : Value := .iface 149 (.agg #[.pointer (some ⟨3, 92, none⟩)])
def g_As (args : List SV) (m : List Blk) : CR :=
 match args with
 | [.raw .nilIface, .ifc t (.ptr _ _ base i sz j)] => .pure (t = 98 ∧ base + (i * sz + j) = 0) (.bool false)
 | [.ifc t0 (.agg [.int .i64 p, .int .u16 c]), .ifc t (.ptr nm b base i sz j)] => match bget m nm, bget m 0 with
  | .blk b' t' (.cells [.int .i64 _, .int .u16 _]), .ro a c1 => .turn (t0 = 96 ∧ t = 98 ∧ base + (i * sz + j) = 0 ∧ b' = b ∧ t' = 96 ∧ a = some ⟨0, 0, none⟩ ∧ c1 = .cells [.raw eTy]) nm (.cells [.int .i64 p, .int .u16 c]) (.bool true)
  | _, _ => .none
 | _ => .none
theorem g_As_ok (w0 : World) (B : List Nat) (args : List SV) (m : List Blk) : CROk Tryd.prog w0 B 85 args m (g_As args m) := by
 unfold g_As
 split
 ·rename_i t nm b base i sz j
  rintro ⟨rfl, h0⟩ w _
  have e : cvs [.raw .nilIface, .ifc 98 (.ptr nm b base i sz j)] = [.nilIface, .iface 98 (.pointer (some ⟨b, 0, none⟩))] := by simp [cvs, cv, h0]
  rw [e]
  exact .inr ⟨enter_run Tryd.func85 rfl rfl _ w, (as_nil b w).mono fun e w' h => ⟨_, h.1, rfl, h.2 ▸ grown_refl w⟩⟩
 ·rename_i t0 p c t nm b base i sz j
  split
  ·rename_i b' t' p0 c0 a c1 hb hr
   rintro ⟨rfl, rfl, h0, rfl, rfl, rfl, rfl⟩ w hm
   have e : cvs [.ifc 96 (.agg [.int .i64 p, .int .u16 c]), .ifc 98 (.ptr nm b' base i sz j)] = [.iface 96 (.agg #[.int .i64 p, .int .u16 c]), .iface 98 (.pointer (some ⟨b', 0, none⟩))] := by simp [cvs, cv, h0]
   rw [e]
   obtain ⟨g, off, e1, _, _, e3⟩ := hm.each _ (bget_mem hr (by simp)) 0 eTy (by simp [cc, cvs, cv])
   cases e1
   refine .inr ⟨enter_run Tryd.func85 rfl rfl _ w, (as_flt b' p c p0 c0 w (by have := (hm.each _ (bget_mem hb (by simp))).1; simpa [cc, cvs, cv] using this) e3).mono fun e w' h => ⟨_, h.1, rfl, ?_⟩⟩
   rw [hb]
   exact turn_end (k := 0) hm hb h.2 rfl
  ·exact trivial
 ·exact trivial
end Go.Proofs.YthdpgfdfgidokaaDoor
namespace Go.Proofs.YthdpgfdfgidokaaDoor
open Go.ChangeShapes Go.WideShapes Go.ChangeAt Go.RowKit
theorem et_rt : (Tryd.prog.cutTypes.find? (·.1 == "internal/reflectlite.rtype")).map (·.2) = some 149 := by kernel_rfl
theorem et_row : ((List.range Tryd.prog.types.size).filter fun t => Tryd.prog.rowNamed t [101, 114, 114, 111, 114]) = [92] := by kernel_rfl
theorem et_named : Tryd.prog.globalNamed "errors.errorType" = some 0 := by kernel_rfl
theorem ab_laid {w : World} (h : laidMetH Tryd.prog [("errors.errorType", Rows.laid_errors_errorType), ("quaestor/keccak.keys", Rows.laid_quaestor_keccak_keys), ("quaestor/keccak.path", Rows.laid_quaestor_keccak_path)] w) :
  MemOk w [] [.ro (some ⟨1, 0, none⟩) (.ints .u64 kKeys)] w ∧ MemOk w [] [.ro (some ⟨2, 0, none⟩) (.ints .u8 kPathI)] w ∧ MemOk w [] [.ro (some ⟨0, 0, none⟩) (.cells [.raw eTy])] w := by
 have h' : laidMet Tryd.prog [("quaestor/keccak.keys", Rows.laid_quaestor_keccak_keys), ("quaestor/keccak.path", Rows.laid_quaestor_keccak_path)] w ∧ handlesMet Tryd.prog [("errors.errorType", Rows.laid_errors_errorType)] w := h
 have h2 : laidMetH Tryd.prog [("quaestor/keccak.keys", Rows.laid_quaestor_keccak_keys), ("quaestor/keccak.path", Rows.laid_quaestor_keccak_path)] w := h'.1
 have hh : RoOk w (some ⟨1, 0, none⟩) (.ints .u64 kKeys) ∧ RoOk w (some ⟨2, 0, none⟩) (.ints .u8 kPathI) :=
  laid_two (n1 := "quaestor/keccak.keys") (n2 := "quaestor/keccak.path") h2 (by kernel_rfl) (by kernel_rfl) (by kernel_rfl) (by kernel_rfl) (by kernel_rfl) (by kernel_rfl)
 refine ⟨ro_cons (ro_nil w) hh.1, ro_cons (ro_nil w) hh.2, ?_⟩
 obtain ⟨name, u, ty, e1, e2, e3, e4, e5⟩ := h'.2 _ (List.mem_singleton.2 rfl)
 have en : name = [101, 114, 114, 111, 114] := (Option.some.inj e1).symm
 subst en
 obtain rfl := Option.some.inj (et_rt.symm.trans e2)
 have hm : ty ∈ (List.range Tryd.prog.types.size).filter fun t => Tryd.prog.rowNamed t [101, 114, 114, 111, 114] := List.mem_filter.2 ⟨List.mem_range.2 e3, e4⟩
 rw [et_row] at hm
 obtain rfl := List.mem_singleton.1 hm
 have hz : typeHandle Tryd.prog 92 = .pointer (some ⟨3, 92, none⟩) := by kernel_rfl
 rw [hz] at e5
 have hc : w.cell? ⟨0, 0, none⟩ = some eTy := by unfold eTy; simpa using World.var?_cell et_named e5 0
 refine ro_cons (ro_nil w) fun j u hj => ?_
 have hj0 : j < 1 := by simpa [cc, cvs] using (List.getElem?_eq_some_iff.1 hj).1
 obtain rfl : j = 0 := by omega
 refine ⟨0, 0, rfl, ?_, ?_⟩
 ·cases hz : w.heap[0]? with
  | none => rw [World.cell?, hz] at hc; cases hc
  | some o => exact (Array.getElem?_eq_some_iff.1 hz).1
 ·have : u = eTy := (Option.some.inj (show some (cv (.raw eTy)) = some u from hj)).symm
  rw [this]; exact hc
end Go.Proofs.YthdpgfdfgidokaaDoor

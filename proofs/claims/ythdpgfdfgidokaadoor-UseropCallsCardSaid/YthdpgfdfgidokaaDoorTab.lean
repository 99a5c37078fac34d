/-
 The table of this translation's types.
-/
import Derived.Test.YthdpgfdfgidokaaDoorRows
import Derived.Test.YthdpgfdfgidokaaDoorEB
set_option maxRecDepth 20000
set_option linter.unusedVariables false
set_option linter.unusedSimpArgs false
namespace Go.Proofs.YthdpgfdfgidokaaDoor
open Go.RowKit
def tyT : Nat → Ty
 | 1 => .cell
 | 2 => .int .i64
 | 3 => .int .i64
 | 4 => .bool
 | 5 => .int .u8
 | 9 => .str
 | 12 => .int .u64
 | 20 => .ifc
 | 21 => .int .i32
 | 23 => .arr 20 5 1 (some .u8)
 | 24 => .int .u64
 | 26 => .word
 | 27 => .sl 5 1 1
 | 29 => .struct 83 [(0, 20, 23), (20, 4, 26), (24, 1, 4), (25, 20, 23), (45, 1, 27), (46, 1, 27), (47, 1, 24), (48, 1, 24), (49, 1, 24), (50, 4, 26), (54, 4, 26), (58, 1, 4), (59, 20, 23), (79, 1, 24), (80, 1, 24), (81, 1, 27), (82, 1, 27)]
 | 32 => .int .u16
 | 43 => .sl 59 6 64
 | 51 => .struct 3 [(0, 1, 4), (1, 1, 24), (2, 1, 24)]
 | 59 => .struct 6 [(0, 1, 4), (1, 4, 26), (5, 1, 27)]
 | 67 => .arr 5 24 1 (some .u64)
 | 102 => .int .u64
 | 104 => .sl 24 1 8
 | 107 => .arr 8 24 1 (some .u64)
 | 114 => .sl 27 1 24
 | 115 => .sl 3 1 8
 | 141 => .arr 25 24 1 (some .u64)
 | 143 => .arr 136 5 1 (some .u8)
 | 166 => .cell
 | 168 => .ptr 141
 | 169 => .arr 32 5 1 (some .u8)
 | 173 => .arr 24 24 1 (some .u64)
 | 174 => .arr 24 5 1 (some .u8)
 | 183 => .int .u32
 | _ => .other
def zl_29 : List SV := ((.int .u8 0) :: (.int .u8 0) :: (.int .u8 0) :: (.int .u8 0) :: (.int .u8 0) :: (.int .u8 0) :: (.int .u8 0) :: (.int .u8 0) :: (.int .u8 0) :: (.int .u8 0) :: (.int .u8 0) :: (.int .u8 0) :: (.int .u8 0) :: (.int .u8 0) :: (.int .u8 0) :: (.int .u8 0) :: (.int .u8 0) :: (.int .u8 0) :: (.int .u8 0) :: (.int .u8 0) :: (.int .u64 0) :: (.int .u64 0) :: (.int .u64 0) :: (.int .u64 0) :: (.bool false) :: (.int .u8 0) :: (.int .u8 0) :: (.int .u8 0) :: (.int .u8 0) :: (.int .u8 0) :: (.int .u8 0) :: (.int .u8 0) :: (.int .u8 0) :: (.int .u8 0) :: (.int .u8 0) :: (.int .u8 0) :: (.int .u8 0) :: (.int .u8 0) :: (.int .u8 0) :: (.int .u8 0) :: (.int .u8 0) :: (.int .u8 0) :: (.int .u8 0) :: (.int .u8 0) :: (.int .u8 0) :: (.nilsl) :: (.nilsl) :: (.int .u64 0) :: (.int .u64 0) :: (.int .u64 0) :: (.int .u64 0) :: (.int .u64 0) :: (.int .u64 0) :: (.int .u64 0) :: (.int .u64 0) :: (.int .u64 0) :: (.int .u64 0) :: (.int .u64 0) :: (.bool false) :: (.int .u8 0) :: (.int .u8 0) :: (.int .u8 0) :: (.int .u8 0) :: (.int .u8 0) :: (.int .u8 0) :: (.int .u8 0) :: (.int .u8 0) :: (.int .u8 0) :: (.int .u8 0) :: (.int .u8 0) :: (.int .u8 0) :: (.int .u8 0) :: (.int .u8 0) :: (.int .u8 0) :: (.int .u8 0) :: (.int .u8 0) :: (.int .u8 0) :: (.int .u8 0) :: (.int .u8 0) :: (.int .u64 0) :: (.int .u64 0) :: (.nilsl) :: (.nilsl) :: [])
def zcT : Nat → Option Con
 | 1 => some (.cells [.raw .nilFunc])
 | 2 => some (.ints .i64 [0])
 | 3 => some (.ints .i64 [0])
 | 4 => some (.cells [.bool false])
 | 5 => some (.ints .u8 [0])
 | 9 => some (.cells [.str []])
 | 12 => some (.ints .u64 [0])
 | 20 => some (.cells [.raw .nilIface])
 | 21 => some (.ints .i32 [0])
 | 23 => some (.ints .u8 (List.replicate 20 0))
 | 24 => some (.ints .u64 [0])
 | 26 => some (.words [0])
 | 27 => some (.cells [.nilsl])
 | 29 => some (.cells zl_29)
 | 32 => some (.ints .u16 [0])
 | 43 => some (.cells [.nilsl])
 | 51 => some (.cells [.bool false, .int .u64 0, .int .u64 0])
 | 59 => some (.cells [.bool false, .int .u64 0, .int .u64 0, .int .u64 0, .int .u64 0, .nilsl])
 | 67 => some (.ints .u64 (List.replicate 5 0))
 | 102 => some (.ints .u64 [0])
 | 104 => some (.cells [.nilsl])
 | 107 => some (.ints .u64 (List.replicate 8 0))
 | 114 => some (.cells [.nilsl])
 | 115 => some (.cells [.nilsl])
 | 141 => some (.ints .u64 (List.replicate 25 0))
 | 143 => some (.ints .u8 (List.replicate 136 0))
 | 166 => some (.cells [.raw .nilFunc])
 | 168 => some (.cells [.raw (.pointer none)])
 | 169 => some (.ints .u8 (List.replicate 32 0))
 | 173 => some (.ints .u64 (List.replicate 24 0))
 | 174 => some (.ints .u8 (List.replicate 24 0))
 | 183 => some (.ints .u32 [0])
 | _ => none
def zrT : Nat → List SV
 | 23 => [.int .u8 0, .int .u8 0, .int .u8 0, .int .u8 0, .int .u8 0, .int .u8 0, .int .u8 0, .int .u8 0, .int .u8 0, .int .u8 0, .int .u8 0, .int .u8 0, .int .u8 0, .int .u8 0, .int .u8 0, .int .u8 0, .int .u8 0, .int .u8 0, .int .u8 0, .int .u8 0]
 | 26 => [.int .u64 0, .int .u64 0, .int .u64 0, .int .u64 0]
 | 29 => ((.int .u8 0) :: (.int .u8 0) :: (.int .u8 0) :: (.int .u8 0) :: (.int .u8 0) :: (.int .u8 0) :: (.int .u8 0) :: (.int .u8 0) :: (.int .u8 0) :: (.int .u8 0) :: (.int .u8 0) :: (.int .u8 0) :: (.int .u8 0) :: (.int .u8 0) :: (.int .u8 0) :: (.int .u8 0) :: (.int .u8 0) :: (.int .u8 0) :: (.int .u8 0) :: (.int .u8 0) :: (.int .u64 0) :: (.int .u64 0) :: (.int .u64 0) :: (.int .u64 0) :: (.bool false) :: (.int .u8 0) :: (.int .u8 0) :: (.int .u8 0) :: (.int .u8 0) :: (.int .u8 0) :: (.int .u8 0) :: (.int .u8 0) :: (.int .u8 0) :: (.int .u8 0) :: (.int .u8 0) :: (.int .u8 0) :: (.int .u8 0) :: (.int .u8 0) :: (.int .u8 0) :: (.int .u8 0) :: (.int .u8 0) :: (.int .u8 0) :: (.int .u8 0) :: (.int .u8 0) :: (.int .u8 0) :: (.nilsl) :: (.nilsl) :: (.int .u64 0) :: (.int .u64 0) :: (.int .u64 0) :: (.int .u64 0) :: (.int .u64 0) :: (.int .u64 0) :: (.int .u64 0) :: (.int .u64 0) :: (.int .u64 0) :: (.int .u64 0) :: (.int .u64 0) :: (.bool false) :: (.int .u8 0) :: (.int .u8 0) :: (.int .u8 0) :: (.int .u8 0) :: (.int .u8 0) :: (.int .u8 0) :: (.int .u8 0) :: (.int .u8 0) :: (.int .u8 0) :: (.int .u8 0) :: (.int .u8 0) :: (.int .u8 0) :: (.int .u8 0) :: (.int .u8 0) :: (.int .u8 0) :: (.int .u8 0) :: (.int .u8 0) :: (.int .u8 0) :: (.int .u8 0) :: (.int .u8 0) :: (.int .u64 0) :: (.int .u64 0) :: (.nilsl) :: (.nilsl) :: [])
 | 51 => [.bool false, .int .u64 0, .int .u64 0]
 | 59 => [.bool false, .int .u64 0, .int .u64 0, .int .u64 0, .int .u64 0, .nilsl]
 | 67 => [.int .u64 0, .int .u64 0, .int .u64 0, .int .u64 0, .int .u64 0]
 | 107 => [.int .u64 0, .int .u64 0, .int .u64 0, .int .u64 0, .int .u64 0, .int .u64 0, .int .u64 0, .int .u64 0]
 | 141 => [.int .u64 0, .int .u64 0, .int .u64 0, .int .u64 0, .int .u64 0, .int .u64 0, .int .u64 0, .int .u64 0, .int .u64 0, .int .u64 0, .int .u64 0, .int .u64 0, .int .u64 0, .int .u64 0, .int .u64 0, .int .u64 0, .int .u64 0, .int .u64 0, .int .u64 0, .int .u64 0, .int .u64 0, .int .u64 0, .int .u64 0, .int .u64 0, .int .u64 0]
 | 169 => [.int .u8 0, .int .u8 0, .int .u8 0, .int .u8 0, .int .u8 0, .int .u8 0, .int .u8 0, .int .u8 0, .int .u8 0, .int .u8 0, .int .u8 0, .int .u8 0, .int .u8 0, .int .u8 0, .int .u8 0, .int .u8 0, .int .u8 0, .int .u8 0, .int .u8 0, .int .u8 0, .int .u8 0, .int .u8 0, .int .u8 0, .int .u8 0, .int .u8 0, .int .u8 0, .int .u8 0, .int .u8 0, .int .u8 0, .int .u8 0, .int .u8 0, .int .u8 0]
 | 173 => [.int .u64 0, .int .u64 0, .int .u64 0, .int .u64 0, .int .u64 0, .int .u64 0, .int .u64 0, .int .u64 0, .int .u64 0, .int .u64 0, .int .u64 0, .int .u64 0, .int .u64 0, .int .u64 0, .int .u64 0, .int .u64 0, .int .u64 0, .int .u64 0, .int .u64 0, .int .u64 0, .int .u64 0, .int .u64 0, .int .u64 0, .int .u64 0]
 | 174 => [.int .u8 0, .int .u8 0, .int .u8 0, .int .u8 0, .int .u8 0, .int .u8 0, .int .u8 0, .int .u8 0, .int .u8 0, .int .u8 0, .int .u8 0, .int .u8 0, .int .u8 0, .int .u8 0, .int .u8 0, .int .u8 0, .int .u8 0, .int .u8 0, .int .u8 0, .int .u8 0, .int .u8 0, .int .u8 0, .int .u8 0, .int .u8 0]
 | _ => []
def glT : Nat → SV
 | 1 => .ptr 0 1 0 0 0 0
 | 2 => .ptr 1 2 0 0 0 0
 | g => .raw (.pointer (some ⟨g, 0, none⟩))
def lvT : Nat → Option (List CK)
 | 51 => some [.b, .i .u64, .i .u64]
 | _ => none
def T0 : Tab := { ty := tyT, zr := zrT, zc := zcT, gl := glT, lv := lvT }
theorem lvT_ok : ∀ t ks, lvT t = some ks → EqOk Tryd.prog t ks
 | 0, ks, h => by cases h
 | 1, ks, h => by cases h
 | 2, ks, h => by cases h
 | 3, ks, h => by cases h
 | 4, ks, h => by cases h
 | 5, ks, h => by cases h
 | 6, ks, h => by cases h
 | 7, ks, h => by cases h
 | 8, ks, h => by cases h
 | 9, ks, h => by cases h
 | 10, ks, h => by cases h
 | 11, ks, h => by cases h
 | 12, ks, h => by cases h
 | 13, ks, h => by cases h
 | 14, ks, h => by cases h
 | 15, ks, h => by cases h
 | 16, ks, h => by cases h
 | 17, ks, h => by cases h
 | 18, ks, h => by cases h
 | 19, ks, h => by cases h
 | 20, ks, h => by cases h
 | 21, ks, h => by cases h
 | 22, ks, h => by cases h
 | 23, ks, h => by cases h
 | 24, ks, h => by cases h
 | 25, ks, h => by cases h
 | 26, ks, h => by cases h
 | 27, ks, h => by cases h
 | 28, ks, h => by cases h
 | 29, ks, h => by cases h
 | 30, ks, h => by cases h
 | 31, ks, h => by cases h
 | 32, ks, h => by cases h
 | 33, ks, h => by cases h
 | 34, ks, h => by cases h
 | 35, ks, h => by cases h
 | 36, ks, h => by cases h
 | 37, ks, h => by cases h
 | 38, ks, h => by cases h
 | 39, ks, h => by cases h
 | 40, ks, h => by cases h
 | 41, ks, h => by cases h
 | 42, ks, h => by cases h
 | 43, ks, h => by cases h
 | 44, ks, h => by cases h
 | 45, ks, h => by cases h
 | 46, ks, h => by cases h
 | 47, ks, h => by cases h
 | 48, ks, h => by cases h
 | 49, ks, h => by cases h
 | 50, ks, h => by cases h
 | 51, ks, h => by obtain rfl : [.b, .i .u64, .i .u64] = ks := Option.some.inj h; exact eq_mk 2 (by decide) (Nat.le_of_ble_eq_true (by kernel_rfl : Nat.ble 2 (Tryd.prog.types.size + 1) = true)) (by kernel_rfl) (by kernel_rfl) (by kernel_rfl) (by kernel_rfl) (by kernel_rfl : leaves Tryd.prog 2 51 = some _) (by kernel_rfl) (by kernel_rfl)
 | _ + 52, ks, h => by cases h
theorem glT_ok : ∀ g, cv (T0.gl g) = .pointer (some ⟨g, 0, none⟩) := by
 intro g
 show cv (glT g) = _
 unfold glT
 first | (split <;> rfl) | rfl
theorem tyOk1 : TyOk1 Tryd.prog 1 (.cell) := fun w => by kernel_rfl
theorem tyOk2 : TyOk1 Tryd.prog 2 (.int .i64) := (by kernel_rfl : Tryd.prog.underlying 2 = some (.int .i64))
theorem tyOk3 : TyOk1 Tryd.prog 3 (.int .i64) := (by kernel_rfl : Tryd.prog.underlying 3 = some (.int .i64))
theorem tyOk4 : TyOk1 Tryd.prog 4 (.bool) := (by kernel_rfl : Tryd.prog.underlying 4 = some (.bool))
theorem tyOk5 : TyOk1 Tryd.prog 5 (.int .u8) := (by kernel_rfl : Tryd.prog.underlying 5 = some (.int .u8))
theorem tyOk9 : TyOk1 Tryd.prog 9 (.str) := (by kernel_rfl : Tryd.prog.underlying 9 = some (.string))
theorem tyOk12 : TyOk1 Tryd.prog 12 (.int .u64) := (by kernel_rfl : Tryd.prog.underlying 12 = some (.int .u64))
theorem tyOk20 : TyOk1 Tryd.prog 20 (.ifc) := ifc_mk (by kernel_rfl : isIfc (Tryd.prog.underlying 20) = true)
theorem tyOk21 : TyOk1 Tryd.prog 21 (.int .i32) := (by kernel_rfl : Tryd.prog.underlying 21 = some (.int .i32))
theorem tyOk23 : TyOk1 Tryd.prog 23 (.arr 20 5 1 (some .u8)) := ⟨(by kernel_rfl : Tryd.prog.underlying 23 = some (.array 20 5)), (by kernel_rfl : (Tryd.prog.info? 5).map (·.size) = some 1), (by kernel_rfl : (Tryd.prog.info? 23).map (·.size) = some 20), (by kernel_rfl : Tryd.prog.eqGuardType Tryd.prog.depth 23 = false), fun k h => by cases h; exact (by kernel_rfl : Tryd.prog.underlying 5 = some (.int .u8))⟩
theorem tyOk24 : TyOk1 Tryd.prog 24 (.int .u64) := (by kernel_rfl : Tryd.prog.underlying 24 = some (.int .u64))
theorem tyOk26 : TyOk1 Tryd.prog 26 (.word) := ⟨24, (by kernel_rfl : Tryd.prog.underlying 26 = some (.array 4 24)), (by kernel_rfl : Tryd.prog.underlying 24 = some (.int .u64)), (by kernel_rfl : (Tryd.prog.info? 24).map (·.size) = some 1), (by kernel_rfl : (Tryd.prog.info? 26).map (·.size) = some 4), (by kernel_rfl : Tryd.prog.eqGuardType Tryd.prog.depth 26 = false)⟩
theorem tyOk27 : TyOk1 Tryd.prog 27 (.sl 5 1 1) := sl_mk (by kernel_rfl : Tryd.prog.underlying 27 = some (.slice 5)) (by decide) (by kernel_rfl : (Tryd.prog.info? 5).map (·.size) = some 1) (by kernel_rfl : (Tryd.prog.info? 5).map (·.bytes) = some 1) (by kernel_rfl : ((Tryd.prog.info? 5).bind (·.zero)).map (·.cells.size) = some 1)
theorem tyOk29 : TyOk1 Tryd.prog 29 (.struct 83 [(0, 20, 23), (20, 4, 26), (24, 1, 4), (25, 20, 23), (45, 1, 27), (46, 1, 27), (47, 1, 24), (48, 1, 24), (49, 1, 24), (50, 4, 26), (54, 4, 26), (58, 1, 4), (59, 20, 23), (79, 1, 24), (80, 1, 24), (81, 1, 27), (82, 1, 27)]) := st_mk (by kernel_rfl) (by kernel_rfl : (Tryd.prog.info? 29).map (·.size) = some 83)
theorem tyOk32 : TyOk1 Tryd.prog 32 (.int .u16) := (by kernel_rfl : Tryd.prog.underlying 32 = some (.int .u16))
theorem tyOk43 : TyOk1 Tryd.prog 43 (.sl 59 6 64) := sl_mk (by kernel_rfl : Tryd.prog.underlying 43 = some (.slice 59)) (by decide) (by kernel_rfl : (Tryd.prog.info? 59).map (·.size) = some 6) (by kernel_rfl : (Tryd.prog.info? 59).map (·.bytes) = some 64) (by kernel_rfl : ((Tryd.prog.info? 59).bind (·.zero)).map (·.cells.size) = some 6)
theorem tyOk51 : TyOk1 Tryd.prog 51 (.struct 3 [(0, 1, 4), (1, 1, 24), (2, 1, 24)]) := st_mk (by kernel_rfl) (by kernel_rfl : (Tryd.prog.info? 51).map (·.size) = some 3)
theorem tyOk59 : TyOk1 Tryd.prog 59 (.struct 6 [(0, 1, 4), (1, 4, 26), (5, 1, 27)]) := st_mk (by kernel_rfl) (by kernel_rfl : (Tryd.prog.info? 59).map (·.size) = some 6)
theorem tyOk67 : TyOk1 Tryd.prog 67 (.arr 5 24 1 (some .u64)) := ⟨(by kernel_rfl : Tryd.prog.underlying 67 = some (.array 5 24)), (by kernel_rfl : (Tryd.prog.info? 24).map (·.size) = some 1), (by kernel_rfl : (Tryd.prog.info? 67).map (·.size) = some 5), (by kernel_rfl : Tryd.prog.eqGuardType Tryd.prog.depth 67 = false), fun k h => by cases h; exact (by kernel_rfl : Tryd.prog.underlying 24 = some (.int .u64))⟩
theorem tyOk102 : TyOk1 Tryd.prog 102 (.int .u64) := (by kernel_rfl : Tryd.prog.underlying 102 = some (.int .u64))
theorem tyOk104 : TyOk1 Tryd.prog 104 (.sl 24 1 8) := sl_mk (by kernel_rfl : Tryd.prog.underlying 104 = some (.slice 24)) (by decide) (by kernel_rfl : (Tryd.prog.info? 24).map (·.size) = some 1) (by kernel_rfl : (Tryd.prog.info? 24).map (·.bytes) = some 8) (by kernel_rfl : ((Tryd.prog.info? 24).bind (·.zero)).map (·.cells.size) = some 1)
theorem tyOk107 : TyOk1 Tryd.prog 107 (.arr 8 24 1 (some .u64)) := ⟨(by kernel_rfl : Tryd.prog.underlying 107 = some (.array 8 24)), (by kernel_rfl : (Tryd.prog.info? 24).map (·.size) = some 1), (by kernel_rfl : (Tryd.prog.info? 107).map (·.size) = some 8), (by kernel_rfl : Tryd.prog.eqGuardType Tryd.prog.depth 107 = false), fun k h => by cases h; exact (by kernel_rfl : Tryd.prog.underlying 24 = some (.int .u64))⟩
theorem tyOk114 : TyOk1 Tryd.prog 114 (.sl 27 1 24) := sl_mk (by kernel_rfl : Tryd.prog.underlying 114 = some (.slice 27)) (by decide) (by kernel_rfl : (Tryd.prog.info? 27).map (·.size) = some 1) (by kernel_rfl : (Tryd.prog.info? 27).map (·.bytes) = some 24) (by kernel_rfl : ((Tryd.prog.info? 27).bind (·.zero)).map (·.cells.size) = some 1)
theorem tyOk115 : TyOk1 Tryd.prog 115 (.sl 3 1 8) := sl_mk (by kernel_rfl : Tryd.prog.underlying 115 = some (.slice 3)) (by decide) (by kernel_rfl : (Tryd.prog.info? 3).map (·.size) = some 1) (by kernel_rfl : (Tryd.prog.info? 3).map (·.bytes) = some 8) (by kernel_rfl : ((Tryd.prog.info? 3).bind (·.zero)).map (·.cells.size) = some 1)
theorem tyOk141 : TyOk1 Tryd.prog 141 (.arr 25 24 1 (some .u64)) := ⟨(by kernel_rfl : Tryd.prog.underlying 141 = some (.array 25 24)), (by kernel_rfl : (Tryd.prog.info? 24).map (·.size) = some 1), (by kernel_rfl : (Tryd.prog.info? 141).map (·.size) = some 25), (by kernel_rfl : Tryd.prog.eqGuardType Tryd.prog.depth 141 = false), fun k h => by cases h; exact (by kernel_rfl : Tryd.prog.underlying 24 = some (.int .u64))⟩
theorem tyOk143 : TyOk1 Tryd.prog 143 (.arr 136 5 1 (some .u8)) := ⟨(by kernel_rfl : Tryd.prog.underlying 143 = some (.array 136 5)), (by kernel_rfl : (Tryd.prog.info? 5).map (·.size) = some 1), (by kernel_rfl : (Tryd.prog.info? 143).map (·.size) = some 136), (by kernel_rfl : Tryd.prog.eqGuardType Tryd.prog.depth 143 = false), fun k h => by cases h; exact (by kernel_rfl : Tryd.prog.underlying 5 = some (.int .u8))⟩
theorem tyOk166 : TyOk1 Tryd.prog 166 (.cell) := fun w => by kernel_rfl
theorem tyOk168 : TyOk1 Tryd.prog 168 (.ptr 141) := (by kernel_rfl : Tryd.prog.underlying 168 = some (.pointer 141))
theorem tyOk169 : TyOk1 Tryd.prog 169 (.arr 32 5 1 (some .u8)) := ⟨(by kernel_rfl : Tryd.prog.underlying 169 = some (.array 32 5)), (by kernel_rfl : (Tryd.prog.info? 5).map (·.size) = some 1), (by kernel_rfl : (Tryd.prog.info? 169).map (·.size) = some 32), (by kernel_rfl : Tryd.prog.eqGuardType Tryd.prog.depth 169 = false), fun k h => by cases h; exact (by kernel_rfl : Tryd.prog.underlying 5 = some (.int .u8))⟩
theorem tyOk173 : TyOk1 Tryd.prog 173 (.arr 24 24 1 (some .u64)) := ⟨(by kernel_rfl : Tryd.prog.underlying 173 = some (.array 24 24)), (by kernel_rfl : (Tryd.prog.info? 24).map (·.size) = some 1), (by kernel_rfl : (Tryd.prog.info? 173).map (·.size) = some 24), (by kernel_rfl : Tryd.prog.eqGuardType Tryd.prog.depth 173 = false), fun k h => by cases h; exact (by kernel_rfl : Tryd.prog.underlying 24 = some (.int .u64))⟩
theorem tyOk174 : TyOk1 Tryd.prog 174 (.arr 24 5 1 (some .u8)) := ⟨(by kernel_rfl : Tryd.prog.underlying 174 = some (.array 24 5)), (by kernel_rfl : (Tryd.prog.info? 5).map (·.size) = some 1), (by kernel_rfl : (Tryd.prog.info? 174).map (·.size) = some 24), (by kernel_rfl : Tryd.prog.eqGuardType Tryd.prog.depth 174 = false), fun k h => by cases h; exact (by kernel_rfl : Tryd.prog.underlying 5 = some (.int .u8))⟩
theorem tyOk183 : TyOk1 Tryd.prog 183 (.int .u32) := (by kernel_rfl : Tryd.prog.underlying 183 = some (.int .u32))
theorem tyT_ok : ∀ t, TyOk1 Tryd.prog t (tyT t)
 | 0 => trivial
 | 1 => tyOk1
 | 2 => tyOk2
 | 3 => tyOk3
 | 4 => tyOk4
 | 5 => tyOk5
 | 6 => trivial
 | 7 => trivial
 | 8 => trivial
 | 9 => tyOk9
 | 10 => trivial
 | 11 => trivial
 | 12 => tyOk12
 | 13 => trivial
 | 14 => trivial
 | 15 => trivial
 | 16 => trivial
 | 17 => trivial
 | 18 => trivial
 | 19 => trivial
 | 20 => tyOk20
 | 21 => tyOk21
 | 22 => trivial
 | 23 => tyOk23
 | 24 => tyOk24
 | 25 => trivial
 | 26 => tyOk26
 | 27 => tyOk27
 | 28 => trivial
 | 29 => tyOk29
 | 30 => trivial
 | 31 => trivial
 | 32 => tyOk32
 | 33 => trivial
 | 34 => trivial
 | 35 => trivial
 | 36 => trivial
 | 37 => trivial
 | 38 => trivial
 | 39 => trivial
 | 40 => trivial
 | 41 => trivial
 | 42 => trivial
 | 43 => tyOk43
 | 44 => trivial
 | 45 => trivial
 | 46 => trivial
 | 47 => trivial
 | 48 => trivial
 | 49 => trivial
 | 50 => trivial
 | 51 => tyOk51
 | 52 => trivial
 | 53 => trivial
 | 54 => trivial
 | 55 => trivial
 | 56 => trivial
 | 57 => trivial
 | 58 => trivial
 | 59 => tyOk59
 | 60 => trivial
 | 61 => trivial
 | 62 => trivial
 | 63 => trivial
 | 64 => trivial
 | 65 => trivial
 | 66 => trivial
 | 67 => tyOk67
 | 68 => trivial
 | 69 => trivial
 | 70 => trivial
 | 71 => trivial
 | 72 => trivial
 | 73 => trivial
 | 74 => trivial
 | 75 => trivial
 | 76 => trivial
 | 77 => trivial
 | 78 => trivial
 | 79 => trivial
 | 80 => trivial
 | 81 => trivial
 | 82 => trivial
 | 83 => trivial
 | 84 => trivial
 | 85 => trivial
 | 86 => trivial
 | 87 => trivial
 | 88 => trivial
 | 89 => trivial
 | 90 => trivial
 | 91 => trivial
 | 92 => trivial
 | 93 => trivial
 | 94 => trivial
 | 95 => trivial
 | 96 => trivial
 | 97 => trivial
 | 98 => trivial
 | 99 => trivial
 | 100 => trivial
 | 101 => trivial
 | 102 => tyOk102
 | 103 => trivial
 | 104 => tyOk104
 | 105 => trivial
 | 106 => trivial
 | 107 => tyOk107
 | 108 => trivial
 | 109 => trivial
 | 110 => trivial
 | 111 => trivial
 | 112 => trivial
 | 113 => trivial
 | 114 => tyOk114
 | 115 => tyOk115
 | 116 => trivial
 | 117 => trivial
 | 118 => trivial
 | 119 => trivial
 | 120 => trivial
 | 121 => trivial
 | 122 => trivial
 | 123 => trivial
 | 124 => trivial
 | 125 => trivial
 | 126 => trivial
 | 127 => trivial
 | 128 => trivial
 | 129 => trivial
 | 130 => trivial
 | 131 => trivial
 | 132 => trivial
 | 133 => trivial
 | 134 => trivial
 | 135 => trivial
 | 136 => trivial
 | 137 => trivial
 | 138 => trivial
 | 139 => trivial
 | 140 => trivial
 | 141 => tyOk141
 | 142 => trivial
 | 143 => tyOk143
 | 144 => trivial
 | 145 => trivial
 | 146 => trivial
 | 147 => trivial
 | 148 => trivial
 | 149 => trivial
 | 150 => trivial
 | 151 => trivial
 | 152 => trivial
 | 153 => trivial
 | 154 => trivial
 | 155 => trivial
 | 156 => trivial
 | 157 => trivial
 | 158 => trivial
 | 159 => trivial
 | 160 => trivial
 | 161 => trivial
 | 162 => trivial
 | 163 => trivial
 | 164 => trivial
 | 165 => trivial
 | 166 => tyOk166
 | 167 => trivial
 | 168 => tyOk168
 | 169 => tyOk169
 | 170 => trivial
 | 171 => trivial
 | 172 => trivial
 | 173 => tyOk173
 | 174 => tyOk174
 | 175 => trivial
 | 176 => trivial
 | 177 => trivial
 | 178 => trivial
 | 179 => trivial
 | 180 => trivial
 | 181 => trivial
 | 182 => trivial
 | 183 => tyOk183
 | 184 => trivial
 | 185 => trivial
 | 186 => trivial
 | 187 => trivial
 | 188 => trivial
 | 189 => trivial
 | 190 => trivial
 | 191 => trivial
 | 192 => trivial
 | 193 => trivial
 | 194 => trivial
 | 195 => trivial
 | 196 => trivial
 | 197 => trivial
 | 198 => trivial
 | 199 => trivial
 | 200 => trivial
 | 201 => trivial
 | 202 => trivial
 | 203 => trivial
 | _ + 204 => trivial
theorem szT_ok : ∀ t n, tsz (tyT t) = some n → Sz Tryd.prog t n
 | 0, n, h => by cases h
 | 1, n, h => by obtain rfl : 1 = n := Option.some.inj h; exact (by kernel_rfl : (Tryd.prog.info? 1).map (·.size) = some 1)
 | 2, n, h => by obtain rfl : 1 = n := Option.some.inj h; exact (by kernel_rfl : (Tryd.prog.info? 2).map (·.size) = some 1)
 | 3, n, h => by obtain rfl : 1 = n := Option.some.inj h; exact (by kernel_rfl : (Tryd.prog.info? 3).map (·.size) = some 1)
 | 4, n, h => by obtain rfl : 1 = n := Option.some.inj h; exact (by kernel_rfl : (Tryd.prog.info? 4).map (·.size) = some 1)
 | 5, n, h => by obtain rfl : 1 = n := Option.some.inj h; exact (by kernel_rfl : (Tryd.prog.info? 5).map (·.size) = some 1)
 | 6, n, h => by cases h
 | 7, n, h => by cases h
 | 8, n, h => by cases h
 | 9, n, h => by obtain rfl : 1 = n := Option.some.inj h; exact (by kernel_rfl : (Tryd.prog.info? 9).map (·.size) = some 1)
 | 10, n, h => by cases h
 | 11, n, h => by cases h
 | 12, n, h => by obtain rfl : 1 = n := Option.some.inj h; exact (by kernel_rfl : (Tryd.prog.info? 12).map (·.size) = some 1)
 | 13, n, h => by cases h
 | 14, n, h => by cases h
 | 15, n, h => by cases h
 | 16, n, h => by cases h
 | 17, n, h => by cases h
 | 18, n, h => by cases h
 | 19, n, h => by cases h
 | 20, n, h => by obtain rfl : 1 = n := Option.some.inj h; exact (by kernel_rfl : (Tryd.prog.info? 20).map (·.size) = some 1)
 | 21, n, h => by obtain rfl : 1 = n := Option.some.inj h; exact (by kernel_rfl : (Tryd.prog.info? 21).map (·.size) = some 1)
 | 22, n, h => by cases h
 | 23, n, h => by obtain rfl : 20 = n := Option.some.inj h; exact (by kernel_rfl : (Tryd.prog.info? 23).map (·.size) = some 20)
 | 24, n, h => by obtain rfl : 1 = n := Option.some.inj h; exact (by kernel_rfl : (Tryd.prog.info? 24).map (·.size) = some 1)
 | 25, n, h => by cases h
 | 26, n, h => by obtain rfl : 4 = n := Option.some.inj h; exact (by kernel_rfl : (Tryd.prog.info? 26).map (·.size) = some 4)
 | 27, n, h => by obtain rfl : 1 = n := Option.some.inj h; exact (by kernel_rfl : (Tryd.prog.info? 27).map (·.size) = some 1)
 | 28, n, h => by cases h
 | 29, n, h => by obtain rfl : 83 = n := Option.some.inj h; exact (by kernel_rfl : (Tryd.prog.info? 29).map (·.size) = some 83)
 | 30, n, h => by cases h
 | 31, n, h => by cases h
 | 32, n, h => by obtain rfl : 1 = n := Option.some.inj h; exact (by kernel_rfl : (Tryd.prog.info? 32).map (·.size) = some 1)
 | 33, n, h => by cases h
 | 34, n, h => by cases h
 | 35, n, h => by cases h
 | 36, n, h => by cases h
 | 37, n, h => by cases h
 | 38, n, h => by cases h
 | 39, n, h => by cases h
 | 40, n, h => by cases h
 | 41, n, h => by cases h
 | 42, n, h => by cases h
 | 43, n, h => by obtain rfl : 1 = n := Option.some.inj h; exact (by kernel_rfl : (Tryd.prog.info? 43).map (·.size) = some 1)
 | 44, n, h => by cases h
 | 45, n, h => by cases h
 | 46, n, h => by cases h
 | 47, n, h => by cases h
 | 48, n, h => by cases h
 | 49, n, h => by cases h
 | 50, n, h => by cases h
 | 51, n, h => by obtain rfl : 3 = n := Option.some.inj h; exact (by kernel_rfl : (Tryd.prog.info? 51).map (·.size) = some 3)
 | 52, n, h => by cases h
 | 53, n, h => by cases h
 | 54, n, h => by cases h
 | 55, n, h => by cases h
 | 56, n, h => by cases h
 | 57, n, h => by cases h
 | 58, n, h => by cases h
 | 59, n, h => by obtain rfl : 6 = n := Option.some.inj h; exact (by kernel_rfl : (Tryd.prog.info? 59).map (·.size) = some 6)
 | 60, n, h => by cases h
 | 61, n, h => by cases h
 | 62, n, h => by cases h
 | 63, n, h => by cases h
 | 64, n, h => by cases h
 | 65, n, h => by cases h
 | 66, n, h => by cases h
 | 67, n, h => by obtain rfl : 5 = n := Option.some.inj h; exact (by kernel_rfl : (Tryd.prog.info? 67).map (·.size) = some 5)
 | 68, n, h => by cases h
 | 69, n, h => by cases h
 | 70, n, h => by cases h
 | 71, n, h => by cases h
 | 72, n, h => by cases h
 | 73, n, h => by cases h
 | 74, n, h => by cases h
 | 75, n, h => by cases h
 | 76, n, h => by cases h
 | 77, n, h => by cases h
 | 78, n, h => by cases h
 | 79, n, h => by cases h
 | 80, n, h => by cases h
 | 81, n, h => by cases h
 | 82, n, h => by cases h
 | 83, n, h => by cases h
 | 84, n, h => by cases h
 | 85, n, h => by cases h
 | 86, n, h => by cases h
 | 87, n, h => by cases h
 | 88, n, h => by cases h
 | 89, n, h => by cases h
 | 90, n, h => by cases h
 | 91, n, h => by cases h
 | 92, n, h => by cases h
 | 93, n, h => by cases h
 | 94, n, h => by cases h
 | 95, n, h => by cases h
 | 96, n, h => by cases h
 | 97, n, h => by cases h
 | 98, n, h => by cases h
 | 99, n, h => by cases h
 | 100, n, h => by cases h
 | 101, n, h => by cases h
 | 102, n, h => by obtain rfl : 1 = n := Option.some.inj h; exact (by kernel_rfl : (Tryd.prog.info? 102).map (·.size) = some 1)
 | 103, n, h => by cases h
 | 104, n, h => by obtain rfl : 1 = n := Option.some.inj h; exact (by kernel_rfl : (Tryd.prog.info? 104).map (·.size) = some 1)
 | 105, n, h => by cases h
 | 106, n, h => by cases h
 | 107, n, h => by obtain rfl : 8 = n := Option.some.inj h; exact (by kernel_rfl : (Tryd.prog.info? 107).map (·.size) = some 8)
 | 108, n, h => by cases h
 | 109, n, h => by cases h
 | 110, n, h => by cases h
 | 111, n, h => by cases h
 | 112, n, h => by cases h
 | 113, n, h => by cases h
 | 114, n, h => by obtain rfl : 1 = n := Option.some.inj h; exact (by kernel_rfl : (Tryd.prog.info? 114).map (·.size) = some 1)
 | 115, n, h => by obtain rfl : 1 = n := Option.some.inj h; exact (by kernel_rfl : (Tryd.prog.info? 115).map (·.size) = some 1)
 | 116, n, h => by cases h
 | 117, n, h => by cases h
 | 118, n, h => by cases h
 | 119, n, h => by cases h
 | 120, n, h => by cases h
 | 121, n, h => by cases h
 | 122, n, h => by cases h
 | 123, n, h => by cases h
 | 124, n, h => by cases h
 | 125, n, h => by cases h
 | 126, n, h => by cases h
 | 127, n, h => by cases h
 | 128, n, h => by cases h
 | 129, n, h => by cases h
 | 130, n, h => by cases h
 | 131, n, h => by cases h
 | 132, n, h => by cases h
 | 133, n, h => by cases h
 | 134, n, h => by cases h
 | 135, n, h => by cases h
 | 136, n, h => by cases h
 | 137, n, h => by cases h
 | 138, n, h => by cases h
 | 139, n, h => by cases h
 | 140, n, h => by cases h
 | 141, n, h => by obtain rfl : 25 = n := Option.some.inj h; exact (by kernel_rfl : (Tryd.prog.info? 141).map (·.size) = some 25)
 | 142, n, h => by cases h
 | 143, n, h => by obtain rfl : 136 = n := Option.some.inj h; exact (by kernel_rfl : (Tryd.prog.info? 143).map (·.size) = some 136)
 | 144, n, h => by cases h
 | 145, n, h => by cases h
 | 146, n, h => by cases h
 | 147, n, h => by cases h
 | 148, n, h => by cases h
 | 149, n, h => by cases h
 | 150, n, h => by cases h
 | 151, n, h => by cases h
 | 152, n, h => by cases h
 | 153, n, h => by cases h
 | 154, n, h => by cases h
 | 155, n, h => by cases h
 | 156, n, h => by cases h
 | 157, n, h => by cases h
 | 158, n, h => by cases h
 | 159, n, h => by cases h
 | 160, n, h => by cases h
 | 161, n, h => by cases h
 | 162, n, h => by cases h
 | 163, n, h => by cases h
 | 164, n, h => by cases h
 | 165, n, h => by cases h
 | 166, n, h => by obtain rfl : 1 = n := Option.some.inj h; exact (by kernel_rfl : (Tryd.prog.info? 166).map (·.size) = some 1)
 | 167, n, h => by cases h
 | 168, n, h => by obtain rfl : 1 = n := Option.some.inj h; exact (by kernel_rfl : (Tryd.prog.info? 168).map (·.size) = some 1)
 | 169, n, h => by obtain rfl : 32 = n := Option.some.inj h; exact (by kernel_rfl : (Tryd.prog.info? 169).map (·.size) = some 32)
 | 170, n, h => by cases h
 | 171, n, h => by cases h
 | 172, n, h => by cases h
 | 173, n, h => by obtain rfl : 24 = n := Option.some.inj h; exact (by kernel_rfl : (Tryd.prog.info? 173).map (·.size) = some 24)
 | 174, n, h => by obtain rfl : 24 = n := Option.some.inj h; exact (by kernel_rfl : (Tryd.prog.info? 174).map (·.size) = some 24)
 | 175, n, h => by cases h
 | 176, n, h => by cases h
 | 177, n, h => by cases h
 | 178, n, h => by cases h
 | 179, n, h => by cases h
 | 180, n, h => by cases h
 | 181, n, h => by cases h
 | 182, n, h => by cases h
 | 183, n, h => by obtain rfl : 1 = n := Option.some.inj h; exact (by kernel_rfl : (Tryd.prog.info? 183).map (·.size) = some 1)
 | 184, n, h => by cases h
 | 185, n, h => by cases h
 | 186, n, h => by cases h
 | 187, n, h => by cases h
 | 188, n, h => by cases h
 | 189, n, h => by cases h
 | 190, n, h => by cases h
 | 191, n, h => by cases h
 | 192, n, h => by cases h
 | 193, n, h => by cases h
 | 194, n, h => by cases h
 | 195, n, h => by cases h
 | 196, n, h => by cases h
 | 197, n, h => by cases h
 | 198, n, h => by cases h
 | 199, n, h => by cases h
 | 200, n, h => by cases h
 | 201, n, h => by cases h
 | 202, n, h => by cases h
 | 203, n, h => by cases h
 | _ + 204, n, h => by cases h
theorem zcT_ok : ∀ t c, zcT t = some c → ∃ i z, Tryd.prog.info? t = some i ∧ i.zero = some z ∧ z.cells = (cc c).toArray
 | 0, c, h => by cases h
 | 1, c, h => by obtain rfl : _ = c := Option.some.inj h; exact zc_mk (by kernel_rfl)
 | 2, c, h => by obtain rfl : _ = c := Option.some.inj h; exact zc_mk (by kernel_rfl)
 | 3, c, h => by obtain rfl : _ = c := Option.some.inj h; exact zc_mk (by kernel_rfl)
 | 4, c, h => by obtain rfl : _ = c := Option.some.inj h; exact zc_mk (by kernel_rfl)
 | 5, c, h => by obtain rfl : _ = c := Option.some.inj h; exact zc_mk (by kernel_rfl)
 | 6, c, h => by cases h
 | 7, c, h => by cases h
 | 8, c, h => by cases h
 | 9, c, h => by obtain rfl : _ = c := Option.some.inj h; exact zc_mk (by kernel_rfl)
 | 10, c, h => by cases h
 | 11, c, h => by cases h
 | 12, c, h => by obtain rfl : _ = c := Option.some.inj h; exact zc_mk (by kernel_rfl)
 | 13, c, h => by cases h
 | 14, c, h => by cases h
 | 15, c, h => by cases h
 | 16, c, h => by cases h
 | 17, c, h => by cases h
 | 18, c, h => by cases h
 | 19, c, h => by cases h
 | 20, c, h => by obtain rfl : _ = c := Option.some.inj h; exact zc_mk (by kernel_rfl)
 | 21, c, h => by obtain rfl : _ = c := Option.some.inj h; exact zc_mk (by kernel_rfl)
 | 22, c, h => by cases h
 | 23, c, h => by obtain rfl : _ = c := Option.some.inj h; exact zc_mk (by kernel_rfl)
 | 24, c, h => by obtain rfl : _ = c := Option.some.inj h; exact zc_mk (by kernel_rfl)
 | 25, c, h => by cases h
 | 26, c, h => by obtain rfl : _ = c := Option.some.inj h; exact zc_mk (by kernel_rfl)
 | 27, c, h => by obtain rfl : _ = c := Option.some.inj h; exact zc_mk (by kernel_rfl)
 | 28, c, h => by cases h
 | 29, c, h => by obtain rfl : _ = c := Option.some.inj h; exact zc_mk (by kernel_rfl)
 | 30, c, h => by cases h
 | 31, c, h => by cases h
 | 32, c, h => by obtain rfl : _ = c := Option.some.inj h; exact zc_mk (by kernel_rfl)
 | 33, c, h => by cases h
 | 34, c, h => by cases h
 | 35, c, h => by cases h
 | 36, c, h => by cases h
 | 37, c, h => by cases h
 | 38, c, h => by cases h
 | 39, c, h => by cases h
 | 40, c, h => by cases h
 | 41, c, h => by cases h
 | 42, c, h => by cases h
 | 43, c, h => by obtain rfl : _ = c := Option.some.inj h; exact zc_mk (by kernel_rfl)
 | 44, c, h => by cases h
 | 45, c, h => by cases h
 | 46, c, h => by cases h
 | 47, c, h => by cases h
 | 48, c, h => by cases h
 | 49, c, h => by cases h
 | 50, c, h => by cases h
 | 51, c, h => by obtain rfl : _ = c := Option.some.inj h; exact zc_mk (by kernel_rfl)
 | 52, c, h => by cases h
 | 53, c, h => by cases h
 | 54, c, h => by cases h
 | 55, c, h => by cases h
 | 56, c, h => by cases h
 | 57, c, h => by cases h
 | 58, c, h => by cases h
 | 59, c, h => by obtain rfl : _ = c := Option.some.inj h; exact zc_mk (by kernel_rfl)
 | 60, c, h => by cases h
 | 61, c, h => by cases h
 | 62, c, h => by cases h
 | 63, c, h => by cases h
 | 64, c, h => by cases h
 | 65, c, h => by cases h
 | 66, c, h => by cases h
 | 67, c, h => by obtain rfl : _ = c := Option.some.inj h; exact zc_mk (by kernel_rfl)
 | 68, c, h => by cases h
 | 69, c, h => by cases h
 | 70, c, h => by cases h
 | 71, c, h => by cases h
 | 72, c, h => by cases h
 | 73, c, h => by cases h
 | 74, c, h => by cases h
 | 75, c, h => by cases h
 | 76, c, h => by cases h
 | 77, c, h => by cases h
 | 78, c, h => by cases h
 | 79, c, h => by cases h
 | 80, c, h => by cases h
 | 81, c, h => by cases h
 | 82, c, h => by cases h
 | 83, c, h => by cases h
 | 84, c, h => by cases h
 | 85, c, h => by cases h
 | 86, c, h => by cases h
 | 87, c, h => by cases h
 | 88, c, h => by cases h
 | 89, c, h => by cases h
 | 90, c, h => by cases h
 | 91, c, h => by cases h
 | 92, c, h => by cases h
 | 93, c, h => by cases h
 | 94, c, h => by cases h
 | 95, c, h => by cases h
 | 96, c, h => by cases h
 | 97, c, h => by cases h
 | 98, c, h => by cases h
 | 99, c, h => by cases h
 | 100, c, h => by cases h
 | 101, c, h => by cases h
 | 102, c, h => by obtain rfl : _ = c := Option.some.inj h; exact zc_mk (by kernel_rfl)
 | 103, c, h => by cases h
 | 104, c, h => by obtain rfl : _ = c := Option.some.inj h; exact zc_mk (by kernel_rfl)
 | 105, c, h => by cases h
 | 106, c, h => by cases h
 | 107, c, h => by obtain rfl : _ = c := Option.some.inj h; exact zc_mk (by kernel_rfl)
 | 108, c, h => by cases h
 | 109, c, h => by cases h
 | 110, c, h => by cases h
 | 111, c, h => by cases h
 | 112, c, h => by cases h
 | 113, c, h => by cases h
 | 114, c, h => by obtain rfl : _ = c := Option.some.inj h; exact zc_mk (by kernel_rfl)
 | 115, c, h => by obtain rfl : _ = c := Option.some.inj h; exact zc_mk (by kernel_rfl)
 | 116, c, h => by cases h
 | 117, c, h => by cases h
 | 118, c, h => by cases h
 | 119, c, h => by cases h
 | 120, c, h => by cases h
 | 121, c, h => by cases h
 | 122, c, h => by cases h
 | 123, c, h => by cases h
 | 124, c, h => by cases h
 | 125, c, h => by cases h
 | 126, c, h => by cases h
 | 127, c, h => by cases h
 | 128, c, h => by cases h
 | 129, c, h => by cases h
 | 130, c, h => by cases h
 | 131, c, h => by cases h
 | 132, c, h => by cases h
 | 133, c, h => by cases h
 | 134, c, h => by cases h
 | 135, c, h => by cases h
 | 136, c, h => by cases h
 | 137, c, h => by cases h
 | 138, c, h => by cases h
 | 139, c, h => by cases h
 | 140, c, h => by cases h
 | 141, c, h => by obtain rfl : _ = c := Option.some.inj h; exact zc_mk (by kernel_rfl)
 | 142, c, h => by cases h
 | 143, c, h => by obtain rfl : _ = c := Option.some.inj h; exact zc_mk (by kernel_rfl)
 | 144, c, h => by cases h
 | 145, c, h => by cases h
 | 146, c, h => by cases h
 | 147, c, h => by cases h
 | 148, c, h => by cases h
 | 149, c, h => by cases h
 | 150, c, h => by cases h
 | 151, c, h => by cases h
 | 152, c, h => by cases h
 | 153, c, h => by cases h
 | 154, c, h => by cases h
 | 155, c, h => by cases h
 | 156, c, h => by cases h
 | 157, c, h => by cases h
 | 158, c, h => by cases h
 | 159, c, h => by cases h
 | 160, c, h => by cases h
 | 161, c, h => by cases h
 | 162, c, h => by cases h
 | 163, c, h => by cases h
 | 164, c, h => by cases h
 | 165, c, h => by cases h
 | 166, c, h => by obtain rfl : _ = c := Option.some.inj h; exact zc_mk (by kernel_rfl)
 | 167, c, h => by cases h
 | 168, c, h => by obtain rfl : _ = c := Option.some.inj h; exact zc_mk (by kernel_rfl)
 | 169, c, h => by obtain rfl : _ = c := Option.some.inj h; exact zc_mk (by kernel_rfl)
 | 170, c, h => by cases h
 | 171, c, h => by cases h
 | 172, c, h => by cases h
 | 173, c, h => by obtain rfl : _ = c := Option.some.inj h; exact zc_mk (by kernel_rfl)
 | 174, c, h => by obtain rfl : _ = c := Option.some.inj h; exact zc_mk (by kernel_rfl)
 | 175, c, h => by cases h
 | 176, c, h => by cases h
 | 177, c, h => by cases h
 | 178, c, h => by cases h
 | 179, c, h => by cases h
 | 180, c, h => by cases h
 | 181, c, h => by cases h
 | 182, c, h => by cases h
 | 183, c, h => by obtain rfl : _ = c := Option.some.inj h; exact zc_mk (by kernel_rfl)
 | 184, c, h => by cases h
 | 185, c, h => by cases h
 | 186, c, h => by cases h
 | 187, c, h => by cases h
 | 188, c, h => by cases h
 | 189, c, h => by cases h
 | 190, c, h => by cases h
 | 191, c, h => by cases h
 | 192, c, h => by cases h
 | 193, c, h => by cases h
 | 194, c, h => by cases h
 | 195, c, h => by cases h
 | 196, c, h => by cases h
 | 197, c, h => by cases h
 | 198, c, h => by cases h
 | 199, c, h => by cases h
 | 200, c, h => by cases h
 | 201, c, h => by cases h
 | 202, c, h => by cases h
 | 203, c, h => by cases h
 | _ + 204, c, h => by cases h
theorem zrT_ok : ∀ t, zrT t ≠ [] → ∃ i z, Tryd.prog.info? t = some i ∧ i.zero = some z ∧ z.cells = (cvs (zrT t)).toArray
 | 0, h => absurd rfl h
 | 1, h => absurd rfl h
 | 2, h => absurd rfl h
 | 3, h => absurd rfl h
 | 4, h => absurd rfl h
 | 5, h => absurd rfl h
 | 6, h => absurd rfl h
 | 7, h => absurd rfl h
 | 8, h => absurd rfl h
 | 9, h => absurd rfl h
 | 10, h => absurd rfl h
 | 11, h => absurd rfl h
 | 12, h => absurd rfl h
 | 13, h => absurd rfl h
 | 14, h => absurd rfl h
 | 15, h => absurd rfl h
 | 16, h => absurd rfl h
 | 17, h => absurd rfl h
 | 18, h => absurd rfl h
 | 19, h => absurd rfl h
 | 20, h => absurd rfl h
 | 21, h => absurd rfl h
 | 22, h => absurd rfl h
 | 23, _ => zr_mk (by kernel_rfl)
 | 24, h => absurd rfl h
 | 25, h => absurd rfl h
 | 26, _ => zr_mk (by kernel_rfl)
 | 27, h => absurd rfl h
 | 28, h => absurd rfl h
 | 29, _ => zr_mk (by kernel_rfl)
 | 30, h => absurd rfl h
 | 31, h => absurd rfl h
 | 32, h => absurd rfl h
 | 33, h => absurd rfl h
 | 34, h => absurd rfl h
 | 35, h => absurd rfl h
 | 36, h => absurd rfl h
 | 37, h => absurd rfl h
 | 38, h => absurd rfl h
 | 39, h => absurd rfl h
 | 40, h => absurd rfl h
 | 41, h => absurd rfl h
 | 42, h => absurd rfl h
 | 43, h => absurd rfl h
 | 44, h => absurd rfl h
 | 45, h => absurd rfl h
 | 46, h => absurd rfl h
 | 47, h => absurd rfl h
 | 48, h => absurd rfl h
 | 49, h => absurd rfl h
 | 50, h => absurd rfl h
 | 51, _ => zr_mk (by kernel_rfl)
 | 52, h => absurd rfl h
 | 53, h => absurd rfl h
 | 54, h => absurd rfl h
 | 55, h => absurd rfl h
 | 56, h => absurd rfl h
 | 57, h => absurd rfl h
 | 58, h => absurd rfl h
 | 59, _ => zr_mk (by kernel_rfl)
 | 60, h => absurd rfl h
 | 61, h => absurd rfl h
 | 62, h => absurd rfl h
 | 63, h => absurd rfl h
 | 64, h => absurd rfl h
 | 65, h => absurd rfl h
 | 66, h => absurd rfl h
 | 67, _ => zr_mk (by kernel_rfl)
 | 68, h => absurd rfl h
 | 69, h => absurd rfl h
 | 70, h => absurd rfl h
 | 71, h => absurd rfl h
 | 72, h => absurd rfl h
 | 73, h => absurd rfl h
 | 74, h => absurd rfl h
 | 75, h => absurd rfl h
 | 76, h => absurd rfl h
 | 77, h => absurd rfl h
 | 78, h => absurd rfl h
 | 79, h => absurd rfl h
 | 80, h => absurd rfl h
 | 81, h => absurd rfl h
 | 82, h => absurd rfl h
 | 83, h => absurd rfl h
 | 84, h => absurd rfl h
 | 85, h => absurd rfl h
 | 86, h => absurd rfl h
 | 87, h => absurd rfl h
 | 88, h => absurd rfl h
 | 89, h => absurd rfl h
 | 90, h => absurd rfl h
 | 91, h => absurd rfl h
 | 92, h => absurd rfl h
 | 93, h => absurd rfl h
 | 94, h => absurd rfl h
 | 95, h => absurd rfl h
 | 96, h => absurd rfl h
 | 97, h => absurd rfl h
 | 98, h => absurd rfl h
 | 99, h => absurd rfl h
 | 100, h => absurd rfl h
 | 101, h => absurd rfl h
 | 102, h => absurd rfl h
 | 103, h => absurd rfl h
 | 104, h => absurd rfl h
 | 105, h => absurd rfl h
 | 106, h => absurd rfl h
 | 107, _ => zr_mk (by kernel_rfl)
 | 108, h => absurd rfl h
 | 109, h => absurd rfl h
 | 110, h => absurd rfl h
 | 111, h => absurd rfl h
 | 112, h => absurd rfl h
 | 113, h => absurd rfl h
 | 114, h => absurd rfl h
 | 115, h => absurd rfl h
 | 116, h => absurd rfl h
 | 117, h => absurd rfl h
 | 118, h => absurd rfl h
 | 119, h => absurd rfl h
 | 120, h => absurd rfl h
 | 121, h => absurd rfl h
 | 122, h => absurd rfl h
 | 123, h => absurd rfl h
 | 124, h => absurd rfl h
 | 125, h => absurd rfl h
 | 126, h => absurd rfl h
 | 127, h => absurd rfl h
 | 128, h => absurd rfl h
 | 129, h => absurd rfl h
 | 130, h => absurd rfl h
 | 131, h => absurd rfl h
 | 132, h => absurd rfl h
 | 133, h => absurd rfl h
 | 134, h => absurd rfl h
 | 135, h => absurd rfl h
 | 136, h => absurd rfl h
 | 137, h => absurd rfl h
 | 138, h => absurd rfl h
 | 139, h => absurd rfl h
 | 140, h => absurd rfl h
 | 141, _ => zr_mk (by kernel_rfl)
 | 142, h => absurd rfl h
 | 143, h => absurd rfl h
 | 144, h => absurd rfl h
 | 145, h => absurd rfl h
 | 146, h => absurd rfl h
 | 147, h => absurd rfl h
 | 148, h => absurd rfl h
 | 149, h => absurd rfl h
 | 150, h => absurd rfl h
 | 151, h => absurd rfl h
 | 152, h => absurd rfl h
 | 153, h => absurd rfl h
 | 154, h => absurd rfl h
 | 155, h => absurd rfl h
 | 156, h => absurd rfl h
 | 157, h => absurd rfl h
 | 158, h => absurd rfl h
 | 159, h => absurd rfl h
 | 160, h => absurd rfl h
 | 161, h => absurd rfl h
 | 162, h => absurd rfl h
 | 163, h => absurd rfl h
 | 164, h => absurd rfl h
 | 165, h => absurd rfl h
 | 166, h => absurd rfl h
 | 167, h => absurd rfl h
 | 168, h => absurd rfl h
 | 169, _ => zr_mk (by kernel_rfl)
 | 170, h => absurd rfl h
 | 171, h => absurd rfl h
 | 172, h => absurd rfl h
 | 173, _ => zr_mk (by kernel_rfl)
 | 174, _ => zr_mk (by kernel_rfl)
 | 175, h => absurd rfl h
 | 176, h => absurd rfl h
 | 177, h => absurd rfl h
 | 178, h => absurd rfl h
 | 179, h => absurd rfl h
 | 180, h => absurd rfl h
 | 181, h => absurd rfl h
 | 182, h => absurd rfl h
 | 183, h => absurd rfl h
 | 184, h => absurd rfl h
 | 185, h => absurd rfl h
 | 186, h => absurd rfl h
 | 187, h => absurd rfl h
 | 188, h => absurd rfl h
 | 189, h => absurd rfl h
 | 190, h => absurd rfl h
 | 191, h => absurd rfl h
 | 192, h => absurd rfl h
 | 193, h => absurd rfl h
 | 194, h => absurd rfl h
 | 195, h => absurd rfl h
 | 196, h => absurd rfl h
 | 197, h => absurd rfl h
 | 198, h => absurd rfl h
 | 199, h => absurd rfl h
 | 200, h => absurd rfl h
 | 201, h => absurd rfl h
 | 202, h => absurd rfl h
 | 203, h => absurd rfl h
 | _ + 204, h => absurd rfl h
theorem b8T_ok : ∀ e, tyT e = .int .u8 → ∃ i, Tryd.prog.info? e = some i ∧ i.zero = some (.int .u8 0) ∧ i.size = 1 ∧ i.bytes = 1
 | 0, h => by cases h
 | 1, h => by cases h
 | 2, h => by cases h
 | 3, h => by cases h
 | 4, h => by cases h
 | 5, _ => b8_mk (by kernel_rfl)
 | 6, h => by cases h
 | 7, h => by cases h
 | 8, h => by cases h
 | 9, h => by cases h
 | 10, h => by cases h
 | 11, h => by cases h
 | 12, h => by cases h
 | 13, h => by cases h
 | 14, h => by cases h
 | 15, h => by cases h
 | 16, h => by cases h
 | 17, h => by cases h
 | 18, h => by cases h
 | 19, h => by cases h
 | 20, h => by cases h
 | 21, h => by cases h
 | 22, h => by cases h
 | 23, h => by cases h
 | 24, h => by cases h
 | 25, h => by cases h
 | 26, h => by cases h
 | 27, h => by cases h
 | 28, h => by cases h
 | 29, h => by cases h
 | 30, h => by cases h
 | 31, h => by cases h
 | 32, h => by cases h
 | 33, h => by cases h
 | 34, h => by cases h
 | 35, h => by cases h
 | 36, h => by cases h
 | 37, h => by cases h
 | 38, h => by cases h
 | 39, h => by cases h
 | 40, h => by cases h
 | 41, h => by cases h
 | 42, h => by cases h
 | 43, h => by cases h
 | 44, h => by cases h
 | 45, h => by cases h
 | 46, h => by cases h
 | 47, h => by cases h
 | 48, h => by cases h
 | 49, h => by cases h
 | 50, h => by cases h
 | 51, h => by cases h
 | 52, h => by cases h
 | 53, h => by cases h
 | 54, h => by cases h
 | 55, h => by cases h
 | 56, h => by cases h
 | 57, h => by cases h
 | 58, h => by cases h
 | 59, h => by cases h
 | 60, h => by cases h
 | 61, h => by cases h
 | 62, h => by cases h
 | 63, h => by cases h
 | 64, h => by cases h
 | 65, h => by cases h
 | 66, h => by cases h
 | 67, h => by cases h
 | 68, h => by cases h
 | 69, h => by cases h
 | 70, h => by cases h
 | 71, h => by cases h
 | 72, h => by cases h
 | 73, h => by cases h
 | 74, h => by cases h
 | 75, h => by cases h
 | 76, h => by cases h
 | 77, h => by cases h
 | 78, h => by cases h
 | 79, h => by cases h
 | 80, h => by cases h
 | 81, h => by cases h
 | 82, h => by cases h
 | 83, h => by cases h
 | 84, h => by cases h
 | 85, h => by cases h
 | 86, h => by cases h
 | 87, h => by cases h
 | 88, h => by cases h
 | 89, h => by cases h
 | 90, h => by cases h
 | 91, h => by cases h
 | 92, h => by cases h
 | 93, h => by cases h
 | 94, h => by cases h
 | 95, h => by cases h
 | 96, h => by cases h
 | 97, h => by cases h
 | 98, h => by cases h
 | 99, h => by cases h
 | 100, h => by cases h
 | 101, h => by cases h
 | 102, h => by cases h
 | 103, h => by cases h
 | 104, h => by cases h
 | 105, h => by cases h
 | 106, h => by cases h
 | 107, h => by cases h
 | 108, h => by cases h
 | 109, h => by cases h
 | 110, h => by cases h
 | 111, h => by cases h
 | 112, h => by cases h
 | 113, h => by cases h
 | 114, h => by cases h
 | 115, h => by cases h
 | 116, h => by cases h
 | 117, h => by cases h
 | 118, h => by cases h
 | 119, h => by cases h
 | 120, h => by cases h
 | 121, h => by cases h
 | 122, h => by cases h
 | 123, h => by cases h
 | 124, h => by cases h
 | 125, h => by cases h
 | 126, h => by cases h
 | 127, h => by cases h
 | 128, h => by cases h
 | 129, h => by cases h
 | 130, h => by cases h
 | 131, h => by cases h
 | 132, h => by cases h
 | 133, h => by cases h
 | 134, h => by cases h
 | 135, h => by cases h
 | 136, h => by cases h
 | 137, h => by cases h
 | 138, h => by cases h
 | 139, h => by cases h
 | 140, h => by cases h
 | 141, h => by cases h
 | 142, h => by cases h
 | 143, h => by cases h
 | 144, h => by cases h
 | 145, h => by cases h
 | 146, h => by cases h
 | 147, h => by cases h
 | 148, h => by cases h
 | 149, h => by cases h
 | 150, h => by cases h
 | 151, h => by cases h
 | 152, h => by cases h
 | 153, h => by cases h
 | 154, h => by cases h
 | 155, h => by cases h
 | 156, h => by cases h
 | 157, h => by cases h
 | 158, h => by cases h
 | 159, h => by cases h
 | 160, h => by cases h
 | 161, h => by cases h
 | 162, h => by cases h
 | 163, h => by cases h
 | 164, h => by cases h
 | 165, h => by cases h
 | 166, h => by cases h
 | 167, h => by cases h
 | 168, h => by cases h
 | 169, h => by cases h
 | 170, h => by cases h
 | 171, h => by cases h
 | 172, h => by cases h
 | 173, h => by cases h
 | 174, h => by cases h
 | 175, h => by cases h
 | 176, h => by cases h
 | 177, h => by cases h
 | 178, h => by cases h
 | 179, h => by cases h
 | 180, h => by cases h
 | 181, h => by cases h
 | 182, h => by cases h
 | 183, h => by cases h
 | 184, h => by cases h
 | 185, h => by cases h
 | 186, h => by cases h
 | 187, h => by cases h
 | 188, h => by cases h
 | 189, h => by cases h
 | 190, h => by cases h
 | 191, h => by cases h
 | 192, h => by cases h
 | 193, h => by cases h
 | 194, h => by cases h
 | 195, h => by cases h
 | 196, h => by cases h
 | 197, h => by cases h
 | 198, h => by cases h
 | 199, h => by cases h
 | 200, h => by cases h
 | 201, h => by cases h
 | 202, h => by cases h
 | 203, h => by cases h
 | _ + 204, h => by cases h
theorem ty_3 : T0.ty 3 = .int .i64 := rfl
theorem zc_3 : T0.zc 3 = some (.ints .i64 [0]) := rfl
theorem ty_4 : T0.ty 4 = .bool := rfl
theorem zc_4 : T0.zc 4 = some (.cells [.bool false]) := rfl
theorem ty_5 : T0.ty 5 = .int .u8 := rfl
theorem zc_5 : T0.zc 5 = some (.ints .u8 [0]) := rfl
theorem ty_9 : T0.ty 9 = .str := rfl
theorem zc_9 : T0.zc 9 = some (.cells [.str []]) := rfl
theorem ty_20 : T0.ty 20 = .ifc := rfl
theorem zc_20 : T0.zc 20 = some (.cells [.raw .nilIface]) := rfl
theorem ty_23 : T0.ty 23 = .arr 20 5 1 (some .u8) := rfl
theorem zc_23 : T0.zc 23 = some (.ints .u8 (List.replicate 20 0)) := rfl
theorem zr_23 : T0.zr 23 = [.int .u8 0, .int .u8 0, .int .u8 0, .int .u8 0, .int .u8 0, .int .u8 0, .int .u8 0, .int .u8 0, .int .u8 0, .int .u8 0, .int .u8 0, .int .u8 0, .int .u8 0, .int .u8 0, .int .u8 0, .int .u8 0, .int .u8 0, .int .u8 0, .int .u8 0, .int .u8 0] := rfl
theorem ty_24 : T0.ty 24 = .int .u64 := rfl
theorem zc_24 : T0.zc 24 = some (.ints .u64 [0]) := rfl
theorem ty_26 : T0.ty 26 = .word := rfl
theorem zc_26 : T0.zc 26 = some (.words [0]) := rfl
theorem zr_26 : T0.zr 26 = [.int .u64 0, .int .u64 0, .int .u64 0, .int .u64 0] := rfl
theorem ty_27 : T0.ty 27 = .sl 5 1 1 := rfl
theorem zc_27 : T0.zc 27 = some (.cells [.nilsl]) := rfl
theorem ty_29 : T0.ty 29 = .struct 83 [(0, 20, 23), (20, 4, 26), (24, 1, 4), (25, 20, 23), (45, 1, 27), (46, 1, 27), (47, 1, 24), (48, 1, 24), (49, 1, 24), (50, 4, 26), (54, 4, 26), (58, 1, 4), (59, 20, 23), (79, 1, 24), (80, 1, 24), (81, 1, 27), (82, 1, 27)] := rfl
theorem zc_29 : T0.zc 29 = some (.cells zl_29) := rfl
theorem zr_29 : T0.zr 29 = ((.int .u8 0) :: (.int .u8 0) :: (.int .u8 0) :: (.int .u8 0) :: (.int .u8 0) :: (.int .u8 0) :: (.int .u8 0) :: (.int .u8 0) :: (.int .u8 0) :: (.int .u8 0) :: (.int .u8 0) :: (.int .u8 0) :: (.int .u8 0) :: (.int .u8 0) :: (.int .u8 0) :: (.int .u8 0) :: (.int .u8 0) :: (.int .u8 0) :: (.int .u8 0) :: (.int .u8 0) :: (.int .u64 0) :: (.int .u64 0) :: (.int .u64 0) :: (.int .u64 0) :: (.bool false) :: (.int .u8 0) :: (.int .u8 0) :: (.int .u8 0) :: (.int .u8 0) :: (.int .u8 0) :: (.int .u8 0) :: (.int .u8 0) :: (.int .u8 0) :: (.int .u8 0) :: (.int .u8 0) :: (.int .u8 0) :: (.int .u8 0) :: (.int .u8 0) :: (.int .u8 0) :: (.int .u8 0) :: (.int .u8 0) :: (.int .u8 0) :: (.int .u8 0) :: (.int .u8 0) :: (.int .u8 0) :: (.nilsl) :: (.nilsl) :: (.int .u64 0) :: (.int .u64 0) :: (.int .u64 0) :: (.int .u64 0) :: (.int .u64 0) :: (.int .u64 0) :: (.int .u64 0) :: (.int .u64 0) :: (.int .u64 0) :: (.int .u64 0) :: (.int .u64 0) :: (.bool false) :: (.int .u8 0) :: (.int .u8 0) :: (.int .u8 0) :: (.int .u8 0) :: (.int .u8 0) :: (.int .u8 0) :: (.int .u8 0) :: (.int .u8 0) :: (.int .u8 0) :: (.int .u8 0) :: (.int .u8 0) :: (.int .u8 0) :: (.int .u8 0) :: (.int .u8 0) :: (.int .u8 0) :: (.int .u8 0) :: (.int .u8 0) :: (.int .u8 0) :: (.int .u8 0) :: (.int .u8 0) :: (.int .u64 0) :: (.int .u64 0) :: (.nilsl) :: (.nilsl) :: []) := rfl
theorem ty_43 : T0.ty 43 = .sl 59 6 64 := rfl
theorem zc_43 : T0.zc 43 = some (.cells [.nilsl]) := rfl
theorem ty_51 : T0.ty 51 = .struct 3 [(0, 1, 4), (1, 1, 24), (2, 1, 24)] := rfl
theorem zc_51 : T0.zc 51 = some (.cells [.bool false, .int .u64 0, .int .u64 0]) := rfl
theorem lv_51 : T0.lv 51 = some [.b, .i .u64, .i .u64] := rfl
theorem zr_51 : T0.zr 51 = [.bool false, .int .u64 0, .int .u64 0] := rfl
theorem ty_59 : T0.ty 59 = .struct 6 [(0, 1, 4), (1, 4, 26), (5, 1, 27)] := rfl
theorem zc_59 : T0.zc 59 = some (.cells [.bool false, .int .u64 0, .int .u64 0, .int .u64 0, .int .u64 0, .nilsl]) := rfl
theorem zr_59 : T0.zr 59 = [.bool false, .int .u64 0, .int .u64 0, .int .u64 0, .int .u64 0, .nilsl] := rfl
theorem ty_67 : T0.ty 67 = .arr 5 24 1 (some .u64) := rfl
theorem zc_67 : T0.zc 67 = some (.ints .u64 (List.replicate 5 0)) := rfl
theorem zr_67 : T0.zr 67 = [.int .u64 0, .int .u64 0, .int .u64 0, .int .u64 0, .int .u64 0] := rfl
theorem ty_102 : T0.ty 102 = .int .u64 := rfl
theorem zc_102 : T0.zc 102 = some (.ints .u64 [0]) := rfl
theorem ty_104 : T0.ty 104 = .sl 24 1 8 := rfl
theorem zc_104 : T0.zc 104 = some (.cells [.nilsl]) := rfl
theorem ty_107 : T0.ty 107 = .arr 8 24 1 (some .u64) := rfl
theorem zc_107 : T0.zc 107 = some (.ints .u64 (List.replicate 8 0)) := rfl
theorem zr_107 : T0.zr 107 = [.int .u64 0, .int .u64 0, .int .u64 0, .int .u64 0, .int .u64 0, .int .u64 0, .int .u64 0, .int .u64 0] := rfl
theorem ty_114 : T0.ty 114 = .sl 27 1 24 := rfl
theorem zc_114 : T0.zc 114 = some (.cells [.nilsl]) := rfl
theorem ty_115 : T0.ty 115 = .sl 3 1 8 := rfl
theorem zc_115 : T0.zc 115 = some (.cells [.nilsl]) := rfl
theorem ty_141 : T0.ty 141 = .arr 25 24 1 (some .u64) := rfl
theorem zc_141 : T0.zc 141 = some (.ints .u64 (List.replicate 25 0)) := rfl
theorem zr_141 : T0.zr 141 = [.int .u64 0, .int .u64 0, .int .u64 0, .int .u64 0, .int .u64 0, .int .u64 0, .int .u64 0, .int .u64 0, .int .u64 0, .int .u64 0, .int .u64 0, .int .u64 0, .int .u64 0, .int .u64 0, .int .u64 0, .int .u64 0, .int .u64 0, .int .u64 0, .int .u64 0, .int .u64 0, .int .u64 0, .int .u64 0, .int .u64 0, .int .u64 0, .int .u64 0] := rfl
theorem ty_143 : T0.ty 143 = .arr 136 5 1 (some .u8) := rfl
theorem zc_143 : T0.zc 143 = some (.ints .u8 (List.replicate 136 0)) := rfl
theorem ty_166 : T0.ty 166 = .cell := rfl
theorem zc_166 : T0.zc 166 = some (.cells [.raw .nilFunc]) := rfl
theorem ty_168 : T0.ty 168 = .ptr 141 := rfl
theorem zc_168 : T0.zc 168 = some (.cells [.raw (.pointer none)]) := rfl
theorem ty_169 : T0.ty 169 = .arr 32 5 1 (some .u8) := rfl
theorem zc_169 : T0.zc 169 = some (.ints .u8 (List.replicate 32 0)) := rfl
theorem zr_169 : T0.zr 169 = [.int .u8 0, .int .u8 0, .int .u8 0, .int .u8 0, .int .u8 0, .int .u8 0, .int .u8 0, .int .u8 0, .int .u8 0, .int .u8 0, .int .u8 0, .int .u8 0, .int .u8 0, .int .u8 0, .int .u8 0, .int .u8 0, .int .u8 0, .int .u8 0, .int .u8 0, .int .u8 0, .int .u8 0, .int .u8 0, .int .u8 0, .int .u8 0, .int .u8 0, .int .u8 0, .int .u8 0, .int .u8 0, .int .u8 0, .int .u8 0, .int .u8 0, .int .u8 0] := rfl
theorem ty_173 : T0.ty 173 = .arr 24 24 1 (some .u64) := rfl
theorem zc_173 : T0.zc 173 = some (.ints .u64 (List.replicate 24 0)) := rfl
theorem zr_173 : T0.zr 173 = [.int .u64 0, .int .u64 0, .int .u64 0, .int .u64 0, .int .u64 0, .int .u64 0, .int .u64 0, .int .u64 0, .int .u64 0, .int .u64 0, .int .u64 0, .int .u64 0, .int .u64 0, .int .u64 0, .int .u64 0, .int .u64 0, .int .u64 0, .int .u64 0, .int .u64 0, .int .u64 0, .int .u64 0, .int .u64 0, .int .u64 0, .int .u64 0] := rfl
theorem ty_174 : T0.ty 174 = .arr 24 5 1 (some .u8) := rfl
theorem zc_174 : T0.zc 174 = some (.ints .u8 (List.replicate 24 0)) := rfl
theorem zr_174 : T0.zr 174 = [.int .u8 0, .int .u8 0, .int .u8 0, .int .u8 0, .int .u8 0, .int .u8 0, .int .u8 0, .int .u8 0, .int .u8 0, .int .u8 0, .int .u8 0, .int .u8 0, .int .u8 0, .int .u8 0, .int .u8 0, .int .u8 0, .int .u8 0, .int .u8 0, .int .u8 0, .int .u8 0, .int .u8 0, .int .u8 0, .int .u8 0, .int .u8 0] := rfl
theorem gl_1 : T0.gl 1 = .ptr 0 1 0 0 0 0 := rfl
theorem gl_2 : T0.gl 2 = .ptr 1 2 0 0 0 0 := rfl
theorem st_0 : strI ⟨#[25, 130, 47, 124]⟩ = [25, 130, 47, 124] := by kernel_rfl
theorem st_1 : strI ⟨#[118, 97, 108, 105, 100, 97, 116, 101, 85, 115, 101, 114, 79, 112]⟩ = [118, 97, 108, 105, 100, 97, 116, 101, 85, 115, 101, 114, 79, 112] := by kernel_rfl
theorem st_2 : strI ⟨#[118, 97, 108, 105, 100, 97, 116, 101, 80, 97, 121, 109, 97, 115, 116, 101, 114, 85, 115, 101, 114, 79, 112]⟩ = [118, 97, 108, 105, 100, 97, 116, 101, 80, 97, 121, 109, 97, 115, 116, 101, 114, 85, 115, 101, 114, 79, 112] := by kernel_rfl
theorem st_3 : strI ⟨#[112, 111, 115, 116, 79, 112, 40, 117, 105, 110, 116, 56, 44, 98, 121, 116, 101, 115, 44, 117, 105, 110, 116, 50, 53, 54, 44, 117, 105, 110, 116, 50, 53, 54, 41]⟩ = [112, 111, 115, 116, 79, 112, 40, 117, 105, 110, 116, 56, 44, 98, 121, 116, 101, 115, 44, 117, 105, 110, 116, 50, 53, 54, 44, 117, 105, 110, 116, 50, 53, 54, 41] := by kernel_rfl
theorem st_4 : strI ⟨#[40]⟩ = [40] := by kernel_rfl
theorem st_5 : strI ⟨#[44, 98, 121, 116, 101, 115, 51, 50, 44, 117, 105, 110, 116, 50, 53, 54, 41]⟩ = [44, 98, 121, 116, 101, 115, 51, 50, 44, 117, 105, 110, 116, 50, 53, 54, 41] := by kernel_rfl
theorem st_6 : strI ⟨#[108, 101, 110, 32, 111, 117, 116, 32, 111, 102, 32, 114, 97, 110, 103, 101]⟩ = [108, 101, 110, 32, 111, 117, 116, 32, 111, 102, 32, 114, 97, 110, 103, 101] := by kernel_rfl
theorem st_7 : strI ⟨#[101, 114, 114, 111, 114, 115, 58, 32, 116, 97, 114, 103, 101, 116, 32, 99, 97, 110, 110, 111, 116, 32, 98, 101, 32, 110, 105, 108]⟩ = [101, 114, 114, 111, 114, 115, 58, 32, 116, 97, 114, 103, 101, 116, 32, 99, 97, 110, 110, 111, 116, 32, 98, 101, 32, 110, 105, 108] := by kernel_rfl
theorem st_8 : strI ⟨#[101, 114, 114, 111, 114, 115, 58, 32, 116, 97, 114, 103, 101, 116, 32, 109, 117, 115, 116, 32, 98, 101, 32, 97, 32, 110, 111, 110, 45, 110, 105, 108, 32, 112, 111, 105, 110, 116, 101, 114]⟩ = [101, 114, 114, 111, 114, 115, 58, 32, 116, 97, 114, 103, 101, 116, 32, 109, 117, 115, 116, 32, 98, 101, 32, 97, 32, 110, 111, 110, 45, 110, 105, 108, 32, 112, 111, 105, 110, 116, 101, 114] := by kernel_rfl
theorem st_9 : strI ⟨#[101, 114, 114, 111, 114, 115, 58, 32, 42, 116, 97, 114, 103, 101, 116, 32, 109, 117, 115, 116, 32, 98, 101, 32, 105, 110, 116, 101, 114, 102, 97, 99, 101, 32, 111, 114, 32, 105, 109, 112, 108, 101, 109, 101, 110, 116, 32, 101, 114, 114, 111, 114]⟩ = [101, 114, 114, 111, 114, 115, 58, 32, 42, 116, 97, 114, 103, 101, 116, 32, 109, 117, 115, 116, 32, 98, 101, 32, 105, 110, 116, 101, 114, 102, 97, 99, 101, 32, 111, 114, 32, 105, 109, 112, 108, 101, 109, 101, 110, 116, 32, 101, 114, 114, 111, 114] := by kernel_rfl
theorem st_10 : strI ⟨#[115, 108, 105, 99, 101, 115, 46, 77, 97, 120, 58, 32, 101, 109, 112, 116, 121, 32, 108, 105, 115, 116]⟩ = [115, 108, 105, 99, 101, 115, 46, 77, 97, 120, 58, 32, 101, 109, 112, 116, 121, 32, 108, 105, 115, 116] := by kernel_rfl
theorem st_11 : strI ⟨#[99, 97, 110, 110, 111, 116, 32, 98, 101, 32, 110, 101, 103, 97, 116, 105, 118, 101]⟩ = [99, 97, 110, 110, 111, 116, 32, 98, 101, 32, 110, 101, 103, 97, 116, 105, 118, 101] := by kernel_rfl
set_option linter.defProp false in
def tabs := And.intro @ty_3 <| And.intro @zc_3 <| And.intro @ty_4 <| And.intro @zc_4 <| And.intro @ty_5 <| And.intro @zc_5 <| And.intro @ty_9 <| And.intro @zc_9 <| And.intro @ty_20 <| And.intro @zc_20 <| And.intro @ty_23 <| And.intro @zc_23 <| And.intro @zr_23 <| And.intro @ty_24 <| And.intro @zc_24 <| And.intro @ty_26 <| And.intro @zc_26 <| And.intro @zr_26 <| And.intro @ty_27 <| And.intro @zc_27 <| And.intro @ty_29 <| And.intro @zc_29 <| And.intro @zr_29 <| And.intro @ty_43 <| And.intro @zc_43 <| And.intro @ty_51 <| And.intro @zc_51 <| And.intro @lv_51 <| And.intro @zr_51 <| And.intro @ty_59 <| And.intro @zc_59 <| And.intro @zr_59 <| And.intro @ty_67 <| And.intro @zc_67 <| And.intro @zr_67 <| And.intro @ty_102 <| And.intro @zc_102 <| And.intro @ty_104 <| And.intro @zc_104 <| And.intro @ty_107 <| And.intro @zc_107 <| And.intro @zr_107 <| And.intro @ty_114 <| And.intro @zc_114 <| And.intro @ty_115 <| And.intro @zc_115 <| And.intro @ty_141 <| And.intro @zc_141 <| And.intro @zr_141 <| And.intro @ty_143 <| And.intro @zc_143 <| And.intro @ty_166 <| And.intro @zc_166 <| And.intro @ty_168 <| And.intro @zc_168 <| And.intro @ty_169 <| And.intro @zc_169 <| And.intro @zr_169 <| And.intro @ty_173 <| And.intro @zc_173 <| And.intro @zr_173 <| And.intro @ty_174 <| And.intro @zc_174 <| And.intro @zr_174 <| And.intro @gl_1 <| And.intro @gl_2 <| And.intro @st_0 <| And.intro @st_1 <| And.intro @st_2 <| And.intro @st_3 <| And.intro @st_4 <| And.intro @st_5 <| And.intro @st_6 <| And.intro @st_7 <| And.intro @st_8 <| And.intro @st_9 <| And.intro @st_10 <| @st_11
theorem T0_ok : TabOk Tryd.prog T0 := { b8 := b8T_ok, sz := szT_ok, zc := zcT_ok, ty := tyT_ok, gl := glT_ok, zr := zrT_ok, lv := lvT_ok }
end Go.Proofs.YthdpgfdfgidokaaDoor

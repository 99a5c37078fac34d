/-
  The table of this translation's types.
-/
import Derived.Test.YtdkhlcoklihpfaaDoorRows
import Derived.Test.YtdkhlcoklihpfaaDoorEB
namespace Go.Proofs.YtdkhlcoklihpfaaDoor
set_option linter.unusedSimpArgs false
set_option linter.unusedVariables false
set_option maxRecDepth 20000
open Go.RowKit
def tyT : Nat → Ty
  | 1 => .cell
  | 2 => .int .i64
  | 3 => .int .i64
  | 4 => .bool
  | 5 => .int .u8
  | 6 => .int .u8
  | 9 => .str
  | 10 => .str
  | 11 => .str
  | 12 => .int .u64
  | 15 => .ptr 118
  | 16 => .ptr 121
  | 17 => .ptr 131
  | 20 => .ifc
  | 21 => .int .i32
  | 22 => .sl 44 6 64
  | 23 => .cell
  | 24 => .cell
  | 25 => .cell
  | 26 => .sl 5 1 1
  | 27 => .cell
  | 28 => .cell
  | 29 => .cell
  | 30 => .sl 4 1 1
  | 31 => .cell
  | 32 => .int .u16
  | 33 => .int .u16
  | 35 => .cell
  | 37 => .cell
  | 38 => .cell
  | 39 => .cell
  | 40 => .int .u64
  | 41 => .arr 4 40 1 (some .u64)
  | 42 => .word
  | 44 => .struct 6 [(0, 1, 4), (1, 4, 42), (5, 1, 26)]
  | 45 => .cell
  | 46 => .sl 42 4 32
  | 47 => .cell
  | 48 => .cell
  | 49 => .cell
  | 50 => .cell
  | 51 => .cell
  | 52 => .cell
  | 53 => .cell
  | 54 => .ifc
  | 55 => .ifc
  | 57 => .cell
  | 58 => .struct 2 [(0, 1, 3), (1, 1, 33)]
  | 59 => .struct 2 [(0, 1, 3), (1, 1, 33)]
  | 60 => .cell
  | 61 => .ptr 59
  | 63 => .cell
  | 64 => .int .u64
  | 65 => .cell
  | 66 => .arr 25 40 1 (some .u64)
  | 67 => .arr 25 40 1 (some .u64)
  | 68 => .cell
  | 69 => .arr 136 5 1 (some .u8)
  | 70 => .cell
  | 71 => .sl 3 1 8
  | 72 => .cell
  | 73 => .sl 40 1 8
  | 74 => .cell
  | 75 => .cell
  | 77 => .cell
  | 79 => .int .u64
  | 82 => .cell
  | 83 => .ifc
  | 84 => .ifc
  | 85 => .cell
  | 86 => .int .u8
  | 87 => .cell
  | 88 => .cell
  | 89 => .cell
  | 91 => .cell
  | 92 => .ptr 67
  | 93 => .arr 32 5 1 (some .u8)
  | 94 => .cell
  | 96 => .cell
  | 99 => .ptr 135
  | 100 => .cell
  | 101 => .cell
  | 102 => .cell
  | 103 => .ifc
  | 105 => .cell
  | 106 => .ifc
  | 107 => .cell
  | 108 => .ifc
  | 109 => .sl 55 1 16
  | 110 => .cell
  | 111 => .arr 24 40 1 (some .u64)
  | 113 => .cell
  | 114 => .arr 5 40 1 (some .u64)
  | 115 => .arr 24 5 1 (some .u8)
  | 116 => .cell
  | 119 => .arr 0 16 1 none
  | 122 => .cell
  | 123 => .cell
  | 124 => .int .u32
  | 125 => .int .u8
  | 126 => .cell
  | 127 => .ptr 5
  | 128 => .int .i32
  | 129 => .int .i32
  | 132 => .cell
  | 133 => .cell
  | 136 => .ptr 139
  | 137 => .cell
  | 140 => .sl 143 4 16
  | 141 => .int .i32
  | 144 => .ptr 55
  | _ => .other
def zcT : Nat → Option Con
  | 1 => some (.cells [.raw .nilFunc])
  | 2 => some (.ints .i64 [0])
  | 3 => some (.ints .i64 [0])
  | 4 => some (.cells [.bool false])
  | 5 => some (.ints .u8 [0])
  | 6 => some (.ints .u8 [0])
  | 9 => some (.cells [.str []])
  | 10 => some (.cells [.str []])
  | 11 => some (.cells [.str []])
  | 12 => some (.ints .u64 [0])
  | 15 => some (.cells [.raw (.pointer none)])
  | 16 => some (.cells [.raw (.pointer none)])
  | 17 => some (.cells [.raw (.pointer none)])
  | 20 => some (.cells [.raw .nilIface])
  | 21 => some (.ints .i32 [0])
  | 22 => some (.cells [.nilsl])
  | 23 => some (.cells [.raw .nilFunc])
  | 24 => some (.cells [.raw .nilFunc])
  | 25 => some (.cells [.raw .nilFunc])
  | 26 => some (.cells [.nilsl])
  | 27 => some (.cells [.raw .nilFunc])
  | 28 => some (.cells [.raw .nilFunc])
  | 29 => some (.cells [.raw .nilFunc])
  | 30 => some (.cells [.nilsl])
  | 31 => some (.cells [.raw .nilFunc])
  | 32 => some (.ints .u16 [0])
  | 33 => some (.ints .u16 [0])
  | 35 => some (.cells [.raw .nilFunc])
  | 37 => some (.cells [.raw .nilFunc])
  | 38 => some (.cells [.raw .nilFunc])
  | 39 => some (.cells [.raw .nilFunc])
  | 40 => some (.ints .u64 [0])
  | 41 => some (.ints .u64 (List.replicate 4 0))
  | 42 => some (.words [0])
  | 44 => some (.cells [.bool false, .int .u64 0, .int .u64 0, .int .u64 0, .int .u64 0, .nilsl])
  | 45 => some (.cells [.raw .nilFunc])
  | 46 => some (.cells [.nilsl])
  | 47 => some (.cells [.raw .nilFunc])
  | 48 => some (.cells [.raw .nilFunc])
  | 49 => some (.cells [.raw .nilFunc])
  | 50 => some (.cells [.raw .nilFunc])
  | 51 => some (.cells [.raw .nilFunc])
  | 52 => some (.cells [.raw .nilFunc])
  | 53 => some (.cells [.raw .nilFunc])
  | 54 => some (.cells [.raw .nilIface])
  | 55 => some (.cells [.raw .nilIface])
  | 57 => some (.cells [.raw .nilFunc])
  | 58 => some (.cells [.int .i64 0, .int .u16 0])
  | 59 => some (.cells [.int .i64 0, .int .u16 0])
  | 60 => some (.cells [.raw .nilFunc])
  | 61 => some (.cells [.raw (.pointer none)])
  | 63 => some (.cells [.raw .nilFunc])
  | 64 => some (.ints .u64 [0])
  | 65 => some (.cells [.raw .nilFunc])
  | 66 => some (.ints .u64 (List.replicate 25 0))
  | 67 => some (.ints .u64 (List.replicate 25 0))
  | 68 => some (.cells [.raw .nilFunc])
  | 69 => some (.ints .u8 (List.replicate 136 0))
  | 70 => some (.cells [.raw .nilFunc])
  | 71 => some (.cells [.nilsl])
  | 72 => some (.cells [.raw .nilFunc])
  | 73 => some (.cells [.nilsl])
  | 74 => some (.cells [.raw .nilFunc])
  | 75 => some (.cells [.raw .nilFunc])
  | 77 => some (.cells [.raw .nilFunc])
  | 79 => some (.ints .u64 [0])
  | 82 => some (.cells [.raw .nilFunc])
  | 83 => some (.cells [.raw .nilIface])
  | 84 => some (.cells [.raw .nilIface])
  | 85 => some (.cells [.raw .nilFunc])
  | 86 => some (.ints .u8 [0])
  | 87 => some (.cells [.raw .nilFunc])
  | 88 => some (.cells [.raw .nilFunc])
  | 89 => some (.cells [.raw .nilFunc])
  | 91 => some (.cells [.raw .nilFunc])
  | 92 => some (.cells [.raw (.pointer none)])
  | 93 => some (.ints .u8 (List.replicate 32 0))
  | 94 => some (.cells [.raw .nilFunc])
  | 96 => some (.cells [.raw .nilFunc])
  | 99 => some (.cells [.raw (.pointer none)])
  | 100 => some (.cells [.raw .nilFunc])
  | 101 => some (.cells [.raw .nilFunc])
  | 102 => some (.cells [.raw .nilFunc])
  | 103 => some (.cells [.raw .nilIface])
  | 105 => some (.cells [.raw .nilFunc])
  | 106 => some (.cells [.raw .nilIface])
  | 107 => some (.cells [.raw .nilFunc])
  | 108 => some (.cells [.raw .nilIface])
  | 109 => some (.cells [.nilsl])
  | 110 => some (.cells [.raw .nilFunc])
  | 111 => some (.ints .u64 (List.replicate 24 0))
  | 113 => some (.cells [.raw .nilFunc])
  | 114 => some (.ints .u64 (List.replicate 5 0))
  | 115 => some (.ints .u8 (List.replicate 24 0))
  | 116 => some (.cells [.raw .nilFunc])
  | 122 => some (.cells [.raw .nilFunc])
  | 123 => some (.cells [.raw .nilFunc])
  | 124 => some (.ints .u32 [0])
  | 125 => some (.ints .u8 [0])
  | 126 => some (.cells [.raw .nilFunc])
  | 127 => some (.cells [.raw (.pointer none)])
  | 128 => some (.ints .i32 [0])
  | 129 => some (.ints .i32 [0])
  | 132 => some (.cells [.raw .nilFunc])
  | 133 => some (.cells [.raw .nilFunc])
  | 136 => some (.cells [.raw (.pointer none)])
  | 137 => some (.cells [.raw .nilFunc])
  | 140 => some (.cells [.nilsl])
  | 141 => some (.ints .i32 [0])
  | 144 => some (.cells [.raw (.pointer none)])
  | _ => none
def zrT : Nat → List SV
  | 41 => [.int .u64 0, .int .u64 0, .int .u64 0, .int .u64 0]
  | 42 => [.int .u64 0, .int .u64 0, .int .u64 0, .int .u64 0]
  | 44 => [.bool false, .int .u64 0, .int .u64 0, .int .u64 0, .int .u64 0, .nilsl]
  | 58 => [.int .i64 0, .int .u16 0]
  | 59 => [.int .i64 0, .int .u16 0]
  | 66 => [.int .u64 0, .int .u64 0, .int .u64 0, .int .u64 0, .int .u64 0, .int .u64 0, .int .u64 0, .int .u64 0, .int .u64 0, .int .u64 0, .int .u64 0, .int .u64 0, .int .u64 0, .int .u64 0, .int .u64 0, .int .u64 0, .int .u64 0, .int .u64 0, .int .u64 0, .int .u64 0, .int .u64 0, .int .u64 0, .int .u64 0, .int .u64 0, .int .u64 0]
  | 67 => [.int .u64 0, .int .u64 0, .int .u64 0, .int .u64 0, .int .u64 0, .int .u64 0, .int .u64 0, .int .u64 0, .int .u64 0, .int .u64 0, .int .u64 0, .int .u64 0, .int .u64 0, .int .u64 0, .int .u64 0, .int .u64 0, .int .u64 0, .int .u64 0, .int .u64 0, .int .u64 0, .int .u64 0, .int .u64 0, .int .u64 0, .int .u64 0, .int .u64 0]
  | 93 => [.int .u8 0, .int .u8 0, .int .u8 0, .int .u8 0, .int .u8 0, .int .u8 0, .int .u8 0, .int .u8 0, .int .u8 0, .int .u8 0, .int .u8 0, .int .u8 0, .int .u8 0, .int .u8 0, .int .u8 0, .int .u8 0, .int .u8 0, .int .u8 0, .int .u8 0, .int .u8 0, .int .u8 0, .int .u8 0, .int .u8 0, .int .u8 0, .int .u8 0, .int .u8 0, .int .u8 0, .int .u8 0, .int .u8 0, .int .u8 0, .int .u8 0, .int .u8 0]
  | 111 => [.int .u64 0, .int .u64 0, .int .u64 0, .int .u64 0, .int .u64 0, .int .u64 0, .int .u64 0, .int .u64 0, .int .u64 0, .int .u64 0, .int .u64 0, .int .u64 0, .int .u64 0, .int .u64 0, .int .u64 0, .int .u64 0, .int .u64 0, .int .u64 0, .int .u64 0, .int .u64 0, .int .u64 0, .int .u64 0, .int .u64 0, .int .u64 0]
  | 114 => [.int .u64 0, .int .u64 0, .int .u64 0, .int .u64 0, .int .u64 0]
  | 115 => [.int .u8 0, .int .u8 0, .int .u8 0, .int .u8 0, .int .u8 0, .int .u8 0, .int .u8 0, .int .u8 0, .int .u8 0, .int .u8 0, .int .u8 0, .int .u8 0, .int .u8 0, .int .u8 0, .int .u8 0, .int .u8 0, .int .u8 0, .int .u8 0, .int .u8 0, .int .u8 0, .int .u8 0, .int .u8 0, .int .u8 0, .int .u8 0]
  | _ => []
def glT : Nat → SV
  | 1 => .ptr 0 1 0 0 0 0
  | 2 => .ptr 1 2 0 0 0 0
  | g => .raw (.pointer (some ⟨g, 0, none⟩))
def T0 : Tab := { ty := tyT, zr := zrT, zc := zcT, gl := glT }
theorem glT_ok : ∀ g, cv (T0.gl g) = .pointer (some ⟨g, 0, none⟩) := by
  intro g
  show cv (glT g) = _
  unfold glT
  first | (split <;> rfl) | rfl
theorem tyOk1 : TyOk1 Tryd.prog 1 (.cell) := fun w => by kernel_rfl
theorem tyOk2 : TyOk1 Tryd.prog 2 (.int .i64) := (by kernel_rfl : Tryd.prog.underlying 2 = some (.int .i64))
theorem tyOk3 : TyOk1 Tryd.prog 3 (.int .i64) := (by kernel_rfl : Tryd.prog.underlying 3 = some (.int .i64))
theorem tyOk4 : TyOk1 Tryd.prog 4 (.bool) := (by kernel_rfl : Tryd.prog.underlying 4 = some (.bool))
theorem tyOk5 : TyOk1 Tryd.prog 5 (.int .u8) := (by kernel_rfl : Tryd.prog.underlying 5 = some (.int .u8))
theorem tyOk6 : TyOk1 Tryd.prog 6 (.int .u8) := (by kernel_rfl : Tryd.prog.underlying 6 = some (.int .u8))
theorem tyOk9 : TyOk1 Tryd.prog 9 (.str) := (by kernel_rfl : Tryd.prog.underlying 9 = some (.string))
theorem tyOk10 : TyOk1 Tryd.prog 10 (.str) := (by kernel_rfl : Tryd.prog.underlying 10 = some (.string))
theorem tyOk11 : TyOk1 Tryd.prog 11 (.str) := (by kernel_rfl : Tryd.prog.underlying 11 = some (.string))
theorem tyOk12 : TyOk1 Tryd.prog 12 (.int .u64) := (by kernel_rfl : Tryd.prog.underlying 12 = some (.int .u64))
theorem tyOk15 : TyOk1 Tryd.prog 15 (.ptr 118) := (by kernel_rfl : Tryd.prog.underlying 15 = some (.pointer 118))
theorem tyOk16 : TyOk1 Tryd.prog 16 (.ptr 121) := (by kernel_rfl : Tryd.prog.underlying 16 = some (.pointer 121))
theorem tyOk17 : TyOk1 Tryd.prog 17 (.ptr 131) := (by kernel_rfl : Tryd.prog.underlying 17 = some (.pointer 131))
theorem tyOk20 : TyOk1 Tryd.prog 20 (.ifc) := ifc_mk (by kernel_rfl : isIfc (Tryd.prog.underlying 20) = true)
theorem tyOk21 : TyOk1 Tryd.prog 21 (.int .i32) := (by kernel_rfl : Tryd.prog.underlying 21 = some (.int .i32))
theorem tyOk22 : TyOk1 Tryd.prog 22 (.sl 44 6 64) := sl_mk (by kernel_rfl : Tryd.prog.underlying 22 = some (.slice 44)) (by decide) (by kernel_rfl : (Tryd.prog.info? 44).map (·.size) = some 6) (by kernel_rfl : (Tryd.prog.info? 44).map (·.bytes) = some 64) (by kernel_rfl : ((Tryd.prog.info? 44).bind (·.zero)).map (·.cells.size) = some 6)
theorem tyOk23 : TyOk1 Tryd.prog 23 (.cell) := fun w => by kernel_rfl
theorem tyOk24 : TyOk1 Tryd.prog 24 (.cell) := fun w => by kernel_rfl
theorem tyOk25 : TyOk1 Tryd.prog 25 (.cell) := fun w => by kernel_rfl
theorem tyOk26 : TyOk1 Tryd.prog 26 (.sl 5 1 1) := sl_mk (by kernel_rfl : Tryd.prog.underlying 26 = some (.slice 5)) (by decide) (by kernel_rfl : (Tryd.prog.info? 5).map (·.size) = some 1) (by kernel_rfl : (Tryd.prog.info? 5).map (·.bytes) = some 1) (by kernel_rfl : ((Tryd.prog.info? 5).bind (·.zero)).map (·.cells.size) = some 1)
theorem tyOk27 : TyOk1 Tryd.prog 27 (.cell) := fun w => by kernel_rfl
theorem tyOk28 : TyOk1 Tryd.prog 28 (.cell) := fun w => by kernel_rfl
theorem tyOk29 : TyOk1 Tryd.prog 29 (.cell) := fun w => by kernel_rfl
theorem tyOk30 : TyOk1 Tryd.prog 30 (.sl 4 1 1) := sl_mk (by kernel_rfl : Tryd.prog.underlying 30 = some (.slice 4)) (by decide) (by kernel_rfl : (Tryd.prog.info? 4).map (·.size) = some 1) (by kernel_rfl : (Tryd.prog.info? 4).map (·.bytes) = some 1) (by kernel_rfl : ((Tryd.prog.info? 4).bind (·.zero)).map (·.cells.size) = some 1)
theorem tyOk31 : TyOk1 Tryd.prog 31 (.cell) := fun w => by kernel_rfl
theorem tyOk32 : TyOk1 Tryd.prog 32 (.int .u16) := (by kernel_rfl : Tryd.prog.underlying 32 = some (.int .u16))
theorem tyOk33 : TyOk1 Tryd.prog 33 (.int .u16) := (by kernel_rfl : Tryd.prog.underlying 33 = some (.int .u16))
theorem tyOk35 : TyOk1 Tryd.prog 35 (.cell) := fun w => by kernel_rfl
theorem tyOk37 : TyOk1 Tryd.prog 37 (.cell) := fun w => by kernel_rfl
theorem tyOk38 : TyOk1 Tryd.prog 38 (.cell) := fun w => by kernel_rfl
theorem tyOk39 : TyOk1 Tryd.prog 39 (.cell) := fun w => by kernel_rfl
theorem tyOk40 : TyOk1 Tryd.prog 40 (.int .u64) := (by kernel_rfl : Tryd.prog.underlying 40 = some (.int .u64))
theorem tyOk41 : TyOk1 Tryd.prog 41 (.arr 4 40 1 (some .u64)) := ⟨(by kernel_rfl : Tryd.prog.underlying 41 = some (.array 4 40)), (by kernel_rfl : (Tryd.prog.info? 40).map (·.size) = some 1), (by kernel_rfl : (Tryd.prog.info? 41).map (·.size) = some 4), (by kernel_rfl : Tryd.prog.eqGuardType Tryd.prog.depth 41 = false), fun k h => by cases h; exact (by kernel_rfl : Tryd.prog.underlying 40 = some (.int .u64))⟩
theorem tyOk42 : TyOk1 Tryd.prog 42 (.word) := ⟨40, (by kernel_rfl : Tryd.prog.underlying 42 = some (.array 4 40)), (by kernel_rfl : Tryd.prog.underlying 40 = some (.int .u64)), (by kernel_rfl : (Tryd.prog.info? 40).map (·.size) = some 1), (by kernel_rfl : (Tryd.prog.info? 42).map (·.size) = some 4), (by kernel_rfl : Tryd.prog.eqGuardType Tryd.prog.depth 42 = false)⟩
theorem tyOk44 : TyOk1 Tryd.prog 44 (.struct 6 [(0, 1, 4), (1, 4, 42), (5, 1, 26)]) := st_mk (by kernel_rfl) (by kernel_rfl : (Tryd.prog.info? 44).map (·.size) = some 6)
theorem tyOk45 : TyOk1 Tryd.prog 45 (.cell) := fun w => by kernel_rfl
theorem tyOk46 : TyOk1 Tryd.prog 46 (.sl 42 4 32) := sl_mk (by kernel_rfl : Tryd.prog.underlying 46 = some (.slice 42)) (by decide) (by kernel_rfl : (Tryd.prog.info? 42).map (·.size) = some 4) (by kernel_rfl : (Tryd.prog.info? 42).map (·.bytes) = some 32) (by kernel_rfl : ((Tryd.prog.info? 42).bind (·.zero)).map (·.cells.size) = some 4)
theorem tyOk47 : TyOk1 Tryd.prog 47 (.cell) := fun w => by kernel_rfl
theorem tyOk48 : TyOk1 Tryd.prog 48 (.cell) := fun w => by kernel_rfl
theorem tyOk49 : TyOk1 Tryd.prog 49 (.cell) := fun w => by kernel_rfl
theorem tyOk50 : TyOk1 Tryd.prog 50 (.cell) := fun w => by kernel_rfl
theorem tyOk51 : TyOk1 Tryd.prog 51 (.cell) := fun w => by kernel_rfl
theorem tyOk52 : TyOk1 Tryd.prog 52 (.cell) := fun w => by kernel_rfl
theorem tyOk53 : TyOk1 Tryd.prog 53 (.cell) := fun w => by kernel_rfl
theorem tyOk54 : TyOk1 Tryd.prog 54 (.ifc) := ifc_mk (by kernel_rfl : isIfc (Tryd.prog.underlying 54) = true)
theorem tyOk55 : TyOk1 Tryd.prog 55 (.ifc) := ifc_mk (by kernel_rfl : isIfc (Tryd.prog.underlying 55) = true)
theorem tyOk57 : TyOk1 Tryd.prog 57 (.cell) := fun w => by kernel_rfl
theorem tyOk58 : TyOk1 Tryd.prog 58 (.struct 2 [(0, 1, 3), (1, 1, 33)]) := st_mk (by kernel_rfl) (by kernel_rfl : (Tryd.prog.info? 58).map (·.size) = some 2)
theorem tyOk59 : TyOk1 Tryd.prog 59 (.struct 2 [(0, 1, 3), (1, 1, 33)]) := st_mk (by kernel_rfl) (by kernel_rfl : (Tryd.prog.info? 59).map (·.size) = some 2)
theorem tyOk60 : TyOk1 Tryd.prog 60 (.cell) := fun w => by kernel_rfl
theorem tyOk61 : TyOk1 Tryd.prog 61 (.ptr 59) := (by kernel_rfl : Tryd.prog.underlying 61 = some (.pointer 59))
theorem tyOk63 : TyOk1 Tryd.prog 63 (.cell) := fun w => by kernel_rfl
theorem tyOk64 : TyOk1 Tryd.prog 64 (.int .u64) := (by kernel_rfl : Tryd.prog.underlying 64 = some (.int .u64))
theorem tyOk65 : TyOk1 Tryd.prog 65 (.cell) := fun w => by kernel_rfl
theorem tyOk66 : TyOk1 Tryd.prog 66 (.arr 25 40 1 (some .u64)) := ⟨(by kernel_rfl : Tryd.prog.underlying 66 = some (.array 25 40)), (by kernel_rfl : (Tryd.prog.info? 40).map (·.size) = some 1), (by kernel_rfl : (Tryd.prog.info? 66).map (·.size) = some 25), (by kernel_rfl : Tryd.prog.eqGuardType Tryd.prog.depth 66 = false), fun k h => by cases h; exact (by kernel_rfl : Tryd.prog.underlying 40 = some (.int .u64))⟩
theorem tyOk67 : TyOk1 Tryd.prog 67 (.arr 25 40 1 (some .u64)) := ⟨(by kernel_rfl : Tryd.prog.underlying 67 = some (.array 25 40)), (by kernel_rfl : (Tryd.prog.info? 40).map (·.size) = some 1), (by kernel_rfl : (Tryd.prog.info? 67).map (·.size) = some 25), (by kernel_rfl : Tryd.prog.eqGuardType Tryd.prog.depth 67 = false), fun k h => by cases h; exact (by kernel_rfl : Tryd.prog.underlying 40 = some (.int .u64))⟩
theorem tyOk68 : TyOk1 Tryd.prog 68 (.cell) := fun w => by kernel_rfl
theorem tyOk69 : TyOk1 Tryd.prog 69 (.arr 136 5 1 (some .u8)) := ⟨(by kernel_rfl : Tryd.prog.underlying 69 = some (.array 136 5)), (by kernel_rfl : (Tryd.prog.info? 5).map (·.size) = some 1), (by kernel_rfl : (Tryd.prog.info? 69).map (·.size) = some 136), (by kernel_rfl : Tryd.prog.eqGuardType Tryd.prog.depth 69 = false), fun k h => by cases h; exact (by kernel_rfl : Tryd.prog.underlying 5 = some (.int .u8))⟩
theorem tyOk70 : TyOk1 Tryd.prog 70 (.cell) := fun w => by kernel_rfl
theorem tyOk71 : TyOk1 Tryd.prog 71 (.sl 3 1 8) := sl_mk (by kernel_rfl : Tryd.prog.underlying 71 = some (.slice 3)) (by decide) (by kernel_rfl : (Tryd.prog.info? 3).map (·.size) = some 1) (by kernel_rfl : (Tryd.prog.info? 3).map (·.bytes) = some 8) (by kernel_rfl : ((Tryd.prog.info? 3).bind (·.zero)).map (·.cells.size) = some 1)
theorem tyOk72 : TyOk1 Tryd.prog 72 (.cell) := fun w => by kernel_rfl
theorem tyOk73 : TyOk1 Tryd.prog 73 (.sl 40 1 8) := sl_mk (by kernel_rfl : Tryd.prog.underlying 73 = some (.slice 40)) (by decide) (by kernel_rfl : (Tryd.prog.info? 40).map (·.size) = some 1) (by kernel_rfl : (Tryd.prog.info? 40).map (·.bytes) = some 8) (by kernel_rfl : ((Tryd.prog.info? 40).bind (·.zero)).map (·.cells.size) = some 1)
theorem tyOk74 : TyOk1 Tryd.prog 74 (.cell) := fun w => by kernel_rfl
theorem tyOk75 : TyOk1 Tryd.prog 75 (.cell) := fun w => by kernel_rfl
theorem tyOk77 : TyOk1 Tryd.prog 77 (.cell) := fun w => by kernel_rfl
theorem tyOk79 : TyOk1 Tryd.prog 79 (.int .u64) := (by kernel_rfl : Tryd.prog.underlying 79 = some (.int .u64))
theorem tyOk82 : TyOk1 Tryd.prog 82 (.cell) := fun w => by kernel_rfl
theorem tyOk83 : TyOk1 Tryd.prog 83 (.ifc) := ifc_mk (by kernel_rfl : isIfc (Tryd.prog.underlying 83) = true)
theorem tyOk84 : TyOk1 Tryd.prog 84 (.ifc) := ifc_mk (by kernel_rfl : isIfc (Tryd.prog.underlying 84) = true)
theorem tyOk85 : TyOk1 Tryd.prog 85 (.cell) := fun w => by kernel_rfl
theorem tyOk86 : TyOk1 Tryd.prog 86 (.int .u8) := (by kernel_rfl : Tryd.prog.underlying 86 = some (.int .u8))
theorem tyOk87 : TyOk1 Tryd.prog 87 (.cell) := fun w => by kernel_rfl
theorem tyOk88 : TyOk1 Tryd.prog 88 (.cell) := fun w => by kernel_rfl
theorem tyOk89 : TyOk1 Tryd.prog 89 (.cell) := fun w => by kernel_rfl
theorem tyOk91 : TyOk1 Tryd.prog 91 (.cell) := fun w => by kernel_rfl
theorem tyOk92 : TyOk1 Tryd.prog 92 (.ptr 67) := (by kernel_rfl : Tryd.prog.underlying 92 = some (.pointer 67))
theorem tyOk93 : TyOk1 Tryd.prog 93 (.arr 32 5 1 (some .u8)) := ⟨(by kernel_rfl : Tryd.prog.underlying 93 = some (.array 32 5)), (by kernel_rfl : (Tryd.prog.info? 5).map (·.size) = some 1), (by kernel_rfl : (Tryd.prog.info? 93).map (·.size) = some 32), (by kernel_rfl : Tryd.prog.eqGuardType Tryd.prog.depth 93 = false), fun k h => by cases h; exact (by kernel_rfl : Tryd.prog.underlying 5 = some (.int .u8))⟩
theorem tyOk94 : TyOk1 Tryd.prog 94 (.cell) := fun w => by kernel_rfl
theorem tyOk96 : TyOk1 Tryd.prog 96 (.cell) := fun w => by kernel_rfl
theorem tyOk99 : TyOk1 Tryd.prog 99 (.ptr 135) := (by kernel_rfl : Tryd.prog.underlying 99 = some (.pointer 135))
theorem tyOk100 : TyOk1 Tryd.prog 100 (.cell) := fun w => by kernel_rfl
theorem tyOk101 : TyOk1 Tryd.prog 101 (.cell) := fun w => by kernel_rfl
theorem tyOk102 : TyOk1 Tryd.prog 102 (.cell) := fun w => by kernel_rfl
theorem tyOk103 : TyOk1 Tryd.prog 103 (.ifc) := ifc_mk (by kernel_rfl : isIfc (Tryd.prog.underlying 103) = true)
theorem tyOk105 : TyOk1 Tryd.prog 105 (.cell) := fun w => by kernel_rfl
theorem tyOk106 : TyOk1 Tryd.prog 106 (.ifc) := ifc_mk (by kernel_rfl : isIfc (Tryd.prog.underlying 106) = true)
theorem tyOk107 : TyOk1 Tryd.prog 107 (.cell) := fun w => by kernel_rfl
theorem tyOk108 : TyOk1 Tryd.prog 108 (.ifc) := ifc_mk (by kernel_rfl : isIfc (Tryd.prog.underlying 108) = true)
theorem tyOk109 : TyOk1 Tryd.prog 109 (.sl 55 1 16) := sl_mk (by kernel_rfl : Tryd.prog.underlying 109 = some (.slice 55)) (by decide) (by kernel_rfl : (Tryd.prog.info? 55).map (·.size) = some 1) (by kernel_rfl : (Tryd.prog.info? 55).map (·.bytes) = some 16) (by kernel_rfl : ((Tryd.prog.info? 55).bind (·.zero)).map (·.cells.size) = some 1)
theorem tyOk110 : TyOk1 Tryd.prog 110 (.cell) := fun w => by kernel_rfl
theorem tyOk111 : TyOk1 Tryd.prog 111 (.arr 24 40 1 (some .u64)) := ⟨(by kernel_rfl : Tryd.prog.underlying 111 = some (.array 24 40)), (by kernel_rfl : (Tryd.prog.info? 40).map (·.size) = some 1), (by kernel_rfl : (Tryd.prog.info? 111).map (·.size) = some 24), (by kernel_rfl : Tryd.prog.eqGuardType Tryd.prog.depth 111 = false), fun k h => by cases h; exact (by kernel_rfl : Tryd.prog.underlying 40 = some (.int .u64))⟩
theorem tyOk113 : TyOk1 Tryd.prog 113 (.cell) := fun w => by kernel_rfl
theorem tyOk114 : TyOk1 Tryd.prog 114 (.arr 5 40 1 (some .u64)) := ⟨(by kernel_rfl : Tryd.prog.underlying 114 = some (.array 5 40)), (by kernel_rfl : (Tryd.prog.info? 40).map (·.size) = some 1), (by kernel_rfl : (Tryd.prog.info? 114).map (·.size) = some 5), (by kernel_rfl : Tryd.prog.eqGuardType Tryd.prog.depth 114 = false), fun k h => by cases h; exact (by kernel_rfl : Tryd.prog.underlying 40 = some (.int .u64))⟩
theorem tyOk115 : TyOk1 Tryd.prog 115 (.arr 24 5 1 (some .u8)) := ⟨(by kernel_rfl : Tryd.prog.underlying 115 = some (.array 24 5)), (by kernel_rfl : (Tryd.prog.info? 5).map (·.size) = some 1), (by kernel_rfl : (Tryd.prog.info? 115).map (·.size) = some 24), (by kernel_rfl : Tryd.prog.eqGuardType Tryd.prog.depth 115 = false), fun k h => by cases h; exact (by kernel_rfl : Tryd.prog.underlying 5 = some (.int .u8))⟩
theorem tyOk116 : TyOk1 Tryd.prog 116 (.cell) := fun w => by kernel_rfl
theorem tyOk119 : TyOk1 Tryd.prog 119 (.arr 0 16 1 none) := ⟨(by kernel_rfl : Tryd.prog.underlying 119 = some (.array 0 16)), (by kernel_rfl : (Tryd.prog.info? 16).map (·.size) = some 1), (by kernel_rfl : (Tryd.prog.info? 119).map (·.size) = some 0), (by kernel_rfl : Tryd.prog.eqGuardType Tryd.prog.depth 119 = false), fun k h => by cases h⟩
theorem tyOk122 : TyOk1 Tryd.prog 122 (.cell) := fun w => by kernel_rfl
theorem tyOk123 : TyOk1 Tryd.prog 123 (.cell) := fun w => by kernel_rfl
theorem tyOk124 : TyOk1 Tryd.prog 124 (.int .u32) := (by kernel_rfl : Tryd.prog.underlying 124 = some (.int .u32))
theorem tyOk125 : TyOk1 Tryd.prog 125 (.int .u8) := (by kernel_rfl : Tryd.prog.underlying 125 = some (.int .u8))
theorem tyOk126 : TyOk1 Tryd.prog 126 (.cell) := fun w => by kernel_rfl
theorem tyOk127 : TyOk1 Tryd.prog 127 (.ptr 5) := (by kernel_rfl : Tryd.prog.underlying 127 = some (.pointer 5))
theorem tyOk128 : TyOk1 Tryd.prog 128 (.int .i32) := (by kernel_rfl : Tryd.prog.underlying 128 = some (.int .i32))
theorem tyOk129 : TyOk1 Tryd.prog 129 (.int .i32) := (by kernel_rfl : Tryd.prog.underlying 129 = some (.int .i32))
theorem tyOk132 : TyOk1 Tryd.prog 132 (.cell) := fun w => by kernel_rfl
theorem tyOk133 : TyOk1 Tryd.prog 133 (.cell) := fun w => by kernel_rfl
theorem tyOk136 : TyOk1 Tryd.prog 136 (.ptr 139) := (by kernel_rfl : Tryd.prog.underlying 136 = some (.pointer 139))
theorem tyOk137 : TyOk1 Tryd.prog 137 (.cell) := fun w => by kernel_rfl
theorem tyOk140 : TyOk1 Tryd.prog 140 (.sl 143 4 16) := sl_mk (by kernel_rfl : Tryd.prog.underlying 140 = some (.slice 143)) (by decide) (by kernel_rfl : (Tryd.prog.info? 143).map (·.size) = some 4) (by kernel_rfl : (Tryd.prog.info? 143).map (·.bytes) = some 16) (by kernel_rfl : ((Tryd.prog.info? 143).bind (·.zero)).map (·.cells.size) = some 4)
theorem tyOk141 : TyOk1 Tryd.prog 141 (.int .i32) := (by kernel_rfl : Tryd.prog.underlying 141 = some (.int .i32))
theorem tyOk144 : TyOk1 Tryd.prog 144 (.ptr 55) := (by kernel_rfl : Tryd.prog.underlying 144 = some (.pointer 55))
theorem tyT_ok : ∀ t, TyOk1 Tryd.prog t (tyT t)
  | 0 => trivial
  | 1 => tyOk1
  | 2 => tyOk2
  | 3 => tyOk3
  | 4 => tyOk4
  | 5 => tyOk5
  | 6 => tyOk6
  | 7 => trivial
  | 8 => trivial
  | 9 => tyOk9
  | 10 => tyOk10
  | 11 => tyOk11
  | 12 => tyOk12
  | 13 => trivial
  | 14 => trivial
  | 15 => tyOk15
  | 16 => tyOk16
  | 17 => tyOk17
  | 18 => trivial
  | 19 => trivial
  | 20 => tyOk20
  | 21 => tyOk21
  | 22 => tyOk22
  | 23 => tyOk23
  | 24 => tyOk24
  | 25 => tyOk25
  | 26 => tyOk26
  | 27 => tyOk27
  | 28 => tyOk28
  | 29 => tyOk29
  | 30 => tyOk30
  | 31 => tyOk31
  | 32 => tyOk32
  | 33 => tyOk33
  | 34 => trivial
  | 35 => tyOk35
  | 36 => trivial
  | 37 => tyOk37
  | 38 => tyOk38
  | 39 => tyOk39
  | 40 => tyOk40
  | 41 => tyOk41
  | 42 => tyOk42
  | 43 => trivial
  | 44 => tyOk44
  | 45 => tyOk45
  | 46 => tyOk46
  | 47 => tyOk47
  | 48 => tyOk48
  | 49 => tyOk49
  | 50 => tyOk50
  | 51 => tyOk51
  | 52 => tyOk52
  | 53 => tyOk53
  | 54 => tyOk54
  | 55 => tyOk55
  | 56 => trivial
  | 57 => tyOk57
  | 58 => tyOk58
  | 59 => tyOk59
  | 60 => tyOk60
  | 61 => tyOk61
  | 62 => trivial
  | 63 => tyOk63
  | 64 => tyOk64
  | 65 => tyOk65
  | 66 => tyOk66
  | 67 => tyOk67
  | 68 => tyOk68
  | 69 => tyOk69
  | 70 => tyOk70
  | 71 => tyOk71
  | 72 => tyOk72
  | 73 => tyOk73
  | 74 => tyOk74
  | 75 => tyOk75
  | 76 => trivial
  | 77 => tyOk77
  | 78 => trivial
  | 79 => tyOk79
  | 80 => trivial
  | 81 => trivial
  | 82 => tyOk82
  | 83 => tyOk83
  | 84 => tyOk84
  | 85 => tyOk85
  | 86 => tyOk86
  | 87 => tyOk87
  | 88 => tyOk88
  | 89 => tyOk89
  | 90 => trivial
  | 91 => tyOk91
  | 92 => tyOk92
  | 93 => tyOk93
  | 94 => tyOk94
  | 95 => trivial
  | 96 => tyOk96
  | 97 => trivial
  | 98 => trivial
  | 99 => tyOk99
  | 100 => tyOk100
  | 101 => tyOk101
  | 102 => tyOk102
  | 103 => tyOk103
  | 104 => trivial
  | 105 => tyOk105
  | 106 => tyOk106
  | 107 => tyOk107
  | 108 => tyOk108
  | 109 => tyOk109
  | 110 => tyOk110
  | 111 => tyOk111
  | 112 => trivial
  | 113 => tyOk113
  | 114 => tyOk114
  | 115 => tyOk115
  | 116 => tyOk116
  | 117 => trivial
  | 118 => trivial
  | 119 => tyOk119
  | 120 => trivial
  | 121 => trivial
  | 122 => tyOk122
  | 123 => tyOk123
  | 124 => tyOk124
  | 125 => tyOk125
  | 126 => tyOk126
  | 127 => tyOk127
  | 128 => tyOk128
  | 129 => tyOk129
  | 130 => trivial
  | 131 => trivial
  | 132 => tyOk132
  | 133 => tyOk133
  | 134 => trivial
  | 135 => trivial
  | 136 => tyOk136
  | 137 => tyOk137
  | 138 => trivial
  | 139 => trivial
  | 140 => tyOk140
  | 141 => tyOk141
  | 142 => trivial
  | 143 => trivial
  | 144 => tyOk144
  | _ + 145 => trivial
theorem szT_ok : ∀ t n, tsz (tyT t) = some n → Sz Tryd.prog t n
  | 0, n, h => by cases h
  | 1, n, h => by obtain rfl : 1 = n := Option.some.inj h; exact (by kernel_rfl : (Tryd.prog.info? 1).map (·.size) = some 1)
  | 2, n, h => by obtain rfl : 1 = n := Option.some.inj h; exact (by kernel_rfl : (Tryd.prog.info? 2).map (·.size) = some 1)
  | 3, n, h => by obtain rfl : 1 = n := Option.some.inj h; exact (by kernel_rfl : (Tryd.prog.info? 3).map (·.size) = some 1)
  | 4, n, h => by obtain rfl : 1 = n := Option.some.inj h; exact (by kernel_rfl : (Tryd.prog.info? 4).map (·.size) = some 1)
  | 5, n, h => by obtain rfl : 1 = n := Option.some.inj h; exact (by kernel_rfl : (Tryd.prog.info? 5).map (·.size) = some 1)
  | 6, n, h => by obtain rfl : 1 = n := Option.some.inj h; exact (by kernel_rfl : (Tryd.prog.info? 6).map (·.size) = some 1)
  | 7, n, h => by cases h
  | 8, n, h => by cases h
  | 9, n, h => by obtain rfl : 1 = n := Option.some.inj h; exact (by kernel_rfl : (Tryd.prog.info? 9).map (·.size) = some 1)
  | 10, n, h => by obtain rfl : 1 = n := Option.some.inj h; exact (by kernel_rfl : (Tryd.prog.info? 10).map (·.size) = some 1)
  | 11, n, h => by obtain rfl : 1 = n := Option.some.inj h; exact (by kernel_rfl : (Tryd.prog.info? 11).map (·.size) = some 1)
  | 12, n, h => by obtain rfl : 1 = n := Option.some.inj h; exact (by kernel_rfl : (Tryd.prog.info? 12).map (·.size) = some 1)
  | 13, n, h => by cases h
  | 14, n, h => by cases h
  | 15, n, h => by obtain rfl : 1 = n := Option.some.inj h; exact (by kernel_rfl : (Tryd.prog.info? 15).map (·.size) = some 1)
  | 16, n, h => by obtain rfl : 1 = n := Option.some.inj h; exact (by kernel_rfl : (Tryd.prog.info? 16).map (·.size) = some 1)
  | 17, n, h => by obtain rfl : 1 = n := Option.some.inj h; exact (by kernel_rfl : (Tryd.prog.info? 17).map (·.size) = some 1)
  | 18, n, h => by cases h
  | 19, n, h => by cases h
  | 20, n, h => by obtain rfl : 1 = n := Option.some.inj h; exact (by kernel_rfl : (Tryd.prog.info? 20).map (·.size) = some 1)
  | 21, n, h => by obtain rfl : 1 = n := Option.some.inj h; exact (by kernel_rfl : (Tryd.prog.info? 21).map (·.size) = some 1)
  | 22, n, h => by obtain rfl : 1 = n := Option.some.inj h; exact (by kernel_rfl : (Tryd.prog.info? 22).map (·.size) = some 1)
  | 23, n, h => by obtain rfl : 1 = n := Option.some.inj h; exact (by kernel_rfl : (Tryd.prog.info? 23).map (·.size) = some 1)
  | 24, n, h => by obtain rfl : 1 = n := Option.some.inj h; exact (by kernel_rfl : (Tryd.prog.info? 24).map (·.size) = some 1)
  | 25, n, h => by obtain rfl : 1 = n := Option.some.inj h; exact (by kernel_rfl : (Tryd.prog.info? 25).map (·.size) = some 1)
  | 26, n, h => by obtain rfl : 1 = n := Option.some.inj h; exact (by kernel_rfl : (Tryd.prog.info? 26).map (·.size) = some 1)
  | 27, n, h => by obtain rfl : 1 = n := Option.some.inj h; exact (by kernel_rfl : (Tryd.prog.info? 27).map (·.size) = some 1)
  | 28, n, h => by obtain rfl : 1 = n := Option.some.inj h; exact (by kernel_rfl : (Tryd.prog.info? 28).map (·.size) = some 1)
  | 29, n, h => by obtain rfl : 1 = n := Option.some.inj h; exact (by kernel_rfl : (Tryd.prog.info? 29).map (·.size) = some 1)
  | 30, n, h => by obtain rfl : 1 = n := Option.some.inj h; exact (by kernel_rfl : (Tryd.prog.info? 30).map (·.size) = some 1)
  | 31, n, h => by obtain rfl : 1 = n := Option.some.inj h; exact (by kernel_rfl : (Tryd.prog.info? 31).map (·.size) = some 1)
  | 32, n, h => by obtain rfl : 1 = n := Option.some.inj h; exact (by kernel_rfl : (Tryd.prog.info? 32).map (·.size) = some 1)
  | 33, n, h => by obtain rfl : 1 = n := Option.some.inj h; exact (by kernel_rfl : (Tryd.prog.info? 33).map (·.size) = some 1)
  | 34, n, h => by cases h
  | 35, n, h => by obtain rfl : 1 = n := Option.some.inj h; exact (by kernel_rfl : (Tryd.prog.info? 35).map (·.size) = some 1)
  | 36, n, h => by cases h
  | 37, n, h => by obtain rfl : 1 = n := Option.some.inj h; exact (by kernel_rfl : (Tryd.prog.info? 37).map (·.size) = some 1)
  | 38, n, h => by obtain rfl : 1 = n := Option.some.inj h; exact (by kernel_rfl : (Tryd.prog.info? 38).map (·.size) = some 1)
  | 39, n, h => by obtain rfl : 1 = n := Option.some.inj h; exact (by kernel_rfl : (Tryd.prog.info? 39).map (·.size) = some 1)
  | 40, n, h => by obtain rfl : 1 = n := Option.some.inj h; exact (by kernel_rfl : (Tryd.prog.info? 40).map (·.size) = some 1)
  | 41, n, h => by obtain rfl : 4 = n := Option.some.inj h; exact (by kernel_rfl : (Tryd.prog.info? 41).map (·.size) = some 4)
  | 42, n, h => by obtain rfl : 4 = n := Option.some.inj h; exact (by kernel_rfl : (Tryd.prog.info? 42).map (·.size) = some 4)
  | 43, n, h => by cases h
  | 44, n, h => by obtain rfl : 6 = n := Option.some.inj h; exact (by kernel_rfl : (Tryd.prog.info? 44).map (·.size) = some 6)
  | 45, n, h => by obtain rfl : 1 = n := Option.some.inj h; exact (by kernel_rfl : (Tryd.prog.info? 45).map (·.size) = some 1)
  | 46, n, h => by obtain rfl : 1 = n := Option.some.inj h; exact (by kernel_rfl : (Tryd.prog.info? 46).map (·.size) = some 1)
  | 47, n, h => by obtain rfl : 1 = n := Option.some.inj h; exact (by kernel_rfl : (Tryd.prog.info? 47).map (·.size) = some 1)
  | 48, n, h => by obtain rfl : 1 = n := Option.some.inj h; exact (by kernel_rfl : (Tryd.prog.info? 48).map (·.size) = some 1)
  | 49, n, h => by obtain rfl : 1 = n := Option.some.inj h; exact (by kernel_rfl : (Tryd.prog.info? 49).map (·.size) = some 1)
  | 50, n, h => by obtain rfl : 1 = n := Option.some.inj h; exact (by kernel_rfl : (Tryd.prog.info? 50).map (·.size) = some 1)
  | 51, n, h => by obtain rfl : 1 = n := Option.some.inj h; exact (by kernel_rfl : (Tryd.prog.info? 51).map (·.size) = some 1)
  | 52, n, h => by obtain rfl : 1 = n := Option.some.inj h; exact (by kernel_rfl : (Tryd.prog.info? 52).map (·.size) = some 1)
  | 53, n, h => by obtain rfl : 1 = n := Option.some.inj h; exact (by kernel_rfl : (Tryd.prog.info? 53).map (·.size) = some 1)
  | 54, n, h => by obtain rfl : 1 = n := Option.some.inj h; exact (by kernel_rfl : (Tryd.prog.info? 54).map (·.size) = some 1)
  | 55, n, h => by obtain rfl : 1 = n := Option.some.inj h; exact (by kernel_rfl : (Tryd.prog.info? 55).map (·.size) = some 1)
  | 56, n, h => by cases h
  | 57, n, h => by obtain rfl : 1 = n := Option.some.inj h; exact (by kernel_rfl : (Tryd.prog.info? 57).map (·.size) = some 1)
  | 58, n, h => by obtain rfl : 2 = n := Option.some.inj h; exact (by kernel_rfl : (Tryd.prog.info? 58).map (·.size) = some 2)
  | 59, n, h => by obtain rfl : 2 = n := Option.some.inj h; exact (by kernel_rfl : (Tryd.prog.info? 59).map (·.size) = some 2)
  | 60, n, h => by obtain rfl : 1 = n := Option.some.inj h; exact (by kernel_rfl : (Tryd.prog.info? 60).map (·.size) = some 1)
  | 61, n, h => by obtain rfl : 1 = n := Option.some.inj h; exact (by kernel_rfl : (Tryd.prog.info? 61).map (·.size) = some 1)
  | 62, n, h => by cases h
  | 63, n, h => by obtain rfl : 1 = n := Option.some.inj h; exact (by kernel_rfl : (Tryd.prog.info? 63).map (·.size) = some 1)
  | 64, n, h => by obtain rfl : 1 = n := Option.some.inj h; exact (by kernel_rfl : (Tryd.prog.info? 64).map (·.size) = some 1)
  | 65, n, h => by obtain rfl : 1 = n := Option.some.inj h; exact (by kernel_rfl : (Tryd.prog.info? 65).map (·.size) = some 1)
  | 66, n, h => by obtain rfl : 25 = n := Option.some.inj h; exact (by kernel_rfl : (Tryd.prog.info? 66).map (·.size) = some 25)
  | 67, n, h => by obtain rfl : 25 = n := Option.some.inj h; exact (by kernel_rfl : (Tryd.prog.info? 67).map (·.size) = some 25)
  | 68, n, h => by obtain rfl : 1 = n := Option.some.inj h; exact (by kernel_rfl : (Tryd.prog.info? 68).map (·.size) = some 1)
  | 69, n, h => by obtain rfl : 136 = n := Option.some.inj h; exact (by kernel_rfl : (Tryd.prog.info? 69).map (·.size) = some 136)
  | 70, n, h => by obtain rfl : 1 = n := Option.some.inj h; exact (by kernel_rfl : (Tryd.prog.info? 70).map (·.size) = some 1)
  | 71, n, h => by obtain rfl : 1 = n := Option.some.inj h; exact (by kernel_rfl : (Tryd.prog.info? 71).map (·.size) = some 1)
  | 72, n, h => by obtain rfl : 1 = n := Option.some.inj h; exact (by kernel_rfl : (Tryd.prog.info? 72).map (·.size) = some 1)
  | 73, n, h => by obtain rfl : 1 = n := Option.some.inj h; exact (by kernel_rfl : (Tryd.prog.info? 73).map (·.size) = some 1)
  | 74, n, h => by obtain rfl : 1 = n := Option.some.inj h; exact (by kernel_rfl : (Tryd.prog.info? 74).map (·.size) = some 1)
  | 75, n, h => by obtain rfl : 1 = n := Option.some.inj h; exact (by kernel_rfl : (Tryd.prog.info? 75).map (·.size) = some 1)
  | 76, n, h => by cases h
  | 77, n, h => by obtain rfl : 1 = n := Option.some.inj h; exact (by kernel_rfl : (Tryd.prog.info? 77).map (·.size) = some 1)
  | 78, n, h => by cases h
  | 79, n, h => by obtain rfl : 1 = n := Option.some.inj h; exact (by kernel_rfl : (Tryd.prog.info? 79).map (·.size) = some 1)
  | 80, n, h => by cases h
  | 81, n, h => by cases h
  | 82, n, h => by obtain rfl : 1 = n := Option.some.inj h; exact (by kernel_rfl : (Tryd.prog.info? 82).map (·.size) = some 1)
  | 83, n, h => by obtain rfl : 1 = n := Option.some.inj h; exact (by kernel_rfl : (Tryd.prog.info? 83).map (·.size) = some 1)
  | 84, n, h => by obtain rfl : 1 = n := Option.some.inj h; exact (by kernel_rfl : (Tryd.prog.info? 84).map (·.size) = some 1)
  | 85, n, h => by obtain rfl : 1 = n := Option.some.inj h; exact (by kernel_rfl : (Tryd.prog.info? 85).map (·.size) = some 1)
  | 86, n, h => by obtain rfl : 1 = n := Option.some.inj h; exact (by kernel_rfl : (Tryd.prog.info? 86).map (·.size) = some 1)
  | 87, n, h => by obtain rfl : 1 = n := Option.some.inj h; exact (by kernel_rfl : (Tryd.prog.info? 87).map (·.size) = some 1)
  | 88, n, h => by obtain rfl : 1 = n := Option.some.inj h; exact (by kernel_rfl : (Tryd.prog.info? 88).map (·.size) = some 1)
  | 89, n, h => by obtain rfl : 1 = n := Option.some.inj h; exact (by kernel_rfl : (Tryd.prog.info? 89).map (·.size) = some 1)
  | 90, n, h => by cases h
  | 91, n, h => by obtain rfl : 1 = n := Option.some.inj h; exact (by kernel_rfl : (Tryd.prog.info? 91).map (·.size) = some 1)
  | 92, n, h => by obtain rfl : 1 = n := Option.some.inj h; exact (by kernel_rfl : (Tryd.prog.info? 92).map (·.size) = some 1)
  | 93, n, h => by obtain rfl : 32 = n := Option.some.inj h; exact (by kernel_rfl : (Tryd.prog.info? 93).map (·.size) = some 32)
  | 94, n, h => by obtain rfl : 1 = n := Option.some.inj h; exact (by kernel_rfl : (Tryd.prog.info? 94).map (·.size) = some 1)
  | 95, n, h => by cases h
  | 96, n, h => by obtain rfl : 1 = n := Option.some.inj h; exact (by kernel_rfl : (Tryd.prog.info? 96).map (·.size) = some 1)
  | 97, n, h => by cases h
  | 98, n, h => by cases h
  | 99, n, h => by obtain rfl : 1 = n := Option.some.inj h; exact (by kernel_rfl : (Tryd.prog.info? 99).map (·.size) = some 1)
  | 100, n, h => by obtain rfl : 1 = n := Option.some.inj h; exact (by kernel_rfl : (Tryd.prog.info? 100).map (·.size) = some 1)
  | 101, n, h => by obtain rfl : 1 = n := Option.some.inj h; exact (by kernel_rfl : (Tryd.prog.info? 101).map (·.size) = some 1)
  | 102, n, h => by obtain rfl : 1 = n := Option.some.inj h; exact (by kernel_rfl : (Tryd.prog.info? 102).map (·.size) = some 1)
  | 103, n, h => by obtain rfl : 1 = n := Option.some.inj h; exact (by kernel_rfl : (Tryd.prog.info? 103).map (·.size) = some 1)
  | 104, n, h => by cases h
  | 105, n, h => by obtain rfl : 1 = n := Option.some.inj h; exact (by kernel_rfl : (Tryd.prog.info? 105).map (·.size) = some 1)
  | 106, n, h => by obtain rfl : 1 = n := Option.some.inj h; exact (by kernel_rfl : (Tryd.prog.info? 106).map (·.size) = some 1)
  | 107, n, h => by obtain rfl : 1 = n := Option.some.inj h; exact (by kernel_rfl : (Tryd.prog.info? 107).map (·.size) = some 1)
  | 108, n, h => by obtain rfl : 1 = n := Option.some.inj h; exact (by kernel_rfl : (Tryd.prog.info? 108).map (·.size) = some 1)
  | 109, n, h => by obtain rfl : 1 = n := Option.some.inj h; exact (by kernel_rfl : (Tryd.prog.info? 109).map (·.size) = some 1)
  | 110, n, h => by obtain rfl : 1 = n := Option.some.inj h; exact (by kernel_rfl : (Tryd.prog.info? 110).map (·.size) = some 1)
  | 111, n, h => by obtain rfl : 24 = n := Option.some.inj h; exact (by kernel_rfl : (Tryd.prog.info? 111).map (·.size) = some 24)
  | 112, n, h => by cases h
  | 113, n, h => by obtain rfl : 1 = n := Option.some.inj h; exact (by kernel_rfl : (Tryd.prog.info? 113).map (·.size) = some 1)
  | 114, n, h => by obtain rfl : 5 = n := Option.some.inj h; exact (by kernel_rfl : (Tryd.prog.info? 114).map (·.size) = some 5)
  | 115, n, h => by obtain rfl : 24 = n := Option.some.inj h; exact (by kernel_rfl : (Tryd.prog.info? 115).map (·.size) = some 24)
  | 116, n, h => by obtain rfl : 1 = n := Option.some.inj h; exact (by kernel_rfl : (Tryd.prog.info? 116).map (·.size) = some 1)
  | 117, n, h => by cases h
  | 118, n, h => by cases h
  | 119, n, h => by obtain rfl : 0 = n := Option.some.inj h; exact (by kernel_rfl : (Tryd.prog.info? 119).map (·.size) = some 0)
  | 120, n, h => by cases h
  | 121, n, h => by cases h
  | 122, n, h => by obtain rfl : 1 = n := Option.some.inj h; exact (by kernel_rfl : (Tryd.prog.info? 122).map (·.size) = some 1)
  | 123, n, h => by obtain rfl : 1 = n := Option.some.inj h; exact (by kernel_rfl : (Tryd.prog.info? 123).map (·.size) = some 1)
  | 124, n, h => by obtain rfl : 1 = n := Option.some.inj h; exact (by kernel_rfl : (Tryd.prog.info? 124).map (·.size) = some 1)
  | 125, n, h => by obtain rfl : 1 = n := Option.some.inj h; exact (by kernel_rfl : (Tryd.prog.info? 125).map (·.size) = some 1)
  | 126, n, h => by obtain rfl : 1 = n := Option.some.inj h; exact (by kernel_rfl : (Tryd.prog.info? 126).map (·.size) = some 1)
  | 127, n, h => by obtain rfl : 1 = n := Option.some.inj h; exact (by kernel_rfl : (Tryd.prog.info? 127).map (·.size) = some 1)
  | 128, n, h => by obtain rfl : 1 = n := Option.some.inj h; exact (by kernel_rfl : (Tryd.prog.info? 128).map (·.size) = some 1)
  | 129, n, h => by obtain rfl : 1 = n := Option.some.inj h; exact (by kernel_rfl : (Tryd.prog.info? 129).map (·.size) = some 1)
  | 130, n, h => by cases h
  | 131, n, h => by cases h
  | 132, n, h => by obtain rfl : 1 = n := Option.some.inj h; exact (by kernel_rfl : (Tryd.prog.info? 132).map (·.size) = some 1)
  | 133, n, h => by obtain rfl : 1 = n := Option.some.inj h; exact (by kernel_rfl : (Tryd.prog.info? 133).map (·.size) = some 1)
  | 134, n, h => by cases h
  | 135, n, h => by cases h
  | 136, n, h => by obtain rfl : 1 = n := Option.some.inj h; exact (by kernel_rfl : (Tryd.prog.info? 136).map (·.size) = some 1)
  | 137, n, h => by obtain rfl : 1 = n := Option.some.inj h; exact (by kernel_rfl : (Tryd.prog.info? 137).map (·.size) = some 1)
  | 138, n, h => by cases h
  | 139, n, h => by cases h
  | 140, n, h => by obtain rfl : 1 = n := Option.some.inj h; exact (by kernel_rfl : (Tryd.prog.info? 140).map (·.size) = some 1)
  | 141, n, h => by obtain rfl : 1 = n := Option.some.inj h; exact (by kernel_rfl : (Tryd.prog.info? 141).map (·.size) = some 1)
  | 142, n, h => by cases h
  | 143, n, h => by cases h
  | 144, n, h => by obtain rfl : 1 = n := Option.some.inj h; exact (by kernel_rfl : (Tryd.prog.info? 144).map (·.size) = some 1)
  | _ + 145, n, h => by cases h
theorem zcT_ok : ∀ t c, zcT t = some c → ∃ i z, Tryd.prog.info? t = some i ∧ i.zero = some z ∧ z.cells = (cc c).toArray
  | 0, c, h => by cases h
  | 1, c, h => by obtain rfl : _ = c := Option.some.inj h; exact zc_mk (by kernel_rfl)
  | 2, c, h => by obtain rfl : _ = c := Option.some.inj h; exact zc_mk (by kernel_rfl)
  | 3, c, h => by obtain rfl : _ = c := Option.some.inj h; exact zc_mk (by kernel_rfl)
  | 4, c, h => by obtain rfl : _ = c := Option.some.inj h; exact zc_mk (by kernel_rfl)
  | 5, c, h => by obtain rfl : _ = c := Option.some.inj h; exact zc_mk (by kernel_rfl)
  | 6, c, h => by obtain rfl : _ = c := Option.some.inj h; exact zc_mk (by kernel_rfl)
  | 7, c, h => by cases h
  | 8, c, h => by cases h
  | 9, c, h => by obtain rfl : _ = c := Option.some.inj h; exact zc_mk (by kernel_rfl)
  | 10, c, h => by obtain rfl : _ = c := Option.some.inj h; exact zc_mk (by kernel_rfl)
  | 11, c, h => by obtain rfl : _ = c := Option.some.inj h; exact zc_mk (by kernel_rfl)
  | 12, c, h => by obtain rfl : _ = c := Option.some.inj h; exact zc_mk (by kernel_rfl)
  | 13, c, h => by cases h
  | 14, c, h => by cases h
  | 15, c, h => by obtain rfl : _ = c := Option.some.inj h; exact zc_mk (by kernel_rfl)
  | 16, c, h => by obtain rfl : _ = c := Option.some.inj h; exact zc_mk (by kernel_rfl)
  | 17, c, h => by obtain rfl : _ = c := Option.some.inj h; exact zc_mk (by kernel_rfl)
  | 18, c, h => by cases h
  | 19, c, h => by cases h
  | 20, c, h => by obtain rfl : _ = c := Option.some.inj h; exact zc_mk (by kernel_rfl)
  | 21, c, h => by obtain rfl : _ = c := Option.some.inj h; exact zc_mk (by kernel_rfl)
  | 22, c, h => by obtain rfl : _ = c := Option.some.inj h; exact zc_mk (by kernel_rfl)
  | 23, c, h => by obtain rfl : _ = c := Option.some.inj h; exact zc_mk (by kernel_rfl)
  | 24, c, h => by obtain rfl : _ = c := Option.some.inj h; exact zc_mk (by kernel_rfl)
  | 25, c, h => by obtain rfl : _ = c := Option.some.inj h; exact zc_mk (by kernel_rfl)
  | 26, c, h => by obtain rfl : _ = c := Option.some.inj h; exact zc_mk (by kernel_rfl)
  | 27, c, h => by obtain rfl : _ = c := Option.some.inj h; exact zc_mk (by kernel_rfl)
  | 28, c, h => by obtain rfl : _ = c := Option.some.inj h; exact zc_mk (by kernel_rfl)
  | 29, c, h => by obtain rfl : _ = c := Option.some.inj h; exact zc_mk (by kernel_rfl)
  | 30, c, h => by obtain rfl : _ = c := Option.some.inj h; exact zc_mk (by kernel_rfl)
  | 31, c, h => by obtain rfl : _ = c := Option.some.inj h; exact zc_mk (by kernel_rfl)
  | 32, c, h => by obtain rfl : _ = c := Option.some.inj h; exact zc_mk (by kernel_rfl)
  | 33, c, h => by obtain rfl : _ = c := Option.some.inj h; exact zc_mk (by kernel_rfl)
  | 34, c, h => by cases h
  | 35, c, h => by obtain rfl : _ = c := Option.some.inj h; exact zc_mk (by kernel_rfl)
  | 36, c, h => by cases h
  | 37, c, h => by obtain rfl : _ = c := Option.some.inj h; exact zc_mk (by kernel_rfl)
  | 38, c, h => by obtain rfl : _ = c := Option.some.inj h; exact zc_mk (by kernel_rfl)
  | 39, c, h => by obtain rfl : _ = c := Option.some.inj h; exact zc_mk (by kernel_rfl)
  | 40, c, h => by obtain rfl : _ = c := Option.some.inj h; exact zc_mk (by kernel_rfl)
  | 41, c, h => by obtain rfl : _ = c := Option.some.inj h; exact zc_mk (by kernel_rfl)
  | 42, c, h => by obtain rfl : _ = c := Option.some.inj h; exact zc_mk (by kernel_rfl)
  | 43, c, h => by cases h
  | 44, c, h => by obtain rfl : _ = c := Option.some.inj h; exact zc_mk (by kernel_rfl)
  | 45, c, h => by obtain rfl : _ = c := Option.some.inj h; exact zc_mk (by kernel_rfl)
  | 46, c, h => by obtain rfl : _ = c := Option.some.inj h; exact zc_mk (by kernel_rfl)
  | 47, c, h => by obtain rfl : _ = c := Option.some.inj h; exact zc_mk (by kernel_rfl)
  | 48, c, h => by obtain rfl : _ = c := Option.some.inj h; exact zc_mk (by kernel_rfl)
  | 49, c, h => by obtain rfl : _ = c := Option.some.inj h; exact zc_mk (by kernel_rfl)
  | 50, c, h => by obtain rfl : _ = c := Option.some.inj h; exact zc_mk (by kernel_rfl)
  | 51, c, h => by obtain rfl : _ = c := Option.some.inj h; exact zc_mk (by kernel_rfl)
  | 52, c, h => by obtain rfl : _ = c := Option.some.inj h; exact zc_mk (by kernel_rfl)
  | 53, c, h => by obtain rfl : _ = c := Option.some.inj h; exact zc_mk (by kernel_rfl)
  | 54, c, h => by obtain rfl : _ = c := Option.some.inj h; exact zc_mk (by kernel_rfl)
  | 55, c, h => by obtain rfl : _ = c := Option.some.inj h; exact zc_mk (by kernel_rfl)
  | 56, c, h => by cases h
  | 57, c, h => by obtain rfl : _ = c := Option.some.inj h; exact zc_mk (by kernel_rfl)
  | 58, c, h => by obtain rfl : _ = c := Option.some.inj h; exact zc_mk (by kernel_rfl)
  | 59, c, h => by obtain rfl : _ = c := Option.some.inj h; exact zc_mk (by kernel_rfl)
  | 60, c, h => by obtain rfl : _ = c := Option.some.inj h; exact zc_mk (by kernel_rfl)
  | 61, c, h => by obtain rfl : _ = c := Option.some.inj h; exact zc_mk (by kernel_rfl)
  | 62, c, h => by cases h
  | 63, c, h => by obtain rfl : _ = c := Option.some.inj h; exact zc_mk (by kernel_rfl)
  | 64, c, h => by obtain rfl : _ = c := Option.some.inj h; exact zc_mk (by kernel_rfl)
  | 65, c, h => by obtain rfl : _ = c := Option.some.inj h; exact zc_mk (by kernel_rfl)
  | 66, c, h => by obtain rfl : _ = c := Option.some.inj h; exact zc_mk (by kernel_rfl)
  | 67, c, h => by obtain rfl : _ = c := Option.some.inj h; exact zc_mk (by kernel_rfl)
  | 68, c, h => by obtain rfl : _ = c := Option.some.inj h; exact zc_mk (by kernel_rfl)
  | 69, c, h => by obtain rfl : _ = c := Option.some.inj h; exact zc_mk (by kernel_rfl)
  | 70, c, h => by obtain rfl : _ = c := Option.some.inj h; exact zc_mk (by kernel_rfl)
  | 71, c, h => by obtain rfl : _ = c := Option.some.inj h; exact zc_mk (by kernel_rfl)
  | 72, c, h => by obtain rfl : _ = c := Option.some.inj h; exact zc_mk (by kernel_rfl)
  | 73, c, h => by obtain rfl : _ = c := Option.some.inj h; exact zc_mk (by kernel_rfl)
  | 74, c, h => by obtain rfl : _ = c := Option.some.inj h; exact zc_mk (by kernel_rfl)
  | 75, c, h => by obtain rfl : _ = c := Option.some.inj h; exact zc_mk (by kernel_rfl)
  | 76, c, h => by cases h
  | 77, c, h => by obtain rfl : _ = c := Option.some.inj h; exact zc_mk (by kernel_rfl)
  | 78, c, h => by cases h
  | 79, c, h => by obtain rfl : _ = c := Option.some.inj h; exact zc_mk (by kernel_rfl)
  | 80, c, h => by cases h
  | 81, c, h => by cases h
  | 82, c, h => by obtain rfl : _ = c := Option.some.inj h; exact zc_mk (by kernel_rfl)
  | 83, c, h => by obtain rfl : _ = c := Option.some.inj h; exact zc_mk (by kernel_rfl)
  | 84, c, h => by obtain rfl : _ = c := Option.some.inj h; exact zc_mk (by kernel_rfl)
  | 85, c, h => by obtain rfl : _ = c := Option.some.inj h; exact zc_mk (by kernel_rfl)
  | 86, c, h => by obtain rfl : _ = c := Option.some.inj h; exact zc_mk (by kernel_rfl)
  | 87, c, h => by obtain rfl : _ = c := Option.some.inj h; exact zc_mk (by kernel_rfl)
  | 88, c, h => by obtain rfl : _ = c := Option.some.inj h; exact zc_mk (by kernel_rfl)
  | 89, c, h => by obtain rfl : _ = c := Option.some.inj h; exact zc_mk (by kernel_rfl)
  | 90, c, h => by cases h
  | 91, c, h => by obtain rfl : _ = c := Option.some.inj h; exact zc_mk (by kernel_rfl)
  | 92, c, h => by obtain rfl : _ = c := Option.some.inj h; exact zc_mk (by kernel_rfl)
  | 93, c, h => by obtain rfl : _ = c := Option.some.inj h; exact zc_mk (by kernel_rfl)
  | 94, c, h => by obtain rfl : _ = c := Option.some.inj h; exact zc_mk (by kernel_rfl)
  | 95, c, h => by cases h
  | 96, c, h => by obtain rfl : _ = c := Option.some.inj h; exact zc_mk (by kernel_rfl)
  | 97, c, h => by cases h
  | 98, c, h => by cases h
  | 99, c, h => by obtain rfl : _ = c := Option.some.inj h; exact zc_mk (by kernel_rfl)
  | 100, c, h => by obtain rfl : _ = c := Option.some.inj h; exact zc_mk (by kernel_rfl)
  | 101, c, h => by obtain rfl : _ = c := Option.some.inj h; exact zc_mk (by kernel_rfl)
  | 102, c, h => by obtain rfl : _ = c := Option.some.inj h; exact zc_mk (by kernel_rfl)
  | 103, c, h => by obtain rfl : _ = c := Option.some.inj h; exact zc_mk (by kernel_rfl)
  | 104, c, h => by cases h
  | 105, c, h => by obtain rfl : _ = c := Option.some.inj h; exact zc_mk (by kernel_rfl)
  | 106, c, h => by obtain rfl : _ = c := Option.some.inj h; exact zc_mk (by kernel_rfl)
  | 107, c, h => by obtain rfl : _ = c := Option.some.inj h; exact zc_mk (by kernel_rfl)
  | 108, c, h => by obtain rfl : _ = c := Option.some.inj h; exact zc_mk (by kernel_rfl)
  | 109, c, h => by obtain rfl : _ = c := Option.some.inj h; exact zc_mk (by kernel_rfl)
  | 110, c, h => by obtain rfl : _ = c := Option.some.inj h; exact zc_mk (by kernel_rfl)
  | 111, c, h => by obtain rfl : _ = c := Option.some.inj h; exact zc_mk (by kernel_rfl)
  | 112, c, h => by cases h
  | 113, c, h => by obtain rfl : _ = c := Option.some.inj h; exact zc_mk (by kernel_rfl)
  | 114, c, h => by obtain rfl : _ = c := Option.some.inj h; exact zc_mk (by kernel_rfl)
  | 115, c, h => by obtain rfl : _ = c := Option.some.inj h; exact zc_mk (by kernel_rfl)
  | 116, c, h => by obtain rfl : _ = c := Option.some.inj h; exact zc_mk (by kernel_rfl)
  | 117, c, h => by cases h
  | 118, c, h => by cases h
  | 119, c, h => by cases h
  | 120, c, h => by cases h
  | 121, c, h => by cases h
  | 122, c, h => by obtain rfl : _ = c := Option.some.inj h; exact zc_mk (by kernel_rfl)
  | 123, c, h => by obtain rfl : _ = c := Option.some.inj h; exact zc_mk (by kernel_rfl)
  | 124, c, h => by obtain rfl : _ = c := Option.some.inj h; exact zc_mk (by kernel_rfl)
  | 125, c, h => by obtain rfl : _ = c := Option.some.inj h; exact zc_mk (by kernel_rfl)
  | 126, c, h => by obtain rfl : _ = c := Option.some.inj h; exact zc_mk (by kernel_rfl)
  | 127, c, h => by obtain rfl : _ = c := Option.some.inj h; exact zc_mk (by kernel_rfl)
  | 128, c, h => by obtain rfl : _ = c := Option.some.inj h; exact zc_mk (by kernel_rfl)
  | 129, c, h => by obtain rfl : _ = c := Option.some.inj h; exact zc_mk (by kernel_rfl)
  | 130, c, h => by cases h
  | 131, c, h => by cases h
  | 132, c, h => by obtain rfl : _ = c := Option.some.inj h; exact zc_mk (by kernel_rfl)
  | 133, c, h => by obtain rfl : _ = c := Option.some.inj h; exact zc_mk (by kernel_rfl)
  | 134, c, h => by cases h
  | 135, c, h => by cases h
  | 136, c, h => by obtain rfl : _ = c := Option.some.inj h; exact zc_mk (by kernel_rfl)
  | 137, c, h => by obtain rfl : _ = c := Option.some.inj h; exact zc_mk (by kernel_rfl)
  | 138, c, h => by cases h
  | 139, c, h => by cases h
  | 140, c, h => by obtain rfl : _ = c := Option.some.inj h; exact zc_mk (by kernel_rfl)
  | 141, c, h => by obtain rfl : _ = c := Option.some.inj h; exact zc_mk (by kernel_rfl)
  | 142, c, h => by cases h
  | 143, c, h => by cases h
  | 144, c, h => by obtain rfl : _ = c := Option.some.inj h; exact zc_mk (by kernel_rfl)
  | _ + 145, c, h => by cases h
theorem zrT_ok : ∀ t, zrT t ≠ [] → ∃ i z, Tryd.prog.info? t = some i ∧ i.zero = some z ∧ z.cells = (cvs (zrT t)).toArray
  | 0, h => absurd rfl h
  | 1, h => absurd rfl h
  | 2, h => absurd rfl h
  | 3, h => absurd rfl h
  | 4, h => absurd rfl h
  | 5, h => absurd rfl h
  | 6, h => absurd rfl h
  | 7, h => absurd rfl h
  | 8, h => absurd rfl h
  | 9, h => absurd rfl h
  | 10, h => absurd rfl h
  | 11, h => absurd rfl h
  | 12, h => absurd rfl h
  | 13, h => absurd rfl h
  | 14, h => absurd rfl h
  | 15, h => absurd rfl h
  | 16, h => absurd rfl h
  | 17, h => absurd rfl h
  | 18, h => absurd rfl h
  | 19, h => absurd rfl h
  | 20, h => absurd rfl h
  | 21, h => absurd rfl h
  | 22, h => absurd rfl h
  | 23, h => absurd rfl h
  | 24, h => absurd rfl h
  | 25, h => absurd rfl h
  | 26, h => absurd rfl h
  | 27, h => absurd rfl h
  | 28, h => absurd rfl h
  | 29, h => absurd rfl h
  | 30, h => absurd rfl h
  | 31, h => absurd rfl h
  | 32, h => absurd rfl h
  | 33, h => absurd rfl h
  | 34, h => absurd rfl h
  | 35, h => absurd rfl h
  | 36, h => absurd rfl h
  | 37, h => absurd rfl h
  | 38, h => absurd rfl h
  | 39, h => absurd rfl h
  | 40, h => absurd rfl h
  | 41, _ => zr_mk (by kernel_rfl)
  | 42, _ => zr_mk (by kernel_rfl)
  | 43, h => absurd rfl h
  | 44, _ => zr_mk (by kernel_rfl)
  | 45, h => absurd rfl h
  | 46, h => absurd rfl h
  | 47, h => absurd rfl h
  | 48, h => absurd rfl h
  | 49, h => absurd rfl h
  | 50, h => absurd rfl h
  | 51, h => absurd rfl h
  | 52, h => absurd rfl h
  | 53, h => absurd rfl h
  | 54, h => absurd rfl h
  | 55, h => absurd rfl h
  | 56, h => absurd rfl h
  | 57, h => absurd rfl h
  | 58, _ => zr_mk (by kernel_rfl)
  | 59, _ => zr_mk (by kernel_rfl)
  | 60, h => absurd rfl h
  | 61, h => absurd rfl h
  | 62, h => absurd rfl h
  | 63, h => absurd rfl h
  | 64, h => absurd rfl h
  | 65, h => absurd rfl h
  | 66, _ => zr_mk (by kernel_rfl)
  | 67, _ => zr_mk (by kernel_rfl)
  | 68, h => absurd rfl h
  | 69, h => absurd rfl h
  | 70, h => absurd rfl h
  | 71, h => absurd rfl h
  | 72, h => absurd rfl h
  | 73, h => absurd rfl h
  | 74, h => absurd rfl h
  | 75, h => absurd rfl h
  | 76, h => absurd rfl h
  | 77, h => absurd rfl h
  | 78, h => absurd rfl h
  | 79, h => absurd rfl h
  | 80, h => absurd rfl h
  | 81, h => absurd rfl h
  | 82, h => absurd rfl h
  | 83, h => absurd rfl h
  | 84, h => absurd rfl h
  | 85, h => absurd rfl h
  | 86, h => absurd rfl h
  | 87, h => absurd rfl h
  | 88, h => absurd rfl h
  | 89, h => absurd rfl h
  | 90, h => absurd rfl h
  | 91, h => absurd rfl h
  | 92, h => absurd rfl h
  | 93, _ => zr_mk (by kernel_rfl)
  | 94, h => absurd rfl h
  | 95, h => absurd rfl h
  | 96, h => absurd rfl h
  | 97, h => absurd rfl h
  | 98, h => absurd rfl h
  | 99, h => absurd rfl h
  | 100, h => absurd rfl h
  | 101, h => absurd rfl h
  | 102, h => absurd rfl h
  | 103, h => absurd rfl h
  | 104, h => absurd rfl h
  | 105, h => absurd rfl h
  | 106, h => absurd rfl h
  | 107, h => absurd rfl h
  | 108, h => absurd rfl h
  | 109, h => absurd rfl h
  | 110, h => absurd rfl h
  | 111, _ => zr_mk (by kernel_rfl)
  | 112, h => absurd rfl h
  | 113, h => absurd rfl h
  | 114, _ => zr_mk (by kernel_rfl)
  | 115, _ => zr_mk (by kernel_rfl)
  | 116, h => absurd rfl h
  | 117, h => absurd rfl h
  | 118, h => absurd rfl h
  | 119, h => absurd rfl h
  | 120, h => absurd rfl h
  | 121, h => absurd rfl h
  | 122, h => absurd rfl h
  | 123, h => absurd rfl h
  | 124, h => absurd rfl h
  | 125, h => absurd rfl h
  | 126, h => absurd rfl h
  | 127, h => absurd rfl h
  | 128, h => absurd rfl h
  | 129, h => absurd rfl h
  | 130, h => absurd rfl h
  | 131, h => absurd rfl h
  | 132, h => absurd rfl h
  | 133, h => absurd rfl h
  | 134, h => absurd rfl h
  | 135, h => absurd rfl h
  | 136, h => absurd rfl h
  | 137, h => absurd rfl h
  | 138, h => absurd rfl h
  | 139, h => absurd rfl h
  | 140, h => absurd rfl h
  | 141, h => absurd rfl h
  | 142, h => absurd rfl h
  | 143, h => absurd rfl h
  | 144, h => absurd rfl h
  | _ + 145, h => absurd rfl h
theorem b8T_ok : ∀ e, tyT e = .int .u8 → ∃ i, Tryd.prog.info? e = some i ∧ i.zero = some (.int .u8 0) ∧ i.size = 1 ∧ i.bytes = 1
  | 0, h => by cases h
  | 1, h => by cases h
  | 2, h => by cases h
  | 3, h => by cases h
  | 4, h => by cases h
  | 5, _ => b8_mk (by kernel_rfl)
  | 6, _ => b8_mk (by kernel_rfl)
  | 7, h => by cases h
  | 8, h => by cases h
  | 9, h => by cases h
  | 10, h => by cases h
  | 11, h => by cases h
  | 12, h => by cases h
  | 13, h => by cases h
  | 14, h => by cases h
  | 15, h => by cases h
  | 16, h => by cases h
  | 17, h => by cases h
  | 18, h => by cases h
  | 19, h => by cases h
  | 20, h => by cases h
  | 21, h => by cases h
  | 22, h => by cases h
  | 23, h => by cases h
  | 24, h => by cases h
  | 25, h => by cases h
  | 26, h => by cases h
  | 27, h => by cases h
  | 28, h => by cases h
  | 29, h => by cases h
  | 30, h => by cases h
  | 31, h => by cases h
  | 32, h => by cases h
  | 33, h => by cases h
  | 34, h => by cases h
  | 35, h => by cases h
  | 36, h => by cases h
  | 37, h => by cases h
  | 38, h => by cases h
  | 39, h => by cases h
  | 40, h => by cases h
  | 41, h => by cases h
  | 42, h => by cases h
  | 43, h => by cases h
  | 44, h => by cases h
  | 45, h => by cases h
  | 46, h => by cases h
  | 47, h => by cases h
  | 48, h => by cases h
  | 49, h => by cases h
  | 50, h => by cases h
  | 51, h => by cases h
  | 52, h => by cases h
  | 53, h => by cases h
  | 54, h => by cases h
  | 55, h => by cases h
  | 56, h => by cases h
  | 57, h => by cases h
  | 58, h => by cases h
  | 59, h => by cases h
  | 60, h => by cases h
  | 61, h => by cases h
  | 62, h => by cases h
  | 63, h => by cases h
  | 64, h => by cases h
  | 65, h => by cases h
  | 66, h => by cases h
  | 67, h => by cases h
  | 68, h => by cases h
  | 69, h => by cases h
  | 70, h => by cases h
  | 71, h => by cases h
  | 72, h => by cases h
  | 73, h => by cases h
  | 74, h => by cases h
  | 75, h => by cases h
  | 76, h => by cases h
  | 77, h => by cases h
  | 78, h => by cases h
  | 79, h => by cases h
  | 80, h => by cases h
  | 81, h => by cases h
  | 82, h => by cases h
  | 83, h => by cases h
  | 84, h => by cases h
  | 85, h => by cases h
  | 86, _ => b8_mk (by kernel_rfl)
  | 87, h => by cases h
  | 88, h => by cases h
  | 89, h => by cases h
  | 90, h => by cases h
  | 91, h => by cases h
  | 92, h => by cases h
  | 93, h => by cases h
  | 94, h => by cases h
  | 95, h => by cases h
  | 96, h => by cases h
  | 97, h => by cases h
  | 98, h => by cases h
  | 99, h => by cases h
  | 100, h => by cases h
  | 101, h => by cases h
  | 102, h => by cases h
  | 103, h => by cases h
  | 104, h => by cases h
  | 105, h => by cases h
  | 106, h => by cases h
  | 107, h => by cases h
  | 108, h => by cases h
  | 109, h => by cases h
  | 110, h => by cases h
  | 111, h => by cases h
  | 112, h => by cases h
  | 113, h => by cases h
  | 114, h => by cases h
  | 115, h => by cases h
  | 116, h => by cases h
  | 117, h => by cases h
  | 118, h => by cases h
  | 119, h => by cases h
  | 120, h => by cases h
  | 121, h => by cases h
  | 122, h => by cases h
  | 123, h => by cases h
  | 124, h => by cases h
  | 125, _ => b8_mk (by kernel_rfl)
  | 126, h => by cases h
  | 127, h => by cases h
  | 128, h => by cases h
  | 129, h => by cases h
  | 130, h => by cases h
  | 131, h => by cases h
  | 132, h => by cases h
  | 133, h => by cases h
  | 134, h => by cases h
  | 135, h => by cases h
  | 136, h => by cases h
  | 137, h => by cases h
  | 138, h => by cases h
  | 139, h => by cases h
  | 140, h => by cases h
  | 141, h => by cases h
  | 142, h => by cases h
  | 143, h => by cases h
  | 144, h => by cases h
  | _ + 145, h => by cases h
theorem ty_3 : T0.ty 3 = .int .i64 := rfl
theorem zc_3 : T0.zc 3 = some (.ints .i64 [0]) := rfl
theorem ty_4 : T0.ty 4 = .bool := rfl
theorem zc_4 : T0.zc 4 = some (.cells [.bool false]) := rfl
theorem ty_5 : T0.ty 5 = .int .u8 := rfl
theorem zc_5 : T0.zc 5 = some (.ints .u8 [0]) := rfl
theorem ty_9 : T0.ty 9 = .str := rfl
theorem zc_9 : T0.zc 9 = some (.cells [.str []]) := rfl
theorem ty_20 : T0.ty 20 = .ifc := rfl
theorem zc_20 : T0.zc 20 = some (.cells [.raw .nilIface]) := rfl
theorem ty_22 : T0.ty 22 = .sl 44 6 64 := rfl
theorem zc_22 : T0.zc 22 = some (.cells [.nilsl]) := rfl
theorem ty_26 : T0.ty 26 = .sl 5 1 1 := rfl
theorem zc_26 : T0.zc 26 = some (.cells [.nilsl]) := rfl
theorem ty_30 : T0.ty 30 = .sl 4 1 1 := rfl
theorem zc_30 : T0.zc 30 = some (.cells [.nilsl]) := rfl
theorem ty_33 : T0.ty 33 = .int .u16 := rfl
theorem zc_33 : T0.zc 33 = some (.ints .u16 [0]) := rfl
theorem ty_40 : T0.ty 40 = .int .u64 := rfl
theorem zc_40 : T0.zc 40 = some (.ints .u64 [0]) := rfl
theorem ty_42 : T0.ty 42 = .word := rfl
theorem zc_42 : T0.zc 42 = some (.words [0]) := rfl
theorem zr_42 : T0.zr 42 = [.int .u64 0, .int .u64 0, .int .u64 0, .int .u64 0] := rfl
theorem ty_44 : T0.ty 44 = .struct 6 [(0, 1, 4), (1, 4, 42), (5, 1, 26)] := rfl
theorem zc_44 : T0.zc 44 = some (.cells [.bool false, .int .u64 0, .int .u64 0, .int .u64 0, .int .u64 0, .nilsl]) := rfl
theorem zr_44 : T0.zr 44 = [.bool false, .int .u64 0, .int .u64 0, .int .u64 0, .int .u64 0, .nilsl] := rfl
theorem ty_46 : T0.ty 46 = .sl 42 4 32 := rfl
theorem zc_46 : T0.zc 46 = some (.cells [.nilsl]) := rfl
theorem ty_55 : T0.ty 55 = .ifc := rfl
theorem zc_55 : T0.zc 55 = some (.cells [.raw .nilIface]) := rfl
theorem ty_59 : T0.ty 59 = .struct 2 [(0, 1, 3), (1, 1, 33)] := rfl
theorem zc_59 : T0.zc 59 = some (.cells [.int .i64 0, .int .u16 0]) := rfl
theorem zr_59 : T0.zr 59 = [.int .i64 0, .int .u16 0] := rfl
theorem ty_64 : T0.ty 64 = .int .u64 := rfl
theorem zc_64 : T0.zc 64 = some (.ints .u64 [0]) := rfl
theorem ty_67 : T0.ty 67 = .arr 25 40 1 (some .u64) := rfl
theorem zc_67 : T0.zc 67 = some (.ints .u64 (List.replicate 25 0)) := rfl
theorem zr_67 : T0.zr 67 = [.int .u64 0, .int .u64 0, .int .u64 0, .int .u64 0, .int .u64 0, .int .u64 0, .int .u64 0, .int .u64 0, .int .u64 0, .int .u64 0, .int .u64 0, .int .u64 0, .int .u64 0, .int .u64 0, .int .u64 0, .int .u64 0, .int .u64 0, .int .u64 0, .int .u64 0, .int .u64 0, .int .u64 0, .int .u64 0, .int .u64 0, .int .u64 0, .int .u64 0] := rfl
theorem ty_69 : T0.ty 69 = .arr 136 5 1 (some .u8) := rfl
theorem zc_69 : T0.zc 69 = some (.ints .u8 (List.replicate 136 0)) := rfl
theorem ty_71 : T0.ty 71 = .sl 3 1 8 := rfl
theorem zc_71 : T0.zc 71 = some (.cells [.nilsl]) := rfl
theorem ty_73 : T0.ty 73 = .sl 40 1 8 := rfl
theorem zc_73 : T0.zc 73 = some (.cells [.nilsl]) := rfl
theorem ty_84 : T0.ty 84 = .ifc := rfl
theorem zc_84 : T0.zc 84 = some (.cells [.raw .nilIface]) := rfl
theorem ty_86 : T0.ty 86 = .int .u8 := rfl
theorem zc_86 : T0.zc 86 = some (.ints .u8 [0]) := rfl
theorem ty_92 : T0.ty 92 = .ptr 67 := rfl
theorem zc_92 : T0.zc 92 = some (.cells [.raw (.pointer none)]) := rfl
theorem ty_93 : T0.ty 93 = .arr 32 5 1 (some .u8) := rfl
theorem zc_93 : T0.zc 93 = some (.ints .u8 (List.replicate 32 0)) := rfl
theorem zr_93 : T0.zr 93 = [.int .u8 0, .int .u8 0, .int .u8 0, .int .u8 0, .int .u8 0, .int .u8 0, .int .u8 0, .int .u8 0, .int .u8 0, .int .u8 0, .int .u8 0, .int .u8 0, .int .u8 0, .int .u8 0, .int .u8 0, .int .u8 0, .int .u8 0, .int .u8 0, .int .u8 0, .int .u8 0, .int .u8 0, .int .u8 0, .int .u8 0, .int .u8 0, .int .u8 0, .int .u8 0, .int .u8 0, .int .u8 0, .int .u8 0, .int .u8 0, .int .u8 0, .int .u8 0] := rfl
theorem ty_109 : T0.ty 109 = .sl 55 1 16 := rfl
theorem zc_109 : T0.zc 109 = some (.cells [.nilsl]) := rfl
theorem ty_111 : T0.ty 111 = .arr 24 40 1 (some .u64) := rfl
theorem zc_111 : T0.zc 111 = some (.ints .u64 (List.replicate 24 0)) := rfl
theorem zr_111 : T0.zr 111 = [.int .u64 0, .int .u64 0, .int .u64 0, .int .u64 0, .int .u64 0, .int .u64 0, .int .u64 0, .int .u64 0, .int .u64 0, .int .u64 0, .int .u64 0, .int .u64 0, .int .u64 0, .int .u64 0, .int .u64 0, .int .u64 0, .int .u64 0, .int .u64 0, .int .u64 0, .int .u64 0, .int .u64 0, .int .u64 0, .int .u64 0, .int .u64 0] := rfl
theorem ty_114 : T0.ty 114 = .arr 5 40 1 (some .u64) := rfl
theorem zc_114 : T0.zc 114 = some (.ints .u64 (List.replicate 5 0)) := rfl
theorem zr_114 : T0.zr 114 = [.int .u64 0, .int .u64 0, .int .u64 0, .int .u64 0, .int .u64 0] := rfl
theorem ty_115 : T0.ty 115 = .arr 24 5 1 (some .u8) := rfl
theorem zc_115 : T0.zc 115 = some (.ints .u8 (List.replicate 24 0)) := rfl
theorem zr_115 : T0.zr 115 = [.int .u8 0, .int .u8 0, .int .u8 0, .int .u8 0, .int .u8 0, .int .u8 0, .int .u8 0, .int .u8 0, .int .u8 0, .int .u8 0, .int .u8 0, .int .u8 0, .int .u8 0, .int .u8 0, .int .u8 0, .int .u8 0, .int .u8 0, .int .u8 0, .int .u8 0, .int .u8 0, .int .u8 0, .int .u8 0, .int .u8 0, .int .u8 0] := rfl
theorem gl_1 : T0.gl 1 = .ptr 0 1 0 0 0 0 := rfl
theorem gl_2 : T0.gl 2 = .ptr 1 2 0 0 0 0 := rfl
theorem st_0 : strI ⟨#[98, 97, 108, 97, 110, 99, 101, 79, 102, 40, 97, 100, 100, 114, 101, 115, 115, 41]⟩ = [98, 97, 108, 97, 110, 99, 101, 79, 102, 40, 97, 100, 100, 114, 101, 115, 115, 41] := by kernel_rfl
theorem st_1 : strI ⟨#[112, 160, 130, 49]⟩ = [112, 160, 130, 49] := by kernel_rfl
theorem st_2 : strI ⟨#[101, 114, 114, 111, 114, 115, 58, 32, 116, 97, 114, 103, 101, 116, 32, 99, 97, 110, 110, 111, 116, 32, 98, 101, 32, 110, 105, 108]⟩ = [101, 114, 114, 111, 114, 115, 58, 32, 116, 97, 114, 103, 101, 116, 32, 99, 97, 110, 110, 111, 116, 32, 98, 101, 32, 110, 105, 108] := by kernel_rfl
theorem st_3 : strI ⟨#[101, 114, 114, 111, 114, 115, 58, 32, 116, 97, 114, 103, 101, 116, 32, 109, 117, 115, 116, 32, 98, 101, 32, 97, 32, 110, 111, 110, 45, 110, 105, 108, 32, 112, 111, 105, 110, 116, 101, 114]⟩ = [101, 114, 114, 111, 114, 115, 58, 32, 116, 97, 114, 103, 101, 116, 32, 109, 117, 115, 116, 32, 98, 101, 32, 97, 32, 110, 111, 110, 45, 110, 105, 108, 32, 112, 111, 105, 110, 116, 101, 114] := by kernel_rfl
theorem st_4 : strI ⟨#[101, 114, 114, 111, 114, 115, 58, 32, 42, 116, 97, 114, 103, 101, 116, 32, 109, 117, 115, 116, 32, 98, 101, 32, 105, 110, 116, 101, 114, 102, 97, 99, 101, 32, 111, 114, 32, 105, 109, 112, 108, 101, 109, 101, 110, 116, 32, 101, 114, 114, 111, 114]⟩ = [101, 114, 114, 111, 114, 115, 58, 32, 42, 116, 97, 114, 103, 101, 116, 32, 109, 117, 115, 116, 32, 98, 101, 32, 105, 110, 116, 101, 114, 102, 97, 99, 101, 32, 111, 114, 32, 105, 109, 112, 108, 101, 109, 101, 110, 116, 32, 101, 114, 114, 111, 114] := by kernel_rfl
set_option linter.defProp false in
def tabs := And.intro @ty_3 <| And.intro @zc_3 <| And.intro @ty_4 <| And.intro @zc_4 <| And.intro @ty_5 <| And.intro @zc_5 <| And.intro @ty_9 <| And.intro @zc_9 <| And.intro @ty_20 <| And.intro @zc_20 <| And.intro @ty_22 <| And.intro @zc_22 <| And.intro @ty_26 <| And.intro @zc_26 <| And.intro @ty_30 <| And.intro @zc_30 <| And.intro @ty_33 <| And.intro @zc_33 <| And.intro @ty_40 <| And.intro @zc_40 <| And.intro @ty_42 <| And.intro @zc_42 <| And.intro @zr_42 <| And.intro @ty_44 <| And.intro @zc_44 <| And.intro @zr_44 <| And.intro @ty_46 <| And.intro @zc_46 <| And.intro @ty_55 <| And.intro @zc_55 <| And.intro @ty_59 <| And.intro @zc_59 <| And.intro @zr_59 <| And.intro @ty_64 <| And.intro @zc_64 <| And.intro @ty_67 <| And.intro @zc_67 <| And.intro @zr_67 <| And.intro @ty_69 <| And.intro @zc_69 <| And.intro @ty_71 <| And.intro @zc_71 <| And.intro @ty_73 <| And.intro @zc_73 <| And.intro @ty_84 <| And.intro @zc_84 <| And.intro @ty_86 <| And.intro @zc_86 <| And.intro @ty_92 <| And.intro @zc_92 <| And.intro @ty_93 <| And.intro @zc_93 <| And.intro @zr_93 <| And.intro @ty_109 <| And.intro @zc_109 <| And.intro @ty_111 <| And.intro @zc_111 <| And.intro @zr_111 <| And.intro @ty_114 <| And.intro @zc_114 <| And.intro @zr_114 <| And.intro @ty_115 <| And.intro @zc_115 <| And.intro @zr_115 <| And.intro @gl_1 <| And.intro @gl_2 <| And.intro @st_0 <| And.intro @st_1 <| And.intro @st_2 <| And.intro @st_3 <| @st_4
theorem T0_ok : TabOk Tryd.prog T0 := { b8 := b8T_ok, sz := szT_ok, zc := zcT_ok, ty := tyT_ok, gl := glT_ok, zr := zrT_ok }
end Go.Proofs.YtdkhlcoklihpfaaDoor

/-
  The table of this translation's types.
-/
import Derived.Test.YtlogpdjcgbifhaaRows
import Derived.Test.YtlogpdjcgbifhaaEB
namespace Go.Proofs.Ytlogpdjcgbifhaa
set_option linter.unusedSimpArgs false
set_option linter.unusedVariables false
set_option maxRecDepth 20000
open Go.RowKit
def tyT : Nat → Ty
  | 1 => .cell
  | 2 => .int .i64
  | 3 => .int .i64
  | 4 => .bool
  | 5 => .int .u8
  | 6 => .int .u8
  | 9 => .str
  | 10 => .str
  | 11 => .str
  | 12 => .int .u64
  | 15 => .ptr 97
  | 16 => .ptr 100
  | 17 => .ptr 110
  | 20 => .ifc
  | 21 => .int .i32
  | 22 => .sl 5 1 1
  | 23 => .sl 25 3 56
  | 25 => .struct 3 [(0, 1, 4), (1, 1, 22), (2, 1, 23)]
  | 26 => .int .u64
  | 27 => .cell
  | 28 => .cell
  | 29 => .cell
  | 30 => .cell
  | 31 => .cell
  | 32 => .cell
  | 33 => .cell
  | 34 => .cell
  | 35 => .int .u16
  | 36 => .int .u16
  | 38 => .cell
  | 40 => .cell
  | 41 => .cell
  | 42 => .cell
  | 43 => .cell
  | 44 => .cell
  | 45 => .int .u64
  | 46 => .cell
  | 47 => .cell
  | 48 => .cell
  | 49 => .cell
  | 50 => .cell
  | 51 => .cell
  | 52 => .ifc
  | 53 => .ifc
  | 55 => .cell
  | 56 => .cell
  | 57 => .cell
  | 58 => .cell
  | 59 => .cell
  | 60 => .cell
  | 61 => .cell
  | 62 => .cell
  | 63 => .struct 3 [(0, 1, 22), (1, 1, 3), (2, 1, 3)]
  | 64 => .struct 3 [(0, 1, 22), (1, 1, 3), (2, 1, 3)]
  | 65 => .cell
  | 66 => .struct 2 [(0, 1, 3), (1, 1, 53)]
  | 67 => .struct 2 [(0, 1, 3), (1, 1, 53)]
  | 68 => .ifc
  | 69 => .ifc
  | 70 => .cell
  | 71 => .cell
  | 73 => .cell
  | 74 => .cell
  | 75 => .ptr 64
  | 77 => .cell
  | 79 => .cell
  | 82 => .ptr 118
  | 83 => .ifc
  | 85 => .cell
  | 86 => .ifc
  | 87 => .cell
  | 88 => .ifc
  | 89 => .sl 53 1 16
  | 90 => .cell
  | 92 => .cell
  | 94 => .cell
  | 95 => .cell
  | 98 => .arr 0 16 1 none
  | 101 => .cell
  | 102 => .int .u32
  | 103 => .int .u8
  | 104 => .int .u8
  | 105 => .cell
  | 106 => .ptr 5
  | 107 => .int .i32
  | 108 => .int .i32
  | 111 => .cell
  | 112 => .cell
  | 113 => .cell
  | 114 => .cell
  | 115 => .cell
  | 116 => .cell
  | 120 => .ptr 123
  | 121 => .cell
  | 124 => .sl 127 4 16
  | 125 => .int .i32
  | _ => .other
def zcT : Nat → Option Con
  | 1 => some (.cells [.raw .nilFunc])
  | 2 => some (.ints .i64 [0])
  | 3 => some (.ints .i64 [0])
  | 4 => some (.cells [.bool false])
  | 5 => some (.ints .u8 [0])
  | 6 => some (.ints .u8 [0])
  | 9 => some (.cells [.str []])
  | 10 => some (.cells [.str []])
  | 11 => some (.cells [.str []])
  | 12 => some (.ints .u64 [0])
  | 15 => some (.cells [.raw (.pointer none)])
  | 16 => some (.cells [.raw (.pointer none)])
  | 17 => some (.cells [.raw (.pointer none)])
  | 20 => some (.cells [.raw .nilIface])
  | 21 => some (.ints .i32 [0])
  | 22 => some (.cells [.nilsl])
  | 23 => some (.cells [.nilsl])
  | 25 => some (.cells [.bool false, .nilsl, .nilsl])
  | 26 => some (.ints .u64 [0])
  | 27 => some (.cells [.raw .nilFunc])
  | 28 => some (.cells [.raw .nilFunc])
  | 29 => some (.cells [.raw .nilFunc])
  | 30 => some (.cells [.raw .nilFunc])
  | 31 => some (.cells [.raw .nilFunc])
  | 32 => some (.cells [.raw .nilFunc])
  | 33 => some (.cells [.raw .nilFunc])
  | 34 => some (.cells [.raw .nilFunc])
  | 35 => some (.ints .u16 [0])
  | 36 => some (.ints .u16 [0])
  | 38 => some (.cells [.raw .nilFunc])
  | 40 => some (.cells [.raw .nilFunc])
  | 41 => some (.cells [.raw .nilFunc])
  | 42 => some (.cells [.raw .nilFunc])
  | 43 => some (.cells [.raw .nilFunc])
  | 44 => some (.cells [.raw .nilFunc])
  | 45 => some (.ints .u64 [0])
  | 46 => some (.cells [.raw .nilFunc])
  | 47 => some (.cells [.raw .nilFunc])
  | 48 => some (.cells [.raw .nilFunc])
  | 49 => some (.cells [.raw .nilFunc])
  | 50 => some (.cells [.raw .nilFunc])
  | 51 => some (.cells [.raw .nilFunc])
  | 52 => some (.cells [.raw .nilIface])
  | 53 => some (.cells [.raw .nilIface])
  | 55 => some (.cells [.raw .nilFunc])
  | 56 => some (.cells [.raw .nilFunc])
  | 57 => some (.cells [.raw .nilFunc])
  | 58 => some (.cells [.raw .nilFunc])
  | 59 => some (.cells [.raw .nilFunc])
  | 60 => some (.cells [.raw .nilFunc])
  | 61 => some (.cells [.raw .nilFunc])
  | 62 => some (.cells [.raw .nilFunc])
  | 63 => some (.cells [.nilsl, .int .i64 0, .int .i64 0])
  | 64 => some (.cells [.nilsl, .int .i64 0, .int .i64 0])
  | 65 => some (.cells [.raw .nilFunc])
  | 66 => some (.cells [.int .i64 0, .raw .nilIface])
  | 67 => some (.cells [.int .i64 0, .raw .nilIface])
  | 68 => some (.cells [.raw .nilIface])
  | 69 => some (.cells [.raw .nilIface])
  | 70 => some (.cells [.raw .nilFunc])
  | 71 => some (.cells [.raw .nilFunc])
  | 73 => some (.cells [.raw .nilFunc])
  | 74 => some (.cells [.raw .nilFunc])
  | 75 => some (.cells [.raw (.pointer none)])
  | 77 => some (.cells [.raw .nilFunc])
  | 79 => some (.cells [.raw .nilFunc])
  | 82 => some (.cells [.raw (.pointer none)])
  | 83 => some (.cells [.raw .nilIface])
  | 85 => some (.cells [.raw .nilFunc])
  | 86 => some (.cells [.raw .nilIface])
  | 87 => some (.cells [.raw .nilFunc])
  | 88 => some (.cells [.raw .nilIface])
  | 89 => some (.cells [.nilsl])
  | 90 => some (.cells [.raw .nilFunc])
  | 92 => some (.cells [.raw .nilFunc])
  | 94 => some (.cells [.raw .nilFunc])
  | 95 => some (.cells [.raw .nilFunc])
  | 101 => some (.cells [.raw .nilFunc])
  | 102 => some (.ints .u32 [0])
  | 103 => some (.ints .u8 [0])
  | 104 => some (.ints .u8 [0])
  | 105 => some (.cells [.raw .nilFunc])
  | 106 => some (.cells [.raw (.pointer none)])
  | 107 => some (.ints .i32 [0])
  | 108 => some (.ints .i32 [0])
  | 111 => some (.cells [.raw .nilFunc])
  | 112 => some (.cells [.raw .nilFunc])
  | 113 => some (.cells [.raw .nilFunc])
  | 114 => some (.cells [.raw .nilFunc])
  | 115 => some (.cells [.raw .nilFunc])
  | 116 => some (.cells [.raw .nilFunc])
  | 120 => some (.cells [.raw (.pointer none)])
  | 121 => some (.cells [.raw .nilFunc])
  | 124 => some (.cells [.nilsl])
  | 125 => some (.ints .i32 [0])
  | _ => none
def zrT : Nat → List SV
  | 25 => [.bool false, .nilsl, .nilsl]
  | 63 => [.nilsl, .int .i64 0, .int .i64 0]
  | 64 => [.nilsl, .int .i64 0, .int .i64 0]
  | 66 => [.int .i64 0, .raw .nilIface]
  | 67 => [.int .i64 0, .raw .nilIface]
  | _ => []
def glT : Nat → SV
  | g => .raw (.pointer (some ⟨g, 0, none⟩))
def T0 : Tab := { ty := tyT, zr := zrT, zc := zcT, gl := glT }
theorem glT_ok : ∀ g, cv (T0.gl g) = .pointer (some ⟨g, 0, none⟩) := by
  intro g
  show cv (glT g) = _
  unfold glT
  first | (split <;> rfl) | rfl
theorem tyOk1 : TyOk1 Try.prog 1 (.cell) := fun w => by kernel_rfl
theorem tyOk2 : TyOk1 Try.prog 2 (.int .i64) := (by kernel_rfl : Try.prog.underlying 2 = some (.int .i64))
theorem tyOk3 : TyOk1 Try.prog 3 (.int .i64) := (by kernel_rfl : Try.prog.underlying 3 = some (.int .i64))
theorem tyOk4 : TyOk1 Try.prog 4 (.bool) := (by kernel_rfl : Try.prog.underlying 4 = some (.bool))
theorem tyOk5 : TyOk1 Try.prog 5 (.int .u8) := (by kernel_rfl : Try.prog.underlying 5 = some (.int .u8))
theorem tyOk6 : TyOk1 Try.prog 6 (.int .u8) := (by kernel_rfl : Try.prog.underlying 6 = some (.int .u8))
theorem tyOk9 : TyOk1 Try.prog 9 (.str) := (by kernel_rfl : Try.prog.underlying 9 = some (.string))
theorem tyOk10 : TyOk1 Try.prog 10 (.str) := (by kernel_rfl : Try.prog.underlying 10 = some (.string))
theorem tyOk11 : TyOk1 Try.prog 11 (.str) := (by kernel_rfl : Try.prog.underlying 11 = some (.string))
theorem tyOk12 : TyOk1 Try.prog 12 (.int .u64) := (by kernel_rfl : Try.prog.underlying 12 = some (.int .u64))
theorem tyOk15 : TyOk1 Try.prog 15 (.ptr 97) := (by kernel_rfl : Try.prog.underlying 15 = some (.pointer 97))
theorem tyOk16 : TyOk1 Try.prog 16 (.ptr 100) := (by kernel_rfl : Try.prog.underlying 16 = some (.pointer 100))
theorem tyOk17 : TyOk1 Try.prog 17 (.ptr 110) := (by kernel_rfl : Try.prog.underlying 17 = some (.pointer 110))
theorem tyOk20 : TyOk1 Try.prog 20 (.ifc) := ifc_mk (by kernel_rfl : isIfc (Try.prog.underlying 20) = true)
theorem tyOk21 : TyOk1 Try.prog 21 (.int .i32) := (by kernel_rfl : Try.prog.underlying 21 = some (.int .i32))
theorem tyOk22 : TyOk1 Try.prog 22 (.sl 5 1 1) := sl_mk (by kernel_rfl : Try.prog.underlying 22 = some (.slice 5)) (by decide) (by kernel_rfl : (Try.prog.info? 5).map (·.size) = some 1) (by kernel_rfl : (Try.prog.info? 5).map (·.bytes) = some 1) (by kernel_rfl : ((Try.prog.info? 5).bind (·.zero)).map (·.cells.size) = some 1)
theorem tyOk23 : TyOk1 Try.prog 23 (.sl 25 3 56) := sl_mk (by kernel_rfl : Try.prog.underlying 23 = some (.slice 25)) (by decide) (by kernel_rfl : (Try.prog.info? 25).map (·.size) = some 3) (by kernel_rfl : (Try.prog.info? 25).map (·.bytes) = some 56) (by kernel_rfl : ((Try.prog.info? 25).bind (·.zero)).map (·.cells.size) = some 3)
theorem tyOk25 : TyOk1 Try.prog 25 (.struct 3 [(0, 1, 4), (1, 1, 22), (2, 1, 23)]) := st_mk (by kernel_rfl) (by kernel_rfl : (Try.prog.info? 25).map (·.size) = some 3)
theorem tyOk26 : TyOk1 Try.prog 26 (.int .u64) := (by kernel_rfl : Try.prog.underlying 26 = some (.int .u64))
theorem tyOk27 : TyOk1 Try.prog 27 (.cell) := fun w => by kernel_rfl
theorem tyOk28 : TyOk1 Try.prog 28 (.cell) := fun w => by kernel_rfl
theorem tyOk29 : TyOk1 Try.prog 29 (.cell) := fun w => by kernel_rfl
theorem tyOk30 : TyOk1 Try.prog 30 (.cell) := fun w => by kernel_rfl
theorem tyOk31 : TyOk1 Try.prog 31 (.cell) := fun w => by kernel_rfl
theorem tyOk32 : TyOk1 Try.prog 32 (.cell) := fun w => by kernel_rfl
theorem tyOk33 : TyOk1 Try.prog 33 (.cell) := fun w => by kernel_rfl
theorem tyOk34 : TyOk1 Try.prog 34 (.cell) := fun w => by kernel_rfl
theorem tyOk35 : TyOk1 Try.prog 35 (.int .u16) := (by kernel_rfl : Try.prog.underlying 35 = some (.int .u16))
theorem tyOk36 : TyOk1 Try.prog 36 (.int .u16) := (by kernel_rfl : Try.prog.underlying 36 = some (.int .u16))
theorem tyOk38 : TyOk1 Try.prog 38 (.cell) := fun w => by kernel_rfl
theorem tyOk40 : TyOk1 Try.prog 40 (.cell) := fun w => by kernel_rfl
theorem tyOk41 : TyOk1 Try.prog 41 (.cell) := fun w => by kernel_rfl
theorem tyOk42 : TyOk1 Try.prog 42 (.cell) := fun w => by kernel_rfl
theorem tyOk43 : TyOk1 Try.prog 43 (.cell) := fun w => by kernel_rfl
theorem tyOk44 : TyOk1 Try.prog 44 (.cell) := fun w => by kernel_rfl
theorem tyOk45 : TyOk1 Try.prog 45 (.int .u64) := (by kernel_rfl : Try.prog.underlying 45 = some (.int .u64))
theorem tyOk46 : TyOk1 Try.prog 46 (.cell) := fun w => by kernel_rfl
theorem tyOk47 : TyOk1 Try.prog 47 (.cell) := fun w => by kernel_rfl
theorem tyOk48 : TyOk1 Try.prog 48 (.cell) := fun w => by kernel_rfl
theorem tyOk49 : TyOk1 Try.prog 49 (.cell) := fun w => by kernel_rfl
theorem tyOk50 : TyOk1 Try.prog 50 (.cell) := fun w => by kernel_rfl
theorem tyOk51 : TyOk1 Try.prog 51 (.cell) := fun w => by kernel_rfl
theorem tyOk52 : TyOk1 Try.prog 52 (.ifc) := ifc_mk (by kernel_rfl : isIfc (Try.prog.underlying 52) = true)
theorem tyOk53 : TyOk1 Try.prog 53 (.ifc) := ifc_mk (by kernel_rfl : isIfc (Try.prog.underlying 53) = true)
theorem tyOk55 : TyOk1 Try.prog 55 (.cell) := fun w => by kernel_rfl
theorem tyOk56 : TyOk1 Try.prog 56 (.cell) := fun w => by kernel_rfl
theorem tyOk57 : TyOk1 Try.prog 57 (.cell) := fun w => by kernel_rfl
theorem tyOk58 : TyOk1 Try.prog 58 (.cell) := fun w => by kernel_rfl
theorem tyOk59 : TyOk1 Try.prog 59 (.cell) := fun w => by kernel_rfl
theorem tyOk60 : TyOk1 Try.prog 60 (.cell) := fun w => by kernel_rfl
theorem tyOk61 : TyOk1 Try.prog 61 (.cell) := fun w => by kernel_rfl
theorem tyOk62 : TyOk1 Try.prog 62 (.cell) := fun w => by kernel_rfl
theorem tyOk63 : TyOk1 Try.prog 63 (.struct 3 [(0, 1, 22), (1, 1, 3), (2, 1, 3)]) := st_mk (by kernel_rfl) (by kernel_rfl : (Try.prog.info? 63).map (·.size) = some 3)
theorem tyOk64 : TyOk1 Try.prog 64 (.struct 3 [(0, 1, 22), (1, 1, 3), (2, 1, 3)]) := st_mk (by kernel_rfl) (by kernel_rfl : (Try.prog.info? 64).map (·.size) = some 3)
theorem tyOk65 : TyOk1 Try.prog 65 (.cell) := fun w => by kernel_rfl
theorem tyOk66 : TyOk1 Try.prog 66 (.struct 2 [(0, 1, 3), (1, 1, 53)]) := st_mk (by kernel_rfl) (by kernel_rfl : (Try.prog.info? 66).map (·.size) = some 2)
theorem tyOk67 : TyOk1 Try.prog 67 (.struct 2 [(0, 1, 3), (1, 1, 53)]) := st_mk (by kernel_rfl) (by kernel_rfl : (Try.prog.info? 67).map (·.size) = some 2)
theorem tyOk68 : TyOk1 Try.prog 68 (.ifc) := ifc_mk (by kernel_rfl : isIfc (Try.prog.underlying 68) = true)
theorem tyOk69 : TyOk1 Try.prog 69 (.ifc) := ifc_mk (by kernel_rfl : isIfc (Try.prog.underlying 69) = true)
theorem tyOk70 : TyOk1 Try.prog 70 (.cell) := fun w => by kernel_rfl
theorem tyOk71 : TyOk1 Try.prog 71 (.cell) := fun w => by kernel_rfl
theorem tyOk73 : TyOk1 Try.prog 73 (.cell) := fun w => by kernel_rfl
theorem tyOk74 : TyOk1 Try.prog 74 (.cell) := fun w => by kernel_rfl
theorem tyOk75 : TyOk1 Try.prog 75 (.ptr 64) := (by kernel_rfl : Try.prog.underlying 75 = some (.pointer 64))
theorem tyOk77 : TyOk1 Try.prog 77 (.cell) := fun w => by kernel_rfl
theorem tyOk79 : TyOk1 Try.prog 79 (.cell) := fun w => by kernel_rfl
theorem tyOk82 : TyOk1 Try.prog 82 (.ptr 118) := (by kernel_rfl : Try.prog.underlying 82 = some (.pointer 118))
theorem tyOk83 : TyOk1 Try.prog 83 (.ifc) := ifc_mk (by kernel_rfl : isIfc (Try.prog.underlying 83) = true)
theorem tyOk85 : TyOk1 Try.prog 85 (.cell) := fun w => by kernel_rfl
theorem tyOk86 : TyOk1 Try.prog 86 (.ifc) := ifc_mk (by kernel_rfl : isIfc (Try.prog.underlying 86) = true)
theorem tyOk87 : TyOk1 Try.prog 87 (.cell) := fun w => by kernel_rfl
theorem tyOk88 : TyOk1 Try.prog 88 (.ifc) := ifc_mk (by kernel_rfl : isIfc (Try.prog.underlying 88) = true)
theorem tyOk89 : TyOk1 Try.prog 89 (.sl 53 1 16) := sl_mk (by kernel_rfl : Try.prog.underlying 89 = some (.slice 53)) (by decide) (by kernel_rfl : (Try.prog.info? 53).map (·.size) = some 1) (by kernel_rfl : (Try.prog.info? 53).map (·.bytes) = some 16) (by kernel_rfl : ((Try.prog.info? 53).bind (·.zero)).map (·.cells.size) = some 1)
theorem tyOk90 : TyOk1 Try.prog 90 (.cell) := fun w => by kernel_rfl
theorem tyOk92 : TyOk1 Try.prog 92 (.cell) := fun w => by kernel_rfl
theorem tyOk94 : TyOk1 Try.prog 94 (.cell) := fun w => by kernel_rfl
theorem tyOk95 : TyOk1 Try.prog 95 (.cell) := fun w => by kernel_rfl
theorem tyOk98 : TyOk1 Try.prog 98 (.arr 0 16 1 none) := ⟨(by kernel_rfl : Try.prog.underlying 98 = some (.array 0 16)), (by kernel_rfl : (Try.prog.info? 16).map (·.size) = some 1), (by kernel_rfl : (Try.prog.info? 98).map (·.size) = some 0), (by kernel_rfl : Try.prog.eqGuardType Try.prog.depth 98 = false), fun k h => by cases h⟩
theorem tyOk101 : TyOk1 Try.prog 101 (.cell) := fun w => by kernel_rfl
theorem tyOk102 : TyOk1 Try.prog 102 (.int .u32) := (by kernel_rfl : Try.prog.underlying 102 = some (.int .u32))
theorem tyOk103 : TyOk1 Try.prog 103 (.int .u8) := (by kernel_rfl : Try.prog.underlying 103 = some (.int .u8))
theorem tyOk104 : TyOk1 Try.prog 104 (.int .u8) := (by kernel_rfl : Try.prog.underlying 104 = some (.int .u8))
theorem tyOk105 : TyOk1 Try.prog 105 (.cell) := fun w => by kernel_rfl
theorem tyOk106 : TyOk1 Try.prog 106 (.ptr 5) := (by kernel_rfl : Try.prog.underlying 106 = some (.pointer 5))
theorem tyOk107 : TyOk1 Try.prog 107 (.int .i32) := (by kernel_rfl : Try.prog.underlying 107 = some (.int .i32))
theorem tyOk108 : TyOk1 Try.prog 108 (.int .i32) := (by kernel_rfl : Try.prog.underlying 108 = some (.int .i32))
theorem tyOk111 : TyOk1 Try.prog 111 (.cell) := fun w => by kernel_rfl
theorem tyOk112 : TyOk1 Try.prog 112 (.cell) := fun w => by kernel_rfl
theorem tyOk113 : TyOk1 Try.prog 113 (.cell) := fun w => by kernel_rfl
theorem tyOk114 : TyOk1 Try.prog 114 (.cell) := fun w => by kernel_rfl
theorem tyOk115 : TyOk1 Try.prog 115 (.cell) := fun w => by kernel_rfl
theorem tyOk116 : TyOk1 Try.prog 116 (.cell) := fun w => by kernel_rfl
theorem tyOk120 : TyOk1 Try.prog 120 (.ptr 123) := (by kernel_rfl : Try.prog.underlying 120 = some (.pointer 123))
theorem tyOk121 : TyOk1 Try.prog 121 (.cell) := fun w => by kernel_rfl
theorem tyOk124 : TyOk1 Try.prog 124 (.sl 127 4 16) := sl_mk (by kernel_rfl : Try.prog.underlying 124 = some (.slice 127)) (by decide) (by kernel_rfl : (Try.prog.info? 127).map (·.size) = some 4) (by kernel_rfl : (Try.prog.info? 127).map (·.bytes) = some 16) (by kernel_rfl : ((Try.prog.info? 127).bind (·.zero)).map (·.cells.size) = some 4)
theorem tyOk125 : TyOk1 Try.prog 125 (.int .i32) := (by kernel_rfl : Try.prog.underlying 125 = some (.int .i32))
theorem tyT_ok : ∀ t, TyOk1 Try.prog t (tyT t)
  | 0 => trivial
  | 1 => tyOk1
  | 2 => tyOk2
  | 3 => tyOk3
  | 4 => tyOk4
  | 5 => tyOk5
  | 6 => tyOk6
  | 7 => trivial
  | 8 => trivial
  | 9 => tyOk9
  | 10 => tyOk10
  | 11 => tyOk11
  | 12 => tyOk12
  | 13 => trivial
  | 14 => trivial
  | 15 => tyOk15
  | 16 => tyOk16
  | 17 => tyOk17
  | 18 => trivial
  | 19 => trivial
  | 20 => tyOk20
  | 21 => tyOk21
  | 22 => tyOk22
  | 23 => tyOk23
  | 24 => trivial
  | 25 => tyOk25
  | 26 => tyOk26
  | 27 => tyOk27
  | 28 => tyOk28
  | 29 => tyOk29
  | 30 => tyOk30
  | 31 => tyOk31
  | 32 => tyOk32
  | 33 => tyOk33
  | 34 => tyOk34
  | 35 => tyOk35
  | 36 => tyOk36
  | 37 => trivial
  | 38 => tyOk38
  | 39 => trivial
  | 40 => tyOk40
  | 41 => tyOk41
  | 42 => tyOk42
  | 43 => tyOk43
  | 44 => tyOk44
  | 45 => tyOk45
  | 46 => tyOk46
  | 47 => tyOk47
  | 48 => tyOk48
  | 49 => tyOk49
  | 50 => tyOk50
  | 51 => tyOk51
  | 52 => tyOk52
  | 53 => tyOk53
  | 54 => trivial
  | 55 => tyOk55
  | 56 => tyOk56
  | 57 => tyOk57
  | 58 => tyOk58
  | 59 => tyOk59
  | 60 => tyOk60
  | 61 => tyOk61
  | 62 => tyOk62
  | 63 => tyOk63
  | 64 => tyOk64
  | 65 => tyOk65
  | 66 => tyOk66
  | 67 => tyOk67
  | 68 => tyOk68
  | 69 => tyOk69
  | 70 => tyOk70
  | 71 => tyOk71
  | 72 => trivial
  | 73 => tyOk73
  | 74 => tyOk74
  | 75 => tyOk75
  | 76 => trivial
  | 77 => tyOk77
  | 78 => trivial
  | 79 => tyOk79
  | 80 => trivial
  | 81 => trivial
  | 82 => tyOk82
  | 83 => tyOk83
  | 84 => trivial
  | 85 => tyOk85
  | 86 => tyOk86
  | 87 => tyOk87
  | 88 => tyOk88
  | 89 => tyOk89
  | 90 => tyOk90
  | 91 => trivial
  | 92 => tyOk92
  | 93 => trivial
  | 94 => tyOk94
  | 95 => tyOk95
  | 96 => trivial
  | 97 => trivial
  | 98 => tyOk98
  | 99 => trivial
  | 100 => trivial
  | 101 => tyOk101
  | 102 => tyOk102
  | 103 => tyOk103
  | 104 => tyOk104
  | 105 => tyOk105
  | 106 => tyOk106
  | 107 => tyOk107
  | 108 => tyOk108
  | 109 => trivial
  | 110 => trivial
  | 111 => tyOk111
  | 112 => tyOk112
  | 113 => tyOk113
  | 114 => tyOk114
  | 115 => tyOk115
  | 116 => tyOk116
  | 117 => trivial
  | 118 => trivial
  | 119 => trivial
  | 120 => tyOk120
  | 121 => tyOk121
  | 122 => trivial
  | 123 => trivial
  | 124 => tyOk124
  | 125 => tyOk125
  | 126 => trivial
  | 127 => trivial
  | _ + 128 => trivial
theorem szT_ok : ∀ t n, tsz (tyT t) = some n → Sz Try.prog t n
  | 0, n, h => by cases h
  | 1, n, h => by obtain rfl : 1 = n := Option.some.inj h; exact (by kernel_rfl : (Try.prog.info? 1).map (·.size) = some 1)
  | 2, n, h => by obtain rfl : 1 = n := Option.some.inj h; exact (by kernel_rfl : (Try.prog.info? 2).map (·.size) = some 1)
  | 3, n, h => by obtain rfl : 1 = n := Option.some.inj h; exact (by kernel_rfl : (Try.prog.info? 3).map (·.size) = some 1)
  | 4, n, h => by obtain rfl : 1 = n := Option.some.inj h; exact (by kernel_rfl : (Try.prog.info? 4).map (·.size) = some 1)
  | 5, n, h => by obtain rfl : 1 = n := Option.some.inj h; exact (by kernel_rfl : (Try.prog.info? 5).map (·.size) = some 1)
  | 6, n, h => by obtain rfl : 1 = n := Option.some.inj h; exact (by kernel_rfl : (Try.prog.info? 6).map (·.size) = some 1)
  | 7, n, h => by cases h
  | 8, n, h => by cases h
  | 9, n, h => by obtain rfl : 1 = n := Option.some.inj h; exact (by kernel_rfl : (Try.prog.info? 9).map (·.size) = some 1)
  | 10, n, h => by obtain rfl : 1 = n := Option.some.inj h; exact (by kernel_rfl : (Try.prog.info? 10).map (·.size) = some 1)
  | 11, n, h => by obtain rfl : 1 = n := Option.some.inj h; exact (by kernel_rfl : (Try.prog.info? 11).map (·.size) = some 1)
  | 12, n, h => by obtain rfl : 1 = n := Option.some.inj h; exact (by kernel_rfl : (Try.prog.info? 12).map (·.size) = some 1)
  | 13, n, h => by cases h
  | 14, n, h => by cases h
  | 15, n, h => by obtain rfl : 1 = n := Option.some.inj h; exact (by kernel_rfl : (Try.prog.info? 15).map (·.size) = some 1)
  | 16, n, h => by obtain rfl : 1 = n := Option.some.inj h; exact (by kernel_rfl : (Try.prog.info? 16).map (·.size) = some 1)
  | 17, n, h => by obtain rfl : 1 = n := Option.some.inj h; exact (by kernel_rfl : (Try.prog.info? 17).map (·.size) = some 1)
  | 18, n, h => by cases h
  | 19, n, h => by cases h
  | 20, n, h => by obtain rfl : 1 = n := Option.some.inj h; exact (by kernel_rfl : (Try.prog.info? 20).map (·.size) = some 1)
  | 21, n, h => by obtain rfl : 1 = n := Option.some.inj h; exact (by kernel_rfl : (Try.prog.info? 21).map (·.size) = some 1)
  | 22, n, h => by obtain rfl : 1 = n := Option.some.inj h; exact (by kernel_rfl : (Try.prog.info? 22).map (·.size) = some 1)
  | 23, n, h => by obtain rfl : 1 = n := Option.some.inj h; exact (by kernel_rfl : (Try.prog.info? 23).map (·.size) = some 1)
  | 24, n, h => by cases h
  | 25, n, h => by obtain rfl : 3 = n := Option.some.inj h; exact (by kernel_rfl : (Try.prog.info? 25).map (·.size) = some 3)
  | 26, n, h => by obtain rfl : 1 = n := Option.some.inj h; exact (by kernel_rfl : (Try.prog.info? 26).map (·.size) = some 1)
  | 27, n, h => by obtain rfl : 1 = n := Option.some.inj h; exact (by kernel_rfl : (Try.prog.info? 27).map (·.size) = some 1)
  | 28, n, h => by obtain rfl : 1 = n := Option.some.inj h; exact (by kernel_rfl : (Try.prog.info? 28).map (·.size) = some 1)
  | 29, n, h => by obtain rfl : 1 = n := Option.some.inj h; exact (by kernel_rfl : (Try.prog.info? 29).map (·.size) = some 1)
  | 30, n, h => by obtain rfl : 1 = n := Option.some.inj h; exact (by kernel_rfl : (Try.prog.info? 30).map (·.size) = some 1)
  | 31, n, h => by obtain rfl : 1 = n := Option.some.inj h; exact (by kernel_rfl : (Try.prog.info? 31).map (·.size) = some 1)
  | 32, n, h => by obtain rfl : 1 = n := Option.some.inj h; exact (by kernel_rfl : (Try.prog.info? 32).map (·.size) = some 1)
  | 33, n, h => by obtain rfl : 1 = n := Option.some.inj h; exact (by kernel_rfl : (Try.prog.info? 33).map (·.size) = some 1)
  | 34, n, h => by obtain rfl : 1 = n := Option.some.inj h; exact (by kernel_rfl : (Try.prog.info? 34).map (·.size) = some 1)
  | 35, n, h => by obtain rfl : 1 = n := Option.some.inj h; exact (by kernel_rfl : (Try.prog.info? 35).map (·.size) = some 1)
  | 36, n, h => by obtain rfl : 1 = n := Option.some.inj h; exact (by kernel_rfl : (Try.prog.info? 36).map (·.size) = some 1)
  | 37, n, h => by cases h
  | 38, n, h => by obtain rfl : 1 = n := Option.some.inj h; exact (by kernel_rfl : (Try.prog.info? 38).map (·.size) = some 1)
  | 39, n, h => by cases h
  | 40, n, h => by obtain rfl : 1 = n := Option.some.inj h; exact (by kernel_rfl : (Try.prog.info? 40).map (·.size) = some 1)
  | 41, n, h => by obtain rfl : 1 = n := Option.some.inj h; exact (by kernel_rfl : (Try.prog.info? 41).map (·.size) = some 1)
  | 42, n, h => by obtain rfl : 1 = n := Option.some.inj h; exact (by kernel_rfl : (Try.prog.info? 42).map (·.size) = some 1)
  | 43, n, h => by obtain rfl : 1 = n := Option.some.inj h; exact (by kernel_rfl : (Try.prog.info? 43).map (·.size) = some 1)
  | 44, n, h => by obtain rfl : 1 = n := Option.some.inj h; exact (by kernel_rfl : (Try.prog.info? 44).map (·.size) = some 1)
  | 45, n, h => by obtain rfl : 1 = n := Option.some.inj h; exact (by kernel_rfl : (Try.prog.info? 45).map (·.size) = some 1)
  | 46, n, h => by obtain rfl : 1 = n := Option.some.inj h; exact (by kernel_rfl : (Try.prog.info? 46).map (·.size) = some 1)
  | 47, n, h => by obtain rfl : 1 = n := Option.some.inj h; exact (by kernel_rfl : (Try.prog.info? 47).map (·.size) = some 1)
  | 48, n, h => by obtain rfl : 1 = n := Option.some.inj h; exact (by kernel_rfl : (Try.prog.info? 48).map (·.size) = some 1)
  | 49, n, h => by obtain rfl : 1 = n := Option.some.inj h; exact (by kernel_rfl : (Try.prog.info? 49).map (·.size) = some 1)
  | 50, n, h => by obtain rfl : 1 = n := Option.some.inj h; exact (by kernel_rfl : (Try.prog.info? 50).map (·.size) = some 1)
  | 51, n, h => by obtain rfl : 1 = n := Option.some.inj h; exact (by kernel_rfl : (Try.prog.info? 51).map (·.size) = some 1)
  | 52, n, h => by obtain rfl : 1 = n := Option.some.inj h; exact (by kernel_rfl : (Try.prog.info? 52).map (·.size) = some 1)
  | 53, n, h => by obtain rfl : 1 = n := Option.some.inj h; exact (by kernel_rfl : (Try.prog.info? 53).map (·.size) = some 1)
  | 54, n, h => by cases h
  | 55, n, h => by obtain rfl : 1 = n := Option.some.inj h; exact (by kernel_rfl : (Try.prog.info? 55).map (·.size) = some 1)
  | 56, n, h => by obtain rfl : 1 = n := Option.some.inj h; exact (by kernel_rfl : (Try.prog.info? 56).map (·.size) = some 1)
  | 57, n, h => by obtain rfl : 1 = n := Option.some.inj h; exact (by kernel_rfl : (Try.prog.info? 57).map (·.size) = some 1)
  | 58, n, h => by obtain rfl : 1 = n := Option.some.inj h; exact (by kernel_rfl : (Try.prog.info? 58).map (·.size) = some 1)
  | 59, n, h => by obtain rfl : 1 = n := Option.some.inj h; exact (by kernel_rfl : (Try.prog.info? 59).map (·.size) = some 1)
  | 60, n, h => by obtain rfl : 1 = n := Option.some.inj h; exact (by kernel_rfl : (Try.prog.info? 60).map (·.size) = some 1)
  | 61, n, h => by obtain rfl : 1 = n := Option.some.inj h; exact (by kernel_rfl : (Try.prog.info? 61).map (·.size) = some 1)
  | 62, n, h => by obtain rfl : 1 = n := Option.some.inj h; exact (by kernel_rfl : (Try.prog.info? 62).map (·.size) = some 1)
  | 63, n, h => by obtain rfl : 3 = n := Option.some.inj h; exact (by kernel_rfl : (Try.prog.info? 63).map (·.size) = some 3)
  | 64, n, h => by obtain rfl : 3 = n := Option.some.inj h; exact (by kernel_rfl : (Try.prog.info? 64).map (·.size) = some 3)
  | 65, n, h => by obtain rfl : 1 = n := Option.some.inj h; exact (by kernel_rfl : (Try.prog.info? 65).map (·.size) = some 1)
  | 66, n, h => by obtain rfl : 2 = n := Option.some.inj h; exact (by kernel_rfl : (Try.prog.info? 66).map (·.size) = some 2)
  | 67, n, h => by obtain rfl : 2 = n := Option.some.inj h; exact (by kernel_rfl : (Try.prog.info? 67).map (·.size) = some 2)
  | 68, n, h => by obtain rfl : 1 = n := Option.some.inj h; exact (by kernel_rfl : (Try.prog.info? 68).map (·.size) = some 1)
  | 69, n, h => by obtain rfl : 1 = n := Option.some.inj h; exact (by kernel_rfl : (Try.prog.info? 69).map (·.size) = some 1)
  | 70, n, h => by obtain rfl : 1 = n := Option.some.inj h; exact (by kernel_rfl : (Try.prog.info? 70).map (·.size) = some 1)
  | 71, n, h => by obtain rfl : 1 = n := Option.some.inj h; exact (by kernel_rfl : (Try.prog.info? 71).map (·.size) = some 1)
  | 72, n, h => by cases h
  | 73, n, h => by obtain rfl : 1 = n := Option.some.inj h; exact (by kernel_rfl : (Try.prog.info? 73).map (·.size) = some 1)
  | 74, n, h => by obtain rfl : 1 = n := Option.some.inj h; exact (by kernel_rfl : (Try.prog.info? 74).map (·.size) = some 1)
  | 75, n, h => by obtain rfl : 1 = n := Option.some.inj h; exact (by kernel_rfl : (Try.prog.info? 75).map (·.size) = some 1)
  | 76, n, h => by cases h
  | 77, n, h => by obtain rfl : 1 = n := Option.some.inj h; exact (by kernel_rfl : (Try.prog.info? 77).map (·.size) = some 1)
  | 78, n, h => by cases h
  | 79, n, h => by obtain rfl : 1 = n := Option.some.inj h; exact (by kernel_rfl : (Try.prog.info? 79).map (·.size) = some 1)
  | 80, n, h => by cases h
  | 81, n, h => by cases h
  | 82, n, h => by obtain rfl : 1 = n := Option.some.inj h; exact (by kernel_rfl : (Try.prog.info? 82).map (·.size) = some 1)
  | 83, n, h => by obtain rfl : 1 = n := Option.some.inj h; exact (by kernel_rfl : (Try.prog.info? 83).map (·.size) = some 1)
  | 84, n, h => by cases h
  | 85, n, h => by obtain rfl : 1 = n := Option.some.inj h; exact (by kernel_rfl : (Try.prog.info? 85).map (·.size) = some 1)
  | 86, n, h => by obtain rfl : 1 = n := Option.some.inj h; exact (by kernel_rfl : (Try.prog.info? 86).map (·.size) = some 1)
  | 87, n, h => by obtain rfl : 1 = n := Option.some.inj h; exact (by kernel_rfl : (Try.prog.info? 87).map (·.size) = some 1)
  | 88, n, h => by obtain rfl : 1 = n := Option.some.inj h; exact (by kernel_rfl : (Try.prog.info? 88).map (·.size) = some 1)
  | 89, n, h => by obtain rfl : 1 = n := Option.some.inj h; exact (by kernel_rfl : (Try.prog.info? 89).map (·.size) = some 1)
  | 90, n, h => by obtain rfl : 1 = n := Option.some.inj h; exact (by kernel_rfl : (Try.prog.info? 90).map (·.size) = some 1)
  | 91, n, h => by cases h
  | 92, n, h => by obtain rfl : 1 = n := Option.some.inj h; exact (by kernel_rfl : (Try.prog.info? 92).map (·.size) = some 1)
  | 93, n, h => by cases h
  | 94, n, h => by obtain rfl : 1 = n := Option.some.inj h; exact (by kernel_rfl : (Try.prog.info? 94).map (·.size) = some 1)
  | 95, n, h => by obtain rfl : 1 = n := Option.some.inj h; exact (by kernel_rfl : (Try.prog.info? 95).map (·.size) = some 1)
  | 96, n, h => by cases h
  | 97, n, h => by cases h
  | 98, n, h => by obtain rfl : 0 = n := Option.some.inj h; exact (by kernel_rfl : (Try.prog.info? 98).map (·.size) = some 0)
  | 99, n, h => by cases h
  | 100, n, h => by cases h
  | 101, n, h => by obtain rfl : 1 = n := Option.some.inj h; exact (by kernel_rfl : (Try.prog.info? 101).map (·.size) = some 1)
  | 102, n, h => by obtain rfl : 1 = n := Option.some.inj h; exact (by kernel_rfl : (Try.prog.info? 102).map (·.size) = some 1)
  | 103, n, h => by obtain rfl : 1 = n := Option.some.inj h; exact (by kernel_rfl : (Try.prog.info? 103).map (·.size) = some 1)
  | 104, n, h => by obtain rfl : 1 = n := Option.some.inj h; exact (by kernel_rfl : (Try.prog.info? 104).map (·.size) = some 1)
  | 105, n, h => by obtain rfl : 1 = n := Option.some.inj h; exact (by kernel_rfl : (Try.prog.info? 105).map (·.size) = some 1)
  | 106, n, h => by obtain rfl : 1 = n := Option.some.inj h; exact (by kernel_rfl : (Try.prog.info? 106).map (·.size) = some 1)
  | 107, n, h => by obtain rfl : 1 = n := Option.some.inj h; exact (by kernel_rfl : (Try.prog.info? 107).map (·.size) = some 1)
  | 108, n, h => by obtain rfl : 1 = n := Option.some.inj h; exact (by kernel_rfl : (Try.prog.info? 108).map (·.size) = some 1)
  | 109, n, h => by cases h
  | 110, n, h => by cases h
  | 111, n, h => by obtain rfl : 1 = n := Option.some.inj h; exact (by kernel_rfl : (Try.prog.info? 111).map (·.size) = some 1)
  | 112, n, h => by obtain rfl : 1 = n := Option.some.inj h; exact (by kernel_rfl : (Try.prog.info? 112).map (·.size) = some 1)
  | 113, n, h => by obtain rfl : 1 = n := Option.some.inj h; exact (by kernel_rfl : (Try.prog.info? 113).map (·.size) = some 1)
  | 114, n, h => by obtain rfl : 1 = n := Option.some.inj h; exact (by kernel_rfl : (Try.prog.info? 114).map (·.size) = some 1)
  | 115, n, h => by obtain rfl : 1 = n := Option.some.inj h; exact (by kernel_rfl : (Try.prog.info? 115).map (·.size) = some 1)
  | 116, n, h => by obtain rfl : 1 = n := Option.some.inj h; exact (by kernel_rfl : (Try.prog.info? 116).map (·.size) = some 1)
  | 117, n, h => by cases h
  | 118, n, h => by cases h
  | 119, n, h => by cases h
  | 120, n, h => by obtain rfl : 1 = n := Option.some.inj h; exact (by kernel_rfl : (Try.prog.info? 120).map (·.size) = some 1)
  | 121, n, h => by obtain rfl : 1 = n := Option.some.inj h; exact (by kernel_rfl : (Try.prog.info? 121).map (·.size) = some 1)
  | 122, n, h => by cases h
  | 123, n, h => by cases h
  | 124, n, h => by obtain rfl : 1 = n := Option.some.inj h; exact (by kernel_rfl : (Try.prog.info? 124).map (·.size) = some 1)
  | 125, n, h => by obtain rfl : 1 = n := Option.some.inj h; exact (by kernel_rfl : (Try.prog.info? 125).map (·.size) = some 1)
  | 126, n, h => by cases h
  | 127, n, h => by cases h
  | _ + 128, n, h => by cases h
theorem zcT_ok : ∀ t c, zcT t = some c → ∃ i z, Try.prog.info? t = some i ∧ i.zero = some z ∧ z.cells = (cc c).toArray
  | 0, c, h => by cases h
  | 1, c, h => by obtain rfl : _ = c := Option.some.inj h; exact zc_mk (by kernel_rfl)
  | 2, c, h => by obtain rfl : _ = c := Option.some.inj h; exact zc_mk (by kernel_rfl)
  | 3, c, h => by obtain rfl : _ = c := Option.some.inj h; exact zc_mk (by kernel_rfl)
  | 4, c, h => by obtain rfl : _ = c := Option.some.inj h; exact zc_mk (by kernel_rfl)
  | 5, c, h => by obtain rfl : _ = c := Option.some.inj h; exact zc_mk (by kernel_rfl)
  | 6, c, h => by obtain rfl : _ = c := Option.some.inj h; exact zc_mk (by kernel_rfl)
  | 7, c, h => by cases h
  | 8, c, h => by cases h
  | 9, c, h => by obtain rfl : _ = c := Option.some.inj h; exact zc_mk (by kernel_rfl)
  | 10, c, h => by obtain rfl : _ = c := Option.some.inj h; exact zc_mk (by kernel_rfl)
  | 11, c, h => by obtain rfl : _ = c := Option.some.inj h; exact zc_mk (by kernel_rfl)
  | 12, c, h => by obtain rfl : _ = c := Option.some.inj h; exact zc_mk (by kernel_rfl)
  | 13, c, h => by cases h
  | 14, c, h => by cases h
  | 15, c, h => by obtain rfl : _ = c := Option.some.inj h; exact zc_mk (by kernel_rfl)
  | 16, c, h => by obtain rfl : _ = c := Option.some.inj h; exact zc_mk (by kernel_rfl)
  | 17, c, h => by obtain rfl : _ = c := Option.some.inj h; exact zc_mk (by kernel_rfl)
  | 18, c, h => by cases h
  | 19, c, h => by cases h
  | 20, c, h => by obtain rfl : _ = c := Option.some.inj h; exact zc_mk (by kernel_rfl)
  | 21, c, h => by obtain rfl : _ = c := Option.some.inj h; exact zc_mk (by kernel_rfl)
  | 22, c, h => by obtain rfl : _ = c := Option.some.inj h; exact zc_mk (by kernel_rfl)
  | 23, c, h => by obtain rfl : _ = c := Option.some.inj h; exact zc_mk (by kernel_rfl)
  | 24, c, h => by cases h
  | 25, c, h => by obtain rfl : _ = c := Option.some.inj h; exact zc_mk (by kernel_rfl)
  | 26, c, h => by obtain rfl : _ = c := Option.some.inj h; exact zc_mk (by kernel_rfl)
  | 27, c, h => by obtain rfl : _ = c := Option.some.inj h; exact zc_mk (by kernel_rfl)
  | 28, c, h => by obtain rfl : _ = c := Option.some.inj h; exact zc_mk (by kernel_rfl)
  | 29, c, h => by obtain rfl : _ = c := Option.some.inj h; exact zc_mk (by kernel_rfl)
  | 30, c, h => by obtain rfl : _ = c := Option.some.inj h; exact zc_mk (by kernel_rfl)
  | 31, c, h => by obtain rfl : _ = c := Option.some.inj h; exact zc_mk (by kernel_rfl)
  | 32, c, h => by obtain rfl : _ = c := Option.some.inj h; exact zc_mk (by kernel_rfl)
  | 33, c, h => by obtain rfl : _ = c := Option.some.inj h; exact zc_mk (by kernel_rfl)
  | 34, c, h => by obtain rfl : _ = c := Option.some.inj h; exact zc_mk (by kernel_rfl)
  | 35, c, h => by obtain rfl : _ = c := Option.some.inj h; exact zc_mk (by kernel_rfl)
  | 36, c, h => by obtain rfl : _ = c := Option.some.inj h; exact zc_mk (by kernel_rfl)
  | 37, c, h => by cases h
  | 38, c, h => by obtain rfl : _ = c := Option.some.inj h; exact zc_mk (by kernel_rfl)
  | 39, c, h => by cases h
  | 40, c, h => by obtain rfl : _ = c := Option.some.inj h; exact zc_mk (by kernel_rfl)
  | 41, c, h => by obtain rfl : _ = c := Option.some.inj h; exact zc_mk (by kernel_rfl)
  | 42, c, h => by obtain rfl : _ = c := Option.some.inj h; exact zc_mk (by kernel_rfl)
  | 43, c, h => by obtain rfl : _ = c := Option.some.inj h; exact zc_mk (by kernel_rfl)
  | 44, c, h => by obtain rfl : _ = c := Option.some.inj h; exact zc_mk (by kernel_rfl)
  | 45, c, h => by obtain rfl : _ = c := Option.some.inj h; exact zc_mk (by kernel_rfl)
  | 46, c, h => by obtain rfl : _ = c := Option.some.inj h; exact zc_mk (by kernel_rfl)
  | 47, c, h => by obtain rfl : _ = c := Option.some.inj h; exact zc_mk (by kernel_rfl)
  | 48, c, h => by obtain rfl : _ = c := Option.some.inj h; exact zc_mk (by kernel_rfl)
  | 49, c, h => by obtain rfl : _ = c := Option.some.inj h; exact zc_mk (by kernel_rfl)
  | 50, c, h => by obtain rfl : _ = c := Option.some.inj h; exact zc_mk (by kernel_rfl)
  | 51, c, h => by obtain rfl : _ = c := Option.some.inj h; exact zc_mk (by kernel_rfl)
  | 52, c, h => by obtain rfl : _ = c := Option.some.inj h; exact zc_mk (by kernel_rfl)
  | 53, c, h => by obtain rfl : _ = c := Option.some.inj h; exact zc_mk (by kernel_rfl)
  | 54, c, h => by cases h
  | 55, c, h => by obtain rfl : _ = c := Option.some.inj h; exact zc_mk (by kernel_rfl)
  | 56, c, h => by obtain rfl : _ = c := Option.some.inj h; exact zc_mk (by kernel_rfl)
  | 57, c, h => by obtain rfl : _ = c := Option.some.inj h; exact zc_mk (by kernel_rfl)
  | 58, c, h => by obtain rfl : _ = c := Option.some.inj h; exact zc_mk (by kernel_rfl)
  | 59, c, h => by obtain rfl : _ = c := Option.some.inj h; exact zc_mk (by kernel_rfl)
  | 60, c, h => by obtain rfl : _ = c := Option.some.inj h; exact zc_mk (by kernel_rfl)
  | 61, c, h => by obtain rfl : _ = c := Option.some.inj h; exact zc_mk (by kernel_rfl)
  | 62, c, h => by obtain rfl : _ = c := Option.some.inj h; exact zc_mk (by kernel_rfl)
  | 63, c, h => by obtain rfl : _ = c := Option.some.inj h; exact zc_mk (by kernel_rfl)
  | 64, c, h => by obtain rfl : _ = c := Option.some.inj h; exact zc_mk (by kernel_rfl)
  | 65, c, h => by obtain rfl : _ = c := Option.some.inj h; exact zc_mk (by kernel_rfl)
  | 66, c, h => by obtain rfl : _ = c := Option.some.inj h; exact zc_mk (by kernel_rfl)
  | 67, c, h => by obtain rfl : _ = c := Option.some.inj h; exact zc_mk (by kernel_rfl)
  | 68, c, h => by obtain rfl : _ = c := Option.some.inj h; exact zc_mk (by kernel_rfl)
  | 69, c, h => by obtain rfl : _ = c := Option.some.inj h; exact zc_mk (by kernel_rfl)
  | 70, c, h => by obtain rfl : _ = c := Option.some.inj h; exact zc_mk (by kernel_rfl)
  | 71, c, h => by obtain rfl : _ = c := Option.some.inj h; exact zc_mk (by kernel_rfl)
  | 72, c, h => by cases h
  | 73, c, h => by obtain rfl : _ = c := Option.some.inj h; exact zc_mk (by kernel_rfl)
  | 74, c, h => by obtain rfl : _ = c := Option.some.inj h; exact zc_mk (by kernel_rfl)
  | 75, c, h => by obtain rfl : _ = c := Option.some.inj h; exact zc_mk (by kernel_rfl)
  | 76, c, h => by cases h
  | 77, c, h => by obtain rfl : _ = c := Option.some.inj h; exact zc_mk (by kernel_rfl)
  | 78, c, h => by cases h
  | 79, c, h => by obtain rfl : _ = c := Option.some.inj h; exact zc_mk (by kernel_rfl)
  | 80, c, h => by cases h
  | 81, c, h => by cases h
  | 82, c, h => by obtain rfl : _ = c := Option.some.inj h; exact zc_mk (by kernel_rfl)
  | 83, c, h => by obtain rfl : _ = c := Option.some.inj h; exact zc_mk (by kernel_rfl)
  | 84, c, h => by cases h
  | 85, c, h => by obtain rfl : _ = c := Option.some.inj h; exact zc_mk (by kernel_rfl)
  | 86, c, h => by obtain rfl : _ = c := Option.some.inj h; exact zc_mk (by kernel_rfl)
  | 87, c, h => by obtain rfl : _ = c := Option.some.inj h; exact zc_mk (by kernel_rfl)
  | 88, c, h => by obtain rfl : _ = c := Option.some.inj h; exact zc_mk (by kernel_rfl)
  | 89, c, h => by obtain rfl : _ = c := Option.some.inj h; exact zc_mk (by kernel_rfl)
  | 90, c, h => by obtain rfl : _ = c := Option.some.inj h; exact zc_mk (by kernel_rfl)
  | 91, c, h => by cases h
  | 92, c, h => by obtain rfl : _ = c := Option.some.inj h; exact zc_mk (by kernel_rfl)
  | 93, c, h => by cases h
  | 94, c, h => by obtain rfl : _ = c := Option.some.inj h; exact zc_mk (by kernel_rfl)
  | 95, c, h => by obtain rfl : _ = c := Option.some.inj h; exact zc_mk (by kernel_rfl)
  | 96, c, h => by cases h
  | 97, c, h => by cases h
  | 98, c, h => by cases h
  | 99, c, h => by cases h
  | 100, c, h => by cases h
  | 101, c, h => by obtain rfl : _ = c := Option.some.inj h; exact zc_mk (by kernel_rfl)
  | 102, c, h => by obtain rfl : _ = c := Option.some.inj h; exact zc_mk (by kernel_rfl)
  | 103, c, h => by obtain rfl : _ = c := Option.some.inj h; exact zc_mk (by kernel_rfl)
  | 104, c, h => by obtain rfl : _ = c := Option.some.inj h; exact zc_mk (by kernel_rfl)
  | 105, c, h => by obtain rfl : _ = c := Option.some.inj h; exact zc_mk (by kernel_rfl)
  | 106, c, h => by obtain rfl : _ = c := Option.some.inj h; exact zc_mk (by kernel_rfl)
  | 107, c, h => by obtain rfl : _ = c := Option.some.inj h; exact zc_mk (by kernel_rfl)
  | 108, c, h => by obtain rfl : _ = c := Option.some.inj h; exact zc_mk (by kernel_rfl)
  | 109, c, h => by cases h
  | 110, c, h => by cases h
  | 111, c, h => by obtain rfl : _ = c := Option.some.inj h; exact zc_mk (by kernel_rfl)
  | 112, c, h => by obtain rfl : _ = c := Option.some.inj h; exact zc_mk (by kernel_rfl)
  | 113, c, h => by obtain rfl : _ = c := Option.some.inj h; exact zc_mk (by kernel_rfl)
  | 114, c, h => by obtain rfl : _ = c := Option.some.inj h; exact zc_mk (by kernel_rfl)
  | 115, c, h => by obtain rfl : _ = c := Option.some.inj h; exact zc_mk (by kernel_rfl)
  | 116, c, h => by obtain rfl : _ = c := Option.some.inj h; exact zc_mk (by kernel_rfl)
  | 117, c, h => by cases h
  | 118, c, h => by cases h
  | 119, c, h => by cases h
  | 120, c, h => by obtain rfl : _ = c := Option.some.inj h; exact zc_mk (by kernel_rfl)
  | 121, c, h => by obtain rfl : _ = c := Option.some.inj h; exact zc_mk (by kernel_rfl)
  | 122, c, h => by cases h
  | 123, c, h => by cases h
  | 124, c, h => by obtain rfl : _ = c := Option.some.inj h; exact zc_mk (by kernel_rfl)
  | 125, c, h => by obtain rfl : _ = c := Option.some.inj h; exact zc_mk (by kernel_rfl)
  | 126, c, h => by cases h
  | 127, c, h => by cases h
  | _ + 128, c, h => by cases h
theorem zrT_ok : ∀ t, zrT t ≠ [] → ∃ i z, Try.prog.info? t = some i ∧ i.zero = some z ∧ z.cells = (cvs (zrT t)).toArray
  | 0, h => absurd rfl h
  | 1, h => absurd rfl h
  | 2, h => absurd rfl h
  | 3, h => absurd rfl h
  | 4, h => absurd rfl h
  | 5, h => absurd rfl h
  | 6, h => absurd rfl h
  | 7, h => absurd rfl h
  | 8, h => absurd rfl h
  | 9, h => absurd rfl h
  | 10, h => absurd rfl h
  | 11, h => absurd rfl h
  | 12, h => absurd rfl h
  | 13, h => absurd rfl h
  | 14, h => absurd rfl h
  | 15, h => absurd rfl h
  | 16, h => absurd rfl h
  | 17, h => absurd rfl h
  | 18, h => absurd rfl h
  | 19, h => absurd rfl h
  | 20, h => absurd rfl h
  | 21, h => absurd rfl h
  | 22, h => absurd rfl h
  | 23, h => absurd rfl h
  | 24, h => absurd rfl h
  | 25, _ => zr_mk (by kernel_rfl)
  | 26, h => absurd rfl h
  | 27, h => absurd rfl h
  | 28, h => absurd rfl h
  | 29, h => absurd rfl h
  | 30, h => absurd rfl h
  | 31, h => absurd rfl h
  | 32, h => absurd rfl h
  | 33, h => absurd rfl h
  | 34, h => absurd rfl h
  | 35, h => absurd rfl h
  | 36, h => absurd rfl h
  | 37, h => absurd rfl h
  | 38, h => absurd rfl h
  | 39, h => absurd rfl h
  | 40, h => absurd rfl h
  | 41, h => absurd rfl h
  | 42, h => absurd rfl h
  | 43, h => absurd rfl h
  | 44, h => absurd rfl h
  | 45, h => absurd rfl h
  | 46, h => absurd rfl h
  | 47, h => absurd rfl h
  | 48, h => absurd rfl h
  | 49, h => absurd rfl h
  | 50, h => absurd rfl h
  | 51, h => absurd rfl h
  | 52, h => absurd rfl h
  | 53, h => absurd rfl h
  | 54, h => absurd rfl h
  | 55, h => absurd rfl h
  | 56, h => absurd rfl h
  | 57, h => absurd rfl h
  | 58, h => absurd rfl h
  | 59, h => absurd rfl h
  | 60, h => absurd rfl h
  | 61, h => absurd rfl h
  | 62, h => absurd rfl h
  | 63, _ => zr_mk (by kernel_rfl)
  | 64, _ => zr_mk (by kernel_rfl)
  | 65, h => absurd rfl h
  | 66, _ => zr_mk (by kernel_rfl)
  | 67, _ => zr_mk (by kernel_rfl)
  | 68, h => absurd rfl h
  | 69, h => absurd rfl h
  | 70, h => absurd rfl h
  | 71, h => absurd rfl h
  | 72, h => absurd rfl h
  | 73, h => absurd rfl h
  | 74, h => absurd rfl h
  | 75, h => absurd rfl h
  | 76, h => absurd rfl h
  | 77, h => absurd rfl h
  | 78, h => absurd rfl h
  | 79, h => absurd rfl h
  | 80, h => absurd rfl h
  | 81, h => absurd rfl h
  | 82, h => absurd rfl h
  | 83, h => absurd rfl h
  | 84, h => absurd rfl h
  | 85, h => absurd rfl h
  | 86, h => absurd rfl h
  | 87, h => absurd rfl h
  | 88, h => absurd rfl h
  | 89, h => absurd rfl h
  | 90, h => absurd rfl h
  | 91, h => absurd rfl h
  | 92, h => absurd rfl h
  | 93, h => absurd rfl h
  | 94, h => absurd rfl h
  | 95, h => absurd rfl h
  | 96, h => absurd rfl h
  | 97, h => absurd rfl h
  | 98, h => absurd rfl h
  | 99, h => absurd rfl h
  | 100, h => absurd rfl h
  | 101, h => absurd rfl h
  | 102, h => absurd rfl h
  | 103, h => absurd rfl h
  | 104, h => absurd rfl h
  | 105, h => absurd rfl h
  | 106, h => absurd rfl h
  | 107, h => absurd rfl h
  | 108, h => absurd rfl h
  | 109, h => absurd rfl h
  | 110, h => absurd rfl h
  | 111, h => absurd rfl h
  | 112, h => absurd rfl h
  | 113, h => absurd rfl h
  | 114, h => absurd rfl h
  | 115, h => absurd rfl h
  | 116, h => absurd rfl h
  | 117, h => absurd rfl h
  | 118, h => absurd rfl h
  | 119, h => absurd rfl h
  | 120, h => absurd rfl h
  | 121, h => absurd rfl h
  | 122, h => absurd rfl h
  | 123, h => absurd rfl h
  | 124, h => absurd rfl h
  | 125, h => absurd rfl h
  | 126, h => absurd rfl h
  | 127, h => absurd rfl h
  | _ + 128, h => absurd rfl h
theorem b8T_ok : ∀ e, tyT e = .int .u8 → ∃ i, Try.prog.info? e = some i ∧ i.zero = some (.int .u8 0) ∧ i.size = 1 ∧ i.bytes = 1
  | 0, h => by cases h
  | 1, h => by cases h
  | 2, h => by cases h
  | 3, h => by cases h
  | 4, h => by cases h
  | 5, _ => b8_mk (by kernel_rfl)
  | 6, _ => b8_mk (by kernel_rfl)
  | 7, h => by cases h
  | 8, h => by cases h
  | 9, h => by cases h
  | 10, h => by cases h
  | 11, h => by cases h
  | 12, h => by cases h
  | 13, h => by cases h
  | 14, h => by cases h
  | 15, h => by cases h
  | 16, h => by cases h
  | 17, h => by cases h
  | 18, h => by cases h
  | 19, h => by cases h
  | 20, h => by cases h
  | 21, h => by cases h
  | 22, h => by cases h
  | 23, h => by cases h
  | 24, h => by cases h
  | 25, h => by cases h
  | 26, h => by cases h
  | 27, h => by cases h
  | 28, h => by cases h
  | 29, h => by cases h
  | 30, h => by cases h
  | 31, h => by cases h
  | 32, h => by cases h
  | 33, h => by cases h
  | 34, h => by cases h
  | 35, h => by cases h
  | 36, h => by cases h
  | 37, h => by cases h
  | 38, h => by cases h
  | 39, h => by cases h
  | 40, h => by cases h
  | 41, h => by cases h
  | 42, h => by cases h
  | 43, h => by cases h
  | 44, h => by cases h
  | 45, h => by cases h
  | 46, h => by cases h
  | 47, h => by cases h
  | 48, h => by cases h
  | 49, h => by cases h
  | 50, h => by cases h
  | 51, h => by cases h
  | 52, h => by cases h
  | 53, h => by cases h
  | 54, h => by cases h
  | 55, h => by cases h
  | 56, h => by cases h
  | 57, h => by cases h
  | 58, h => by cases h
  | 59, h => by cases h
  | 60, h => by cases h
  | 61, h => by cases h
  | 62, h => by cases h
  | 63, h => by cases h
  | 64, h => by cases h
  | 65, h => by cases h
  | 66, h => by cases h
  | 67, h => by cases h
  | 68, h => by cases h
  | 69, h => by cases h
  | 70, h => by cases h
  | 71, h => by cases h
  | 72, h => by cases h
  | 73, h => by cases h
  | 74, h => by cases h
  | 75, h => by cases h
  | 76, h => by cases h
  | 77, h => by cases h
  | 78, h => by cases h
  | 79, h => by cases h
  | 80, h => by cases h
  | 81, h => by cases h
  | 82, h => by cases h
  | 83, h => by cases h
  | 84, h => by cases h
  | 85, h => by cases h
  | 86, h => by cases h
  | 87, h => by cases h
  | 88, h => by cases h
  | 89, h => by cases h
  | 90, h => by cases h
  | 91, h => by cases h
  | 92, h => by cases h
  | 93, h => by cases h
  | 94, h => by cases h
  | 95, h => by cases h
  | 96, h => by cases h
  | 97, h => by cases h
  | 98, h => by cases h
  | 99, h => by cases h
  | 100, h => by cases h
  | 101, h => by cases h
  | 102, h => by cases h
  | 103, _ => b8_mk (by kernel_rfl)
  | 104, _ => b8_mk (by kernel_rfl)
  | 105, h => by cases h
  | 106, h => by cases h
  | 107, h => by cases h
  | 108, h => by cases h
  | 109, h => by cases h
  | 110, h => by cases h
  | 111, h => by cases h
  | 112, h => by cases h
  | 113, h => by cases h
  | 114, h => by cases h
  | 115, h => by cases h
  | 116, h => by cases h
  | 117, h => by cases h
  | 118, h => by cases h
  | 119, h => by cases h
  | 120, h => by cases h
  | 121, h => by cases h
  | 122, h => by cases h
  | 123, h => by cases h
  | 124, h => by cases h
  | 125, h => by cases h
  | 126, h => by cases h
  | 127, h => by cases h
  | _ + 128, h => by cases h
theorem ty_3 : T0.ty 3 = .int .i64 := rfl
theorem zc_3 : T0.zc 3 = some (.ints .i64 [0]) := rfl
theorem ty_4 : T0.ty 4 = .bool := rfl
theorem zc_4 : T0.zc 4 = some (.cells [.bool false]) := rfl
theorem ty_5 : T0.ty 5 = .int .u8 := rfl
theorem zc_5 : T0.zc 5 = some (.ints .u8 [0]) := rfl
theorem ty_9 : T0.ty 9 = .str := rfl
theorem zc_9 : T0.zc 9 = some (.cells [.str []]) := rfl
theorem ty_20 : T0.ty 20 = .ifc := rfl
theorem zc_20 : T0.zc 20 = some (.cells [.raw .nilIface]) := rfl
theorem ty_22 : T0.ty 22 = .sl 5 1 1 := rfl
theorem zc_22 : T0.zc 22 = some (.cells [.nilsl]) := rfl
theorem ty_23 : T0.ty 23 = .sl 25 3 56 := rfl
theorem zc_23 : T0.zc 23 = some (.cells [.nilsl]) := rfl
theorem ty_25 : T0.ty 25 = .struct 3 [(0, 1, 4), (1, 1, 22), (2, 1, 23)] := rfl
theorem zc_25 : T0.zc 25 = some (.cells [.bool false, .nilsl, .nilsl]) := rfl
theorem zr_25 : T0.zr 25 = [.bool false, .nilsl, .nilsl] := rfl
theorem ty_26 : T0.ty 26 = .int .u64 := rfl
theorem zc_26 : T0.zc 26 = some (.ints .u64 [0]) := rfl
theorem ty_36 : T0.ty 36 = .int .u16 := rfl
theorem zc_36 : T0.zc 36 = some (.ints .u16 [0]) := rfl
theorem ty_45 : T0.ty 45 = .int .u64 := rfl
theorem zc_45 : T0.zc 45 = some (.ints .u64 [0]) := rfl
theorem ty_53 : T0.ty 53 = .ifc := rfl
theorem zc_53 : T0.zc 53 = some (.cells [.raw .nilIface]) := rfl
theorem ty_64 : T0.ty 64 = .struct 3 [(0, 1, 22), (1, 1, 3), (2, 1, 3)] := rfl
theorem zc_64 : T0.zc 64 = some (.cells [.nilsl, .int .i64 0, .int .i64 0]) := rfl
theorem zr_64 : T0.zr 64 = [.nilsl, .int .i64 0, .int .i64 0] := rfl
theorem ty_67 : T0.ty 67 = .struct 2 [(0, 1, 3), (1, 1, 53)] := rfl
theorem zc_67 : T0.zc 67 = some (.cells [.int .i64 0, .raw .nilIface]) := rfl
theorem zr_67 : T0.zr 67 = [.int .i64 0, .raw .nilIface] := rfl
theorem ty_75 : T0.ty 75 = .ptr 64 := rfl
theorem zc_75 : T0.zc 75 = some (.cells [.raw (.pointer none)]) := rfl
theorem ty_89 : T0.ty 89 = .sl 53 1 16 := rfl
theorem zc_89 : T0.zc 89 = some (.cells [.nilsl]) := rfl
theorem st_0 : strI ⟨#[131, 100, 111, 103]⟩ = [131, 100, 111, 103] := by kernel_rfl
theorem st_1 : strI ⟨#[130, 4, 0]⟩ = [130, 4, 0] := by kernel_rfl
set_option linter.defProp false in
def tabs := And.intro @ty_3 <| And.intro @zc_3 <| And.intro @ty_4 <| And.intro @zc_4 <| And.intro @ty_5 <| And.intro @zc_5 <| And.intro @ty_9 <| And.intro @zc_9 <| And.intro @ty_20 <| And.intro @zc_20 <| And.intro @ty_22 <| And.intro @zc_22 <| And.intro @ty_23 <| And.intro @zc_23 <| And.intro @ty_25 <| And.intro @zc_25 <| And.intro @zr_25 <| And.intro @ty_26 <| And.intro @zc_26 <| And.intro @ty_36 <| And.intro @zc_36 <| And.intro @ty_45 <| And.intro @zc_45 <| And.intro @ty_53 <| And.intro @zc_53 <| And.intro @ty_64 <| And.intro @zc_64 <| And.intro @zr_64 <| And.intro @ty_67 <| And.intro @zc_67 <| And.intro @zr_67 <| And.intro @ty_75 <| And.intro @zc_75 <| And.intro @ty_89 <| And.intro @zc_89 <| And.intro @st_0 <| @st_1
theorem T0_ok : TabOk Try.prog T0 := { b8 := b8T_ok, sz := szT_ok, zc := zcT_ok, ty := tyT_ok, gl := glT_ok, zr := zrT_ok }
end Go.Proofs.Ytlogpdjcgbifhaa

/-
  The table of this translation's types.
-/
import Derived.Test.YtcmgndhkdnjmnaaDoorRows
import Derived.Test.YtcmgndhkdnjmnaaDoorEB
namespace Go.Proofs.YtcmgndhkdnjmnaaDoor
set_option linter.unusedSimpArgs false
set_option linter.unusedVariables false
set_option maxRecDepth 20000
open Go.RowKit
def tyT : Nat → Ty
  | 1 => .cell
  | 2 => .int .i64
  | 3 => .int .i64
  | 4 => .bool
  | 5 => .int .u8
  | 6 => .int .u8
  | 9 => .str
  | 10 => .str
  | 11 => .str
  | 12 => .int .u64
  | 15 => .ptr 114
  | 16 => .ptr 117
  | 17 => .ptr 124
  | 20 => .cell
  | 21 => .int .i32
  | 22 => .sl 5 1 1
  | 23 => .int .u64
  | 24 => .arr 4 23 1 (some .u64)
  | 25 => .word
  | 26 => .cell
  | 27 => .cell
  | 28 => .cell
  | 29 => .cell
  | 30 => .int .u16
  | 31 => .int .u16
  | 33 => .cell
  | 35 => .cell
  | 37 => .cell
  | 39 => .cell
  | 40 => .arr 20 5 1 (some .u8)
  | 41 => .arr 20 5 1 (some .u8)
  | 43 => .cell
  | 45 => .cell
  | 46 => .cell
  | 47 => .cell
  | 48 => .cell
  | 49 => .int .u64
  | 50 => .cell
  | 51 => .cell
  | 53 => .cell
  | 55 => .cell
  | 56 => .sl 3 1 8
  | 58 => .cell
  | 59 => .cell
  | 60 => .cell
  | 61 => .cell
  | 62 => .cell
  | 63 => .cell
  | 64 => .cell
  | 65 => .arr 256 4 1 none
  | 66 => .arr 256 4 1 none
  | 68 => .cell
  | 69 => .cell
  | 70 => .ptr 66
  | 71 => .cell
  | 72 => .cell
  | 74 => .cell
  | 75 => .cell
  | 76 => .ptr 78
  | 79 => .cell
  | 80 => .cell
  | 81 => .cell
  | 83 => .cell
  | 84 => .cell
  | 85 => .cell
  | 86 => .cell
  | 87 => .cell
  | 88 => .cell
  | 90 => .cell
  | 91 => .cell
  | 92 => .int .u32
  | 94 => .cell
  | 96 => .cell
  | 97 => .ptr 5
  | 98 => .cell
  | 100 => .cell
  | 101 => .cell
  | 103 => .cell
  | 104 => .cell
  | 105 => .arr 256 5 1 (some .u8)
  | 108 => .arr 16 107 2 none
  | 109 => .cell
  | 110 => .cell
  | 111 => .cell
  | 112 => .cell
  | 115 => .arr 0 16 1 none
  | 118 => .int .u8
  | 119 => .int .u8
  | 120 => .cell
  | 121 => .int .i32
  | 122 => .int .i32
  | _ => .other
def zcT : Nat → Option Con
  | 2 => some (.ints .i64 [0])
  | 3 => some (.ints .i64 [0])
  | 4 => some (.cells [.bool false])
  | 5 => some (.ints .u8 [0])
  | 6 => some (.ints .u8 [0])
  | 9 => some (.cells [.str []])
  | 10 => some (.cells [.str []])
  | 11 => some (.cells [.str []])
  | 12 => some (.ints .u64 [0])
  | 21 => some (.ints .i32 [0])
  | 22 => some (.cells [.nilsl])
  | 23 => some (.ints .u64 [0])
  | 24 => some (.ints .u64 (List.replicate 4 0))
  | 25 => some (.words [0])
  | 30 => some (.ints .u16 [0])
  | 31 => some (.ints .u16 [0])
  | 40 => some (.ints .u8 (List.replicate 20 0))
  | 41 => some (.ints .u8 (List.replicate 20 0))
  | 49 => some (.ints .u64 [0])
  | 56 => some (.cells [.nilsl])
  | 92 => some (.ints .u32 [0])
  | 105 => some (.ints .u8 (List.replicate 256 0))
  | 118 => some (.ints .u8 [0])
  | 119 => some (.ints .u8 [0])
  | 121 => some (.ints .i32 [0])
  | 122 => some (.ints .i32 [0])
  | _ => none
def zrT : Nat → List SV
  | 24 => [.int .u64 0, .int .u64 0, .int .u64 0, .int .u64 0]
  | 25 => [.int .u64 0, .int .u64 0, .int .u64 0, .int .u64 0]
  | 40 => [.int .u8 0, .int .u8 0, .int .u8 0, .int .u8 0, .int .u8 0, .int .u8 0, .int .u8 0, .int .u8 0, .int .u8 0, .int .u8 0, .int .u8 0, .int .u8 0, .int .u8 0, .int .u8 0, .int .u8 0, .int .u8 0, .int .u8 0, .int .u8 0, .int .u8 0, .int .u8 0]
  | 41 => [.int .u8 0, .int .u8 0, .int .u8 0, .int .u8 0, .int .u8 0, .int .u8 0, .int .u8 0, .int .u8 0, .int .u8 0, .int .u8 0, .int .u8 0, .int .u8 0, .int .u8 0, .int .u8 0, .int .u8 0, .int .u8 0, .int .u8 0, .int .u8 0, .int .u8 0, .int .u8 0]
  | _ => []
def T0 : Tab := { ty := tyT, zr := zrT, zc := zcT, gl := fun g => .raw (.pointer (some ⟨g, 0, none⟩)) }
theorem tyOk1 : TyOk1 Tryd.prog 1 (.cell) := fun w => by kernel_rfl
theorem tyOk2 : TyOk1 Tryd.prog 2 (.int .i64) := (by kernel_rfl : Tryd.prog.underlying 2 = some (.int .i64))
theorem tyOk3 : TyOk1 Tryd.prog 3 (.int .i64) := (by kernel_rfl : Tryd.prog.underlying 3 = some (.int .i64))
theorem tyOk4 : TyOk1 Tryd.prog 4 (.bool) := (by kernel_rfl : Tryd.prog.underlying 4 = some (.bool))
theorem tyOk5 : TyOk1 Tryd.prog 5 (.int .u8) := (by kernel_rfl : Tryd.prog.underlying 5 = some (.int .u8))
theorem tyOk6 : TyOk1 Tryd.prog 6 (.int .u8) := (by kernel_rfl : Tryd.prog.underlying 6 = some (.int .u8))
theorem tyOk9 : TyOk1 Tryd.prog 9 (.str) := (by kernel_rfl : Tryd.prog.underlying 9 = some (.string))
theorem tyOk10 : TyOk1 Tryd.prog 10 (.str) := (by kernel_rfl : Tryd.prog.underlying 10 = some (.string))
theorem tyOk11 : TyOk1 Tryd.prog 11 (.str) := (by kernel_rfl : Tryd.prog.underlying 11 = some (.string))
theorem tyOk12 : TyOk1 Tryd.prog 12 (.int .u64) := (by kernel_rfl : Tryd.prog.underlying 12 = some (.int .u64))
theorem tyOk15 : TyOk1 Tryd.prog 15 (.ptr 114) := (by kernel_rfl : Tryd.prog.underlying 15 = some (.pointer 114))
theorem tyOk16 : TyOk1 Tryd.prog 16 (.ptr 117) := (by kernel_rfl : Tryd.prog.underlying 16 = some (.pointer 117))
theorem tyOk17 : TyOk1 Tryd.prog 17 (.ptr 124) := (by kernel_rfl : Tryd.prog.underlying 17 = some (.pointer 124))
theorem tyOk20 : TyOk1 Tryd.prog 20 (.cell) := fun w => by kernel_rfl
theorem tyOk21 : TyOk1 Tryd.prog 21 (.int .i32) := (by kernel_rfl : Tryd.prog.underlying 21 = some (.int .i32))
theorem tyOk22 : TyOk1 Tryd.prog 22 (.sl 5 1 1) := sl_mk (by kernel_rfl : Tryd.prog.underlying 22 = some (.slice 5)) (by decide) (by kernel_rfl : (Tryd.prog.info? 5).map (·.size) = some 1) (by kernel_rfl : (Tryd.prog.info? 5).map (·.bytes) = some 1) (by kernel_rfl : ((Tryd.prog.info? 5).bind (·.zero)).map (·.cells.size) = some 1)
theorem tyOk23 : TyOk1 Tryd.prog 23 (.int .u64) := (by kernel_rfl : Tryd.prog.underlying 23 = some (.int .u64))
theorem tyOk24 : TyOk1 Tryd.prog 24 (.arr 4 23 1 (some .u64)) := ⟨(by kernel_rfl : Tryd.prog.underlying 24 = some (.array 4 23)), (by kernel_rfl : (Tryd.prog.info? 23).map (·.size) = some 1), (by kernel_rfl : (Tryd.prog.info? 24).map (·.size) = some 4), (by kernel_rfl : Tryd.prog.eqGuardType Tryd.prog.depth 24 = false), fun k h => by cases h; exact (by kernel_rfl : Tryd.prog.underlying 23 = some (.int .u64))⟩
theorem tyOk25 : TyOk1 Tryd.prog 25 (.word) := ⟨23, (by kernel_rfl : Tryd.prog.underlying 25 = some (.array 4 23)), (by kernel_rfl : Tryd.prog.underlying 23 = some (.int .u64)), (by kernel_rfl : (Tryd.prog.info? 23).map (·.size) = some 1), (by kernel_rfl : (Tryd.prog.info? 25).map (·.size) = some 4), (by kernel_rfl : Tryd.prog.eqGuardType Tryd.prog.depth 25 = false)⟩
theorem tyOk26 : TyOk1 Tryd.prog 26 (.cell) := fun w => by kernel_rfl
theorem tyOk27 : TyOk1 Tryd.prog 27 (.cell) := fun w => by kernel_rfl
theorem tyOk28 : TyOk1 Tryd.prog 28 (.cell) := fun w => by kernel_rfl
theorem tyOk29 : TyOk1 Tryd.prog 29 (.cell) := fun w => by kernel_rfl
theorem tyOk30 : TyOk1 Tryd.prog 30 (.int .u16) := (by kernel_rfl : Tryd.prog.underlying 30 = some (.int .u16))
theorem tyOk31 : TyOk1 Tryd.prog 31 (.int .u16) := (by kernel_rfl : Tryd.prog.underlying 31 = some (.int .u16))
theorem tyOk33 : TyOk1 Tryd.prog 33 (.cell) := fun w => by kernel_rfl
theorem tyOk35 : TyOk1 Tryd.prog 35 (.cell) := fun w => by kernel_rfl
theorem tyOk37 : TyOk1 Tryd.prog 37 (.cell) := fun w => by kernel_rfl
theorem tyOk39 : TyOk1 Tryd.prog 39 (.cell) := fun w => by kernel_rfl
theorem tyOk40 : TyOk1 Tryd.prog 40 (.arr 20 5 1 (some .u8)) := ⟨(by kernel_rfl : Tryd.prog.underlying 40 = some (.array 20 5)), (by kernel_rfl : (Tryd.prog.info? 5).map (·.size) = some 1), (by kernel_rfl : (Tryd.prog.info? 40).map (·.size) = some 20), (by kernel_rfl : Tryd.prog.eqGuardType Tryd.prog.depth 40 = false), fun k h => by cases h; exact (by kernel_rfl : Tryd.prog.underlying 5 = some (.int .u8))⟩
theorem tyOk41 : TyOk1 Tryd.prog 41 (.arr 20 5 1 (some .u8)) := ⟨(by kernel_rfl : Tryd.prog.underlying 41 = some (.array 20 5)), (by kernel_rfl : (Tryd.prog.info? 5).map (·.size) = some 1), (by kernel_rfl : (Tryd.prog.info? 41).map (·.size) = some 20), (by kernel_rfl : Tryd.prog.eqGuardType Tryd.prog.depth 41 = false), fun k h => by cases h; exact (by kernel_rfl : Tryd.prog.underlying 5 = some (.int .u8))⟩
theorem tyOk43 : TyOk1 Tryd.prog 43 (.cell) := fun w => by kernel_rfl
theorem tyOk45 : TyOk1 Tryd.prog 45 (.cell) := fun w => by kernel_rfl
theorem tyOk46 : TyOk1 Tryd.prog 46 (.cell) := fun w => by kernel_rfl
theorem tyOk47 : TyOk1 Tryd.prog 47 (.cell) := fun w => by kernel_rfl
theorem tyOk48 : TyOk1 Tryd.prog 48 (.cell) := fun w => by kernel_rfl
theorem tyOk49 : TyOk1 Tryd.prog 49 (.int .u64) := (by kernel_rfl : Tryd.prog.underlying 49 = some (.int .u64))
theorem tyOk50 : TyOk1 Tryd.prog 50 (.cell) := fun w => by kernel_rfl
theorem tyOk51 : TyOk1 Tryd.prog 51 (.cell) := fun w => by kernel_rfl
theorem tyOk53 : TyOk1 Tryd.prog 53 (.cell) := fun w => by kernel_rfl
theorem tyOk55 : TyOk1 Tryd.prog 55 (.cell) := fun w => by kernel_rfl
theorem tyOk56 : TyOk1 Tryd.prog 56 (.sl 3 1 8) := sl_mk (by kernel_rfl : Tryd.prog.underlying 56 = some (.slice 3)) (by decide) (by kernel_rfl : (Tryd.prog.info? 3).map (·.size) = some 1) (by kernel_rfl : (Tryd.prog.info? 3).map (·.bytes) = some 8) (by kernel_rfl : ((Tryd.prog.info? 3).bind (·.zero)).map (·.cells.size) = some 1)
theorem tyOk58 : TyOk1 Tryd.prog 58 (.cell) := fun w => by kernel_rfl
theorem tyOk59 : TyOk1 Tryd.prog 59 (.cell) := fun w => by kernel_rfl
theorem tyOk60 : TyOk1 Tryd.prog 60 (.cell) := fun w => by kernel_rfl
theorem tyOk61 : TyOk1 Tryd.prog 61 (.cell) := fun w => by kernel_rfl
theorem tyOk62 : TyOk1 Tryd.prog 62 (.cell) := fun w => by kernel_rfl
theorem tyOk63 : TyOk1 Tryd.prog 63 (.cell) := fun w => by kernel_rfl
theorem tyOk64 : TyOk1 Tryd.prog 64 (.cell) := fun w => by kernel_rfl
theorem tyOk65 : TyOk1 Tryd.prog 65 (.arr 256 4 1 none) := ⟨(by kernel_rfl : Tryd.prog.underlying 65 = some (.array 256 4)), (by kernel_rfl : (Tryd.prog.info? 4).map (·.size) = some 1), (by kernel_rfl : (Tryd.prog.info? 65).map (·.size) = some 256), (by kernel_rfl : Tryd.prog.eqGuardType Tryd.prog.depth 65 = false), fun k h => by cases h⟩
theorem tyOk66 : TyOk1 Tryd.prog 66 (.arr 256 4 1 none) := ⟨(by kernel_rfl : Tryd.prog.underlying 66 = some (.array 256 4)), (by kernel_rfl : (Tryd.prog.info? 4).map (·.size) = some 1), (by kernel_rfl : (Tryd.prog.info? 66).map (·.size) = some 256), (by kernel_rfl : Tryd.prog.eqGuardType Tryd.prog.depth 66 = false), fun k h => by cases h⟩
theorem tyOk68 : TyOk1 Tryd.prog 68 (.cell) := fun w => by kernel_rfl
theorem tyOk69 : TyOk1 Tryd.prog 69 (.cell) := fun w => by kernel_rfl
theorem tyOk70 : TyOk1 Tryd.prog 70 (.ptr 66) := (by kernel_rfl : Tryd.prog.underlying 70 = some (.pointer 66))
theorem tyOk71 : TyOk1 Tryd.prog 71 (.cell) := fun w => by kernel_rfl
theorem tyOk72 : TyOk1 Tryd.prog 72 (.cell) := fun w => by kernel_rfl
theorem tyOk74 : TyOk1 Tryd.prog 74 (.cell) := fun w => by kernel_rfl
theorem tyOk75 : TyOk1 Tryd.prog 75 (.cell) := fun w => by kernel_rfl
theorem tyOk76 : TyOk1 Tryd.prog 76 (.ptr 78) := (by kernel_rfl : Tryd.prog.underlying 76 = some (.pointer 78))
theorem tyOk79 : TyOk1 Tryd.prog 79 (.cell) := fun w => by kernel_rfl
theorem tyOk80 : TyOk1 Tryd.prog 80 (.cell) := fun w => by kernel_rfl
theorem tyOk81 : TyOk1 Tryd.prog 81 (.cell) := fun w => by kernel_rfl
theorem tyOk83 : TyOk1 Tryd.prog 83 (.cell) := fun w => by kernel_rfl
theorem tyOk84 : TyOk1 Tryd.prog 84 (.cell) := fun w => by kernel_rfl
theorem tyOk85 : TyOk1 Tryd.prog 85 (.cell) := fun w => by kernel_rfl
theorem tyOk86 : TyOk1 Tryd.prog 86 (.cell) := fun w => by kernel_rfl
theorem tyOk87 : TyOk1 Tryd.prog 87 (.cell) := fun w => by kernel_rfl
theorem tyOk88 : TyOk1 Tryd.prog 88 (.cell) := fun w => by kernel_rfl
theorem tyOk90 : TyOk1 Tryd.prog 90 (.cell) := fun w => by kernel_rfl
theorem tyOk91 : TyOk1 Tryd.prog 91 (.cell) := fun w => by kernel_rfl
theorem tyOk92 : TyOk1 Tryd.prog 92 (.int .u32) := (by kernel_rfl : Tryd.prog.underlying 92 = some (.int .u32))
theorem tyOk94 : TyOk1 Tryd.prog 94 (.cell) := fun w => by kernel_rfl
theorem tyOk96 : TyOk1 Tryd.prog 96 (.cell) := fun w => by kernel_rfl
theorem tyOk97 : TyOk1 Tryd.prog 97 (.ptr 5) := (by kernel_rfl : Tryd.prog.underlying 97 = some (.pointer 5))
theorem tyOk98 : TyOk1 Tryd.prog 98 (.cell) := fun w => by kernel_rfl
theorem tyOk100 : TyOk1 Tryd.prog 100 (.cell) := fun w => by kernel_rfl
theorem tyOk101 : TyOk1 Tryd.prog 101 (.cell) := fun w => by kernel_rfl
theorem tyOk103 : TyOk1 Tryd.prog 103 (.cell) := fun w => by kernel_rfl
theorem tyOk104 : TyOk1 Tryd.prog 104 (.cell) := fun w => by kernel_rfl
theorem tyOk105 : TyOk1 Tryd.prog 105 (.arr 256 5 1 (some .u8)) := ⟨(by kernel_rfl : Tryd.prog.underlying 105 = some (.array 256 5)), (by kernel_rfl : (Tryd.prog.info? 5).map (·.size) = some 1), (by kernel_rfl : (Tryd.prog.info? 105).map (·.size) = some 256), (by kernel_rfl : Tryd.prog.eqGuardType Tryd.prog.depth 105 = false), fun k h => by cases h; exact (by kernel_rfl : Tryd.prog.underlying 5 = some (.int .u8))⟩
theorem tyOk108 : TyOk1 Tryd.prog 108 (.arr 16 107 2 none) := ⟨(by kernel_rfl : Tryd.prog.underlying 108 = some (.array 16 107)), (by kernel_rfl : (Tryd.prog.info? 107).map (·.size) = some 2), (by kernel_rfl : (Tryd.prog.info? 108).map (·.size) = some 32), (by kernel_rfl : Tryd.prog.eqGuardType Tryd.prog.depth 108 = false), fun k h => by cases h⟩
theorem tyOk109 : TyOk1 Tryd.prog 109 (.cell) := fun w => by kernel_rfl
theorem tyOk110 : TyOk1 Tryd.prog 110 (.cell) := fun w => by kernel_rfl
theorem tyOk111 : TyOk1 Tryd.prog 111 (.cell) := fun w => by kernel_rfl
theorem tyOk112 : TyOk1 Tryd.prog 112 (.cell) := fun w => by kernel_rfl
theorem tyOk115 : TyOk1 Tryd.prog 115 (.arr 0 16 1 none) := ⟨(by kernel_rfl : Tryd.prog.underlying 115 = some (.array 0 16)), (by kernel_rfl : (Tryd.prog.info? 16).map (·.size) = some 1), (by kernel_rfl : (Tryd.prog.info? 115).map (·.size) = some 0), (by kernel_rfl : Tryd.prog.eqGuardType Tryd.prog.depth 115 = false), fun k h => by cases h⟩
theorem tyOk118 : TyOk1 Tryd.prog 118 (.int .u8) := (by kernel_rfl : Tryd.prog.underlying 118 = some (.int .u8))
theorem tyOk119 : TyOk1 Tryd.prog 119 (.int .u8) := (by kernel_rfl : Tryd.prog.underlying 119 = some (.int .u8))
theorem tyOk120 : TyOk1 Tryd.prog 120 (.cell) := fun w => by kernel_rfl
theorem tyOk121 : TyOk1 Tryd.prog 121 (.int .i32) := (by kernel_rfl : Tryd.prog.underlying 121 = some (.int .i32))
theorem tyOk122 : TyOk1 Tryd.prog 122 (.int .i32) := (by kernel_rfl : Tryd.prog.underlying 122 = some (.int .i32))
theorem tyT_ok : ∀ t, TyOk1 Tryd.prog t (tyT t)
  | 0 => trivial
  | 1 => tyOk1
  | 2 => tyOk2
  | 3 => tyOk3
  | 4 => tyOk4
  | 5 => tyOk5
  | 6 => tyOk6
  | 7 => trivial
  | 8 => trivial
  | 9 => tyOk9
  | 10 => tyOk10
  | 11 => tyOk11
  | 12 => tyOk12
  | 13 => trivial
  | 14 => trivial
  | 15 => tyOk15
  | 16 => tyOk16
  | 17 => tyOk17
  | 18 => trivial
  | 19 => trivial
  | 20 => tyOk20
  | 21 => tyOk21
  | 22 => tyOk22
  | 23 => tyOk23
  | 24 => tyOk24
  | 25 => tyOk25
  | 26 => tyOk26
  | 27 => tyOk27
  | 28 => tyOk28
  | 29 => tyOk29
  | 30 => tyOk30
  | 31 => tyOk31
  | 32 => trivial
  | 33 => tyOk33
  | 34 => trivial
  | 35 => tyOk35
  | 36 => trivial
  | 37 => tyOk37
  | 38 => trivial
  | 39 => tyOk39
  | 40 => tyOk40
  | 41 => tyOk41
  | 42 => trivial
  | 43 => tyOk43
  | 44 => trivial
  | 45 => tyOk45
  | 46 => tyOk46
  | 47 => tyOk47
  | 48 => tyOk48
  | 49 => tyOk49
  | 50 => tyOk50
  | 51 => tyOk51
  | 52 => trivial
  | 53 => tyOk53
  | 54 => trivial
  | 55 => tyOk55
  | 56 => tyOk56
  | 57 => trivial
  | 58 => tyOk58
  | 59 => tyOk59
  | 60 => tyOk60
  | 61 => tyOk61
  | 62 => tyOk62
  | 63 => tyOk63
  | 64 => tyOk64
  | 65 => tyOk65
  | 66 => tyOk66
  | 67 => trivial
  | 68 => tyOk68
  | 69 => tyOk69
  | 70 => tyOk70
  | 71 => tyOk71
  | 72 => tyOk72
  | 73 => trivial
  | 74 => tyOk74
  | 75 => tyOk75
  | 76 => tyOk76
  | 77 => trivial
  | 78 => trivial
  | 79 => tyOk79
  | 80 => tyOk80
  | 81 => tyOk81
  | 82 => trivial
  | 83 => tyOk83
  | 84 => tyOk84
  | 85 => tyOk85
  | 86 => tyOk86
  | 87 => tyOk87
  | 88 => tyOk88
  | 89 => trivial
  | 90 => tyOk90
  | 91 => tyOk91
  | 92 => tyOk92
  | 93 => trivial
  | 94 => tyOk94
  | 95 => trivial
  | 96 => tyOk96
  | 97 => tyOk97
  | 98 => tyOk98
  | 99 => trivial
  | 100 => tyOk100
  | 101 => tyOk101
  | 102 => trivial
  | 103 => tyOk103
  | 104 => tyOk104
  | 105 => tyOk105
  | 106 => trivial
  | 107 => trivial
  | 108 => tyOk108
  | 109 => tyOk109
  | 110 => tyOk110
  | 111 => tyOk111
  | 112 => tyOk112
  | 113 => trivial
  | 114 => trivial
  | 115 => tyOk115
  | 116 => trivial
  | 117 => trivial
  | 118 => tyOk118
  | 119 => tyOk119
  | 120 => tyOk120
  | 121 => tyOk121
  | 122 => tyOk122
  | 123 => trivial
  | 124 => trivial
  | _ + 125 => trivial
theorem szT_ok : ∀ t n, tsz (tyT t) = some n → Sz Tryd.prog t n
  | 0, n, h => by cases h
  | 1, n, h => by obtain rfl : 1 = n := Option.some.inj h; exact (by kernel_rfl : (Tryd.prog.info? 1).map (·.size) = some 1)
  | 2, n, h => by obtain rfl : 1 = n := Option.some.inj h; exact (by kernel_rfl : (Tryd.prog.info? 2).map (·.size) = some 1)
  | 3, n, h => by obtain rfl : 1 = n := Option.some.inj h; exact (by kernel_rfl : (Tryd.prog.info? 3).map (·.size) = some 1)
  | 4, n, h => by obtain rfl : 1 = n := Option.some.inj h; exact (by kernel_rfl : (Tryd.prog.info? 4).map (·.size) = some 1)
  | 5, n, h => by obtain rfl : 1 = n := Option.some.inj h; exact (by kernel_rfl : (Tryd.prog.info? 5).map (·.size) = some 1)
  | 6, n, h => by obtain rfl : 1 = n := Option.some.inj h; exact (by kernel_rfl : (Tryd.prog.info? 6).map (·.size) = some 1)
  | 7, n, h => by cases h
  | 8, n, h => by cases h
  | 9, n, h => by obtain rfl : 1 = n := Option.some.inj h; exact (by kernel_rfl : (Tryd.prog.info? 9).map (·.size) = some 1)
  | 10, n, h => by obtain rfl : 1 = n := Option.some.inj h; exact (by kernel_rfl : (Tryd.prog.info? 10).map (·.size) = some 1)
  | 11, n, h => by obtain rfl : 1 = n := Option.some.inj h; exact (by kernel_rfl : (Tryd.prog.info? 11).map (·.size) = some 1)
  | 12, n, h => by obtain rfl : 1 = n := Option.some.inj h; exact (by kernel_rfl : (Tryd.prog.info? 12).map (·.size) = some 1)
  | 13, n, h => by cases h
  | 14, n, h => by cases h
  | 15, n, h => by obtain rfl : 1 = n := Option.some.inj h; exact (by kernel_rfl : (Tryd.prog.info? 15).map (·.size) = some 1)
  | 16, n, h => by obtain rfl : 1 = n := Option.some.inj h; exact (by kernel_rfl : (Tryd.prog.info? 16).map (·.size) = some 1)
  | 17, n, h => by obtain rfl : 1 = n := Option.some.inj h; exact (by kernel_rfl : (Tryd.prog.info? 17).map (·.size) = some 1)
  | 18, n, h => by cases h
  | 19, n, h => by cases h
  | 20, n, h => by obtain rfl : 1 = n := Option.some.inj h; exact (by kernel_rfl : (Tryd.prog.info? 20).map (·.size) = some 1)
  | 21, n, h => by obtain rfl : 1 = n := Option.some.inj h; exact (by kernel_rfl : (Tryd.prog.info? 21).map (·.size) = some 1)
  | 22, n, h => by obtain rfl : 1 = n := Option.some.inj h; exact (by kernel_rfl : (Tryd.prog.info? 22).map (·.size) = some 1)
  | 23, n, h => by obtain rfl : 1 = n := Option.some.inj h; exact (by kernel_rfl : (Tryd.prog.info? 23).map (·.size) = some 1)
  | 24, n, h => by obtain rfl : 4 = n := Option.some.inj h; exact (by kernel_rfl : (Tryd.prog.info? 24).map (·.size) = some 4)
  | 25, n, h => by obtain rfl : 4 = n := Option.some.inj h; exact (by kernel_rfl : (Tryd.prog.info? 25).map (·.size) = some 4)
  | 26, n, h => by obtain rfl : 1 = n := Option.some.inj h; exact (by kernel_rfl : (Tryd.prog.info? 26).map (·.size) = some 1)
  | 27, n, h => by obtain rfl : 1 = n := Option.some.inj h; exact (by kernel_rfl : (Tryd.prog.info? 27).map (·.size) = some 1)
  | 28, n, h => by obtain rfl : 1 = n := Option.some.inj h; exact (by kernel_rfl : (Tryd.prog.info? 28).map (·.size) = some 1)
  | 29, n, h => by obtain rfl : 1 = n := Option.some.inj h; exact (by kernel_rfl : (Tryd.prog.info? 29).map (·.size) = some 1)
  | 30, n, h => by obtain rfl : 1 = n := Option.some.inj h; exact (by kernel_rfl : (Tryd.prog.info? 30).map (·.size) = some 1)
  | 31, n, h => by obtain rfl : 1 = n := Option.some.inj h; exact (by kernel_rfl : (Tryd.prog.info? 31).map (·.size) = some 1)
  | 32, n, h => by cases h
  | 33, n, h => by obtain rfl : 1 = n := Option.some.inj h; exact (by kernel_rfl : (Tryd.prog.info? 33).map (·.size) = some 1)
  | 34, n, h => by cases h
  | 35, n, h => by obtain rfl : 1 = n := Option.some.inj h; exact (by kernel_rfl : (Tryd.prog.info? 35).map (·.size) = some 1)
  | 36, n, h => by cases h
  | 37, n, h => by obtain rfl : 1 = n := Option.some.inj h; exact (by kernel_rfl : (Tryd.prog.info? 37).map (·.size) = some 1)
  | 38, n, h => by cases h
  | 39, n, h => by obtain rfl : 1 = n := Option.some.inj h; exact (by kernel_rfl : (Tryd.prog.info? 39).map (·.size) = some 1)
  | 40, n, h => by obtain rfl : 20 = n := Option.some.inj h; exact (by kernel_rfl : (Tryd.prog.info? 40).map (·.size) = some 20)
  | 41, n, h => by obtain rfl : 20 = n := Option.some.inj h; exact (by kernel_rfl : (Tryd.prog.info? 41).map (·.size) = some 20)
  | 42, n, h => by cases h
  | 43, n, h => by obtain rfl : 1 = n := Option.some.inj h; exact (by kernel_rfl : (Tryd.prog.info? 43).map (·.size) = some 1)
  | 44, n, h => by cases h
  | 45, n, h => by obtain rfl : 1 = n := Option.some.inj h; exact (by kernel_rfl : (Tryd.prog.info? 45).map (·.size) = some 1)
  | 46, n, h => by obtain rfl : 1 = n := Option.some.inj h; exact (by kernel_rfl : (Tryd.prog.info? 46).map (·.size) = some 1)
  | 47, n, h => by obtain rfl : 1 = n := Option.some.inj h; exact (by kernel_rfl : (Tryd.prog.info? 47).map (·.size) = some 1)
  | 48, n, h => by obtain rfl : 1 = n := Option.some.inj h; exact (by kernel_rfl : (Tryd.prog.info? 48).map (·.size) = some 1)
  | 49, n, h => by obtain rfl : 1 = n := Option.some.inj h; exact (by kernel_rfl : (Tryd.prog.info? 49).map (·.size) = some 1)
  | 50, n, h => by obtain rfl : 1 = n := Option.some.inj h; exact (by kernel_rfl : (Tryd.prog.info? 50).map (·.size) = some 1)
  | 51, n, h => by obtain rfl : 1 = n := Option.some.inj h; exact (by kernel_rfl : (Tryd.prog.info? 51).map (·.size) = some 1)
  | 52, n, h => by cases h
  | 53, n, h => by obtain rfl : 1 = n := Option.some.inj h; exact (by kernel_rfl : (Tryd.prog.info? 53).map (·.size) = some 1)
  | 54, n, h => by cases h
  | 55, n, h => by obtain rfl : 1 = n := Option.some.inj h; exact (by kernel_rfl : (Tryd.prog.info? 55).map (·.size) = some 1)
  | 56, n, h => by obtain rfl : 1 = n := Option.some.inj h; exact (by kernel_rfl : (Tryd.prog.info? 56).map (·.size) = some 1)
  | 57, n, h => by cases h
  | 58, n, h => by obtain rfl : 1 = n := Option.some.inj h; exact (by kernel_rfl : (Tryd.prog.info? 58).map (·.size) = some 1)
  | 59, n, h => by obtain rfl : 1 = n := Option.some.inj h; exact (by kernel_rfl : (Tryd.prog.info? 59).map (·.size) = some 1)
  | 60, n, h => by obtain rfl : 1 = n := Option.some.inj h; exact (by kernel_rfl : (Tryd.prog.info? 60).map (·.size) = some 1)
  | 61, n, h => by obtain rfl : 1 = n := Option.some.inj h; exact (by kernel_rfl : (Tryd.prog.info? 61).map (·.size) = some 1)
  | 62, n, h => by obtain rfl : 1 = n := Option.some.inj h; exact (by kernel_rfl : (Tryd.prog.info? 62).map (·.size) = some 1)
  | 63, n, h => by obtain rfl : 1 = n := Option.some.inj h; exact (by kernel_rfl : (Tryd.prog.info? 63).map (·.size) = some 1)
  | 64, n, h => by obtain rfl : 1 = n := Option.some.inj h; exact (by kernel_rfl : (Tryd.prog.info? 64).map (·.size) = some 1)
  | 65, n, h => by obtain rfl : 256 = n := Option.some.inj h; exact (by kernel_rfl : (Tryd.prog.info? 65).map (·.size) = some 256)
  | 66, n, h => by obtain rfl : 256 = n := Option.some.inj h; exact (by kernel_rfl : (Tryd.prog.info? 66).map (·.size) = some 256)
  | 67, n, h => by cases h
  | 68, n, h => by obtain rfl : 1 = n := Option.some.inj h; exact (by kernel_rfl : (Tryd.prog.info? 68).map (·.size) = some 1)
  | 69, n, h => by obtain rfl : 1 = n := Option.some.inj h; exact (by kernel_rfl : (Tryd.prog.info? 69).map (·.size) = some 1)
  | 70, n, h => by obtain rfl : 1 = n := Option.some.inj h; exact (by kernel_rfl : (Tryd.prog.info? 70).map (·.size) = some 1)
  | 71, n, h => by obtain rfl : 1 = n := Option.some.inj h; exact (by kernel_rfl : (Tryd.prog.info? 71).map (·.size) = some 1)
  | 72, n, h => by obtain rfl : 1 = n := Option.some.inj h; exact (by kernel_rfl : (Tryd.prog.info? 72).map (·.size) = some 1)
  | 73, n, h => by cases h
  | 74, n, h => by obtain rfl : 1 = n := Option.some.inj h; exact (by kernel_rfl : (Tryd.prog.info? 74).map (·.size) = some 1)
  | 75, n, h => by obtain rfl : 1 = n := Option.some.inj h; exact (by kernel_rfl : (Tryd.prog.info? 75).map (·.size) = some 1)
  | 76, n, h => by obtain rfl : 1 = n := Option.some.inj h; exact (by kernel_rfl : (Tryd.prog.info? 76).map (·.size) = some 1)
  | 77, n, h => by cases h
  | 78, n, h => by cases h
  | 79, n, h => by obtain rfl : 1 = n := Option.some.inj h; exact (by kernel_rfl : (Tryd.prog.info? 79).map (·.size) = some 1)
  | 80, n, h => by obtain rfl : 1 = n := Option.some.inj h; exact (by kernel_rfl : (Tryd.prog.info? 80).map (·.size) = some 1)
  | 81, n, h => by obtain rfl : 1 = n := Option.some.inj h; exact (by kernel_rfl : (Tryd.prog.info? 81).map (·.size) = some 1)
  | 82, n, h => by cases h
  | 83, n, h => by obtain rfl : 1 = n := Option.some.inj h; exact (by kernel_rfl : (Tryd.prog.info? 83).map (·.size) = some 1)
  | 84, n, h => by obtain rfl : 1 = n := Option.some.inj h; exact (by kernel_rfl : (Tryd.prog.info? 84).map (·.size) = some 1)
  | 85, n, h => by obtain rfl : 1 = n := Option.some.inj h; exact (by kernel_rfl : (Tryd.prog.info? 85).map (·.size) = some 1)
  | 86, n, h => by obtain rfl : 1 = n := Option.some.inj h; exact (by kernel_rfl : (Tryd.prog.info? 86).map (·.size) = some 1)
  | 87, n, h => by obtain rfl : 1 = n := Option.some.inj h; exact (by kernel_rfl : (Tryd.prog.info? 87).map (·.size) = some 1)
  | 88, n, h => by obtain rfl : 1 = n := Option.some.inj h; exact (by kernel_rfl : (Tryd.prog.info? 88).map (·.size) = some 1)
  | 89, n, h => by cases h
  | 90, n, h => by obtain rfl : 1 = n := Option.some.inj h; exact (by kernel_rfl : (Tryd.prog.info? 90).map (·.size) = some 1)
  | 91, n, h => by obtain rfl : 1 = n := Option.some.inj h; exact (by kernel_rfl : (Tryd.prog.info? 91).map (·.size) = some 1)
  | 92, n, h => by obtain rfl : 1 = n := Option.some.inj h; exact (by kernel_rfl : (Tryd.prog.info? 92).map (·.size) = some 1)
  | 93, n, h => by cases h
  | 94, n, h => by obtain rfl : 1 = n := Option.some.inj h; exact (by kernel_rfl : (Tryd.prog.info? 94).map (·.size) = some 1)
  | 95, n, h => by cases h
  | 96, n, h => by obtain rfl : 1 = n := Option.some.inj h; exact (by kernel_rfl : (Tryd.prog.info? 96).map (·.size) = some 1)
  | 97, n, h => by obtain rfl : 1 = n := Option.some.inj h; exact (by kernel_rfl : (Tryd.prog.info? 97).map (·.size) = some 1)
  | 98, n, h => by obtain rfl : 1 = n := Option.some.inj h; exact (by kernel_rfl : (Tryd.prog.info? 98).map (·.size) = some 1)
  | 99, n, h => by cases h
  | 100, n, h => by obtain rfl : 1 = n := Option.some.inj h; exact (by kernel_rfl : (Tryd.prog.info? 100).map (·.size) = some 1)
  | 101, n, h => by obtain rfl : 1 = n := Option.some.inj h; exact (by kernel_rfl : (Tryd.prog.info? 101).map (·.size) = some 1)
  | 102, n, h => by cases h
  | 103, n, h => by obtain rfl : 1 = n := Option.some.inj h; exact (by kernel_rfl : (Tryd.prog.info? 103).map (·.size) = some 1)
  | 104, n, h => by obtain rfl : 1 = n := Option.some.inj h; exact (by kernel_rfl : (Tryd.prog.info? 104).map (·.size) = some 1)
  | 105, n, h => by obtain rfl : 256 = n := Option.some.inj h; exact (by kernel_rfl : (Tryd.prog.info? 105).map (·.size) = some 256)
  | 106, n, h => by cases h
  | 107, n, h => by cases h
  | 108, n, h => by obtain rfl : 32 = n := Option.some.inj h; exact (by kernel_rfl : (Tryd.prog.info? 108).map (·.size) = some 32)
  | 109, n, h => by obtain rfl : 1 = n := Option.some.inj h; exact (by kernel_rfl : (Tryd.prog.info? 109).map (·.size) = some 1)
  | 110, n, h => by obtain rfl : 1 = n := Option.some.inj h; exact (by kernel_rfl : (Tryd.prog.info? 110).map (·.size) = some 1)
  | 111, n, h => by obtain rfl : 1 = n := Option.some.inj h; exact (by kernel_rfl : (Tryd.prog.info? 111).map (·.size) = some 1)
  | 112, n, h => by obtain rfl : 1 = n := Option.some.inj h; exact (by kernel_rfl : (Tryd.prog.info? 112).map (·.size) = some 1)
  | 113, n, h => by cases h
  | 114, n, h => by cases h
  | 115, n, h => by obtain rfl : 0 = n := Option.some.inj h; exact (by kernel_rfl : (Tryd.prog.info? 115).map (·.size) = some 0)
  | 116, n, h => by cases h
  | 117, n, h => by cases h
  | 118, n, h => by obtain rfl : 1 = n := Option.some.inj h; exact (by kernel_rfl : (Tryd.prog.info? 118).map (·.size) = some 1)
  | 119, n, h => by obtain rfl : 1 = n := Option.some.inj h; exact (by kernel_rfl : (Tryd.prog.info? 119).map (·.size) = some 1)
  | 120, n, h => by obtain rfl : 1 = n := Option.some.inj h; exact (by kernel_rfl : (Tryd.prog.info? 120).map (·.size) = some 1)
  | 121, n, h => by obtain rfl : 1 = n := Option.some.inj h; exact (by kernel_rfl : (Tryd.prog.info? 121).map (·.size) = some 1)
  | 122, n, h => by obtain rfl : 1 = n := Option.some.inj h; exact (by kernel_rfl : (Tryd.prog.info? 122).map (·.size) = some 1)
  | 123, n, h => by cases h
  | 124, n, h => by cases h
  | _ + 125, n, h => by cases h
theorem zcT_ok : ∀ t c, zcT t = some c → ∃ i z, Tryd.prog.info? t = some i ∧ i.zero = some z ∧ z.cells = (cc c).toArray
  | 0, c, h => by cases h
  | 1, c, h => by cases h
  | 2, c, h => by obtain rfl : _ = c := Option.some.inj h; exact zc_mk (by kernel_rfl)
  | 3, c, h => by obtain rfl : _ = c := Option.some.inj h; exact zc_mk (by kernel_rfl)
  | 4, c, h => by obtain rfl : _ = c := Option.some.inj h; exact zc_mk (by kernel_rfl)
  | 5, c, h => by obtain rfl : _ = c := Option.some.inj h; exact zc_mk (by kernel_rfl)
  | 6, c, h => by obtain rfl : _ = c := Option.some.inj h; exact zc_mk (by kernel_rfl)
  | 7, c, h => by cases h
  | 8, c, h => by cases h
  | 9, c, h => by obtain rfl : _ = c := Option.some.inj h; exact zc_mk (by kernel_rfl)
  | 10, c, h => by obtain rfl : _ = c := Option.some.inj h; exact zc_mk (by kernel_rfl)
  | 11, c, h => by obtain rfl : _ = c := Option.some.inj h; exact zc_mk (by kernel_rfl)
  | 12, c, h => by obtain rfl : _ = c := Option.some.inj h; exact zc_mk (by kernel_rfl)
  | 13, c, h => by cases h
  | 14, c, h => by cases h
  | 15, c, h => by cases h
  | 16, c, h => by cases h
  | 17, c, h => by cases h
  | 18, c, h => by cases h
  | 19, c, h => by cases h
  | 20, c, h => by cases h
  | 21, c, h => by obtain rfl : _ = c := Option.some.inj h; exact zc_mk (by kernel_rfl)
  | 22, c, h => by obtain rfl : _ = c := Option.some.inj h; exact zc_mk (by kernel_rfl)
  | 23, c, h => by obtain rfl : _ = c := Option.some.inj h; exact zc_mk (by kernel_rfl)
  | 24, c, h => by obtain rfl : _ = c := Option.some.inj h; exact zc_mk (by kernel_rfl)
  | 25, c, h => by obtain rfl : _ = c := Option.some.inj h; exact zc_mk (by kernel_rfl)
  | 26, c, h => by cases h
  | 27, c, h => by cases h
  | 28, c, h => by cases h
  | 29, c, h => by cases h
  | 30, c, h => by obtain rfl : _ = c := Option.some.inj h; exact zc_mk (by kernel_rfl)
  | 31, c, h => by obtain rfl : _ = c := Option.some.inj h; exact zc_mk (by kernel_rfl)
  | 32, c, h => by cases h
  | 33, c, h => by cases h
  | 34, c, h => by cases h
  | 35, c, h => by cases h
  | 36, c, h => by cases h
  | 37, c, h => by cases h
  | 38, c, h => by cases h
  | 39, c, h => by cases h
  | 40, c, h => by obtain rfl : _ = c := Option.some.inj h; exact zc_mk (by kernel_rfl)
  | 41, c, h => by obtain rfl : _ = c := Option.some.inj h; exact zc_mk (by kernel_rfl)
  | 42, c, h => by cases h
  | 43, c, h => by cases h
  | 44, c, h => by cases h
  | 45, c, h => by cases h
  | 46, c, h => by cases h
  | 47, c, h => by cases h
  | 48, c, h => by cases h
  | 49, c, h => by obtain rfl : _ = c := Option.some.inj h; exact zc_mk (by kernel_rfl)
  | 50, c, h => by cases h
  | 51, c, h => by cases h
  | 52, c, h => by cases h
  | 53, c, h => by cases h
  | 54, c, h => by cases h
  | 55, c, h => by cases h
  | 56, c, h => by obtain rfl : _ = c := Option.some.inj h; exact zc_mk (by kernel_rfl)
  | 57, c, h => by cases h
  | 58, c, h => by cases h
  | 59, c, h => by cases h
  | 60, c, h => by cases h
  | 61, c, h => by cases h
  | 62, c, h => by cases h
  | 63, c, h => by cases h
  | 64, c, h => by cases h
  | 65, c, h => by cases h
  | 66, c, h => by cases h
  | 67, c, h => by cases h
  | 68, c, h => by cases h
  | 69, c, h => by cases h
  | 70, c, h => by cases h
  | 71, c, h => by cases h
  | 72, c, h => by cases h
  | 73, c, h => by cases h
  | 74, c, h => by cases h
  | 75, c, h => by cases h
  | 76, c, h => by cases h
  | 77, c, h => by cases h
  | 78, c, h => by cases h
  | 79, c, h => by cases h
  | 80, c, h => by cases h
  | 81, c, h => by cases h
  | 82, c, h => by cases h
  | 83, c, h => by cases h
  | 84, c, h => by cases h
  | 85, c, h => by cases h
  | 86, c, h => by cases h
  | 87, c, h => by cases h
  | 88, c, h => by cases h
  | 89, c, h => by cases h
  | 90, c, h => by cases h
  | 91, c, h => by cases h
  | 92, c, h => by obtain rfl : _ = c := Option.some.inj h; exact zc_mk (by kernel_rfl)
  | 93, c, h => by cases h
  | 94, c, h => by cases h
  | 95, c, h => by cases h
  | 96, c, h => by cases h
  | 97, c, h => by cases h
  | 98, c, h => by cases h
  | 99, c, h => by cases h
  | 100, c, h => by cases h
  | 101, c, h => by cases h
  | 102, c, h => by cases h
  | 103, c, h => by cases h
  | 104, c, h => by cases h
  | 105, c, h => by obtain rfl : _ = c := Option.some.inj h; exact zc_mk (by kernel_rfl)
  | 106, c, h => by cases h
  | 107, c, h => by cases h
  | 108, c, h => by cases h
  | 109, c, h => by cases h
  | 110, c, h => by cases h
  | 111, c, h => by cases h
  | 112, c, h => by cases h
  | 113, c, h => by cases h
  | 114, c, h => by cases h
  | 115, c, h => by cases h
  | 116, c, h => by cases h
  | 117, c, h => by cases h
  | 118, c, h => by obtain rfl : _ = c := Option.some.inj h; exact zc_mk (by kernel_rfl)
  | 119, c, h => by obtain rfl : _ = c := Option.some.inj h; exact zc_mk (by kernel_rfl)
  | 120, c, h => by cases h
  | 121, c, h => by obtain rfl : _ = c := Option.some.inj h; exact zc_mk (by kernel_rfl)
  | 122, c, h => by obtain rfl : _ = c := Option.some.inj h; exact zc_mk (by kernel_rfl)
  | 123, c, h => by cases h
  | 124, c, h => by cases h
  | _ + 125, c, h => by cases h
theorem zrT_ok : ∀ t, zrT t ≠ [] → ∃ i z, Tryd.prog.info? t = some i ∧ i.zero = some z ∧ z.cells = (cvs (zrT t)).toArray
  | 0, h => absurd rfl h
  | 1, h => absurd rfl h
  | 2, h => absurd rfl h
  | 3, h => absurd rfl h
  | 4, h => absurd rfl h
  | 5, h => absurd rfl h
  | 6, h => absurd rfl h
  | 7, h => absurd rfl h
  | 8, h => absurd rfl h
  | 9, h => absurd rfl h
  | 10, h => absurd rfl h
  | 11, h => absurd rfl h
  | 12, h => absurd rfl h
  | 13, h => absurd rfl h
  | 14, h => absurd rfl h
  | 15, h => absurd rfl h
  | 16, h => absurd rfl h
  | 17, h => absurd rfl h
  | 18, h => absurd rfl h
  | 19, h => absurd rfl h
  | 20, h => absurd rfl h
  | 21, h => absurd rfl h
  | 22, h => absurd rfl h
  | 23, h => absurd rfl h
  | 24, _ => zr_mk (by kernel_rfl)
  | 25, _ => zr_mk (by kernel_rfl)
  | 26, h => absurd rfl h
  | 27, h => absurd rfl h
  | 28, h => absurd rfl h
  | 29, h => absurd rfl h
  | 30, h => absurd rfl h
  | 31, h => absurd rfl h
  | 32, h => absurd rfl h
  | 33, h => absurd rfl h
  | 34, h => absurd rfl h
  | 35, h => absurd rfl h
  | 36, h => absurd rfl h
  | 37, h => absurd rfl h
  | 38, h => absurd rfl h
  | 39, h => absurd rfl h
  | 40, _ => zr_mk (by kernel_rfl)
  | 41, _ => zr_mk (by kernel_rfl)
  | 42, h => absurd rfl h
  | 43, h => absurd rfl h
  | 44, h => absurd rfl h
  | 45, h => absurd rfl h
  | 46, h => absurd rfl h
  | 47, h => absurd rfl h
  | 48, h => absurd rfl h
  | 49, h => absurd rfl h
  | 50, h => absurd rfl h
  | 51, h => absurd rfl h
  | 52, h => absurd rfl h
  | 53, h => absurd rfl h
  | 54, h => absurd rfl h
  | 55, h => absurd rfl h
  | 56, h => absurd rfl h
  | 57, h => absurd rfl h
  | 58, h => absurd rfl h
  | 59, h => absurd rfl h
  | 60, h => absurd rfl h
  | 61, h => absurd rfl h
  | 62, h => absurd rfl h
  | 63, h => absurd rfl h
  | 64, h => absurd rfl h
  | 65, h => absurd rfl h
  | 66, h => absurd rfl h
  | 67, h => absurd rfl h
  | 68, h => absurd rfl h
  | 69, h => absurd rfl h
  | 70, h => absurd rfl h
  | 71, h => absurd rfl h
  | 72, h => absurd rfl h
  | 73, h => absurd rfl h
  | 74, h => absurd rfl h
  | 75, h => absurd rfl h
  | 76, h => absurd rfl h
  | 77, h => absurd rfl h
  | 78, h => absurd rfl h
  | 79, h => absurd rfl h
  | 80, h => absurd rfl h
  | 81, h => absurd rfl h
  | 82, h => absurd rfl h
  | 83, h => absurd rfl h
  | 84, h => absurd rfl h
  | 85, h => absurd rfl h
  | 86, h => absurd rfl h
  | 87, h => absurd rfl h
  | 88, h => absurd rfl h
  | 89, h => absurd rfl h
  | 90, h => absurd rfl h
  | 91, h => absurd rfl h
  | 92, h => absurd rfl h
  | 93, h => absurd rfl h
  | 94, h => absurd rfl h
  | 95, h => absurd rfl h
  | 96, h => absurd rfl h
  | 97, h => absurd rfl h
  | 98, h => absurd rfl h
  | 99, h => absurd rfl h
  | 100, h => absurd rfl h
  | 101, h => absurd rfl h
  | 102, h => absurd rfl h
  | 103, h => absurd rfl h
  | 104, h => absurd rfl h
  | 105, h => absurd rfl h
  | 106, h => absurd rfl h
  | 107, h => absurd rfl h
  | 108, h => absurd rfl h
  | 109, h => absurd rfl h
  | 110, h => absurd rfl h
  | 111, h => absurd rfl h
  | 112, h => absurd rfl h
  | 113, h => absurd rfl h
  | 114, h => absurd rfl h
  | 115, h => absurd rfl h
  | 116, h => absurd rfl h
  | 117, h => absurd rfl h
  | 118, h => absurd rfl h
  | 119, h => absurd rfl h
  | 120, h => absurd rfl h
  | 121, h => absurd rfl h
  | 122, h => absurd rfl h
  | 123, h => absurd rfl h
  | 124, h => absurd rfl h
  | _ + 125, h => absurd rfl h
theorem b8T_ok : ∀ e, tyT e = .int .u8 → ∃ i, Tryd.prog.info? e = some i ∧ i.zero = some (.int .u8 0) ∧ i.size = 1 ∧ i.bytes = 1
  | 0, h => by cases h
  | 1, h => by cases h
  | 2, h => by cases h
  | 3, h => by cases h
  | 4, h => by cases h
  | 5, _ => b8_mk (by kernel_rfl)
  | 6, _ => b8_mk (by kernel_rfl)
  | 7, h => by cases h
  | 8, h => by cases h
  | 9, h => by cases h
  | 10, h => by cases h
  | 11, h => by cases h
  | 12, h => by cases h
  | 13, h => by cases h
  | 14, h => by cases h
  | 15, h => by cases h
  | 16, h => by cases h
  | 17, h => by cases h
  | 18, h => by cases h
  | 19, h => by cases h
  | 20, h => by cases h
  | 21, h => by cases h
  | 22, h => by cases h
  | 23, h => by cases h
  | 24, h => by cases h
  | 25, h => by cases h
  | 26, h => by cases h
  | 27, h => by cases h
  | 28, h => by cases h
  | 29, h => by cases h
  | 30, h => by cases h
  | 31, h => by cases h
  | 32, h => by cases h
  | 33, h => by cases h
  | 34, h => by cases h
  | 35, h => by cases h
  | 36, h => by cases h
  | 37, h => by cases h
  | 38, h => by cases h
  | 39, h => by cases h
  | 40, h => by cases h
  | 41, h => by cases h
  | 42, h => by cases h
  | 43, h => by cases h
  | 44, h => by cases h
  | 45, h => by cases h
  | 46, h => by cases h
  | 47, h => by cases h
  | 48, h => by cases h
  | 49, h => by cases h
  | 50, h => by cases h
  | 51, h => by cases h
  | 52, h => by cases h
  | 53, h => by cases h
  | 54, h => by cases h
  | 55, h => by cases h
  | 56, h => by cases h
  | 57, h => by cases h
  | 58, h => by cases h
  | 59, h => by cases h
  | 60, h => by cases h
  | 61, h => by cases h
  | 62, h => by cases h
  | 63, h => by cases h
  | 64, h => by cases h
  | 65, h => by cases h
  | 66, h => by cases h
  | 67, h => by cases h
  | 68, h => by cases h
  | 69, h => by cases h
  | 70, h => by cases h
  | 71, h => by cases h
  | 72, h => by cases h
  | 73, h => by cases h
  | 74, h => by cases h
  | 75, h => by cases h
  | 76, h => by cases h
  | 77, h => by cases h
  | 78, h => by cases h
  | 79, h => by cases h
  | 80, h => by cases h
  | 81, h => by cases h
  | 82, h => by cases h
  | 83, h => by cases h
  | 84, h => by cases h
  | 85, h => by cases h
  | 86, h => by cases h
  | 87, h => by cases h
  | 88, h => by cases h
  | 89, h => by cases h
  | 90, h => by cases h
  | 91, h => by cases h
  | 92, h => by cases h
  | 93, h => by cases h
  | 94, h => by cases h
  | 95, h => by cases h
  | 96, h => by cases h
  | 97, h => by cases h
  | 98, h => by cases h
  | 99, h => by cases h
  | 100, h => by cases h
  | 101, h => by cases h
  | 102, h => by cases h
  | 103, h => by cases h
  | 104, h => by cases h
  | 105, h => by cases h
  | 106, h => by cases h
  | 107, h => by cases h
  | 108, h => by cases h
  | 109, h => by cases h
  | 110, h => by cases h
  | 111, h => by cases h
  | 112, h => by cases h
  | 113, h => by cases h
  | 114, h => by cases h
  | 115, h => by cases h
  | 116, h => by cases h
  | 117, h => by cases h
  | 118, _ => b8_mk (by kernel_rfl)
  | 119, _ => b8_mk (by kernel_rfl)
  | 120, h => by cases h
  | 121, h => by cases h
  | 122, h => by cases h
  | 123, h => by cases h
  | 124, h => by cases h
  | _ + 125, h => by cases h
theorem ty_3 : T0.ty 3 = .int .i64 := rfl
theorem zc_3 : T0.zc 3 = some (.ints .i64 [0]) := rfl
theorem ty_4 : T0.ty 4 = .bool := rfl
theorem zc_4 : T0.zc 4 = some (.cells [.bool false]) := rfl
theorem ty_5 : T0.ty 5 = .int .u8 := rfl
theorem zc_5 : T0.zc 5 = some (.ints .u8 [0]) := rfl
theorem ty_9 : T0.ty 9 = .str := rfl
theorem zc_9 : T0.zc 9 = some (.cells [.str []]) := rfl
theorem ty_21 : T0.ty 21 = .int .i32 := rfl
theorem zc_21 : T0.zc 21 = some (.ints .i32 [0]) := rfl
theorem ty_22 : T0.ty 22 = .sl 5 1 1 := rfl
theorem zc_22 : T0.zc 22 = some (.cells [.nilsl]) := rfl
theorem ty_23 : T0.ty 23 = .int .u64 := rfl
theorem zc_23 : T0.zc 23 = some (.ints .u64 [0]) := rfl
theorem ty_25 : T0.ty 25 = .word := rfl
theorem zc_25 : T0.zc 25 = some (.words [0]) := rfl
theorem zr_25 : T0.zr 25 = [.int .u64 0, .int .u64 0, .int .u64 0, .int .u64 0] := rfl
theorem ty_31 : T0.ty 31 = .int .u16 := rfl
theorem zc_31 : T0.zc 31 = some (.ints .u16 [0]) := rfl
theorem ty_41 : T0.ty 41 = .arr 20 5 1 (some .u8) := rfl
theorem zc_41 : T0.zc 41 = some (.ints .u8 (List.replicate 20 0)) := rfl
theorem zr_41 : T0.zr 41 = [.int .u8 0, .int .u8 0, .int .u8 0, .int .u8 0, .int .u8 0, .int .u8 0, .int .u8 0, .int .u8 0, .int .u8 0, .int .u8 0, .int .u8 0, .int .u8 0, .int .u8 0, .int .u8 0, .int .u8 0, .int .u8 0, .int .u8 0, .int .u8 0, .int .u8 0, .int .u8 0] := rfl
theorem ty_49 : T0.ty 49 = .int .u64 := rfl
theorem zc_49 : T0.zc 49 = some (.ints .u64 [0]) := rfl
theorem ty_56 : T0.ty 56 = .sl 3 1 8 := rfl
theorem zc_56 : T0.zc 56 = some (.cells [.nilsl]) := rfl
theorem ty_66 : T0.ty 66 = .arr 256 4 1 none := rfl
theorem ty_70 : T0.ty 70 = .ptr 66 := rfl
theorem ty_76 : T0.ty 76 = .ptr 78 := rfl
theorem ty_92 : T0.ty 92 = .int .u32 := rfl
theorem zc_92 : T0.zc 92 = some (.ints .u32 [0]) := rfl
theorem ty_97 : T0.ty 97 = .ptr 5 := rfl
theorem ty_105 : T0.ty 105 = .arr 256 5 1 (some .u8) := rfl
theorem zc_105 : T0.zc 105 = some (.ints .u8 (List.replicate 256 0)) := rfl
theorem ty_108 : T0.ty 108 = .arr 16 107 2 none := rfl
theorem st_0 : strI ⟨#[]⟩ = [] := by kernel_rfl
theorem st_1 : strI ⟨#[48, 120, 65]⟩ = [48, 120, 65] := by kernel_rfl
theorem st_2 : strI ⟨#[48, 120, 48, 48]⟩ = [48, 120, 48, 48] := by kernel_rfl
theorem st_3 : strI ⟨#[48, 120]⟩ = [48, 120] := by kernel_rfl
theorem st_4 : strI ⟨#[48, 120, 48, 97, 102, 102]⟩ = [48, 120, 48, 97, 102, 102] := by kernel_rfl
theorem st_5 : strI ⟨#[48, 120, 49, 48, 48]⟩ = [48, 120, 49, 48, 48] := by kernel_rfl
theorem st_6 : strI ⟨#[48, 120, 48]⟩ = [48, 120, 48] := by kernel_rfl
theorem st_7 : strI ⟨#[48, 49, 50, 51, 52, 53, 54, 55, 56, 57, 97, 98, 99, 100, 101, 102]⟩ = [48, 49, 50, 51, 52, 53, 54, 55, 56, 57, 97, 98, 99, 100, 101, 102] := by kernel_rfl
theorem st_8 : strI ⟨#[48]⟩ = [48] := by kernel_rfl
theorem st_9 : strI ⟨#[115, 116, 114, 105, 110, 103, 115, 58, 32, 110, 101, 103, 97, 116, 105, 118, 101, 32, 82, 101, 112, 101, 97, 116, 32, 99, 111, 117, 110, 116]⟩ = [115, 116, 114, 105, 110, 103, 115, 58, 32, 110, 101, 103, 97, 116, 105, 118, 101, 32, 82, 101, 112, 101, 97, 116, 32, 99, 111, 117, 110, 116] := by kernel_rfl
theorem st_10 : strI ⟨#[115, 116, 114, 105, 110, 103, 115, 58, 32, 82, 101, 112, 101, 97, 116, 32, 111, 117, 116, 112, 117, 116, 32, 108, 101, 110, 103, 116, 104, 32, 111, 118, 101, 114, 102, 108, 111, 119]⟩ = [115, 116, 114, 105, 110, 103, 115, 58, 32, 82, 101, 112, 101, 97, 116, 32, 111, 117, 116, 112, 117, 116, 32, 108, 101, 110, 103, 116, 104, 32, 111, 118, 101, 114, 102, 108, 111, 119] := by kernel_rfl
theorem st_11 : strI ⟨#[48, 48, 48, 48, 48, 48, 48, 48, 48, 48, 48, 48, 48, 48, 48, 48, 48, 48, 48, 48, 48, 48, 48, 48, 48, 48, 48, 48, 48, 48, 48, 48, 48, 48, 48, 48, 48, 48, 48, 48, 48, 48, 48, 48, 48, 48, 48, 48, 48, 48, 48, 48, 48, 48, 48, 48, 48, 48, 48, 48, 48, 48, 48, 48]⟩ = [48, 48, 48, 48, 48, 48, 48, 48, 48, 48, 48, 48, 48, 48, 48, 48, 48, 48, 48, 48, 48, 48, 48, 48, 48, 48, 48, 48, 48, 48, 48, 48, 48, 48, 48, 48, 48, 48, 48, 48, 48, 48, 48, 48, 48, 48, 48, 48, 48, 48, 48, 48, 48, 48, 48, 48, 48, 48, 48, 48, 48, 48, 48, 48] := by kernel_rfl
theorem st_12 : strI ⟨#[9, 9, 9, 9, 9, 9, 9, 9, 9, 9, 9, 9, 9, 9, 9, 9, 9, 9, 9, 9, 9, 9, 9, 9, 9, 9, 9, 9, 9, 9, 9, 9, 9, 9, 9, 9, 9, 9, 9, 9, 9, 9, 9, 9, 9, 9, 9, 9, 9, 9, 9, 9, 9, 9, 9, 9, 9, 9, 9, 9, 9, 9, 9, 9]⟩ = [9, 9, 9, 9, 9, 9, 9, 9, 9, 9, 9, 9, 9, 9, 9, 9, 9, 9, 9, 9, 9, 9, 9, 9, 9, 9, 9, 9, 9, 9, 9, 9, 9, 9, 9, 9, 9, 9, 9, 9, 9, 9, 9, 9, 9, 9, 9, 9, 9, 9, 9, 9, 9, 9, 9, 9, 9, 9, 9, 9, 9, 9, 9, 9] := by kernel_rfl
theorem st_13 : strI ⟨#[115, 116, 114, 105, 110, 103, 115, 46, 66, 117, 105, 108, 100, 101, 114, 46, 71, 114, 111, 119, 58, 32, 110, 101, 103, 97, 116, 105, 118, 101, 32, 99, 111, 117, 110, 116]⟩ = [115, 116, 114, 105, 110, 103, 115, 46, 66, 117, 105, 108, 100, 101, 114, 46, 71, 114, 111, 119, 58, 32, 110, 101, 103, 97, 116, 105, 118, 101, 32, 99, 111, 117, 110, 116] := by kernel_rfl
set_option linter.defProp false in
def tabs := And.intro @ty_3 <| And.intro @zc_3 <| And.intro @ty_4 <| And.intro @zc_4 <| And.intro @ty_5 <| And.intro @zc_5 <| And.intro @ty_9 <| And.intro @zc_9 <| And.intro @ty_21 <| And.intro @zc_21 <| And.intro @ty_22 <| And.intro @zc_22 <| And.intro @ty_23 <| And.intro @zc_23 <| And.intro @ty_25 <| And.intro @zc_25 <| And.intro @zr_25 <| And.intro @ty_31 <| And.intro @zc_31 <| And.intro @ty_41 <| And.intro @zc_41 <| And.intro @zr_41 <| And.intro @ty_49 <| And.intro @zc_49 <| And.intro @ty_56 <| And.intro @zc_56 <| And.intro @ty_66 <| And.intro @ty_70 <| And.intro @ty_76 <| And.intro @ty_92 <| And.intro @zc_92 <| And.intro @ty_97 <| And.intro @ty_105 <| And.intro @zc_105 <| And.intro @ty_108 <| And.intro @st_0 <| And.intro @st_1 <| And.intro @st_2 <| And.intro @st_3 <| And.intro @st_4 <| And.intro @st_5 <| And.intro @st_6 <| And.intro @st_7 <| And.intro @st_8 <| And.intro @st_9 <| And.intro @st_10 <| And.intro @st_11 <| And.intro @st_12 <| @st_13
theorem T0_ok : TabOk Tryd.prog T0 := { b8 := b8T_ok, sz := szT_ok, zc := zcT_ok, ty := tyT_ok, gl := fun _ => rfl, zr := zrT_ok }
end Go.Proofs.YtcmgndhkdnjmnaaDoor

/-
  The table of this translation's types.
-/
import Derived.Test.YtkljpgdcmahenaaRows
import Derived.Test.YtkljpgdcmahenaaEB
namespace Go.Proofs.Ytkljpgdcmahenaa
set_option linter.unusedSimpArgs false
set_option linter.unusedVariables false
open Go.RowKit
def tyT : Nat → Ty
  | 1 => .cell
  | 2 => .int .i64
  | 3 => .int .i64
  | 4 => .bool
  | 5 => .int .u8
  | 6 => .int .u8
  | 9 => .str
  | 10 => .str
  | 11 => .str
  | 12 => .int .u64
  | 15 => .ptr 89
  | 16 => .ptr 92
  | 17 => .ptr 102
  | 20 => .cell
  | 21 => .int .i32
  | 22 => .int .u64
  | 23 => .arr 4 22 1 (some .u64)
  | 24 => .word
  | 26 => .cell
  | 27 => .cell
  | 28 => .cell
  | 29 => .cell
  | 31 => .cell
  | 32 => .cell
  | 33 => .cell
  | 34 => .cell
  | 35 => .sl 5 1 1
  | 36 => .arr 20 5 1 (some .u8)
  | 37 => .arr 20 5 1 (some .u8)
  | 39 => .cell
  | 40 => .cell
  | 41 => .cell
  | 42 => .cell
  | 43 => .cell
  | 44 => .cell
  | 45 => .cell
  | 46 => .cell
  | 47 => .cell
  | 48 => .int .u64
  | 49 => .cell
  | 50 => .cell
  | 52 => .cell
  | 53 => .cell
  | 54 => .arr 8 22 1 (some .u64)
  | 55 => .arr 8 22 1 (some .u64)
  | 56 => .cell
  | 57 => .sl 22 1 8
  | 58 => .cell
  | 59 => .cell
  | 60 => .arr 16 22 1 (some .u64)
  | 61 => .cell
  | 62 => .cell
  | 63 => .cell
  | 64 => .cell
  | 65 => .cell
  | 66 => .cell
  | 67 => .cell
  | 68 => .cell
  | 69 => .cell
  | 71 => .cell
  | 72 => .cell
  | 73 => .cell
  | 74 => .cell
  | 75 => .cell
  | 76 => .cell
  | 77 => .cell
  | 78 => .cell
  | 79 => .arr 9 22 1 (some .u64)
  | 80 => .cell
  | 81 => .cell
  | 82 => .cell
  | 83 => .cell
  | 84 => .cell
  | 85 => .cell
  | 86 => .ptr 104
  | 87 => .cell
  | 90 => .arr 0 16 1 none
  | 93 => .cell
  | 94 => .int .u32
  | 95 => .int .u8
  | 96 => .int .u8
  | 97 => .cell
  | 98 => .ptr 5
  | 99 => .int .i32
  | 100 => .int .i32
  | _ => .other
def zcT : Nat → Option Con
  | 2 => some (.ints .i64 [0])
  | 3 => some (.ints .i64 [0])
  | 4 => some (.cells [.bool false])
  | 5 => some (.ints .u8 [0])
  | 6 => some (.ints .u8 [0])
  | 9 => some (.cells [.str ⟨#[]⟩])
  | 10 => some (.cells [.str ⟨#[]⟩])
  | 11 => some (.cells [.str ⟨#[]⟩])
  | 12 => some (.ints .u64 [0])
  | 21 => some (.ints .i32 [0])
  | 22 => some (.ints .u64 [0])
  | 23 => some (.ints .u64 (List.replicate 4 0))
  | 24 => some (.words [0])
  | 35 => some (.cells [.nilsl])
  | 36 => some (.ints .u8 (List.replicate 20 0))
  | 37 => some (.ints .u8 (List.replicate 20 0))
  | 48 => some (.ints .u64 [0])
  | 54 => some (.ints .u64 (List.replicate 8 0))
  | 55 => some (.ints .u64 (List.replicate 8 0))
  | 57 => some (.cells [.nilsl])
  | 60 => some (.ints .u64 (List.replicate 16 0))
  | 79 => some (.ints .u64 (List.replicate 9 0))
  | 94 => some (.ints .u32 [0])
  | 95 => some (.ints .u8 [0])
  | 96 => some (.ints .u8 [0])
  | 99 => some (.ints .i32 [0])
  | 100 => some (.ints .i32 [0])
  | _ => none
def zrT : Nat → List SV
  | 23 => [.int .u64 0, .int .u64 0, .int .u64 0, .int .u64 0]
  | 24 => [.int .u64 0, .int .u64 0, .int .u64 0, .int .u64 0]
  | 36 => [.int .u8 0, .int .u8 0, .int .u8 0, .int .u8 0, .int .u8 0, .int .u8 0, .int .u8 0, .int .u8 0, .int .u8 0, .int .u8 0, .int .u8 0, .int .u8 0, .int .u8 0, .int .u8 0, .int .u8 0, .int .u8 0, .int .u8 0, .int .u8 0, .int .u8 0, .int .u8 0]
  | 37 => [.int .u8 0, .int .u8 0, .int .u8 0, .int .u8 0, .int .u8 0, .int .u8 0, .int .u8 0, .int .u8 0, .int .u8 0, .int .u8 0, .int .u8 0, .int .u8 0, .int .u8 0, .int .u8 0, .int .u8 0, .int .u8 0, .int .u8 0, .int .u8 0, .int .u8 0, .int .u8 0]
  | 54 => [.int .u64 0, .int .u64 0, .int .u64 0, .int .u64 0, .int .u64 0, .int .u64 0, .int .u64 0, .int .u64 0]
  | 55 => [.int .u64 0, .int .u64 0, .int .u64 0, .int .u64 0, .int .u64 0, .int .u64 0, .int .u64 0, .int .u64 0]
  | 60 => [.int .u64 0, .int .u64 0, .int .u64 0, .int .u64 0, .int .u64 0, .int .u64 0, .int .u64 0, .int .u64 0, .int .u64 0, .int .u64 0, .int .u64 0, .int .u64 0, .int .u64 0, .int .u64 0, .int .u64 0, .int .u64 0]
  | 79 => [.int .u64 0, .int .u64 0, .int .u64 0, .int .u64 0, .int .u64 0, .int .u64 0, .int .u64 0, .int .u64 0, .int .u64 0]
  | _ => []
def T0 : Tab := { ty := tyT, zr := zrT, zc := zcT, gl := fun g => .raw (.pointer (some ⟨g, 0, none⟩)) }
theorem tyOk1 : TyOk1 Try.prog 1 (.cell) := fun w => by kernel_rfl
theorem tyOk2 : TyOk1 Try.prog 2 (.int .i64) := (by kernel_rfl : Try.prog.underlying 2 = some (.int .i64))
theorem tyOk3 : TyOk1 Try.prog 3 (.int .i64) := (by kernel_rfl : Try.prog.underlying 3 = some (.int .i64))
theorem tyOk4 : TyOk1 Try.prog 4 (.bool) := (by kernel_rfl : Try.prog.underlying 4 = some (.bool))
theorem tyOk5 : TyOk1 Try.prog 5 (.int .u8) := (by kernel_rfl : Try.prog.underlying 5 = some (.int .u8))
theorem tyOk6 : TyOk1 Try.prog 6 (.int .u8) := (by kernel_rfl : Try.prog.underlying 6 = some (.int .u8))
theorem tyOk9 : TyOk1 Try.prog 9 (.str) := (by kernel_rfl : Try.prog.underlying 9 = some (.string))
theorem tyOk10 : TyOk1 Try.prog 10 (.str) := (by kernel_rfl : Try.prog.underlying 10 = some (.string))
theorem tyOk11 : TyOk1 Try.prog 11 (.str) := (by kernel_rfl : Try.prog.underlying 11 = some (.string))
theorem tyOk12 : TyOk1 Try.prog 12 (.int .u64) := (by kernel_rfl : Try.prog.underlying 12 = some (.int .u64))
theorem tyOk15 : TyOk1 Try.prog 15 (.ptr 89) := (by kernel_rfl : Try.prog.underlying 15 = some (.pointer 89))
theorem tyOk16 : TyOk1 Try.prog 16 (.ptr 92) := (by kernel_rfl : Try.prog.underlying 16 = some (.pointer 92))
theorem tyOk17 : TyOk1 Try.prog 17 (.ptr 102) := (by kernel_rfl : Try.prog.underlying 17 = some (.pointer 102))
theorem tyOk20 : TyOk1 Try.prog 20 (.cell) := fun w => by kernel_rfl
theorem tyOk21 : TyOk1 Try.prog 21 (.int .i32) := (by kernel_rfl : Try.prog.underlying 21 = some (.int .i32))
theorem tyOk22 : TyOk1 Try.prog 22 (.int .u64) := (by kernel_rfl : Try.prog.underlying 22 = some (.int .u64))
theorem tyOk23 : TyOk1 Try.prog 23 (.arr 4 22 1 (some .u64)) := ⟨(by kernel_rfl : Try.prog.underlying 23 = some (.array 4 22)), (by kernel_rfl : (Try.prog.info? 22).map (·.size) = some 1), (by kernel_rfl : (Try.prog.info? 23).map (·.size) = some 4), (by kernel_rfl : Try.prog.eqGuardType Try.prog.depth 23 = false), fun k h => by cases h; exact (by kernel_rfl : Try.prog.underlying 22 = some (.int .u64))⟩
theorem tyOk24 : TyOk1 Try.prog 24 (.word) := ⟨22, (by kernel_rfl : Try.prog.underlying 24 = some (.array 4 22)), (by kernel_rfl : Try.prog.underlying 22 = some (.int .u64)), (by kernel_rfl : (Try.prog.info? 22).map (·.size) = some 1), (by kernel_rfl : (Try.prog.info? 24).map (·.size) = some 4), (by kernel_rfl : Try.prog.eqGuardType Try.prog.depth 24 = false)⟩
theorem tyOk26 : TyOk1 Try.prog 26 (.cell) := fun w => by kernel_rfl
theorem tyOk27 : TyOk1 Try.prog 27 (.cell) := fun w => by kernel_rfl
theorem tyOk28 : TyOk1 Try.prog 28 (.cell) := fun w => by kernel_rfl
theorem tyOk29 : TyOk1 Try.prog 29 (.cell) := fun w => by kernel_rfl
theorem tyOk31 : TyOk1 Try.prog 31 (.cell) := fun w => by kernel_rfl
theorem tyOk32 : TyOk1 Try.prog 32 (.cell) := fun w => by kernel_rfl
theorem tyOk33 : TyOk1 Try.prog 33 (.cell) := fun w => by kernel_rfl
theorem tyOk34 : TyOk1 Try.prog 34 (.cell) := fun w => by kernel_rfl
theorem tyOk35 : TyOk1 Try.prog 35 (.sl 5 1 1) := sl_mk (by kernel_rfl : Try.prog.underlying 35 = some (.slice 5)) (by decide) (by kernel_rfl : (Try.prog.info? 5).map (·.size) = some 1) (by kernel_rfl : (Try.prog.info? 5).map (·.bytes) = some 1) (by kernel_rfl : ((Try.prog.info? 5).bind (·.zero)).map (·.cells.size) = some 1)
theorem tyOk36 : TyOk1 Try.prog 36 (.arr 20 5 1 (some .u8)) := ⟨(by kernel_rfl : Try.prog.underlying 36 = some (.array 20 5)), (by kernel_rfl : (Try.prog.info? 5).map (·.size) = some 1), (by kernel_rfl : (Try.prog.info? 36).map (·.size) = some 20), (by kernel_rfl : Try.prog.eqGuardType Try.prog.depth 36 = false), fun k h => by cases h; exact (by kernel_rfl : Try.prog.underlying 5 = some (.int .u8))⟩
theorem tyOk37 : TyOk1 Try.prog 37 (.arr 20 5 1 (some .u8)) := ⟨(by kernel_rfl : Try.prog.underlying 37 = some (.array 20 5)), (by kernel_rfl : (Try.prog.info? 5).map (·.size) = some 1), (by kernel_rfl : (Try.prog.info? 37).map (·.size) = some 20), (by kernel_rfl : Try.prog.eqGuardType Try.prog.depth 37 = false), fun k h => by cases h; exact (by kernel_rfl : Try.prog.underlying 5 = some (.int .u8))⟩
theorem tyOk39 : TyOk1 Try.prog 39 (.cell) := fun w => by kernel_rfl
theorem tyOk40 : TyOk1 Try.prog 40 (.cell) := fun w => by kernel_rfl
theorem tyOk41 : TyOk1 Try.prog 41 (.cell) := fun w => by kernel_rfl
theorem tyOk42 : TyOk1 Try.prog 42 (.cell) := fun w => by kernel_rfl
theorem tyOk43 : TyOk1 Try.prog 43 (.cell) := fun w => by kernel_rfl
theorem tyOk44 : TyOk1 Try.prog 44 (.cell) := fun w => by kernel_rfl
theorem tyOk45 : TyOk1 Try.prog 45 (.cell) := fun w => by kernel_rfl
theorem tyOk46 : TyOk1 Try.prog 46 (.cell) := fun w => by kernel_rfl
theorem tyOk47 : TyOk1 Try.prog 47 (.cell) := fun w => by kernel_rfl
theorem tyOk48 : TyOk1 Try.prog 48 (.int .u64) := (by kernel_rfl : Try.prog.underlying 48 = some (.int .u64))
theorem tyOk49 : TyOk1 Try.prog 49 (.cell) := fun w => by kernel_rfl
theorem tyOk50 : TyOk1 Try.prog 50 (.cell) := fun w => by kernel_rfl
theorem tyOk52 : TyOk1 Try.prog 52 (.cell) := fun w => by kernel_rfl
theorem tyOk53 : TyOk1 Try.prog 53 (.cell) := fun w => by kernel_rfl
theorem tyOk54 : TyOk1 Try.prog 54 (.arr 8 22 1 (some .u64)) := ⟨(by kernel_rfl : Try.prog.underlying 54 = some (.array 8 22)), (by kernel_rfl : (Try.prog.info? 22).map (·.size) = some 1), (by kernel_rfl : (Try.prog.info? 54).map (·.size) = some 8), (by kernel_rfl : Try.prog.eqGuardType Try.prog.depth 54 = false), fun k h => by cases h; exact (by kernel_rfl : Try.prog.underlying 22 = some (.int .u64))⟩
theorem tyOk55 : TyOk1 Try.prog 55 (.arr 8 22 1 (some .u64)) := ⟨(by kernel_rfl : Try.prog.underlying 55 = some (.array 8 22)), (by kernel_rfl : (Try.prog.info? 22).map (·.size) = some 1), (by kernel_rfl : (Try.prog.info? 55).map (·.size) = some 8), (by kernel_rfl : Try.prog.eqGuardType Try.prog.depth 55 = false), fun k h => by cases h; exact (by kernel_rfl : Try.prog.underlying 22 = some (.int .u64))⟩
theorem tyOk56 : TyOk1 Try.prog 56 (.cell) := fun w => by kernel_rfl
theorem tyOk57 : TyOk1 Try.prog 57 (.sl 22 1 8) := sl_mk (by kernel_rfl : Try.prog.underlying 57 = some (.slice 22)) (by decide) (by kernel_rfl : (Try.prog.info? 22).map (·.size) = some 1) (by kernel_rfl : (Try.prog.info? 22).map (·.bytes) = some 8) (by kernel_rfl : ((Try.prog.info? 22).bind (·.zero)).map (·.cells.size) = some 1)
theorem tyOk58 : TyOk1 Try.prog 58 (.cell) := fun w => by kernel_rfl
theorem tyOk59 : TyOk1 Try.prog 59 (.cell) := fun w => by kernel_rfl
theorem tyOk60 : TyOk1 Try.prog 60 (.arr 16 22 1 (some .u64)) := ⟨(by kernel_rfl : Try.prog.underlying 60 = some (.array 16 22)), (by kernel_rfl : (Try.prog.info? 22).map (·.size) = some 1), (by kernel_rfl : (Try.prog.info? 60).map (·.size) = some 16), (by kernel_rfl : Try.prog.eqGuardType Try.prog.depth 60 = false), fun k h => by cases h; exact (by kernel_rfl : Try.prog.underlying 22 = some (.int .u64))⟩
theorem tyOk61 : TyOk1 Try.prog 61 (.cell) := fun w => by kernel_rfl
theorem tyOk62 : TyOk1 Try.prog 62 (.cell) := fun w => by kernel_rfl
theorem tyOk63 : TyOk1 Try.prog 63 (.cell) := fun w => by kernel_rfl
theorem tyOk64 : TyOk1 Try.prog 64 (.cell) := fun w => by kernel_rfl
theorem tyOk65 : TyOk1 Try.prog 65 (.cell) := fun w => by kernel_rfl
theorem tyOk66 : TyOk1 Try.prog 66 (.cell) := fun w => by kernel_rfl
theorem tyOk67 : TyOk1 Try.prog 67 (.cell) := fun w => by kernel_rfl
theorem tyOk68 : TyOk1 Try.prog 68 (.cell) := fun w => by kernel_rfl
theorem tyOk69 : TyOk1 Try.prog 69 (.cell) := fun w => by kernel_rfl
theorem tyOk71 : TyOk1 Try.prog 71 (.cell) := fun w => by kernel_rfl
theorem tyOk72 : TyOk1 Try.prog 72 (.cell) := fun w => by kernel_rfl
theorem tyOk73 : TyOk1 Try.prog 73 (.cell) := fun w => by kernel_rfl
theorem tyOk74 : TyOk1 Try.prog 74 (.cell) := fun w => by kernel_rfl
theorem tyOk75 : TyOk1 Try.prog 75 (.cell) := fun w => by kernel_rfl
theorem tyOk76 : TyOk1 Try.prog 76 (.cell) := fun w => by kernel_rfl
theorem tyOk77 : TyOk1 Try.prog 77 (.cell) := fun w => by kernel_rfl
theorem tyOk78 : TyOk1 Try.prog 78 (.cell) := fun w => by kernel_rfl
theorem tyOk79 : TyOk1 Try.prog 79 (.arr 9 22 1 (some .u64)) := ⟨(by kernel_rfl : Try.prog.underlying 79 = some (.array 9 22)), (by kernel_rfl : (Try.prog.info? 22).map (·.size) = some 1), (by kernel_rfl : (Try.prog.info? 79).map (·.size) = some 9), (by kernel_rfl : Try.prog.eqGuardType Try.prog.depth 79 = false), fun k h => by cases h; exact (by kernel_rfl : Try.prog.underlying 22 = some (.int .u64))⟩
theorem tyOk80 : TyOk1 Try.prog 80 (.cell) := fun w => by kernel_rfl
theorem tyOk81 : TyOk1 Try.prog 81 (.cell) := fun w => by kernel_rfl
theorem tyOk82 : TyOk1 Try.prog 82 (.cell) := fun w => by kernel_rfl
theorem tyOk83 : TyOk1 Try.prog 83 (.cell) := fun w => by kernel_rfl
theorem tyOk84 : TyOk1 Try.prog 84 (.cell) := fun w => by kernel_rfl
theorem tyOk85 : TyOk1 Try.prog 85 (.cell) := fun w => by kernel_rfl
theorem tyOk86 : TyOk1 Try.prog 86 (.ptr 104) := (by kernel_rfl : Try.prog.underlying 86 = some (.pointer 104))
theorem tyOk87 : TyOk1 Try.prog 87 (.cell) := fun w => by kernel_rfl
theorem tyOk90 : TyOk1 Try.prog 90 (.arr 0 16 1 none) := ⟨(by kernel_rfl : Try.prog.underlying 90 = some (.array 0 16)), (by kernel_rfl : (Try.prog.info? 16).map (·.size) = some 1), (by kernel_rfl : (Try.prog.info? 90).map (·.size) = some 0), (by kernel_rfl : Try.prog.eqGuardType Try.prog.depth 90 = false), fun k h => by cases h⟩
theorem tyOk93 : TyOk1 Try.prog 93 (.cell) := fun w => by kernel_rfl
theorem tyOk94 : TyOk1 Try.prog 94 (.int .u32) := (by kernel_rfl : Try.prog.underlying 94 = some (.int .u32))
theorem tyOk95 : TyOk1 Try.prog 95 (.int .u8) := (by kernel_rfl : Try.prog.underlying 95 = some (.int .u8))
theorem tyOk96 : TyOk1 Try.prog 96 (.int .u8) := (by kernel_rfl : Try.prog.underlying 96 = some (.int .u8))
theorem tyOk97 : TyOk1 Try.prog 97 (.cell) := fun w => by kernel_rfl
theorem tyOk98 : TyOk1 Try.prog 98 (.ptr 5) := (by kernel_rfl : Try.prog.underlying 98 = some (.pointer 5))
theorem tyOk99 : TyOk1 Try.prog 99 (.int .i32) := (by kernel_rfl : Try.prog.underlying 99 = some (.int .i32))
theorem tyOk100 : TyOk1 Try.prog 100 (.int .i32) := (by kernel_rfl : Try.prog.underlying 100 = some (.int .i32))
theorem tyT_ok : ∀ t, TyOk1 Try.prog t (tyT t)
  | 0 => trivial
  | 1 => tyOk1
  | 2 => tyOk2
  | 3 => tyOk3
  | 4 => tyOk4
  | 5 => tyOk5
  | 6 => tyOk6
  | 7 => trivial
  | 8 => trivial
  | 9 => tyOk9
  | 10 => tyOk10
  | 11 => tyOk11
  | 12 => tyOk12
  | 13 => trivial
  | 14 => trivial
  | 15 => tyOk15
  | 16 => tyOk16
  | 17 => tyOk17
  | 18 => trivial
  | 19 => trivial
  | 20 => tyOk20
  | 21 => tyOk21
  | 22 => tyOk22
  | 23 => tyOk23
  | 24 => tyOk24
  | 25 => trivial
  | 26 => tyOk26
  | 27 => tyOk27
  | 28 => tyOk28
  | 29 => tyOk29
  | 30 => trivial
  | 31 => tyOk31
  | 32 => tyOk32
  | 33 => tyOk33
  | 34 => tyOk34
  | 35 => tyOk35
  | 36 => tyOk36
  | 37 => tyOk37
  | 38 => trivial
  | 39 => tyOk39
  | 40 => tyOk40
  | 41 => tyOk41
  | 42 => tyOk42
  | 43 => tyOk43
  | 44 => tyOk44
  | 45 => tyOk45
  | 46 => tyOk46
  | 47 => tyOk47
  | 48 => tyOk48
  | 49 => tyOk49
  | 50 => tyOk50
  | 51 => trivial
  | 52 => tyOk52
  | 53 => tyOk53
  | 54 => tyOk54
  | 55 => tyOk55
  | 56 => tyOk56
  | 57 => tyOk57
  | 58 => tyOk58
  | 59 => tyOk59
  | 60 => tyOk60
  | 61 => tyOk61
  | 62 => tyOk62
  | 63 => tyOk63
  | 64 => tyOk64
  | 65 => tyOk65
  | 66 => tyOk66
  | 67 => tyOk67
  | 68 => tyOk68
  | 69 => tyOk69
  | 70 => trivial
  | 71 => tyOk71
  | 72 => tyOk72
  | 73 => tyOk73
  | 74 => tyOk74
  | 75 => tyOk75
  | 76 => tyOk76
  | 77 => tyOk77
  | 78 => tyOk78
  | 79 => tyOk79
  | 80 => tyOk80
  | 81 => tyOk81
  | 82 => tyOk82
  | 83 => tyOk83
  | 84 => tyOk84
  | 85 => tyOk85
  | 86 => tyOk86
  | 87 => tyOk87
  | 88 => trivial
  | 89 => trivial
  | 90 => tyOk90
  | 91 => trivial
  | 92 => trivial
  | 93 => tyOk93
  | 94 => tyOk94
  | 95 => tyOk95
  | 96 => tyOk96
  | 97 => tyOk97
  | 98 => tyOk98
  | 99 => tyOk99
  | 100 => tyOk100
  | 101 => trivial
  | 102 => trivial
  | 103 => trivial
  | 104 => trivial
  | 105 => trivial
  | _ + 106 => trivial
theorem szT_ok : ∀ t n, tsz (tyT t) = some n → Sz Try.prog t n
  | 0, n, h => by cases h
  | 1, n, h => by obtain rfl : 1 = n := Option.some.inj h; exact (by kernel_rfl : (Try.prog.info? 1).map (·.size) = some 1)
  | 2, n, h => by obtain rfl : 1 = n := Option.some.inj h; exact (by kernel_rfl : (Try.prog.info? 2).map (·.size) = some 1)
  | 3, n, h => by obtain rfl : 1 = n := Option.some.inj h; exact (by kernel_rfl : (Try.prog.info? 3).map (·.size) = some 1)
  | 4, n, h => by obtain rfl : 1 = n := Option.some.inj h; exact (by kernel_rfl : (Try.prog.info? 4).map (·.size) = some 1)
  | 5, n, h => by obtain rfl : 1 = n := Option.some.inj h; exact (by kernel_rfl : (Try.prog.info? 5).map (·.size) = some 1)
  | 6, n, h => by obtain rfl : 1 = n := Option.some.inj h; exact (by kernel_rfl : (Try.prog.info? 6).map (·.size) = some 1)
  | 7, n, h => by cases h
  | 8, n, h => by cases h
  | 9, n, h => by obtain rfl : 1 = n := Option.some.inj h; exact (by kernel_rfl : (Try.prog.info? 9).map (·.size) = some 1)
  | 10, n, h => by obtain rfl : 1 = n := Option.some.inj h; exact (by kernel_rfl : (Try.prog.info? 10).map (·.size) = some 1)
  | 11, n, h => by obtain rfl : 1 = n := Option.some.inj h; exact (by kernel_rfl : (Try.prog.info? 11).map (·.size) = some 1)
  | 12, n, h => by obtain rfl : 1 = n := Option.some.inj h; exact (by kernel_rfl : (Try.prog.info? 12).map (·.size) = some 1)
  | 13, n, h => by cases h
  | 14, n, h => by cases h
  | 15, n, h => by obtain rfl : 1 = n := Option.some.inj h; exact (by kernel_rfl : (Try.prog.info? 15).map (·.size) = some 1)
  | 16, n, h => by obtain rfl : 1 = n := Option.some.inj h; exact (by kernel_rfl : (Try.prog.info? 16).map (·.size) = some 1)
  | 17, n, h => by obtain rfl : 1 = n := Option.some.inj h; exact (by kernel_rfl : (Try.prog.info? 17).map (·.size) = some 1)
  | 18, n, h => by cases h
  | 19, n, h => by cases h
  | 20, n, h => by obtain rfl : 1 = n := Option.some.inj h; exact (by kernel_rfl : (Try.prog.info? 20).map (·.size) = some 1)
  | 21, n, h => by obtain rfl : 1 = n := Option.some.inj h; exact (by kernel_rfl : (Try.prog.info? 21).map (·.size) = some 1)
  | 22, n, h => by obtain rfl : 1 = n := Option.some.inj h; exact (by kernel_rfl : (Try.prog.info? 22).map (·.size) = some 1)
  | 23, n, h => by obtain rfl : 4 = n := Option.some.inj h; exact (by kernel_rfl : (Try.prog.info? 23).map (·.size) = some 4)
  | 24, n, h => by obtain rfl : 4 = n := Option.some.inj h; exact (by kernel_rfl : (Try.prog.info? 24).map (·.size) = some 4)
  | 25, n, h => by cases h
  | 26, n, h => by obtain rfl : 1 = n := Option.some.inj h; exact (by kernel_rfl : (Try.prog.info? 26).map (·.size) = some 1)
  | 27, n, h => by obtain rfl : 1 = n := Option.some.inj h; exact (by kernel_rfl : (Try.prog.info? 27).map (·.size) = some 1)
  | 28, n, h => by obtain rfl : 1 = n := Option.some.inj h; exact (by kernel_rfl : (Try.prog.info? 28).map (·.size) = some 1)
  | 29, n, h => by obtain rfl : 1 = n := Option.some.inj h; exact (by kernel_rfl : (Try.prog.info? 29).map (·.size) = some 1)
  | 30, n, h => by cases h
  | 31, n, h => by obtain rfl : 1 = n := Option.some.inj h; exact (by kernel_rfl : (Try.prog.info? 31).map (·.size) = some 1)
  | 32, n, h => by obtain rfl : 1 = n := Option.some.inj h; exact (by kernel_rfl : (Try.prog.info? 32).map (·.size) = some 1)
  | 33, n, h => by obtain rfl : 1 = n := Option.some.inj h; exact (by kernel_rfl : (Try.prog.info? 33).map (·.size) = some 1)
  | 34, n, h => by obtain rfl : 1 = n := Option.some.inj h; exact (by kernel_rfl : (Try.prog.info? 34).map (·.size) = some 1)
  | 35, n, h => by obtain rfl : 1 = n := Option.some.inj h; exact (by kernel_rfl : (Try.prog.info? 35).map (·.size) = some 1)
  | 36, n, h => by obtain rfl : 20 = n := Option.some.inj h; exact (by kernel_rfl : (Try.prog.info? 36).map (·.size) = some 20)
  | 37, n, h => by obtain rfl : 20 = n := Option.some.inj h; exact (by kernel_rfl : (Try.prog.info? 37).map (·.size) = some 20)
  | 38, n, h => by cases h
  | 39, n, h => by obtain rfl : 1 = n := Option.some.inj h; exact (by kernel_rfl : (Try.prog.info? 39).map (·.size) = some 1)
  | 40, n, h => by obtain rfl : 1 = n := Option.some.inj h; exact (by kernel_rfl : (Try.prog.info? 40).map (·.size) = some 1)
  | 41, n, h => by obtain rfl : 1 = n := Option.some.inj h; exact (by kernel_rfl : (Try.prog.info? 41).map (·.size) = some 1)
  | 42, n, h => by obtain rfl : 1 = n := Option.some.inj h; exact (by kernel_rfl : (Try.prog.info? 42).map (·.size) = some 1)
  | 43, n, h => by obtain rfl : 1 = n := Option.some.inj h; exact (by kernel_rfl : (Try.prog.info? 43).map (·.size) = some 1)
  | 44, n, h => by obtain rfl : 1 = n := Option.some.inj h; exact (by kernel_rfl : (Try.prog.info? 44).map (·.size) = some 1)
  | 45, n, h => by obtain rfl : 1 = n := Option.some.inj h; exact (by kernel_rfl : (Try.prog.info? 45).map (·.size) = some 1)
  | 46, n, h => by obtain rfl : 1 = n := Option.some.inj h; exact (by kernel_rfl : (Try.prog.info? 46).map (·.size) = some 1)
  | 47, n, h => by obtain rfl : 1 = n := Option.some.inj h; exact (by kernel_rfl : (Try.prog.info? 47).map (·.size) = some 1)
  | 48, n, h => by obtain rfl : 1 = n := Option.some.inj h; exact (by kernel_rfl : (Try.prog.info? 48).map (·.size) = some 1)
  | 49, n, h => by obtain rfl : 1 = n := Option.some.inj h; exact (by kernel_rfl : (Try.prog.info? 49).map (·.size) = some 1)
  | 50, n, h => by obtain rfl : 1 = n := Option.some.inj h; exact (by kernel_rfl : (Try.prog.info? 50).map (·.size) = some 1)
  | 51, n, h => by cases h
  | 52, n, h => by obtain rfl : 1 = n := Option.some.inj h; exact (by kernel_rfl : (Try.prog.info? 52).map (·.size) = some 1)
  | 53, n, h => by obtain rfl : 1 = n := Option.some.inj h; exact (by kernel_rfl : (Try.prog.info? 53).map (·.size) = some 1)
  | 54, n, h => by obtain rfl : 8 = n := Option.some.inj h; exact (by kernel_rfl : (Try.prog.info? 54).map (·.size) = some 8)
  | 55, n, h => by obtain rfl : 8 = n := Option.some.inj h; exact (by kernel_rfl : (Try.prog.info? 55).map (·.size) = some 8)
  | 56, n, h => by obtain rfl : 1 = n := Option.some.inj h; exact (by kernel_rfl : (Try.prog.info? 56).map (·.size) = some 1)
  | 57, n, h => by obtain rfl : 1 = n := Option.some.inj h; exact (by kernel_rfl : (Try.prog.info? 57).map (·.size) = some 1)
  | 58, n, h => by obtain rfl : 1 = n := Option.some.inj h; exact (by kernel_rfl : (Try.prog.info? 58).map (·.size) = some 1)
  | 59, n, h => by obtain rfl : 1 = n := Option.some.inj h; exact (by kernel_rfl : (Try.prog.info? 59).map (·.size) = some 1)
  | 60, n, h => by obtain rfl : 16 = n := Option.some.inj h; exact (by kernel_rfl : (Try.prog.info? 60).map (·.size) = some 16)
  | 61, n, h => by obtain rfl : 1 = n := Option.some.inj h; exact (by kernel_rfl : (Try.prog.info? 61).map (·.size) = some 1)
  | 62, n, h => by obtain rfl : 1 = n := Option.some.inj h; exact (by kernel_rfl : (Try.prog.info? 62).map (·.size) = some 1)
  | 63, n, h => by obtain rfl : 1 = n := Option.some.inj h; exact (by kernel_rfl : (Try.prog.info? 63).map (·.size) = some 1)
  | 64, n, h => by obtain rfl : 1 = n := Option.some.inj h; exact (by kernel_rfl : (Try.prog.info? 64).map (·.size) = some 1)
  | 65, n, h => by obtain rfl : 1 = n := Option.some.inj h; exact (by kernel_rfl : (Try.prog.info? 65).map (·.size) = some 1)
  | 66, n, h => by obtain rfl : 1 = n := Option.some.inj h; exact (by kernel_rfl : (Try.prog.info? 66).map (·.size) = some 1)
  | 67, n, h => by obtain rfl : 1 = n := Option.some.inj h; exact (by kernel_rfl : (Try.prog.info? 67).map (·.size) = some 1)
  | 68, n, h => by obtain rfl : 1 = n := Option.some.inj h; exact (by kernel_rfl : (Try.prog.info? 68).map (·.size) = some 1)
  | 69, n, h => by obtain rfl : 1 = n := Option.some.inj h; exact (by kernel_rfl : (Try.prog.info? 69).map (·.size) = some 1)
  | 70, n, h => by cases h
  | 71, n, h => by obtain rfl : 1 = n := Option.some.inj h; exact (by kernel_rfl : (Try.prog.info? 71).map (·.size) = some 1)
  | 72, n, h => by obtain rfl : 1 = n := Option.some.inj h; exact (by kernel_rfl : (Try.prog.info? 72).map (·.size) = some 1)
  | 73, n, h => by obtain rfl : 1 = n := Option.some.inj h; exact (by kernel_rfl : (Try.prog.info? 73).map (·.size) = some 1)
  | 74, n, h => by obtain rfl : 1 = n := Option.some.inj h; exact (by kernel_rfl : (Try.prog.info? 74).map (·.size) = some 1)
  | 75, n, h => by obtain rfl : 1 = n := Option.some.inj h; exact (by kernel_rfl : (Try.prog.info? 75).map (·.size) = some 1)
  | 76, n, h => by obtain rfl : 1 = n := Option.some.inj h; exact (by kernel_rfl : (Try.prog.info? 76).map (·.size) = some 1)
  | 77, n, h => by obtain rfl : 1 = n := Option.some.inj h; exact (by kernel_rfl : (Try.prog.info? 77).map (·.size) = some 1)
  | 78, n, h => by obtain rfl : 1 = n := Option.some.inj h; exact (by kernel_rfl : (Try.prog.info? 78).map (·.size) = some 1)
  | 79, n, h => by obtain rfl : 9 = n := Option.some.inj h; exact (by kernel_rfl : (Try.prog.info? 79).map (·.size) = some 9)
  | 80, n, h => by obtain rfl : 1 = n := Option.some.inj h; exact (by kernel_rfl : (Try.prog.info? 80).map (·.size) = some 1)
  | 81, n, h => by obtain rfl : 1 = n := Option.some.inj h; exact (by kernel_rfl : (Try.prog.info? 81).map (·.size) = some 1)
  | 82, n, h => by obtain rfl : 1 = n := Option.some.inj h; exact (by kernel_rfl : (Try.prog.info? 82).map (·.size) = some 1)
  | 83, n, h => by obtain rfl : 1 = n := Option.some.inj h; exact (by kernel_rfl : (Try.prog.info? 83).map (·.size) = some 1)
  | 84, n, h => by obtain rfl : 1 = n := Option.some.inj h; exact (by kernel_rfl : (Try.prog.info? 84).map (·.size) = some 1)
  | 85, n, h => by obtain rfl : 1 = n := Option.some.inj h; exact (by kernel_rfl : (Try.prog.info? 85).map (·.size) = some 1)
  | 86, n, h => by obtain rfl : 1 = n := Option.some.inj h; exact (by kernel_rfl : (Try.prog.info? 86).map (·.size) = some 1)
  | 87, n, h => by obtain rfl : 1 = n := Option.some.inj h; exact (by kernel_rfl : (Try.prog.info? 87).map (·.size) = some 1)
  | 88, n, h => by cases h
  | 89, n, h => by cases h
  | 90, n, h => by obtain rfl : 0 = n := Option.some.inj h; exact (by kernel_rfl : (Try.prog.info? 90).map (·.size) = some 0)
  | 91, n, h => by cases h
  | 92, n, h => by cases h
  | 93, n, h => by obtain rfl : 1 = n := Option.some.inj h; exact (by kernel_rfl : (Try.prog.info? 93).map (·.size) = some 1)
  | 94, n, h => by obtain rfl : 1 = n := Option.some.inj h; exact (by kernel_rfl : (Try.prog.info? 94).map (·.size) = some 1)
  | 95, n, h => by obtain rfl : 1 = n := Option.some.inj h; exact (by kernel_rfl : (Try.prog.info? 95).map (·.size) = some 1)
  | 96, n, h => by obtain rfl : 1 = n := Option.some.inj h; exact (by kernel_rfl : (Try.prog.info? 96).map (·.size) = some 1)
  | 97, n, h => by obtain rfl : 1 = n := Option.some.inj h; exact (by kernel_rfl : (Try.prog.info? 97).map (·.size) = some 1)
  | 98, n, h => by obtain rfl : 1 = n := Option.some.inj h; exact (by kernel_rfl : (Try.prog.info? 98).map (·.size) = some 1)
  | 99, n, h => by obtain rfl : 1 = n := Option.some.inj h; exact (by kernel_rfl : (Try.prog.info? 99).map (·.size) = some 1)
  | 100, n, h => by obtain rfl : 1 = n := Option.some.inj h; exact (by kernel_rfl : (Try.prog.info? 100).map (·.size) = some 1)
  | 101, n, h => by cases h
  | 102, n, h => by cases h
  | 103, n, h => by cases h
  | 104, n, h => by cases h
  | 105, n, h => by cases h
  | _ + 106, n, h => by cases h
theorem zcT_ok : ∀ t c, zcT t = some c → ∃ i z, Try.prog.info? t = some i ∧ i.zero = some z ∧ z.cells = (cc c).toArray
  | 0, c, h => by cases h
  | 1, c, h => by cases h
  | 2, c, h => by obtain rfl : _ = c := Option.some.inj h; exact zc_mk (by kernel_rfl)
  | 3, c, h => by obtain rfl : _ = c := Option.some.inj h; exact zc_mk (by kernel_rfl)
  | 4, c, h => by obtain rfl : _ = c := Option.some.inj h; exact zc_mk (by kernel_rfl)
  | 5, c, h => by obtain rfl : _ = c := Option.some.inj h; exact zc_mk (by kernel_rfl)
  | 6, c, h => by obtain rfl : _ = c := Option.some.inj h; exact zc_mk (by kernel_rfl)
  | 7, c, h => by cases h
  | 8, c, h => by cases h
  | 9, c, h => by obtain rfl : _ = c := Option.some.inj h; exact zc_mk (by kernel_rfl)
  | 10, c, h => by obtain rfl : _ = c := Option.some.inj h; exact zc_mk (by kernel_rfl)
  | 11, c, h => by obtain rfl : _ = c := Option.some.inj h; exact zc_mk (by kernel_rfl)
  | 12, c, h => by obtain rfl : _ = c := Option.some.inj h; exact zc_mk (by kernel_rfl)
  | 13, c, h => by cases h
  | 14, c, h => by cases h
  | 15, c, h => by cases h
  | 16, c, h => by cases h
  | 17, c, h => by cases h
  | 18, c, h => by cases h
  | 19, c, h => by cases h
  | 20, c, h => by cases h
  | 21, c, h => by obtain rfl : _ = c := Option.some.inj h; exact zc_mk (by kernel_rfl)
  | 22, c, h => by obtain rfl : _ = c := Option.some.inj h; exact zc_mk (by kernel_rfl)
  | 23, c, h => by obtain rfl : _ = c := Option.some.inj h; exact zc_mk (by kernel_rfl)
  | 24, c, h => by obtain rfl : _ = c := Option.some.inj h; exact zc_mk (by kernel_rfl)
  | 25, c, h => by cases h
  | 26, c, h => by cases h
  | 27, c, h => by cases h
  | 28, c, h => by cases h
  | 29, c, h => by cases h
  | 30, c, h => by cases h
  | 31, c, h => by cases h
  | 32, c, h => by cases h
  | 33, c, h => by cases h
  | 34, c, h => by cases h
  | 35, c, h => by obtain rfl : _ = c := Option.some.inj h; exact zc_mk (by kernel_rfl)
  | 36, c, h => by obtain rfl : _ = c := Option.some.inj h; exact zc_mk (by kernel_rfl)
  | 37, c, h => by obtain rfl : _ = c := Option.some.inj h; exact zc_mk (by kernel_rfl)
  | 38, c, h => by cases h
  | 39, c, h => by cases h
  | 40, c, h => by cases h
  | 41, c, h => by cases h
  | 42, c, h => by cases h
  | 43, c, h => by cases h
  | 44, c, h => by cases h
  | 45, c, h => by cases h
  | 46, c, h => by cases h
  | 47, c, h => by cases h
  | 48, c, h => by obtain rfl : _ = c := Option.some.inj h; exact zc_mk (by kernel_rfl)
  | 49, c, h => by cases h
  | 50, c, h => by cases h
  | 51, c, h => by cases h
  | 52, c, h => by cases h
  | 53, c, h => by cases h
  | 54, c, h => by obtain rfl : _ = c := Option.some.inj h; exact zc_mk (by kernel_rfl)
  | 55, c, h => by obtain rfl : _ = c := Option.some.inj h; exact zc_mk (by kernel_rfl)
  | 56, c, h => by cases h
  | 57, c, h => by obtain rfl : _ = c := Option.some.inj h; exact zc_mk (by kernel_rfl)
  | 58, c, h => by cases h
  | 59, c, h => by cases h
  | 60, c, h => by obtain rfl : _ = c := Option.some.inj h; exact zc_mk (by kernel_rfl)
  | 61, c, h => by cases h
  | 62, c, h => by cases h
  | 63, c, h => by cases h
  | 64, c, h => by cases h
  | 65, c, h => by cases h
  | 66, c, h => by cases h
  | 67, c, h => by cases h
  | 68, c, h => by cases h
  | 69, c, h => by cases h
  | 70, c, h => by cases h
  | 71, c, h => by cases h
  | 72, c, h => by cases h
  | 73, c, h => by cases h
  | 74, c, h => by cases h
  | 75, c, h => by cases h
  | 76, c, h => by cases h
  | 77, c, h => by cases h
  | 78, c, h => by cases h
  | 79, c, h => by obtain rfl : _ = c := Option.some.inj h; exact zc_mk (by kernel_rfl)
  | 80, c, h => by cases h
  | 81, c, h => by cases h
  | 82, c, h => by cases h
  | 83, c, h => by cases h
  | 84, c, h => by cases h
  | 85, c, h => by cases h
  | 86, c, h => by cases h
  | 87, c, h => by cases h
  | 88, c, h => by cases h
  | 89, c, h => by cases h
  | 90, c, h => by cases h
  | 91, c, h => by cases h
  | 92, c, h => by cases h
  | 93, c, h => by cases h
  | 94, c, h => by obtain rfl : _ = c := Option.some.inj h; exact zc_mk (by kernel_rfl)
  | 95, c, h => by obtain rfl : _ = c := Option.some.inj h; exact zc_mk (by kernel_rfl)
  | 96, c, h => by obtain rfl : _ = c := Option.some.inj h; exact zc_mk (by kernel_rfl)
  | 97, c, h => by cases h
  | 98, c, h => by cases h
  | 99, c, h => by obtain rfl : _ = c := Option.some.inj h; exact zc_mk (by kernel_rfl)
  | 100, c, h => by obtain rfl : _ = c := Option.some.inj h; exact zc_mk (by kernel_rfl)
  | 101, c, h => by cases h
  | 102, c, h => by cases h
  | 103, c, h => by cases h
  | 104, c, h => by cases h
  | 105, c, h => by cases h
  | _ + 106, c, h => by cases h
theorem zrT_ok : ∀ t, zrT t ≠ [] → ∃ i z, Try.prog.info? t = some i ∧ i.zero = some z ∧ z.cells = (cvs (zrT t)).toArray
  | 0, h => absurd rfl h
  | 1, h => absurd rfl h
  | 2, h => absurd rfl h
  | 3, h => absurd rfl h
  | 4, h => absurd rfl h
  | 5, h => absurd rfl h
  | 6, h => absurd rfl h
  | 7, h => absurd rfl h
  | 8, h => absurd rfl h
  | 9, h => absurd rfl h
  | 10, h => absurd rfl h
  | 11, h => absurd rfl h
  | 12, h => absurd rfl h
  | 13, h => absurd rfl h
  | 14, h => absurd rfl h
  | 15, h => absurd rfl h
  | 16, h => absurd rfl h
  | 17, h => absurd rfl h
  | 18, h => absurd rfl h
  | 19, h => absurd rfl h
  | 20, h => absurd rfl h
  | 21, h => absurd rfl h
  | 22, h => absurd rfl h
  | 23, _ => zr_mk (by kernel_rfl)
  | 24, _ => zr_mk (by kernel_rfl)
  | 25, h => absurd rfl h
  | 26, h => absurd rfl h
  | 27, h => absurd rfl h
  | 28, h => absurd rfl h
  | 29, h => absurd rfl h
  | 30, h => absurd rfl h
  | 31, h => absurd rfl h
  | 32, h => absurd rfl h
  | 33, h => absurd rfl h
  | 34, h => absurd rfl h
  | 35, h => absurd rfl h
  | 36, _ => zr_mk (by kernel_rfl)
  | 37, _ => zr_mk (by kernel_rfl)
  | 38, h => absurd rfl h
  | 39, h => absurd rfl h
  | 40, h => absurd rfl h
  | 41, h => absurd rfl h
  | 42, h => absurd rfl h
  | 43, h => absurd rfl h
  | 44, h => absurd rfl h
  | 45, h => absurd rfl h
  | 46, h => absurd rfl h
  | 47, h => absurd rfl h
  | 48, h => absurd rfl h
  | 49, h => absurd rfl h
  | 50, h => absurd rfl h
  | 51, h => absurd rfl h
  | 52, h => absurd rfl h
  | 53, h => absurd rfl h
  | 54, _ => zr_mk (by kernel_rfl)
  | 55, _ => zr_mk (by kernel_rfl)
  | 56, h => absurd rfl h
  | 57, h => absurd rfl h
  | 58, h => absurd rfl h
  | 59, h => absurd rfl h
  | 60, _ => zr_mk (by kernel_rfl)
  | 61, h => absurd rfl h
  | 62, h => absurd rfl h
  | 63, h => absurd rfl h
  | 64, h => absurd rfl h
  | 65, h => absurd rfl h
  | 66, h => absurd rfl h
  | 67, h => absurd rfl h
  | 68, h => absurd rfl h
  | 69, h => absurd rfl h
  | 70, h => absurd rfl h
  | 71, h => absurd rfl h
  | 72, h => absurd rfl h
  | 73, h => absurd rfl h
  | 74, h => absurd rfl h
  | 75, h => absurd rfl h
  | 76, h => absurd rfl h
  | 77, h => absurd rfl h
  | 78, h => absurd rfl h
  | 79, _ => zr_mk (by kernel_rfl)
  | 80, h => absurd rfl h
  | 81, h => absurd rfl h
  | 82, h => absurd rfl h
  | 83, h => absurd rfl h
  | 84, h => absurd rfl h
  | 85, h => absurd rfl h
  | 86, h => absurd rfl h
  | 87, h => absurd rfl h
  | 88, h => absurd rfl h
  | 89, h => absurd rfl h
  | 90, h => absurd rfl h
  | 91, h => absurd rfl h
  | 92, h => absurd rfl h
  | 93, h => absurd rfl h
  | 94, h => absurd rfl h
  | 95, h => absurd rfl h
  | 96, h => absurd rfl h
  | 97, h => absurd rfl h
  | 98, h => absurd rfl h
  | 99, h => absurd rfl h
  | 100, h => absurd rfl h
  | 101, h => absurd rfl h
  | 102, h => absurd rfl h
  | 103, h => absurd rfl h
  | 104, h => absurd rfl h
  | 105, h => absurd rfl h
  | _ + 106, h => absurd rfl h
theorem ty_3 : T0.ty 3 = .int .i64 := rfl
theorem zc_3 : T0.zc 3 = some (.ints .i64 [0]) := rfl
theorem ty_4 : T0.ty 4 = .bool := rfl
theorem zc_4 : T0.zc 4 = some (.cells [.bool false]) := rfl
theorem ty_5 : T0.ty 5 = .int .u8 := rfl
theorem zc_5 : T0.zc 5 = some (.ints .u8 [0]) := rfl
theorem ty_9 : T0.ty 9 = .str := rfl
theorem zc_9 : T0.zc 9 = some (.cells [.str ⟨#[]⟩]) := rfl
theorem ty_22 : T0.ty 22 = .int .u64 := rfl
theorem zc_22 : T0.zc 22 = some (.ints .u64 [0]) := rfl
theorem ty_24 : T0.ty 24 = .word := rfl
theorem zc_24 : T0.zc 24 = some (.words [0]) := rfl
theorem zr_24 : T0.zr 24 = [.int .u64 0, .int .u64 0, .int .u64 0, .int .u64 0] := rfl
theorem ty_35 : T0.ty 35 = .sl 5 1 1 := rfl
theorem zc_35 : T0.zc 35 = some (.cells [.nilsl]) := rfl
theorem ty_37 : T0.ty 37 = .arr 20 5 1 (some .u8) := rfl
theorem zc_37 : T0.zc 37 = some (.ints .u8 (List.replicate 20 0)) := rfl
theorem zr_37 : T0.zr 37 = [.int .u8 0, .int .u8 0, .int .u8 0, .int .u8 0, .int .u8 0, .int .u8 0, .int .u8 0, .int .u8 0, .int .u8 0, .int .u8 0, .int .u8 0, .int .u8 0, .int .u8 0, .int .u8 0, .int .u8 0, .int .u8 0, .int .u8 0, .int .u8 0, .int .u8 0, .int .u8 0] := rfl
theorem ty_48 : T0.ty 48 = .int .u64 := rfl
theorem zc_48 : T0.zc 48 = some (.ints .u64 [0]) := rfl
theorem ty_54 : T0.ty 54 = .arr 8 22 1 (some .u64) := rfl
theorem zc_54 : T0.zc 54 = some (.ints .u64 (List.replicate 8 0)) := rfl
theorem zr_54 : T0.zr 54 = [.int .u64 0, .int .u64 0, .int .u64 0, .int .u64 0, .int .u64 0, .int .u64 0, .int .u64 0, .int .u64 0] := rfl
theorem ty_55 : T0.ty 55 = .arr 8 22 1 (some .u64) := rfl
theorem zc_55 : T0.zc 55 = some (.ints .u64 (List.replicate 8 0)) := rfl
theorem zr_55 : T0.zr 55 = [.int .u64 0, .int .u64 0, .int .u64 0, .int .u64 0, .int .u64 0, .int .u64 0, .int .u64 0, .int .u64 0] := rfl
theorem ty_57 : T0.ty 57 = .sl 22 1 8 := rfl
theorem zc_57 : T0.zc 57 = some (.cells [.nilsl]) := rfl
theorem ty_60 : T0.ty 60 = .arr 16 22 1 (some .u64) := rfl
theorem zc_60 : T0.zc 60 = some (.ints .u64 (List.replicate 16 0)) := rfl
theorem zr_60 : T0.zr 60 = [.int .u64 0, .int .u64 0, .int .u64 0, .int .u64 0, .int .u64 0, .int .u64 0, .int .u64 0, .int .u64 0, .int .u64 0, .int .u64 0, .int .u64 0, .int .u64 0, .int .u64 0, .int .u64 0, .int .u64 0, .int .u64 0] := rfl
theorem ty_74 : T0.ty 74 = .cell := rfl
theorem ty_79 : T0.ty 79 = .arr 9 22 1 (some .u64) := rfl
theorem zc_79 : T0.zc 79 = some (.ints .u64 (List.replicate 9 0)) := rfl
theorem zr_79 : T0.zr 79 = [.int .u64 0, .int .u64 0, .int .u64 0, .int .u64 0, .int .u64 0, .int .u64 0, .int .u64 0, .int .u64 0, .int .u64 0] := rfl
theorem ty_85 : T0.ty 85 = .cell := rfl
theorem T0_ok : TabOk Try.prog T0 := { sz := szT_ok, zc := zcT_ok, ty := tyT_ok, gl := fun _ => rfl, zr := zrT_ok }
end Go.Proofs.Ytkljpgdcmahenaa

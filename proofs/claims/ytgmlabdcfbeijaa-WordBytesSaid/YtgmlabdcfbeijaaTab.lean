/-
  The table of this translation's types.
-/
import Derived.Test.YtgmlabdcfbeijaaRows
import Derived.Test.YtgmlabdcfbeijaaEB
namespace Go.Proofs.Ytgmlabdcfbeijaa
set_option linter.unusedSimpArgs false
set_option linter.unusedVariables false
open Go.RowKit
def tyT : Nat → Ty
  | 1 => .cell
  | 2 => .int .i64
  | 3 => .int .i64
  | 4 => .bool
  | 5 => .int .u8
  | 6 => .int .u8
  | 9 => .str
  | 10 => .str
  | 11 => .str
  | 12 => .int .u64
  | 15 => .ptr 86
  | 16 => .ptr 89
  | 17 => .ptr 99
  | 20 => .cell
  | 21 => .int .i32
  | 22 => .int .u64
  | 23 => .arr 4 22 1 (some .u64)
  | 24 => .word
  | 26 => .cell
  | 27 => .cell
  | 28 => .cell
  | 29 => .cell
  | 30 => .cell
  | 31 => .cell
  | 32 => .sl 5 1 1
  | 33 => .arr 20 5 1 (some .u8)
  | 34 => .arr 20 5 1 (some .u8)
  | 36 => .cell
  | 37 => .cell
  | 38 => .cell
  | 39 => .cell
  | 40 => .cell
  | 41 => .cell
  | 42 => .cell
  | 43 => .cell
  | 44 => .cell
  | 45 => .arr 8 22 1 (some .u64)
  | 46 => .arr 8 22 1 (some .u64)
  | 47 => .cell
  | 49 => .cell
  | 50 => .cell
  | 51 => .cell
  | 52 => .cell
  | 53 => .int .u64
  | 54 => .cell
  | 55 => .cell
  | 56 => .cell
  | 57 => .cell
  | 58 => .cell
  | 59 => .sl 22 1 8
  | 60 => .cell
  | 61 => .cell
  | 62 => .cell
  | 64 => .cell
  | 65 => .cell
  | 66 => .cell
  | 67 => .cell
  | 68 => .cell
  | 69 => .cell
  | 70 => .cell
  | 71 => .arr 9 22 1 (some .u64)
  | 72 => .cell
  | 74 => .cell
  | 75 => .cell
  | 76 => .cell
  | 77 => .arr 16 22 1 (some .u64)
  | 78 => .cell
  | 79 => .cell
  | 80 => .cell
  | 81 => .cell
  | 82 => .cell
  | 83 => .ptr 101
  | 84 => .cell
  | 87 => .arr 0 16 1 none
  | 90 => .cell
  | 91 => .int .u32
  | 92 => .int .u8
  | 93 => .int .u8
  | 94 => .cell
  | 95 => .ptr 5
  | 96 => .int .i32
  | 97 => .int .i32
  | _ => .other
def zcT : Nat → Option Con
  | 2 => some (.ints .i64 [0])
  | 3 => some (.ints .i64 [0])
  | 4 => some (.cells [.bool false])
  | 5 => some (.ints .u8 [0])
  | 6 => some (.ints .u8 [0])
  | 9 => some (.cells [.str ⟨#[]⟩])
  | 10 => some (.cells [.str ⟨#[]⟩])
  | 11 => some (.cells [.str ⟨#[]⟩])
  | 12 => some (.ints .u64 [0])
  | 21 => some (.ints .i32 [0])
  | 22 => some (.ints .u64 [0])
  | 23 => some (.ints .u64 (List.replicate 4 0))
  | 24 => some (.words [0])
  | 32 => some (.cells [.nilsl])
  | 33 => some (.ints .u8 (List.replicate 20 0))
  | 34 => some (.ints .u8 (List.replicate 20 0))
  | 45 => some (.ints .u64 (List.replicate 8 0))
  | 46 => some (.ints .u64 (List.replicate 8 0))
  | 53 => some (.ints .u64 [0])
  | 59 => some (.cells [.nilsl])
  | 71 => some (.ints .u64 (List.replicate 9 0))
  | 77 => some (.ints .u64 (List.replicate 16 0))
  | 91 => some (.ints .u32 [0])
  | 92 => some (.ints .u8 [0])
  | 93 => some (.ints .u8 [0])
  | 96 => some (.ints .i32 [0])
  | 97 => some (.ints .i32 [0])
  | _ => none
def zrT : Nat → List SV
  | 23 => [.int .u64 0, .int .u64 0, .int .u64 0, .int .u64 0]
  | 24 => [.int .u64 0, .int .u64 0, .int .u64 0, .int .u64 0]
  | 33 => [.int .u8 0, .int .u8 0, .int .u8 0, .int .u8 0, .int .u8 0, .int .u8 0, .int .u8 0, .int .u8 0, .int .u8 0, .int .u8 0, .int .u8 0, .int .u8 0, .int .u8 0, .int .u8 0, .int .u8 0, .int .u8 0, .int .u8 0, .int .u8 0, .int .u8 0, .int .u8 0]
  | 34 => [.int .u8 0, .int .u8 0, .int .u8 0, .int .u8 0, .int .u8 0, .int .u8 0, .int .u8 0, .int .u8 0, .int .u8 0, .int .u8 0, .int .u8 0, .int .u8 0, .int .u8 0, .int .u8 0, .int .u8 0, .int .u8 0, .int .u8 0, .int .u8 0, .int .u8 0, .int .u8 0]
  | 45 => [.int .u64 0, .int .u64 0, .int .u64 0, .int .u64 0, .int .u64 0, .int .u64 0, .int .u64 0, .int .u64 0]
  | 46 => [.int .u64 0, .int .u64 0, .int .u64 0, .int .u64 0, .int .u64 0, .int .u64 0, .int .u64 0, .int .u64 0]
  | 71 => [.int .u64 0, .int .u64 0, .int .u64 0, .int .u64 0, .int .u64 0, .int .u64 0, .int .u64 0, .int .u64 0, .int .u64 0]
  | 77 => [.int .u64 0, .int .u64 0, .int .u64 0, .int .u64 0, .int .u64 0, .int .u64 0, .int .u64 0, .int .u64 0, .int .u64 0, .int .u64 0, .int .u64 0, .int .u64 0, .int .u64 0, .int .u64 0, .int .u64 0, .int .u64 0]
  | _ => []
def T0 : Tab := { ty := tyT, zr := zrT, zc := zcT, gl := fun g => .raw (.pointer (some ⟨g, 0, none⟩)) }
theorem tyOk1 : TyOk1 Try.prog 1 (.cell) := fun w => by kernel_rfl
theorem tyOk2 : TyOk1 Try.prog 2 (.int .i64) := (by kernel_rfl : Try.prog.underlying 2 = some (.int .i64))
theorem tyOk3 : TyOk1 Try.prog 3 (.int .i64) := (by kernel_rfl : Try.prog.underlying 3 = some (.int .i64))
theorem tyOk4 : TyOk1 Try.prog 4 (.bool) := (by kernel_rfl : Try.prog.underlying 4 = some (.bool))
theorem tyOk5 : TyOk1 Try.prog 5 (.int .u8) := (by kernel_rfl : Try.prog.underlying 5 = some (.int .u8))
theorem tyOk6 : TyOk1 Try.prog 6 (.int .u8) := (by kernel_rfl : Try.prog.underlying 6 = some (.int .u8))
theorem tyOk9 : TyOk1 Try.prog 9 (.str) := (by kernel_rfl : Try.prog.underlying 9 = some (.string))
theorem tyOk10 : TyOk1 Try.prog 10 (.str) := (by kernel_rfl : Try.prog.underlying 10 = some (.string))
theorem tyOk11 : TyOk1 Try.prog 11 (.str) := (by kernel_rfl : Try.prog.underlying 11 = some (.string))
theorem tyOk12 : TyOk1 Try.prog 12 (.int .u64) := (by kernel_rfl : Try.prog.underlying 12 = some (.int .u64))
theorem tyOk15 : TyOk1 Try.prog 15 (.ptr 86) := (by kernel_rfl : Try.prog.underlying 15 = some (.pointer 86))
theorem tyOk16 : TyOk1 Try.prog 16 (.ptr 89) := (by kernel_rfl : Try.prog.underlying 16 = some (.pointer 89))
theorem tyOk17 : TyOk1 Try.prog 17 (.ptr 99) := (by kernel_rfl : Try.prog.underlying 17 = some (.pointer 99))
theorem tyOk20 : TyOk1 Try.prog 20 (.cell) := fun w => by kernel_rfl
theorem tyOk21 : TyOk1 Try.prog 21 (.int .i32) := (by kernel_rfl : Try.prog.underlying 21 = some (.int .i32))
theorem tyOk22 : TyOk1 Try.prog 22 (.int .u64) := (by kernel_rfl : Try.prog.underlying 22 = some (.int .u64))
theorem tyOk23 : TyOk1 Try.prog 23 (.arr 4 22 1 (some .u64)) := ⟨(by kernel_rfl : Try.prog.underlying 23 = some (.array 4 22)), (by kernel_rfl : (Try.prog.info? 22).map (·.size) = some 1), (by kernel_rfl : (Try.prog.info? 23).map (·.size) = some 4), (by kernel_rfl : Try.prog.eqGuardType Try.prog.depth 23 = false), fun k h => by cases h; exact (by kernel_rfl : Try.prog.underlying 22 = some (.int .u64))⟩
theorem tyOk24 : TyOk1 Try.prog 24 (.word) := ⟨22, (by kernel_rfl : Try.prog.underlying 24 = some (.array 4 22)), (by kernel_rfl : Try.prog.underlying 22 = some (.int .u64)), (by kernel_rfl : (Try.prog.info? 22).map (·.size) = some 1), (by kernel_rfl : (Try.prog.info? 24).map (·.size) = some 4), (by kernel_rfl : Try.prog.eqGuardType Try.prog.depth 24 = false)⟩
theorem tyOk26 : TyOk1 Try.prog 26 (.cell) := fun w => by kernel_rfl
theorem tyOk27 : TyOk1 Try.prog 27 (.cell) := fun w => by kernel_rfl
theorem tyOk28 : TyOk1 Try.prog 28 (.cell) := fun w => by kernel_rfl
theorem tyOk29 : TyOk1 Try.prog 29 (.cell) := fun w => by kernel_rfl
theorem tyOk30 : TyOk1 Try.prog 30 (.cell) := fun w => by kernel_rfl
theorem tyOk31 : TyOk1 Try.prog 31 (.cell) := fun w => by kernel_rfl
theorem tyOk32 : TyOk1 Try.prog 32 (.sl 5 1 1) := sl_mk (by kernel_rfl : Try.prog.underlying 32 = some (.slice 5)) (by decide) (by kernel_rfl : (Try.prog.info? 5).map (·.size) = some 1) (by kernel_rfl : (Try.prog.info? 5).map (·.bytes) = some 1) (by kernel_rfl : ((Try.prog.info? 5).bind (·.zero)).map (·.cells.size) = some 1)
theorem tyOk33 : TyOk1 Try.prog 33 (.arr 20 5 1 (some .u8)) := ⟨(by kernel_rfl : Try.prog.underlying 33 = some (.array 20 5)), (by kernel_rfl : (Try.prog.info? 5).map (·.size) = some 1), (by kernel_rfl : (Try.prog.info? 33).map (·.size) = some 20), (by kernel_rfl : Try.prog.eqGuardType Try.prog.depth 33 = false), fun k h => by cases h; exact (by kernel_rfl : Try.prog.underlying 5 = some (.int .u8))⟩
theorem tyOk34 : TyOk1 Try.prog 34 (.arr 20 5 1 (some .u8)) := ⟨(by kernel_rfl : Try.prog.underlying 34 = some (.array 20 5)), (by kernel_rfl : (Try.prog.info? 5).map (·.size) = some 1), (by kernel_rfl : (Try.prog.info? 34).map (·.size) = some 20), (by kernel_rfl : Try.prog.eqGuardType Try.prog.depth 34 = false), fun k h => by cases h; exact (by kernel_rfl : Try.prog.underlying 5 = some (.int .u8))⟩
theorem tyOk36 : TyOk1 Try.prog 36 (.cell) := fun w => by kernel_rfl
theorem tyOk37 : TyOk1 Try.prog 37 (.cell) := fun w => by kernel_rfl
theorem tyOk38 : TyOk1 Try.prog 38 (.cell) := fun w => by kernel_rfl
theorem tyOk39 : TyOk1 Try.prog 39 (.cell) := fun w => by kernel_rfl
theorem tyOk40 : TyOk1 Try.prog 40 (.cell) := fun w => by kernel_rfl
theorem tyOk41 : TyOk1 Try.prog 41 (.cell) := fun w => by kernel_rfl
theorem tyOk42 : TyOk1 Try.prog 42 (.cell) := fun w => by kernel_rfl
theorem tyOk43 : TyOk1 Try.prog 43 (.cell) := fun w => by kernel_rfl
theorem tyOk44 : TyOk1 Try.prog 44 (.cell) := fun w => by kernel_rfl
theorem tyOk45 : TyOk1 Try.prog 45 (.arr 8 22 1 (some .u64)) := ⟨(by kernel_rfl : Try.prog.underlying 45 = some (.array 8 22)), (by kernel_rfl : (Try.prog.info? 22).map (·.size) = some 1), (by kernel_rfl : (Try.prog.info? 45).map (·.size) = some 8), (by kernel_rfl : Try.prog.eqGuardType Try.prog.depth 45 = false), fun k h => by cases h; exact (by kernel_rfl : Try.prog.underlying 22 = some (.int .u64))⟩
theorem tyOk46 : TyOk1 Try.prog 46 (.arr 8 22 1 (some .u64)) := ⟨(by kernel_rfl : Try.prog.underlying 46 = some (.array 8 22)), (by kernel_rfl : (Try.prog.info? 22).map (·.size) = some 1), (by kernel_rfl : (Try.prog.info? 46).map (·.size) = some 8), (by kernel_rfl : Try.prog.eqGuardType Try.prog.depth 46 = false), fun k h => by cases h; exact (by kernel_rfl : Try.prog.underlying 22 = some (.int .u64))⟩
theorem tyOk47 : TyOk1 Try.prog 47 (.cell) := fun w => by kernel_rfl
theorem tyOk49 : TyOk1 Try.prog 49 (.cell) := fun w => by kernel_rfl
theorem tyOk50 : TyOk1 Try.prog 50 (.cell) := fun w => by kernel_rfl
theorem tyOk51 : TyOk1 Try.prog 51 (.cell) := fun w => by kernel_rfl
theorem tyOk52 : TyOk1 Try.prog 52 (.cell) := fun w => by kernel_rfl
theorem tyOk53 : TyOk1 Try.prog 53 (.int .u64) := (by kernel_rfl : Try.prog.underlying 53 = some (.int .u64))
theorem tyOk54 : TyOk1 Try.prog 54 (.cell) := fun w => by kernel_rfl
theorem tyOk55 : TyOk1 Try.prog 55 (.cell) := fun w => by kernel_rfl
theorem tyOk56 : TyOk1 Try.prog 56 (.cell) := fun w => by kernel_rfl
theorem tyOk57 : TyOk1 Try.prog 57 (.cell) := fun w => by kernel_rfl
theorem tyOk58 : TyOk1 Try.prog 58 (.cell) := fun w => by kernel_rfl
theorem tyOk59 : TyOk1 Try.prog 59 (.sl 22 1 8) := sl_mk (by kernel_rfl : Try.prog.underlying 59 = some (.slice 22)) (by decide) (by kernel_rfl : (Try.prog.info? 22).map (·.size) = some 1) (by kernel_rfl : (Try.prog.info? 22).map (·.bytes) = some 8) (by kernel_rfl : ((Try.prog.info? 22).bind (·.zero)).map (·.cells.size) = some 1)
theorem tyOk60 : TyOk1 Try.prog 60 (.cell) := fun w => by kernel_rfl
theorem tyOk61 : TyOk1 Try.prog 61 (.cell) := fun w => by kernel_rfl
theorem tyOk62 : TyOk1 Try.prog 62 (.cell) := fun w => by kernel_rfl
theorem tyOk64 : TyOk1 Try.prog 64 (.cell) := fun w => by kernel_rfl
theorem tyOk65 : TyOk1 Try.prog 65 (.cell) := fun w => by kernel_rfl
theorem tyOk66 : TyOk1 Try.prog 66 (.cell) := fun w => by kernel_rfl
theorem tyOk67 : TyOk1 Try.prog 67 (.cell) := fun w => by kernel_rfl
theorem tyOk68 : TyOk1 Try.prog 68 (.cell) := fun w => by kernel_rfl
theorem tyOk69 : TyOk1 Try.prog 69 (.cell) := fun w => by kernel_rfl
theorem tyOk70 : TyOk1 Try.prog 70 (.cell) := fun w => by kernel_rfl
theorem tyOk71 : TyOk1 Try.prog 71 (.arr 9 22 1 (some .u64)) := ⟨(by kernel_rfl : Try.prog.underlying 71 = some (.array 9 22)), (by kernel_rfl : (Try.prog.info? 22).map (·.size) = some 1), (by kernel_rfl : (Try.prog.info? 71).map (·.size) = some 9), (by kernel_rfl : Try.prog.eqGuardType Try.prog.depth 71 = false), fun k h => by cases h; exact (by kernel_rfl : Try.prog.underlying 22 = some (.int .u64))⟩
theorem tyOk72 : TyOk1 Try.prog 72 (.cell) := fun w => by kernel_rfl
theorem tyOk74 : TyOk1 Try.prog 74 (.cell) := fun w => by kernel_rfl
theorem tyOk75 : TyOk1 Try.prog 75 (.cell) := fun w => by kernel_rfl
theorem tyOk76 : TyOk1 Try.prog 76 (.cell) := fun w => by kernel_rfl
theorem tyOk77 : TyOk1 Try.prog 77 (.arr 16 22 1 (some .u64)) := ⟨(by kernel_rfl : Try.prog.underlying 77 = some (.array 16 22)), (by kernel_rfl : (Try.prog.info? 22).map (·.size) = some 1), (by kernel_rfl : (Try.prog.info? 77).map (·.size) = some 16), (by kernel_rfl : Try.prog.eqGuardType Try.prog.depth 77 = false), fun k h => by cases h; exact (by kernel_rfl : Try.prog.underlying 22 = some (.int .u64))⟩
theorem tyOk78 : TyOk1 Try.prog 78 (.cell) := fun w => by kernel_rfl
theorem tyOk79 : TyOk1 Try.prog 79 (.cell) := fun w => by kernel_rfl
theorem tyOk80 : TyOk1 Try.prog 80 (.cell) := fun w => by kernel_rfl
theorem tyOk81 : TyOk1 Try.prog 81 (.cell) := fun w => by kernel_rfl
theorem tyOk82 : TyOk1 Try.prog 82 (.cell) := fun w => by kernel_rfl
theorem tyOk83 : TyOk1 Try.prog 83 (.ptr 101) := (by kernel_rfl : Try.prog.underlying 83 = some (.pointer 101))
theorem tyOk84 : TyOk1 Try.prog 84 (.cell) := fun w => by kernel_rfl
theorem tyOk87 : TyOk1 Try.prog 87 (.arr 0 16 1 none) := ⟨(by kernel_rfl : Try.prog.underlying 87 = some (.array 0 16)), (by kernel_rfl : (Try.prog.info? 16).map (·.size) = some 1), (by kernel_rfl : (Try.prog.info? 87).map (·.size) = some 0), (by kernel_rfl : Try.prog.eqGuardType Try.prog.depth 87 = false), fun k h => by cases h⟩
theorem tyOk90 : TyOk1 Try.prog 90 (.cell) := fun w => by kernel_rfl
theorem tyOk91 : TyOk1 Try.prog 91 (.int .u32) := (by kernel_rfl : Try.prog.underlying 91 = some (.int .u32))
theorem tyOk92 : TyOk1 Try.prog 92 (.int .u8) := (by kernel_rfl : Try.prog.underlying 92 = some (.int .u8))
theorem tyOk93 : TyOk1 Try.prog 93 (.int .u8) := (by kernel_rfl : Try.prog.underlying 93 = some (.int .u8))
theorem tyOk94 : TyOk1 Try.prog 94 (.cell) := fun w => by kernel_rfl
theorem tyOk95 : TyOk1 Try.prog 95 (.ptr 5) := (by kernel_rfl : Try.prog.underlying 95 = some (.pointer 5))
theorem tyOk96 : TyOk1 Try.prog 96 (.int .i32) := (by kernel_rfl : Try.prog.underlying 96 = some (.int .i32))
theorem tyOk97 : TyOk1 Try.prog 97 (.int .i32) := (by kernel_rfl : Try.prog.underlying 97 = some (.int .i32))
theorem tyT_ok : ∀ t, TyOk1 Try.prog t (tyT t)
  | 0 => trivial
  | 1 => tyOk1
  | 2 => tyOk2
  | 3 => tyOk3
  | 4 => tyOk4
  | 5 => tyOk5
  | 6 => tyOk6
  | 7 => trivial
  | 8 => trivial
  | 9 => tyOk9
  | 10 => tyOk10
  | 11 => tyOk11
  | 12 => tyOk12
  | 13 => trivial
  | 14 => trivial
  | 15 => tyOk15
  | 16 => tyOk16
  | 17 => tyOk17
  | 18 => trivial
  | 19 => trivial
  | 20 => tyOk20
  | 21 => tyOk21
  | 22 => tyOk22
  | 23 => tyOk23
  | 24 => tyOk24
  | 25 => trivial
  | 26 => tyOk26
  | 27 => tyOk27
  | 28 => tyOk28
  | 29 => tyOk29
  | 30 => tyOk30
  | 31 => tyOk31
  | 32 => tyOk32
  | 33 => tyOk33
  | 34 => tyOk34
  | 35 => trivial
  | 36 => tyOk36
  | 37 => tyOk37
  | 38 => tyOk38
  | 39 => tyOk39
  | 40 => tyOk40
  | 41 => tyOk41
  | 42 => tyOk42
  | 43 => tyOk43
  | 44 => tyOk44
  | 45 => tyOk45
  | 46 => tyOk46
  | 47 => tyOk47
  | 48 => trivial
  | 49 => tyOk49
  | 50 => tyOk50
  | 51 => tyOk51
  | 52 => tyOk52
  | 53 => tyOk53
  | 54 => tyOk54
  | 55 => tyOk55
  | 56 => tyOk56
  | 57 => tyOk57
  | 58 => tyOk58
  | 59 => tyOk59
  | 60 => tyOk60
  | 61 => tyOk61
  | 62 => tyOk62
  | 63 => trivial
  | 64 => tyOk64
  | 65 => tyOk65
  | 66 => tyOk66
  | 67 => tyOk67
  | 68 => tyOk68
  | 69 => tyOk69
  | 70 => tyOk70
  | 71 => tyOk71
  | 72 => tyOk72
  | 73 => trivial
  | 74 => tyOk74
  | 75 => tyOk75
  | 76 => tyOk76
  | 77 => tyOk77
  | 78 => tyOk78
  | 79 => tyOk79
  | 80 => tyOk80
  | 81 => tyOk81
  | 82 => tyOk82
  | 83 => tyOk83
  | 84 => tyOk84
  | 85 => trivial
  | 86 => trivial
  | 87 => tyOk87
  | 88 => trivial
  | 89 => trivial
  | 90 => tyOk90
  | 91 => tyOk91
  | 92 => tyOk92
  | 93 => tyOk93
  | 94 => tyOk94
  | 95 => tyOk95
  | 96 => tyOk96
  | 97 => tyOk97
  | 98 => trivial
  | 99 => trivial
  | 100 => trivial
  | 101 => trivial
  | 102 => trivial
  | _ + 103 => trivial
theorem szT_ok : ∀ t n, tsz (tyT t) = some n → Sz Try.prog t n
  | 0, n, h => by cases h
  | 1, n, h => by obtain rfl : 1 = n := Option.some.inj h; exact (by kernel_rfl : (Try.prog.info? 1).map (·.size) = some 1)
  | 2, n, h => by obtain rfl : 1 = n := Option.some.inj h; exact (by kernel_rfl : (Try.prog.info? 2).map (·.size) = some 1)
  | 3, n, h => by obtain rfl : 1 = n := Option.some.inj h; exact (by kernel_rfl : (Try.prog.info? 3).map (·.size) = some 1)
  | 4, n, h => by obtain rfl : 1 = n := Option.some.inj h; exact (by kernel_rfl : (Try.prog.info? 4).map (·.size) = some 1)
  | 5, n, h => by obtain rfl : 1 = n := Option.some.inj h; exact (by kernel_rfl : (Try.prog.info? 5).map (·.size) = some 1)
  | 6, n, h => by obtain rfl : 1 = n := Option.some.inj h; exact (by kernel_rfl : (Try.prog.info? 6).map (·.size) = some 1)
  | 7, n, h => by cases h
  | 8, n, h => by cases h
  | 9, n, h => by obtain rfl : 1 = n := Option.some.inj h; exact (by kernel_rfl : (Try.prog.info? 9).map (·.size) = some 1)
  | 10, n, h => by obtain rfl : 1 = n := Option.some.inj h; exact (by kernel_rfl : (Try.prog.info? 10).map (·.size) = some 1)
  | 11, n, h => by obtain rfl : 1 = n := Option.some.inj h; exact (by kernel_rfl : (Try.prog.info? 11).map (·.size) = some 1)
  | 12, n, h => by obtain rfl : 1 = n := Option.some.inj h; exact (by kernel_rfl : (Try.prog.info? 12).map (·.size) = some 1)
  | 13, n, h => by cases h
  | 14, n, h => by cases h
  | 15, n, h => by obtain rfl : 1 = n := Option.some.inj h; exact (by kernel_rfl : (Try.prog.info? 15).map (·.size) = some 1)
  | 16, n, h => by obtain rfl : 1 = n := Option.some.inj h; exact (by kernel_rfl : (Try.prog.info? 16).map (·.size) = some 1)
  | 17, n, h => by obtain rfl : 1 = n := Option.some.inj h; exact (by kernel_rfl : (Try.prog.info? 17).map (·.size) = some 1)
  | 18, n, h => by cases h
  | 19, n, h => by cases h
  | 20, n, h => by obtain rfl : 1 = n := Option.some.inj h; exact (by kernel_rfl : (Try.prog.info? 20).map (·.size) = some 1)
  | 21, n, h => by obtain rfl : 1 = n := Option.some.inj h; exact (by kernel_rfl : (Try.prog.info? 21).map (·.size) = some 1)
  | 22, n, h => by obtain rfl : 1 = n := Option.some.inj h; exact (by kernel_rfl : (Try.prog.info? 22).map (·.size) = some 1)
  | 23, n, h => by obtain rfl : 4 = n := Option.some.inj h; exact (by kernel_rfl : (Try.prog.info? 23).map (·.size) = some 4)
  | 24, n, h => by obtain rfl : 4 = n := Option.some.inj h; exact (by kernel_rfl : (Try.prog.info? 24).map (·.size) = some 4)
  | 25, n, h => by cases h
  | 26, n, h => by obtain rfl : 1 = n := Option.some.inj h; exact (by kernel_rfl : (Try.prog.info? 26).map (·.size) = some 1)
  | 27, n, h => by obtain rfl : 1 = n := Option.some.inj h; exact (by kernel_rfl : (Try.prog.info? 27).map (·.size) = some 1)
  | 28, n, h => by obtain rfl : 1 = n := Option.some.inj h; exact (by kernel_rfl : (Try.prog.info? 28).map (·.size) = some 1)
  | 29, n, h => by obtain rfl : 1 = n := Option.some.inj h; exact (by kernel_rfl : (Try.prog.info? 29).map (·.size) = some 1)
  | 30, n, h => by obtain rfl : 1 = n := Option.some.inj h; exact (by kernel_rfl : (Try.prog.info? 30).map (·.size) = some 1)
  | 31, n, h => by obtain rfl : 1 = n := Option.some.inj h; exact (by kernel_rfl : (Try.prog.info? 31).map (·.size) = some 1)
  | 32, n, h => by obtain rfl : 1 = n := Option.some.inj h; exact (by kernel_rfl : (Try.prog.info? 32).map (·.size) = some 1)
  | 33, n, h => by obtain rfl : 20 = n := Option.some.inj h; exact (by kernel_rfl : (Try.prog.info? 33).map (·.size) = some 20)
  | 34, n, h => by obtain rfl : 20 = n := Option.some.inj h; exact (by kernel_rfl : (Try.prog.info? 34).map (·.size) = some 20)
  | 35, n, h => by cases h
  | 36, n, h => by obtain rfl : 1 = n := Option.some.inj h; exact (by kernel_rfl : (Try.prog.info? 36).map (·.size) = some 1)
  | 37, n, h => by obtain rfl : 1 = n := Option.some.inj h; exact (by kernel_rfl : (Try.prog.info? 37).map (·.size) = some 1)
  | 38, n, h => by obtain rfl : 1 = n := Option.some.inj h; exact (by kernel_rfl : (Try.prog.info? 38).map (·.size) = some 1)
  | 39, n, h => by obtain rfl : 1 = n := Option.some.inj h; exact (by kernel_rfl : (Try.prog.info? 39).map (·.size) = some 1)
  | 40, n, h => by obtain rfl : 1 = n := Option.some.inj h; exact (by kernel_rfl : (Try.prog.info? 40).map (·.size) = some 1)
  | 41, n, h => by obtain rfl : 1 = n := Option.some.inj h; exact (by kernel_rfl : (Try.prog.info? 41).map (·.size) = some 1)
  | 42, n, h => by obtain rfl : 1 = n := Option.some.inj h; exact (by kernel_rfl : (Try.prog.info? 42).map (·.size) = some 1)
  | 43, n, h => by obtain rfl : 1 = n := Option.some.inj h; exact (by kernel_rfl : (Try.prog.info? 43).map (·.size) = some 1)
  | 44, n, h => by obtain rfl : 1 = n := Option.some.inj h; exact (by kernel_rfl : (Try.prog.info? 44).map (·.size) = some 1)
  | 45, n, h => by obtain rfl : 8 = n := Option.some.inj h; exact (by kernel_rfl : (Try.prog.info? 45).map (·.size) = some 8)
  | 46, n, h => by obtain rfl : 8 = n := Option.some.inj h; exact (by kernel_rfl : (Try.prog.info? 46).map (·.size) = some 8)
  | 47, n, h => by obtain rfl : 1 = n := Option.some.inj h; exact (by kernel_rfl : (Try.prog.info? 47).map (·.size) = some 1)
  | 48, n, h => by cases h
  | 49, n, h => by obtain rfl : 1 = n := Option.some.inj h; exact (by kernel_rfl : (Try.prog.info? 49).map (·.size) = some 1)
  | 50, n, h => by obtain rfl : 1 = n := Option.some.inj h; exact (by kernel_rfl : (Try.prog.info? 50).map (·.size) = some 1)
  | 51, n, h => by obtain rfl : 1 = n := Option.some.inj h; exact (by kernel_rfl : (Try.prog.info? 51).map (·.size) = some 1)
  | 52, n, h => by obtain rfl : 1 = n := Option.some.inj h; exact (by kernel_rfl : (Try.prog.info? 52).map (·.size) = some 1)
  | 53, n, h => by obtain rfl : 1 = n := Option.some.inj h; exact (by kernel_rfl : (Try.prog.info? 53).map (·.size) = some 1)
  | 54, n, h => by obtain rfl : 1 = n := Option.some.inj h; exact (by kernel_rfl : (Try.prog.info? 54).map (·.size) = some 1)
  | 55, n, h => by obtain rfl : 1 = n := Option.some.inj h; exact (by kernel_rfl : (Try.prog.info? 55).map (·.size) = some 1)
  | 56, n, h => by obtain rfl : 1 = n := Option.some.inj h; exact (by kernel_rfl : (Try.prog.info? 56).map (·.size) = some 1)
  | 57, n, h => by obtain rfl : 1 = n := Option.some.inj h; exact (by kernel_rfl : (Try.prog.info? 57).map (·.size) = some 1)
  | 58, n, h => by obtain rfl : 1 = n := Option.some.inj h; exact (by kernel_rfl : (Try.prog.info? 58).map (·.size) = some 1)
  | 59, n, h => by obtain rfl : 1 = n := Option.some.inj h; exact (by kernel_rfl : (Try.prog.info? 59).map (·.size) = some 1)
  | 60, n, h => by obtain rfl : 1 = n := Option.some.inj h; exact (by kernel_rfl : (Try.prog.info? 60).map (·.size) = some 1)
  | 61, n, h => by obtain rfl : 1 = n := Option.some.inj h; exact (by kernel_rfl : (Try.prog.info? 61).map (·.size) = some 1)
  | 62, n, h => by obtain rfl : 1 = n := Option.some.inj h; exact (by kernel_rfl : (Try.prog.info? 62).map (·.size) = some 1)
  | 63, n, h => by cases h
  | 64, n, h => by obtain rfl : 1 = n := Option.some.inj h; exact (by kernel_rfl : (Try.prog.info? 64).map (·.size) = some 1)
  | 65, n, h => by obtain rfl : 1 = n := Option.some.inj h; exact (by kernel_rfl : (Try.prog.info? 65).map (·.size) = some 1)
  | 66, n, h => by obtain rfl : 1 = n := Option.some.inj h; exact (by kernel_rfl : (Try.prog.info? 66).map (·.size) = some 1)
  | 67, n, h => by obtain rfl : 1 = n := Option.some.inj h; exact (by kernel_rfl : (Try.prog.info? 67).map (·.size) = some 1)
  | 68, n, h => by obtain rfl : 1 = n := Option.some.inj h; exact (by kernel_rfl : (Try.prog.info? 68).map (·.size) = some 1)
  | 69, n, h => by obtain rfl : 1 = n := Option.some.inj h; exact (by kernel_rfl : (Try.prog.info? 69).map (·.size) = some 1)
  | 70, n, h => by obtain rfl : 1 = n := Option.some.inj h; exact (by kernel_rfl : (Try.prog.info? 70).map (·.size) = some 1)
  | 71, n, h => by obtain rfl : 9 = n := Option.some.inj h; exact (by kernel_rfl : (Try.prog.info? 71).map (·.size) = some 9)
  | 72, n, h => by obtain rfl : 1 = n := Option.some.inj h; exact (by kernel_rfl : (Try.prog.info? 72).map (·.size) = some 1)
  | 73, n, h => by cases h
  | 74, n, h => by obtain rfl : 1 = n := Option.some.inj h; exact (by kernel_rfl : (Try.prog.info? 74).map (·.size) = some 1)
  | 75, n, h => by obtain rfl : 1 = n := Option.some.inj h; exact (by kernel_rfl : (Try.prog.info? 75).map (·.size) = some 1)
  | 76, n, h => by obtain rfl : 1 = n := Option.some.inj h; exact (by kernel_rfl : (Try.prog.info? 76).map (·.size) = some 1)
  | 77, n, h => by obtain rfl : 16 = n := Option.some.inj h; exact (by kernel_rfl : (Try.prog.info? 77).map (·.size) = some 16)
  | 78, n, h => by obtain rfl : 1 = n := Option.some.inj h; exact (by kernel_rfl : (Try.prog.info? 78).map (·.size) = some 1)
  | 79, n, h => by obtain rfl : 1 = n := Option.some.inj h; exact (by kernel_rfl : (Try.prog.info? 79).map (·.size) = some 1)
  | 80, n, h => by obtain rfl : 1 = n := Option.some.inj h; exact (by kernel_rfl : (Try.prog.info? 80).map (·.size) = some 1)
  | 81, n, h => by obtain rfl : 1 = n := Option.some.inj h; exact (by kernel_rfl : (Try.prog.info? 81).map (·.size) = some 1)
  | 82, n, h => by obtain rfl : 1 = n := Option.some.inj h; exact (by kernel_rfl : (Try.prog.info? 82).map (·.size) = some 1)
  | 83, n, h => by obtain rfl : 1 = n := Option.some.inj h; exact (by kernel_rfl : (Try.prog.info? 83).map (·.size) = some 1)
  | 84, n, h => by obtain rfl : 1 = n := Option.some.inj h; exact (by kernel_rfl : (Try.prog.info? 84).map (·.size) = some 1)
  | 85, n, h => by cases h
  | 86, n, h => by cases h
  | 87, n, h => by obtain rfl : 0 = n := Option.some.inj h; exact (by kernel_rfl : (Try.prog.info? 87).map (·.size) = some 0)
  | 88, n, h => by cases h
  | 89, n, h => by cases h
  | 90, n, h => by obtain rfl : 1 = n := Option.some.inj h; exact (by kernel_rfl : (Try.prog.info? 90).map (·.size) = some 1)
  | 91, n, h => by obtain rfl : 1 = n := Option.some.inj h; exact (by kernel_rfl : (Try.prog.info? 91).map (·.size) = some 1)
  | 92, n, h => by obtain rfl : 1 = n := Option.some.inj h; exact (by kernel_rfl : (Try.prog.info? 92).map (·.size) = some 1)
  | 93, n, h => by obtain rfl : 1 = n := Option.some.inj h; exact (by kernel_rfl : (Try.prog.info? 93).map (·.size) = some 1)
  | 94, n, h => by obtain rfl : 1 = n := Option.some.inj h; exact (by kernel_rfl : (Try.prog.info? 94).map (·.size) = some 1)
  | 95, n, h => by obtain rfl : 1 = n := Option.some.inj h; exact (by kernel_rfl : (Try.prog.info? 95).map (·.size) = some 1)
  | 96, n, h => by obtain rfl : 1 = n := Option.some.inj h; exact (by kernel_rfl : (Try.prog.info? 96).map (·.size) = some 1)
  | 97, n, h => by obtain rfl : 1 = n := Option.some.inj h; exact (by kernel_rfl : (Try.prog.info? 97).map (·.size) = some 1)
  | 98, n, h => by cases h
  | 99, n, h => by cases h
  | 100, n, h => by cases h
  | 101, n, h => by cases h
  | 102, n, h => by cases h
  | _ + 103, n, h => by cases h
theorem zcT_ok : ∀ t c, zcT t = some c → ∃ i z, Try.prog.info? t = some i ∧ i.zero = some z ∧ z.cells = (cc c).toArray
  | 0, c, h => by cases h
  | 1, c, h => by cases h
  | 2, c, h => by obtain rfl : _ = c := Option.some.inj h; exact zc_mk (by kernel_rfl)
  | 3, c, h => by obtain rfl : _ = c := Option.some.inj h; exact zc_mk (by kernel_rfl)
  | 4, c, h => by obtain rfl : _ = c := Option.some.inj h; exact zc_mk (by kernel_rfl)
  | 5, c, h => by obtain rfl : _ = c := Option.some.inj h; exact zc_mk (by kernel_rfl)
  | 6, c, h => by obtain rfl : _ = c := Option.some.inj h; exact zc_mk (by kernel_rfl)
  | 7, c, h => by cases h
  | 8, c, h => by cases h
  | 9, c, h => by obtain rfl : _ = c := Option.some.inj h; exact zc_mk (by kernel_rfl)
  | 10, c, h => by obtain rfl : _ = c := Option.some.inj h; exact zc_mk (by kernel_rfl)
  | 11, c, h => by obtain rfl : _ = c := Option.some.inj h; exact zc_mk (by kernel_rfl)
  | 12, c, h => by obtain rfl : _ = c := Option.some.inj h; exact zc_mk (by kernel_rfl)
  | 13, c, h => by cases h
  | 14, c, h => by cases h
  | 15, c, h => by cases h
  | 16, c, h => by cases h
  | 17, c, h => by cases h
  | 18, c, h => by cases h
  | 19, c, h => by cases h
  | 20, c, h => by cases h
  | 21, c, h => by obtain rfl : _ = c := Option.some.inj h; exact zc_mk (by kernel_rfl)
  | 22, c, h => by obtain rfl : _ = c := Option.some.inj h; exact zc_mk (by kernel_rfl)
  | 23, c, h => by obtain rfl : _ = c := Option.some.inj h; exact zc_mk (by kernel_rfl)
  | 24, c, h => by obtain rfl : _ = c := Option.some.inj h; exact zc_mk (by kernel_rfl)
  | 25, c, h => by cases h
  | 26, c, h => by cases h
  | 27, c, h => by cases h
  | 28, c, h => by cases h
  | 29, c, h => by cases h
  | 30, c, h => by cases h
  | 31, c, h => by cases h
  | 32, c, h => by obtain rfl : _ = c := Option.some.inj h; exact zc_mk (by kernel_rfl)
  | 33, c, h => by obtain rfl : _ = c := Option.some.inj h; exact zc_mk (by kernel_rfl)
  | 34, c, h => by obtain rfl : _ = c := Option.some.inj h; exact zc_mk (by kernel_rfl)
  | 35, c, h => by cases h
  | 36, c, h => by cases h
  | 37, c, h => by cases h
  | 38, c, h => by cases h
  | 39, c, h => by cases h
  | 40, c, h => by cases h
  | 41, c, h => by cases h
  | 42, c, h => by cases h
  | 43, c, h => by cases h
  | 44, c, h => by cases h
  | 45, c, h => by obtain rfl : _ = c := Option.some.inj h; exact zc_mk (by kernel_rfl)
  | 46, c, h => by obtain rfl : _ = c := Option.some.inj h; exact zc_mk (by kernel_rfl)
  | 47, c, h => by cases h
  | 48, c, h => by cases h
  | 49, c, h => by cases h
  | 50, c, h => by cases h
  | 51, c, h => by cases h
  | 52, c, h => by cases h
  | 53, c, h => by obtain rfl : _ = c := Option.some.inj h; exact zc_mk (by kernel_rfl)
  | 54, c, h => by cases h
  | 55, c, h => by cases h
  | 56, c, h => by cases h
  | 57, c, h => by cases h
  | 58, c, h => by cases h
  | 59, c, h => by obtain rfl : _ = c := Option.some.inj h; exact zc_mk (by kernel_rfl)
  | 60, c, h => by cases h
  | 61, c, h => by cases h
  | 62, c, h => by cases h
  | 63, c, h => by cases h
  | 64, c, h => by cases h
  | 65, c, h => by cases h
  | 66, c, h => by cases h
  | 67, c, h => by cases h
  | 68, c, h => by cases h
  | 69, c, h => by cases h
  | 70, c, h => by cases h
  | 71, c, h => by obtain rfl : _ = c := Option.some.inj h; exact zc_mk (by kernel_rfl)
  | 72, c, h => by cases h
  | 73, c, h => by cases h
  | 74, c, h => by cases h
  | 75, c, h => by cases h
  | 76, c, h => by cases h
  | 77, c, h => by obtain rfl : _ = c := Option.some.inj h; exact zc_mk (by kernel_rfl)
  | 78, c, h => by cases h
  | 79, c, h => by cases h
  | 80, c, h => by cases h
  | 81, c, h => by cases h
  | 82, c, h => by cases h
  | 83, c, h => by cases h
  | 84, c, h => by cases h
  | 85, c, h => by cases h
  | 86, c, h => by cases h
  | 87, c, h => by cases h
  | 88, c, h => by cases h
  | 89, c, h => by cases h
  | 90, c, h => by cases h
  | 91, c, h => by obtain rfl : _ = c := Option.some.inj h; exact zc_mk (by kernel_rfl)
  | 92, c, h => by obtain rfl : _ = c := Option.some.inj h; exact zc_mk (by kernel_rfl)
  | 93, c, h => by obtain rfl : _ = c := Option.some.inj h; exact zc_mk (by kernel_rfl)
  | 94, c, h => by cases h
  | 95, c, h => by cases h
  | 96, c, h => by obtain rfl : _ = c := Option.some.inj h; exact zc_mk (by kernel_rfl)
  | 97, c, h => by obtain rfl : _ = c := Option.some.inj h; exact zc_mk (by kernel_rfl)
  | 98, c, h => by cases h
  | 99, c, h => by cases h
  | 100, c, h => by cases h
  | 101, c, h => by cases h
  | 102, c, h => by cases h
  | _ + 103, c, h => by cases h
theorem zrT_ok : ∀ t, zrT t ≠ [] → ∃ i z, Try.prog.info? t = some i ∧ i.zero = some z ∧ z.cells = (cvs (zrT t)).toArray
  | 0, h => absurd rfl h
  | 1, h => absurd rfl h
  | 2, h => absurd rfl h
  | 3, h => absurd rfl h
  | 4, h => absurd rfl h
  | 5, h => absurd rfl h
  | 6, h => absurd rfl h
  | 7, h => absurd rfl h
  | 8, h => absurd rfl h
  | 9, h => absurd rfl h
  | 10, h => absurd rfl h
  | 11, h => absurd rfl h
  | 12, h => absurd rfl h
  | 13, h => absurd rfl h
  | 14, h => absurd rfl h
  | 15, h => absurd rfl h
  | 16, h => absurd rfl h
  | 17, h => absurd rfl h
  | 18, h => absurd rfl h
  | 19, h => absurd rfl h
  | 20, h => absurd rfl h
  | 21, h => absurd rfl h
  | 22, h => absurd rfl h
  | 23, _ => zr_mk (by kernel_rfl)
  | 24, _ => zr_mk (by kernel_rfl)
  | 25, h => absurd rfl h
  | 26, h => absurd rfl h
  | 27, h => absurd rfl h
  | 28, h => absurd rfl h
  | 29, h => absurd rfl h
  | 30, h => absurd rfl h
  | 31, h => absurd rfl h
  | 32, h => absurd rfl h
  | 33, _ => zr_mk (by kernel_rfl)
  | 34, _ => zr_mk (by kernel_rfl)
  | 35, h => absurd rfl h
  | 36, h => absurd rfl h
  | 37, h => absurd rfl h
  | 38, h => absurd rfl h
  | 39, h => absurd rfl h
  | 40, h => absurd rfl h
  | 41, h => absurd rfl h
  | 42, h => absurd rfl h
  | 43, h => absurd rfl h
  | 44, h => absurd rfl h
  | 45, _ => zr_mk (by kernel_rfl)
  | 46, _ => zr_mk (by kernel_rfl)
  | 47, h => absurd rfl h
  | 48, h => absurd rfl h
  | 49, h => absurd rfl h
  | 50, h => absurd rfl h
  | 51, h => absurd rfl h
  | 52, h => absurd rfl h
  | 53, h => absurd rfl h
  | 54, h => absurd rfl h
  | 55, h => absurd rfl h
  | 56, h => absurd rfl h
  | 57, h => absurd rfl h
  | 58, h => absurd rfl h
  | 59, h => absurd rfl h
  | 60, h => absurd rfl h
  | 61, h => absurd rfl h
  | 62, h => absurd rfl h
  | 63, h => absurd rfl h
  | 64, h => absurd rfl h
  | 65, h => absurd rfl h
  | 66, h => absurd rfl h
  | 67, h => absurd rfl h
  | 68, h => absurd rfl h
  | 69, h => absurd rfl h
  | 70, h => absurd rfl h
  | 71, _ => zr_mk (by kernel_rfl)
  | 72, h => absurd rfl h
  | 73, h => absurd rfl h
  | 74, h => absurd rfl h
  | 75, h => absurd rfl h
  | 76, h => absurd rfl h
  | 77, _ => zr_mk (by kernel_rfl)
  | 78, h => absurd rfl h
  | 79, h => absurd rfl h
  | 80, h => absurd rfl h
  | 81, h => absurd rfl h
  | 82, h => absurd rfl h
  | 83, h => absurd rfl h
  | 84, h => absurd rfl h
  | 85, h => absurd rfl h
  | 86, h => absurd rfl h
  | 87, h => absurd rfl h
  | 88, h => absurd rfl h
  | 89, h => absurd rfl h
  | 90, h => absurd rfl h
  | 91, h => absurd rfl h
  | 92, h => absurd rfl h
  | 93, h => absurd rfl h
  | 94, h => absurd rfl h
  | 95, h => absurd rfl h
  | 96, h => absurd rfl h
  | 97, h => absurd rfl h
  | 98, h => absurd rfl h
  | 99, h => absurd rfl h
  | 100, h => absurd rfl h
  | 101, h => absurd rfl h
  | 102, h => absurd rfl h
  | _ + 103, h => absurd rfl h
theorem ty_3 : T0.ty 3 = .int .i64 := rfl
theorem zc_3 : T0.zc 3 = some (.ints .i64 [0]) := rfl
theorem ty_4 : T0.ty 4 = .bool := rfl
theorem zc_4 : T0.zc 4 = some (.cells [.bool false]) := rfl
theorem ty_5 : T0.ty 5 = .int .u8 := rfl
theorem zc_5 : T0.zc 5 = some (.ints .u8 [0]) := rfl
theorem ty_9 : T0.ty 9 = .str := rfl
theorem zc_9 : T0.zc 9 = some (.cells [.str ⟨#[]⟩]) := rfl
theorem ty_22 : T0.ty 22 = .int .u64 := rfl
theorem zc_22 : T0.zc 22 = some (.ints .u64 [0]) := rfl
theorem ty_24 : T0.ty 24 = .word := rfl
theorem zc_24 : T0.zc 24 = some (.words [0]) := rfl
theorem zr_24 : T0.zr 24 = [.int .u64 0, .int .u64 0, .int .u64 0, .int .u64 0] := rfl
theorem ty_32 : T0.ty 32 = .sl 5 1 1 := rfl
theorem zc_32 : T0.zc 32 = some (.cells [.nilsl]) := rfl
theorem ty_34 : T0.ty 34 = .arr 20 5 1 (some .u8) := rfl
theorem zc_34 : T0.zc 34 = some (.ints .u8 (List.replicate 20 0)) := rfl
theorem zr_34 : T0.zr 34 = [.int .u8 0, .int .u8 0, .int .u8 0, .int .u8 0, .int .u8 0, .int .u8 0, .int .u8 0, .int .u8 0, .int .u8 0, .int .u8 0, .int .u8 0, .int .u8 0, .int .u8 0, .int .u8 0, .int .u8 0, .int .u8 0, .int .u8 0, .int .u8 0, .int .u8 0, .int .u8 0] := rfl
theorem ty_45 : T0.ty 45 = .arr 8 22 1 (some .u64) := rfl
theorem zc_45 : T0.zc 45 = some (.ints .u64 (List.replicate 8 0)) := rfl
theorem zr_45 : T0.zr 45 = [.int .u64 0, .int .u64 0, .int .u64 0, .int .u64 0, .int .u64 0, .int .u64 0, .int .u64 0, .int .u64 0] := rfl
theorem ty_46 : T0.ty 46 = .arr 8 22 1 (some .u64) := rfl
theorem zc_46 : T0.zc 46 = some (.ints .u64 (List.replicate 8 0)) := rfl
theorem zr_46 : T0.zr 46 = [.int .u64 0, .int .u64 0, .int .u64 0, .int .u64 0, .int .u64 0, .int .u64 0, .int .u64 0, .int .u64 0] := rfl
theorem ty_53 : T0.ty 53 = .int .u64 := rfl
theorem zc_53 : T0.zc 53 = some (.ints .u64 [0]) := rfl
theorem ty_59 : T0.ty 59 = .sl 22 1 8 := rfl
theorem zc_59 : T0.zc 59 = some (.cells [.nilsl]) := rfl
theorem ty_67 : T0.ty 67 = .cell := rfl
theorem ty_71 : T0.ty 71 = .arr 9 22 1 (some .u64) := rfl
theorem zc_71 : T0.zc 71 = some (.ints .u64 (List.replicate 9 0)) := rfl
theorem zr_71 : T0.zr 71 = [.int .u64 0, .int .u64 0, .int .u64 0, .int .u64 0, .int .u64 0, .int .u64 0, .int .u64 0, .int .u64 0, .int .u64 0] := rfl
theorem ty_77 : T0.ty 77 = .arr 16 22 1 (some .u64) := rfl
theorem zc_77 : T0.zc 77 = some (.ints .u64 (List.replicate 16 0)) := rfl
theorem zr_77 : T0.zr 77 = [.int .u64 0, .int .u64 0, .int .u64 0, .int .u64 0, .int .u64 0, .int .u64 0, .int .u64 0, .int .u64 0, .int .u64 0, .int .u64 0, .int .u64 0, .int .u64 0, .int .u64 0, .int .u64 0, .int .u64 0, .int .u64 0] := rfl
theorem ty_82 : T0.ty 82 = .cell := rfl
theorem T0_ok : TabOk Try.prog T0 := { sz := szT_ok, zc := zcT_ok, ty := tyT_ok, gl := fun _ => rfl, zr := zrT_ok }
end Go.Proofs.Ytgmlabdcfbeijaa

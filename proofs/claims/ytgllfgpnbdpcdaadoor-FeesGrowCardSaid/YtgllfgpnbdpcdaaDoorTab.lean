/-
  The table of this translation's types.
-/
import Derived.Test.YtgllfgpnbdpcdaaDoorRows
import Derived.Test.YtgllfgpnbdpcdaaDoorEB
namespace Go.Proofs.YtgllfgpnbdpcdaaDoor
set_option linter.unusedSimpArgs false
set_option linter.unusedVariables false
set_option maxRecDepth 20000
open Go.RowKit
def tyT : Nat → Ty
  | 1 => .cell
  | 2 => .int .i64
  | 3 => .int .i64
  | 4 => .bool
  | 5 => .int .u8
  | 6 => .int .u8
  | 9 => .str
  | 10 => .str
  | 11 => .str
  | 12 => .int .u64
  | 15 => .ptr 77
  | 16 => .ptr 80
  | 17 => .ptr 89
  | 20 => .cell
  | 21 => .int .i32
  | 22 => .int .u64
  | 23 => .arr 4 22 1 (some .u64)
  | 24 => .word
  | 25 => .cell
  | 26 => .cell
  | 27 => .cell
  | 28 => .cell
  | 29 => .cell
  | 31 => .cell
  | 32 => .cell
  | 33 => .sl 5 1 1
  | 34 => .cell
  | 35 => .cell
  | 36 => .cell
  | 37 => .cell
  | 38 => .cell
  | 39 => .sl 24 4 32
  | 40 => .cell
  | 41 => .cell
  | 42 => .cell
  | 43 => .cell
  | 44 => .cell
  | 45 => .cell
  | 46 => .cell
  | 48 => .cell
  | 49 => .cell
  | 50 => .cell
  | 51 => .arr 256 4 1 none
  | 52 => .arr 256 4 1 none
  | 54 => .cell
  | 55 => .cell
  | 56 => .ptr 52
  | 57 => .cell
  | 58 => .int .u64
  | 59 => .cell
  | 60 => .cell
  | 61 => .cell
  | 62 => .cell
  | 64 => .cell
  | 65 => .cell
  | 66 => .cell
  | 67 => .cell
  | 68 => .int .u32
  | 70 => .cell
  | 71 => .arr 256 5 1 (some .u8)
  | 74 => .arr 16 73 2 none
  | 75 => .cell
  | 78 => .arr 0 16 1 none
  | 81 => .cell
  | 82 => .int .u8
  | 83 => .int .u8
  | 84 => .cell
  | 85 => .ptr 5
  | 86 => .int .i32
  | 87 => .int .i32
  | _ => .other
def zcT : Nat → Option Con
  | 2 => some (.ints .i64 [0])
  | 3 => some (.ints .i64 [0])
  | 4 => some (.cells [.bool false])
  | 5 => some (.ints .u8 [0])
  | 6 => some (.ints .u8 [0])
  | 9 => some (.cells [.str []])
  | 10 => some (.cells [.str []])
  | 11 => some (.cells [.str []])
  | 12 => some (.ints .u64 [0])
  | 21 => some (.ints .i32 [0])
  | 22 => some (.ints .u64 [0])
  | 23 => some (.ints .u64 (List.replicate 4 0))
  | 24 => some (.words [0])
  | 33 => some (.cells [.nilsl])
  | 39 => some (.cells [.nilsl])
  | 58 => some (.ints .u64 [0])
  | 68 => some (.ints .u32 [0])
  | 71 => some (.ints .u8 (List.replicate 256 0))
  | 82 => some (.ints .u8 [0])
  | 83 => some (.ints .u8 [0])
  | 86 => some (.ints .i32 [0])
  | 87 => some (.ints .i32 [0])
  | _ => none
def zrT : Nat → List SV
  | 23 => [.int .u64 0, .int .u64 0, .int .u64 0, .int .u64 0]
  | 24 => [.int .u64 0, .int .u64 0, .int .u64 0, .int .u64 0]
  | _ => []
def T0 : Tab := { ty := tyT, zr := zrT, zc := zcT, gl := fun g => .raw (.pointer (some ⟨g, 0, none⟩)) }
theorem tyOk1 : TyOk1 Tryd.prog 1 (.cell) := fun w => by kernel_rfl
theorem tyOk2 : TyOk1 Tryd.prog 2 (.int .i64) := (by kernel_rfl : Tryd.prog.underlying 2 = some (.int .i64))
theorem tyOk3 : TyOk1 Tryd.prog 3 (.int .i64) := (by kernel_rfl : Tryd.prog.underlying 3 = some (.int .i64))
theorem tyOk4 : TyOk1 Tryd.prog 4 (.bool) := (by kernel_rfl : Tryd.prog.underlying 4 = some (.bool))
theorem tyOk5 : TyOk1 Tryd.prog 5 (.int .u8) := (by kernel_rfl : Tryd.prog.underlying 5 = some (.int .u8))
theorem tyOk6 : TyOk1 Tryd.prog 6 (.int .u8) := (by kernel_rfl : Tryd.prog.underlying 6 = some (.int .u8))
theorem tyOk9 : TyOk1 Tryd.prog 9 (.str) := (by kernel_rfl : Tryd.prog.underlying 9 = some (.string))
theorem tyOk10 : TyOk1 Tryd.prog 10 (.str) := (by kernel_rfl : Tryd.prog.underlying 10 = some (.string))
theorem tyOk11 : TyOk1 Tryd.prog 11 (.str) := (by kernel_rfl : Tryd.prog.underlying 11 = some (.string))
theorem tyOk12 : TyOk1 Tryd.prog 12 (.int .u64) := (by kernel_rfl : Tryd.prog.underlying 12 = some (.int .u64))
theorem tyOk15 : TyOk1 Tryd.prog 15 (.ptr 77) := (by kernel_rfl : Tryd.prog.underlying 15 = some (.pointer 77))
theorem tyOk16 : TyOk1 Tryd.prog 16 (.ptr 80) := (by kernel_rfl : Tryd.prog.underlying 16 = some (.pointer 80))
theorem tyOk17 : TyOk1 Tryd.prog 17 (.ptr 89) := (by kernel_rfl : Tryd.prog.underlying 17 = some (.pointer 89))
theorem tyOk20 : TyOk1 Tryd.prog 20 (.cell) := fun w => by kernel_rfl
theorem tyOk21 : TyOk1 Tryd.prog 21 (.int .i32) := (by kernel_rfl : Tryd.prog.underlying 21 = some (.int .i32))
theorem tyOk22 : TyOk1 Tryd.prog 22 (.int .u64) := (by kernel_rfl : Tryd.prog.underlying 22 = some (.int .u64))
theorem tyOk23 : TyOk1 Tryd.prog 23 (.arr 4 22 1 (some .u64)) := ⟨(by kernel_rfl : Tryd.prog.underlying 23 = some (.array 4 22)), (by kernel_rfl : (Tryd.prog.info? 22).map (·.size) = some 1), (by kernel_rfl : (Tryd.prog.info? 23).map (·.size) = some 4), (by kernel_rfl : Tryd.prog.eqGuardType Tryd.prog.depth 23 = false), fun k h => by cases h; exact (by kernel_rfl : Tryd.prog.underlying 22 = some (.int .u64))⟩
theorem tyOk24 : TyOk1 Tryd.prog 24 (.word) := ⟨22, (by kernel_rfl : Tryd.prog.underlying 24 = some (.array 4 22)), (by kernel_rfl : Tryd.prog.underlying 22 = some (.int .u64)), (by kernel_rfl : (Tryd.prog.info? 22).map (·.size) = some 1), (by kernel_rfl : (Tryd.prog.info? 24).map (·.size) = some 4), (by kernel_rfl : Tryd.prog.eqGuardType Tryd.prog.depth 24 = false)⟩
theorem tyOk25 : TyOk1 Tryd.prog 25 (.cell) := fun w => by kernel_rfl
theorem tyOk26 : TyOk1 Tryd.prog 26 (.cell) := fun w => by kernel_rfl
theorem tyOk27 : TyOk1 Tryd.prog 27 (.cell) := fun w => by kernel_rfl
theorem tyOk28 : TyOk1 Tryd.prog 28 (.cell) := fun w => by kernel_rfl
theorem tyOk29 : TyOk1 Tryd.prog 29 (.cell) := fun w => by kernel_rfl
theorem tyOk31 : TyOk1 Tryd.prog 31 (.cell) := fun w => by kernel_rfl
theorem tyOk32 : TyOk1 Tryd.prog 32 (.cell) := fun w => by kernel_rfl
theorem tyOk33 : TyOk1 Tryd.prog 33 (.sl 5 1 1) := sl_mk (by kernel_rfl : Tryd.prog.underlying 33 = some (.slice 5)) (by decide) (by kernel_rfl : (Tryd.prog.info? 5).map (·.size) = some 1) (by kernel_rfl : (Tryd.prog.info? 5).map (·.bytes) = some 1) (by kernel_rfl : ((Tryd.prog.info? 5).bind (·.zero)).map (·.cells.size) = some 1)
theorem tyOk34 : TyOk1 Tryd.prog 34 (.cell) := fun w => by kernel_rfl
theorem tyOk35 : TyOk1 Tryd.prog 35 (.cell) := fun w => by kernel_rfl
theorem tyOk36 : TyOk1 Tryd.prog 36 (.cell) := fun w => by kernel_rfl
theorem tyOk37 : TyOk1 Tryd.prog 37 (.cell) := fun w => by kernel_rfl
theorem tyOk38 : TyOk1 Tryd.prog 38 (.cell) := fun w => by kernel_rfl
theorem tyOk39 : TyOk1 Tryd.prog 39 (.sl 24 4 32) := sl_mk (by kernel_rfl : Tryd.prog.underlying 39 = some (.slice 24)) (by decide) (by kernel_rfl : (Tryd.prog.info? 24).map (·.size) = some 4) (by kernel_rfl : (Tryd.prog.info? 24).map (·.bytes) = some 32) (by kernel_rfl : ((Tryd.prog.info? 24).bind (·.zero)).map (·.cells.size) = some 4)
theorem tyOk40 : TyOk1 Tryd.prog 40 (.cell) := fun w => by kernel_rfl
theorem tyOk41 : TyOk1 Tryd.prog 41 (.cell) := fun w => by kernel_rfl
theorem tyOk42 : TyOk1 Tryd.prog 42 (.cell) := fun w => by kernel_rfl
theorem tyOk43 : TyOk1 Tryd.prog 43 (.cell) := fun w => by kernel_rfl
theorem tyOk44 : TyOk1 Tryd.prog 44 (.cell) := fun w => by kernel_rfl
theorem tyOk45 : TyOk1 Tryd.prog 45 (.cell) := fun w => by kernel_rfl
theorem tyOk46 : TyOk1 Tryd.prog 46 (.cell) := fun w => by kernel_rfl
theorem tyOk48 : TyOk1 Tryd.prog 48 (.cell) := fun w => by kernel_rfl
theorem tyOk49 : TyOk1 Tryd.prog 49 (.cell) := fun w => by kernel_rfl
theorem tyOk50 : TyOk1 Tryd.prog 50 (.cell) := fun w => by kernel_rfl
theorem tyOk51 : TyOk1 Tryd.prog 51 (.arr 256 4 1 none) := ⟨(by kernel_rfl : Tryd.prog.underlying 51 = some (.array 256 4)), (by kernel_rfl : (Tryd.prog.info? 4).map (·.size) = some 1), (by kernel_rfl : (Tryd.prog.info? 51).map (·.size) = some 256), (by kernel_rfl : Tryd.prog.eqGuardType Tryd.prog.depth 51 = false), fun k h => by cases h⟩
theorem tyOk52 : TyOk1 Tryd.prog 52 (.arr 256 4 1 none) := ⟨(by kernel_rfl : Tryd.prog.underlying 52 = some (.array 256 4)), (by kernel_rfl : (Tryd.prog.info? 4).map (·.size) = some 1), (by kernel_rfl : (Tryd.prog.info? 52).map (·.size) = some 256), (by kernel_rfl : Tryd.prog.eqGuardType Tryd.prog.depth 52 = false), fun k h => by cases h⟩
theorem tyOk54 : TyOk1 Tryd.prog 54 (.cell) := fun w => by kernel_rfl
theorem tyOk55 : TyOk1 Tryd.prog 55 (.cell) := fun w => by kernel_rfl
theorem tyOk56 : TyOk1 Tryd.prog 56 (.ptr 52) := (by kernel_rfl : Tryd.prog.underlying 56 = some (.pointer 52))
theorem tyOk57 : TyOk1 Tryd.prog 57 (.cell) := fun w => by kernel_rfl
theorem tyOk58 : TyOk1 Tryd.prog 58 (.int .u64) := (by kernel_rfl : Tryd.prog.underlying 58 = some (.int .u64))
theorem tyOk59 : TyOk1 Tryd.prog 59 (.cell) := fun w => by kernel_rfl
theorem tyOk60 : TyOk1 Tryd.prog 60 (.cell) := fun w => by kernel_rfl
theorem tyOk61 : TyOk1 Tryd.prog 61 (.cell) := fun w => by kernel_rfl
theorem tyOk62 : TyOk1 Tryd.prog 62 (.cell) := fun w => by kernel_rfl
theorem tyOk64 : TyOk1 Tryd.prog 64 (.cell) := fun w => by kernel_rfl
theorem tyOk65 : TyOk1 Tryd.prog 65 (.cell) := fun w => by kernel_rfl
theorem tyOk66 : TyOk1 Tryd.prog 66 (.cell) := fun w => by kernel_rfl
theorem tyOk67 : TyOk1 Tryd.prog 67 (.cell) := fun w => by kernel_rfl
theorem tyOk68 : TyOk1 Tryd.prog 68 (.int .u32) := (by kernel_rfl : Tryd.prog.underlying 68 = some (.int .u32))
theorem tyOk70 : TyOk1 Tryd.prog 70 (.cell) := fun w => by kernel_rfl
theorem tyOk71 : TyOk1 Tryd.prog 71 (.arr 256 5 1 (some .u8)) := ⟨(by kernel_rfl : Tryd.prog.underlying 71 = some (.array 256 5)), (by kernel_rfl : (Tryd.prog.info? 5).map (·.size) = some 1), (by kernel_rfl : (Tryd.prog.info? 71).map (·.size) = some 256), (by kernel_rfl : Tryd.prog.eqGuardType Tryd.prog.depth 71 = false), fun k h => by cases h; exact (by kernel_rfl : Tryd.prog.underlying 5 = some (.int .u8))⟩
theorem tyOk74 : TyOk1 Tryd.prog 74 (.arr 16 73 2 none) := ⟨(by kernel_rfl : Tryd.prog.underlying 74 = some (.array 16 73)), (by kernel_rfl : (Tryd.prog.info? 73).map (·.size) = some 2), (by kernel_rfl : (Tryd.prog.info? 74).map (·.size) = some 32), (by kernel_rfl : Tryd.prog.eqGuardType Tryd.prog.depth 74 = false), fun k h => by cases h⟩
theorem tyOk75 : TyOk1 Tryd.prog 75 (.cell) := fun w => by kernel_rfl
theorem tyOk78 : TyOk1 Tryd.prog 78 (.arr 0 16 1 none) := ⟨(by kernel_rfl : Tryd.prog.underlying 78 = some (.array 0 16)), (by kernel_rfl : (Tryd.prog.info? 16).map (·.size) = some 1), (by kernel_rfl : (Tryd.prog.info? 78).map (·.size) = some 0), (by kernel_rfl : Tryd.prog.eqGuardType Tryd.prog.depth 78 = false), fun k h => by cases h⟩
theorem tyOk81 : TyOk1 Tryd.prog 81 (.cell) := fun w => by kernel_rfl
theorem tyOk82 : TyOk1 Tryd.prog 82 (.int .u8) := (by kernel_rfl : Tryd.prog.underlying 82 = some (.int .u8))
theorem tyOk83 : TyOk1 Tryd.prog 83 (.int .u8) := (by kernel_rfl : Tryd.prog.underlying 83 = some (.int .u8))
theorem tyOk84 : TyOk1 Tryd.prog 84 (.cell) := fun w => by kernel_rfl
theorem tyOk85 : TyOk1 Tryd.prog 85 (.ptr 5) := (by kernel_rfl : Tryd.prog.underlying 85 = some (.pointer 5))
theorem tyOk86 : TyOk1 Tryd.prog 86 (.int .i32) := (by kernel_rfl : Tryd.prog.underlying 86 = some (.int .i32))
theorem tyOk87 : TyOk1 Tryd.prog 87 (.int .i32) := (by kernel_rfl : Tryd.prog.underlying 87 = some (.int .i32))
theorem tyT_ok : ∀ t, TyOk1 Tryd.prog t (tyT t)
  | 0 => trivial
  | 1 => tyOk1
  | 2 => tyOk2
  | 3 => tyOk3
  | 4 => tyOk4
  | 5 => tyOk5
  | 6 => tyOk6
  | 7 => trivial
  | 8 => trivial
  | 9 => tyOk9
  | 10 => tyOk10
  | 11 => tyOk11
  | 12 => tyOk12
  | 13 => trivial
  | 14 => trivial
  | 15 => tyOk15
  | 16 => tyOk16
  | 17 => tyOk17
  | 18 => trivial
  | 19 => trivial
  | 20 => tyOk20
  | 21 => tyOk21
  | 22 => tyOk22
  | 23 => tyOk23
  | 24 => tyOk24
  | 25 => tyOk25
  | 26 => tyOk26
  | 27 => tyOk27
  | 28 => tyOk28
  | 29 => tyOk29
  | 30 => trivial
  | 31 => tyOk31
  | 32 => tyOk32
  | 33 => tyOk33
  | 34 => tyOk34
  | 35 => tyOk35
  | 36 => tyOk36
  | 37 => tyOk37
  | 38 => tyOk38
  | 39 => tyOk39
  | 40 => tyOk40
  | 41 => tyOk41
  | 42 => tyOk42
  | 43 => tyOk43
  | 44 => tyOk44
  | 45 => tyOk45
  | 46 => tyOk46
  | 47 => trivial
  | 48 => tyOk48
  | 49 => tyOk49
  | 50 => tyOk50
  | 51 => tyOk51
  | 52 => tyOk52
  | 53 => trivial
  | 54 => tyOk54
  | 55 => tyOk55
  | 56 => tyOk56
  | 57 => tyOk57
  | 58 => tyOk58
  | 59 => tyOk59
  | 60 => tyOk60
  | 61 => tyOk61
  | 62 => tyOk62
  | 63 => trivial
  | 64 => tyOk64
  | 65 => tyOk65
  | 66 => tyOk66
  | 67 => tyOk67
  | 68 => tyOk68
  | 69 => trivial
  | 70 => tyOk70
  | 71 => tyOk71
  | 72 => trivial
  | 73 => trivial
  | 74 => tyOk74
  | 75 => tyOk75
  | 76 => trivial
  | 77 => trivial
  | 78 => tyOk78
  | 79 => trivial
  | 80 => trivial
  | 81 => tyOk81
  | 82 => tyOk82
  | 83 => tyOk83
  | 84 => tyOk84
  | 85 => tyOk85
  | 86 => tyOk86
  | 87 => tyOk87
  | 88 => trivial
  | 89 => trivial
  | 90 => trivial
  | _ + 91 => trivial
theorem szT_ok : ∀ t n, tsz (tyT t) = some n → Sz Tryd.prog t n
  | 0, n, h => by cases h
  | 1, n, h => by obtain rfl : 1 = n := Option.some.inj h; exact (by kernel_rfl : (Tryd.prog.info? 1).map (·.size) = some 1)
  | 2, n, h => by obtain rfl : 1 = n := Option.some.inj h; exact (by kernel_rfl : (Tryd.prog.info? 2).map (·.size) = some 1)
  | 3, n, h => by obtain rfl : 1 = n := Option.some.inj h; exact (by kernel_rfl : (Tryd.prog.info? 3).map (·.size) = some 1)
  | 4, n, h => by obtain rfl : 1 = n := Option.some.inj h; exact (by kernel_rfl : (Tryd.prog.info? 4).map (·.size) = some 1)
  | 5, n, h => by obtain rfl : 1 = n := Option.some.inj h; exact (by kernel_rfl : (Tryd.prog.info? 5).map (·.size) = some 1)
  | 6, n, h => by obtain rfl : 1 = n := Option.some.inj h; exact (by kernel_rfl : (Tryd.prog.info? 6).map (·.size) = some 1)
  | 7, n, h => by cases h
  | 8, n, h => by cases h
  | 9, n, h => by obtain rfl : 1 = n := Option.some.inj h; exact (by kernel_rfl : (Tryd.prog.info? 9).map (·.size) = some 1)
  | 10, n, h => by obtain rfl : 1 = n := Option.some.inj h; exact (by kernel_rfl : (Tryd.prog.info? 10).map (·.size) = some 1)
  | 11, n, h => by obtain rfl : 1 = n := Option.some.inj h; exact (by kernel_rfl : (Tryd.prog.info? 11).map (·.size) = some 1)
  | 12, n, h => by obtain rfl : 1 = n := Option.some.inj h; exact (by kernel_rfl : (Tryd.prog.info? 12).map (·.size) = some 1)
  | 13, n, h => by cases h
  | 14, n, h => by cases h
  | 15, n, h => by obtain rfl : 1 = n := Option.some.inj h; exact (by kernel_rfl : (Tryd.prog.info? 15).map (·.size) = some 1)
  | 16, n, h => by obtain rfl : 1 = n := Option.some.inj h; exact (by kernel_rfl : (Tryd.prog.info? 16).map (·.size) = some 1)
  | 17, n, h => by obtain rfl : 1 = n := Option.some.inj h; exact (by kernel_rfl : (Tryd.prog.info? 17).map (·.size) = some 1)
  | 18, n, h => by cases h
  | 19, n, h => by cases h
  | 20, n, h => by obtain rfl : 1 = n := Option.some.inj h; exact (by kernel_rfl : (Tryd.prog.info? 20).map (·.size) = some 1)
  | 21, n, h => by obtain rfl : 1 = n := Option.some.inj h; exact (by kernel_rfl : (Tryd.prog.info? 21).map (·.size) = some 1)
  | 22, n, h => by obtain rfl : 1 = n := Option.some.inj h; exact (by kernel_rfl : (Tryd.prog.info? 22).map (·.size) = some 1)
  | 23, n, h => by obtain rfl : 4 = n := Option.some.inj h; exact (by kernel_rfl : (Tryd.prog.info? 23).map (·.size) = some 4)
  | 24, n, h => by obtain rfl : 4 = n := Option.some.inj h; exact (by kernel_rfl : (Tryd.prog.info? 24).map (·.size) = some 4)
  | 25, n, h => by obtain rfl : 1 = n := Option.some.inj h; exact (by kernel_rfl : (Tryd.prog.info? 25).map (·.size) = some 1)
  | 26, n, h => by obtain rfl : 1 = n := Option.some.inj h; exact (by kernel_rfl : (Tryd.prog.info? 26).map (·.size) = some 1)
  | 27, n, h => by obtain rfl : 1 = n := Option.some.inj h; exact (by kernel_rfl : (Tryd.prog.info? 27).map (·.size) = some 1)
  | 28, n, h => by obtain rfl : 1 = n := Option.some.inj h; exact (by kernel_rfl : (Tryd.prog.info? 28).map (·.size) = some 1)
  | 29, n, h => by obtain rfl : 1 = n := Option.some.inj h; exact (by kernel_rfl : (Tryd.prog.info? 29).map (·.size) = some 1)
  | 30, n, h => by cases h
  | 31, n, h => by obtain rfl : 1 = n := Option.some.inj h; exact (by kernel_rfl : (Tryd.prog.info? 31).map (·.size) = some 1)
  | 32, n, h => by obtain rfl : 1 = n := Option.some.inj h; exact (by kernel_rfl : (Tryd.prog.info? 32).map (·.size) = some 1)
  | 33, n, h => by obtain rfl : 1 = n := Option.some.inj h; exact (by kernel_rfl : (Tryd.prog.info? 33).map (·.size) = some 1)
  | 34, n, h => by obtain rfl : 1 = n := Option.some.inj h; exact (by kernel_rfl : (Tryd.prog.info? 34).map (·.size) = some 1)
  | 35, n, h => by obtain rfl : 1 = n := Option.some.inj h; exact (by kernel_rfl : (Tryd.prog.info? 35).map (·.size) = some 1)
  | 36, n, h => by obtain rfl : 1 = n := Option.some.inj h; exact (by kernel_rfl : (Tryd.prog.info? 36).map (·.size) = some 1)
  | 37, n, h => by obtain rfl : 1 = n := Option.some.inj h; exact (by kernel_rfl : (Tryd.prog.info? 37).map (·.size) = some 1)
  | 38, n, h => by obtain rfl : 1 = n := Option.some.inj h; exact (by kernel_rfl : (Tryd.prog.info? 38).map (·.size) = some 1)
  | 39, n, h => by obtain rfl : 1 = n := Option.some.inj h; exact (by kernel_rfl : (Tryd.prog.info? 39).map (·.size) = some 1)
  | 40, n, h => by obtain rfl : 1 = n := Option.some.inj h; exact (by kernel_rfl : (Tryd.prog.info? 40).map (·.size) = some 1)
  | 41, n, h => by obtain rfl : 1 = n := Option.some.inj h; exact (by kernel_rfl : (Tryd.prog.info? 41).map (·.size) = some 1)
  | 42, n, h => by obtain rfl : 1 = n := Option.some.inj h; exact (by kernel_rfl : (Tryd.prog.info? 42).map (·.size) = some 1)
  | 43, n, h => by obtain rfl : 1 = n := Option.some.inj h; exact (by kernel_rfl : (Tryd.prog.info? 43).map (·.size) = some 1)
  | 44, n, h => by obtain rfl : 1 = n := Option.some.inj h; exact (by kernel_rfl : (Tryd.prog.info? 44).map (·.size) = some 1)
  | 45, n, h => by obtain rfl : 1 = n := Option.some.inj h; exact (by kernel_rfl : (Tryd.prog.info? 45).map (·.size) = some 1)
  | 46, n, h => by obtain rfl : 1 = n := Option.some.inj h; exact (by kernel_rfl : (Tryd.prog.info? 46).map (·.size) = some 1)
  | 47, n, h => by cases h
  | 48, n, h => by obtain rfl : 1 = n := Option.some.inj h; exact (by kernel_rfl : (Tryd.prog.info? 48).map (·.size) = some 1)
  | 49, n, h => by obtain rfl : 1 = n := Option.some.inj h; exact (by kernel_rfl : (Tryd.prog.info? 49).map (·.size) = some 1)
  | 50, n, h => by obtain rfl : 1 = n := Option.some.inj h; exact (by kernel_rfl : (Tryd.prog.info? 50).map (·.size) = some 1)
  | 51, n, h => by obtain rfl : 256 = n := Option.some.inj h; exact (by kernel_rfl : (Tryd.prog.info? 51).map (·.size) = some 256)
  | 52, n, h => by obtain rfl : 256 = n := Option.some.inj h; exact (by kernel_rfl : (Tryd.prog.info? 52).map (·.size) = some 256)
  | 53, n, h => by cases h
  | 54, n, h => by obtain rfl : 1 = n := Option.some.inj h; exact (by kernel_rfl : (Tryd.prog.info? 54).map (·.size) = some 1)
  | 55, n, h => by obtain rfl : 1 = n := Option.some.inj h; exact (by kernel_rfl : (Tryd.prog.info? 55).map (·.size) = some 1)
  | 56, n, h => by obtain rfl : 1 = n := Option.some.inj h; exact (by kernel_rfl : (Tryd.prog.info? 56).map (·.size) = some 1)
  | 57, n, h => by obtain rfl : 1 = n := Option.some.inj h; exact (by kernel_rfl : (Tryd.prog.info? 57).map (·.size) = some 1)
  | 58, n, h => by obtain rfl : 1 = n := Option.some.inj h; exact (by kernel_rfl : (Tryd.prog.info? 58).map (·.size) = some 1)
  | 59, n, h => by obtain rfl : 1 = n := Option.some.inj h; exact (by kernel_rfl : (Tryd.prog.info? 59).map (·.size) = some 1)
  | 60, n, h => by obtain rfl : 1 = n := Option.some.inj h; exact (by kernel_rfl : (Tryd.prog.info? 60).map (·.size) = some 1)
  | 61, n, h => by obtain rfl : 1 = n := Option.some.inj h; exact (by kernel_rfl : (Tryd.prog.info? 61).map (·.size) = some 1)
  | 62, n, h => by obtain rfl : 1 = n := Option.some.inj h; exact (by kernel_rfl : (Tryd.prog.info? 62).map (·.size) = some 1)
  | 63, n, h => by cases h
  | 64, n, h => by obtain rfl : 1 = n := Option.some.inj h; exact (by kernel_rfl : (Tryd.prog.info? 64).map (·.size) = some 1)
  | 65, n, h => by obtain rfl : 1 = n := Option.some.inj h; exact (by kernel_rfl : (Tryd.prog.info? 65).map (·.size) = some 1)
  | 66, n, h => by obtain rfl : 1 = n := Option.some.inj h; exact (by kernel_rfl : (Tryd.prog.info? 66).map (·.size) = some 1)
  | 67, n, h => by obtain rfl : 1 = n := Option.some.inj h; exact (by kernel_rfl : (Tryd.prog.info? 67).map (·.size) = some 1)
  | 68, n, h => by obtain rfl : 1 = n := Option.some.inj h; exact (by kernel_rfl : (Tryd.prog.info? 68).map (·.size) = some 1)
  | 69, n, h => by cases h
  | 70, n, h => by obtain rfl : 1 = n := Option.some.inj h; exact (by kernel_rfl : (Tryd.prog.info? 70).map (·.size) = some 1)
  | 71, n, h => by obtain rfl : 256 = n := Option.some.inj h; exact (by kernel_rfl : (Tryd.prog.info? 71).map (·.size) = some 256)
  | 72, n, h => by cases h
  | 73, n, h => by cases h
  | 74, n, h => by obtain rfl : 32 = n := Option.some.inj h; exact (by kernel_rfl : (Tryd.prog.info? 74).map (·.size) = some 32)
  | 75, n, h => by obtain rfl : 1 = n := Option.some.inj h; exact (by kernel_rfl : (Tryd.prog.info? 75).map (·.size) = some 1)
  | 76, n, h => by cases h
  | 77, n, h => by cases h
  | 78, n, h => by obtain rfl : 0 = n := Option.some.inj h; exact (by kernel_rfl : (Tryd.prog.info? 78).map (·.size) = some 0)
  | 79, n, h => by cases h
  | 80, n, h => by cases h
  | 81, n, h => by obtain rfl : 1 = n := Option.some.inj h; exact (by kernel_rfl : (Tryd.prog.info? 81).map (·.size) = some 1)
  | 82, n, h => by obtain rfl : 1 = n := Option.some.inj h; exact (by kernel_rfl : (Tryd.prog.info? 82).map (·.size) = some 1)
  | 83, n, h => by obtain rfl : 1 = n := Option.some.inj h; exact (by kernel_rfl : (Tryd.prog.info? 83).map (·.size) = some 1)
  | 84, n, h => by obtain rfl : 1 = n := Option.some.inj h; exact (by kernel_rfl : (Tryd.prog.info? 84).map (·.size) = some 1)
  | 85, n, h => by obtain rfl : 1 = n := Option.some.inj h; exact (by kernel_rfl : (Tryd.prog.info? 85).map (·.size) = some 1)
  | 86, n, h => by obtain rfl : 1 = n := Option.some.inj h; exact (by kernel_rfl : (Tryd.prog.info? 86).map (·.size) = some 1)
  | 87, n, h => by obtain rfl : 1 = n := Option.some.inj h; exact (by kernel_rfl : (Tryd.prog.info? 87).map (·.size) = some 1)
  | 88, n, h => by cases h
  | 89, n, h => by cases h
  | 90, n, h => by cases h
  | _ + 91, n, h => by cases h
theorem zcT_ok : ∀ t c, zcT t = some c → ∃ i z, Tryd.prog.info? t = some i ∧ i.zero = some z ∧ z.cells = (cc c).toArray
  | 0, c, h => by cases h
  | 1, c, h => by cases h
  | 2, c, h => by obtain rfl : _ = c := Option.some.inj h; exact zc_mk (by kernel_rfl)
  | 3, c, h => by obtain rfl : _ = c := Option.some.inj h; exact zc_mk (by kernel_rfl)
  | 4, c, h => by obtain rfl : _ = c := Option.some.inj h; exact zc_mk (by kernel_rfl)
  | 5, c, h => by obtain rfl : _ = c := Option.some.inj h; exact zc_mk (by kernel_rfl)
  | 6, c, h => by obtain rfl : _ = c := Option.some.inj h; exact zc_mk (by kernel_rfl)
  | 7, c, h => by cases h
  | 8, c, h => by cases h
  | 9, c, h => by obtain rfl : _ = c := Option.some.inj h; exact zc_mk (by kernel_rfl)
  | 10, c, h => by obtain rfl : _ = c := Option.some.inj h; exact zc_mk (by kernel_rfl)
  | 11, c, h => by obtain rfl : _ = c := Option.some.inj h; exact zc_mk (by kernel_rfl)
  | 12, c, h => by obtain rfl : _ = c := Option.some.inj h; exact zc_mk (by kernel_rfl)
  | 13, c, h => by cases h
  | 14, c, h => by cases h
  | 15, c, h => by cases h
  | 16, c, h => by cases h
  | 17, c, h => by cases h
  | 18, c, h => by cases h
  | 19, c, h => by cases h
  | 20, c, h => by cases h
  | 21, c, h => by obtain rfl : _ = c := Option.some.inj h; exact zc_mk (by kernel_rfl)
  | 22, c, h => by obtain rfl : _ = c := Option.some.inj h; exact zc_mk (by kernel_rfl)
  | 23, c, h => by obtain rfl : _ = c := Option.some.inj h; exact zc_mk (by kernel_rfl)
  | 24, c, h => by obtain rfl : _ = c := Option.some.inj h; exact zc_mk (by kernel_rfl)
  | 25, c, h => by cases h
  | 26, c, h => by cases h
  | 27, c, h => by cases h
  | 28, c, h => by cases h
  | 29, c, h => by cases h
  | 30, c, h => by cases h
  | 31, c, h => by cases h
  | 32, c, h => by cases h
  | 33, c, h => by obtain rfl : _ = c := Option.some.inj h; exact zc_mk (by kernel_rfl)
  | 34, c, h => by cases h
  | 35, c, h => by cases h
  | 36, c, h => by cases h
  | 37, c, h => by cases h
  | 38, c, h => by cases h
  | 39, c, h => by obtain rfl : _ = c := Option.some.inj h; exact zc_mk (by kernel_rfl)
  | 40, c, h => by cases h
  | 41, c, h => by cases h
  | 42, c, h => by cases h
  | 43, c, h => by cases h
  | 44, c, h => by cases h
  | 45, c, h => by cases h
  | 46, c, h => by cases h
  | 47, c, h => by cases h
  | 48, c, h => by cases h
  | 49, c, h => by cases h
  | 50, c, h => by cases h
  | 51, c, h => by cases h
  | 52, c, h => by cases h
  | 53, c, h => by cases h
  | 54, c, h => by cases h
  | 55, c, h => by cases h
  | 56, c, h => by cases h
  | 57, c, h => by cases h
  | 58, c, h => by obtain rfl : _ = c := Option.some.inj h; exact zc_mk (by kernel_rfl)
  | 59, c, h => by cases h
  | 60, c, h => by cases h
  | 61, c, h => by cases h
  | 62, c, h => by cases h
  | 63, c, h => by cases h
  | 64, c, h => by cases h
  | 65, c, h => by cases h
  | 66, c, h => by cases h
  | 67, c, h => by cases h
  | 68, c, h => by obtain rfl : _ = c := Option.some.inj h; exact zc_mk (by kernel_rfl)
  | 69, c, h => by cases h
  | 70, c, h => by cases h
  | 71, c, h => by obtain rfl : _ = c := Option.some.inj h; exact zc_mk (by kernel_rfl)
  | 72, c, h => by cases h
  | 73, c, h => by cases h
  | 74, c, h => by cases h
  | 75, c, h => by cases h
  | 76, c, h => by cases h
  | 77, c, h => by cases h
  | 78, c, h => by cases h
  | 79, c, h => by cases h
  | 80, c, h => by cases h
  | 81, c, h => by cases h
  | 82, c, h => by obtain rfl : _ = c := Option.some.inj h; exact zc_mk (by kernel_rfl)
  | 83, c, h => by obtain rfl : _ = c := Option.some.inj h; exact zc_mk (by kernel_rfl)
  | 84, c, h => by cases h
  | 85, c, h => by cases h
  | 86, c, h => by obtain rfl : _ = c := Option.some.inj h; exact zc_mk (by kernel_rfl)
  | 87, c, h => by obtain rfl : _ = c := Option.some.inj h; exact zc_mk (by kernel_rfl)
  | 88, c, h => by cases h
  | 89, c, h => by cases h
  | 90, c, h => by cases h
  | _ + 91, c, h => by cases h
theorem zrT_ok : ∀ t, zrT t ≠ [] → ∃ i z, Tryd.prog.info? t = some i ∧ i.zero = some z ∧ z.cells = (cvs (zrT t)).toArray
  | 0, h => absurd rfl h
  | 1, h => absurd rfl h
  | 2, h => absurd rfl h
  | 3, h => absurd rfl h
  | 4, h => absurd rfl h
  | 5, h => absurd rfl h
  | 6, h => absurd rfl h
  | 7, h => absurd rfl h
  | 8, h => absurd rfl h
  | 9, h => absurd rfl h
  | 10, h => absurd rfl h
  | 11, h => absurd rfl h
  | 12, h => absurd rfl h
  | 13, h => absurd rfl h
  | 14, h => absurd rfl h
  | 15, h => absurd rfl h
  | 16, h => absurd rfl h
  | 17, h => absurd rfl h
  | 18, h => absurd rfl h
  | 19, h => absurd rfl h
  | 20, h => absurd rfl h
  | 21, h => absurd rfl h
  | 22, h => absurd rfl h
  | 23, _ => zr_mk (by kernel_rfl)
  | 24, _ => zr_mk (by kernel_rfl)
  | 25, h => absurd rfl h
  | 26, h => absurd rfl h
  | 27, h => absurd rfl h
  | 28, h => absurd rfl h
  | 29, h => absurd rfl h
  | 30, h => absurd rfl h
  | 31, h => absurd rfl h
  | 32, h => absurd rfl h
  | 33, h => absurd rfl h
  | 34, h => absurd rfl h
  | 35, h => absurd rfl h
  | 36, h => absurd rfl h
  | 37, h => absurd rfl h
  | 38, h => absurd rfl h
  | 39, h => absurd rfl h
  | 40, h => absurd rfl h
  | 41, h => absurd rfl h
  | 42, h => absurd rfl h
  | 43, h => absurd rfl h
  | 44, h => absurd rfl h
  | 45, h => absurd rfl h
  | 46, h => absurd rfl h
  | 47, h => absurd rfl h
  | 48, h => absurd rfl h
  | 49, h => absurd rfl h
  | 50, h => absurd rfl h
  | 51, h => absurd rfl h
  | 52, h => absurd rfl h
  | 53, h => absurd rfl h
  | 54, h => absurd rfl h
  | 55, h => absurd rfl h
  | 56, h => absurd rfl h
  | 57, h => absurd rfl h
  | 58, h => absurd rfl h
  | 59, h => absurd rfl h
  | 60, h => absurd rfl h
  | 61, h => absurd rfl h
  | 62, h => absurd rfl h
  | 63, h => absurd rfl h
  | 64, h => absurd rfl h
  | 65, h => absurd rfl h
  | 66, h => absurd rfl h
  | 67, h => absurd rfl h
  | 68, h => absurd rfl h
  | 69, h => absurd rfl h
  | 70, h => absurd rfl h
  | 71, h => absurd rfl h
  | 72, h => absurd rfl h
  | 73, h => absurd rfl h
  | 74, h => absurd rfl h
  | 75, h => absurd rfl h
  | 76, h => absurd rfl h
  | 77, h => absurd rfl h
  | 78, h => absurd rfl h
  | 79, h => absurd rfl h
  | 80, h => absurd rfl h
  | 81, h => absurd rfl h
  | 82, h => absurd rfl h
  | 83, h => absurd rfl h
  | 84, h => absurd rfl h
  | 85, h => absurd rfl h
  | 86, h => absurd rfl h
  | 87, h => absurd rfl h
  | 88, h => absurd rfl h
  | 89, h => absurd rfl h
  | 90, h => absurd rfl h
  | _ + 91, h => absurd rfl h
theorem b8T_ok : ∀ e, tyT e = .int .u8 → ∃ i, Tryd.prog.info? e = some i ∧ i.zero = some (.int .u8 0) ∧ i.size = 1 ∧ i.bytes = 1
  | 0, h => by cases h
  | 1, h => by cases h
  | 2, h => by cases h
  | 3, h => by cases h
  | 4, h => by cases h
  | 5, _ => b8_mk (by kernel_rfl)
  | 6, _ => b8_mk (by kernel_rfl)
  | 7, h => by cases h
  | 8, h => by cases h
  | 9, h => by cases h
  | 10, h => by cases h
  | 11, h => by cases h
  | 12, h => by cases h
  | 13, h => by cases h
  | 14, h => by cases h
  | 15, h => by cases h
  | 16, h => by cases h
  | 17, h => by cases h
  | 18, h => by cases h
  | 19, h => by cases h
  | 20, h => by cases h
  | 21, h => by cases h
  | 22, h => by cases h
  | 23, h => by cases h
  | 24, h => by cases h
  | 25, h => by cases h
  | 26, h => by cases h
  | 27, h => by cases h
  | 28, h => by cases h
  | 29, h => by cases h
  | 30, h => by cases h
  | 31, h => by cases h
  | 32, h => by cases h
  | 33, h => by cases h
  | 34, h => by cases h
  | 35, h => by cases h
  | 36, h => by cases h
  | 37, h => by cases h
  | 38, h => by cases h
  | 39, h => by cases h
  | 40, h => by cases h
  | 41, h => by cases h
  | 42, h => by cases h
  | 43, h => by cases h
  | 44, h => by cases h
  | 45, h => by cases h
  | 46, h => by cases h
  | 47, h => by cases h
  | 48, h => by cases h
  | 49, h => by cases h
  | 50, h => by cases h
  | 51, h => by cases h
  | 52, h => by cases h
  | 53, h => by cases h
  | 54, h => by cases h
  | 55, h => by cases h
  | 56, h => by cases h
  | 57, h => by cases h
  | 58, h => by cases h
  | 59, h => by cases h
  | 60, h => by cases h
  | 61, h => by cases h
  | 62, h => by cases h
  | 63, h => by cases h
  | 64, h => by cases h
  | 65, h => by cases h
  | 66, h => by cases h
  | 67, h => by cases h
  | 68, h => by cases h
  | 69, h => by cases h
  | 70, h => by cases h
  | 71, h => by cases h
  | 72, h => by cases h
  | 73, h => by cases h
  | 74, h => by cases h
  | 75, h => by cases h
  | 76, h => by cases h
  | 77, h => by cases h
  | 78, h => by cases h
  | 79, h => by cases h
  | 80, h => by cases h
  | 81, h => by cases h
  | 82, _ => b8_mk (by kernel_rfl)
  | 83, _ => b8_mk (by kernel_rfl)
  | 84, h => by cases h
  | 85, h => by cases h
  | 86, h => by cases h
  | 87, h => by cases h
  | 88, h => by cases h
  | 89, h => by cases h
  | 90, h => by cases h
  | _ + 91, h => by cases h
theorem ty_2 : T0.ty 2 = .int .i64 := rfl
theorem zc_2 : T0.zc 2 = some (.ints .i64 [0]) := rfl
theorem ty_3 : T0.ty 3 = .int .i64 := rfl
theorem zc_3 : T0.zc 3 = some (.ints .i64 [0]) := rfl
theorem ty_4 : T0.ty 4 = .bool := rfl
theorem zc_4 : T0.zc 4 = some (.cells [.bool false]) := rfl
theorem ty_5 : T0.ty 5 = .int .u8 := rfl
theorem zc_5 : T0.zc 5 = some (.ints .u8 [0]) := rfl
theorem ty_9 : T0.ty 9 = .str := rfl
theorem zc_9 : T0.zc 9 = some (.cells [.str []]) := rfl
theorem ty_21 : T0.ty 21 = .int .i32 := rfl
theorem zc_21 : T0.zc 21 = some (.ints .i32 [0]) := rfl
theorem ty_22 : T0.ty 22 = .int .u64 := rfl
theorem zc_22 : T0.zc 22 = some (.ints .u64 [0]) := rfl
theorem ty_24 : T0.ty 24 = .word := rfl
theorem zc_24 : T0.zc 24 = some (.words [0]) := rfl
theorem zr_24 : T0.zr 24 = [.int .u64 0, .int .u64 0, .int .u64 0, .int .u64 0] := rfl
theorem ty_33 : T0.ty 33 = .sl 5 1 1 := rfl
theorem zc_33 : T0.zc 33 = some (.cells [.nilsl]) := rfl
theorem ty_39 : T0.ty 39 = .sl 24 4 32 := rfl
theorem zc_39 : T0.zc 39 = some (.cells [.nilsl]) := rfl
theorem ty_52 : T0.ty 52 = .arr 256 4 1 none := rfl
theorem ty_56 : T0.ty 56 = .ptr 52 := rfl
theorem ty_58 : T0.ty 58 = .int .u64 := rfl
theorem zc_58 : T0.zc 58 = some (.ints .u64 [0]) := rfl
theorem ty_68 : T0.ty 68 = .int .u32 := rfl
theorem zc_68 : T0.zc 68 = some (.ints .u32 [0]) := rfl
theorem ty_71 : T0.ty 71 = .arr 256 5 1 (some .u8) := rfl
theorem zc_71 : T0.zc 71 = some (.ints .u8 (List.replicate 256 0)) := rfl
theorem ty_74 : T0.ty 74 = .arr 16 73 2 none := rfl
theorem st_0 : strI ⟨#[0]⟩ = [0] := by kernel_rfl
theorem st_1 : strI ⟨#[]⟩ = [] := by kernel_rfl
set_option linter.defProp false in
def tabs := And.intro @ty_2 <| And.intro @zc_2 <| And.intro @ty_3 <| And.intro @zc_3 <| And.intro @ty_4 <| And.intro @zc_4 <| And.intro @ty_5 <| And.intro @zc_5 <| And.intro @ty_9 <| And.intro @zc_9 <| And.intro @ty_21 <| And.intro @zc_21 <| And.intro @ty_22 <| And.intro @zc_22 <| And.intro @ty_24 <| And.intro @zc_24 <| And.intro @zr_24 <| And.intro @ty_33 <| And.intro @zc_33 <| And.intro @ty_39 <| And.intro @zc_39 <| And.intro @ty_52 <| And.intro @ty_56 <| And.intro @ty_58 <| And.intro @zc_58 <| And.intro @ty_68 <| And.intro @zc_68 <| And.intro @ty_71 <| And.intro @zc_71 <| And.intro @ty_74 <| And.intro @st_0 <| @st_1
theorem T0_ok : TabOk Tryd.prog T0 := { b8 := b8T_ok, sz := szT_ok, zc := zcT_ok, ty := tyT_ok, gl := fun _ => rfl, zr := zrT_ok }
end Go.Proofs.YtgllfgpnbdpcdaaDoor

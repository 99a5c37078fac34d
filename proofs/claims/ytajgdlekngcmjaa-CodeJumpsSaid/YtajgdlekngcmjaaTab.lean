/-
  The table of this translation's types.
-/
import Derived.Test.YtajgdlekngcmjaaRows
import Derived.Test.YtajgdlekngcmjaaEB
namespace Go.Proofs.Ytajgdlekngcmjaa
set_option linter.unusedSimpArgs false
set_option linter.unusedVariables false
set_option maxRecDepth 20000
open Go.RowKit
def tyT : Nat → Ty
  | 1 => .cell
  | 2 => .int .i64
  | 3 => .int .i64
  | 4 => .bool
  | 5 => .int .u8
  | 6 => .int .u8
  | 9 => .str
  | 10 => .str
  | 11 => .str
  | 12 => .int .u64
  | 15 => .ptr 58
  | 16 => .ptr 61
  | 17 => .ptr 71
  | 20 => .cell
  | 21 => .int .i32
  | 23 => .cell
  | 24 => .cell
  | 25 => .cell
  | 26 => .sl 5 1 1
  | 27 => .int .u64
  | 28 => .arr 4 27 1 (some .u64)
  | 29 => .word
  | 31 => .cell
  | 32 => .cell
  | 33 => .cell
  | 34 => .cell
  | 35 => .sl 27 1 8
  | 36 => .cell
  | 37 => .cell
  | 38 => .cell
  | 39 => .cell
  | 40 => .int .u64
  | 41 => .cell
  | 42 => .sl 45 3 24
  | 43 => .cell
  | 46 => .cell
  | 47 => .arr 32 5 1 (some .u8)
  | 48 => .cell
  | 50 => .cell
  | 51 => .cell
  | 52 => .cell
  | 53 => .cell
  | 54 => .cell
  | 55 => .cell
  | 56 => .cell
  | 59 => .arr 0 16 1 none
  | 62 => .cell
  | 63 => .int .u32
  | 64 => .int .u8
  | 65 => .int .u8
  | 66 => .cell
  | 67 => .ptr 5
  | 68 => .int .i32
  | 69 => .int .i32
  | _ => .other
def zcT : Nat → Option Con
  | 2 => some (.ints .i64 [0])
  | 3 => some (.ints .i64 [0])
  | 4 => some (.cells [.bool false])
  | 5 => some (.ints .u8 [0])
  | 6 => some (.ints .u8 [0])
  | 9 => some (.cells [.str []])
  | 10 => some (.cells [.str []])
  | 11 => some (.cells [.str []])
  | 12 => some (.ints .u64 [0])
  | 21 => some (.ints .i32 [0])
  | 26 => some (.cells [.nilsl])
  | 27 => some (.ints .u64 [0])
  | 28 => some (.ints .u64 (List.replicate 4 0))
  | 29 => some (.words [0])
  | 35 => some (.cells [.nilsl])
  | 40 => some (.ints .u64 [0])
  | 42 => some (.cells [.nilsl])
  | 47 => some (.ints .u8 (List.replicate 32 0))
  | 63 => some (.ints .u32 [0])
  | 64 => some (.ints .u8 [0])
  | 65 => some (.ints .u8 [0])
  | 68 => some (.ints .i32 [0])
  | 69 => some (.ints .i32 [0])
  | _ => none
def zrT : Nat → List SV
  | 28 => [.int .u64 0, .int .u64 0, .int .u64 0, .int .u64 0]
  | 29 => [.int .u64 0, .int .u64 0, .int .u64 0, .int .u64 0]
  | 47 => [.int .u8 0, .int .u8 0, .int .u8 0, .int .u8 0, .int .u8 0, .int .u8 0, .int .u8 0, .int .u8 0, .int .u8 0, .int .u8 0, .int .u8 0, .int .u8 0, .int .u8 0, .int .u8 0, .int .u8 0, .int .u8 0, .int .u8 0, .int .u8 0, .int .u8 0, .int .u8 0, .int .u8 0, .int .u8 0, .int .u8 0, .int .u8 0, .int .u8 0, .int .u8 0, .int .u8 0, .int .u8 0, .int .u8 0, .int .u8 0, .int .u8 0, .int .u8 0]
  | _ => []
def glT : Nat → SV
  | g => .raw (.pointer (some ⟨g, 0, none⟩))
def T0 : Tab := { ty := tyT, zr := zrT, zc := zcT, gl := glT }
theorem glT_ok : ∀ g, cv (T0.gl g) = .pointer (some ⟨g, 0, none⟩) := by
  intro g
  show cv (glT g) = _
  unfold glT
  first | (split <;> rfl) | rfl
theorem tyOk1 : TyOk1 Try.prog 1 (.cell) := fun w => by kernel_rfl
theorem tyOk2 : TyOk1 Try.prog 2 (.int .i64) := (by kernel_rfl : Try.prog.underlying 2 = some (.int .i64))
theorem tyOk3 : TyOk1 Try.prog 3 (.int .i64) := (by kernel_rfl : Try.prog.underlying 3 = some (.int .i64))
theorem tyOk4 : TyOk1 Try.prog 4 (.bool) := (by kernel_rfl : Try.prog.underlying 4 = some (.bool))
theorem tyOk5 : TyOk1 Try.prog 5 (.int .u8) := (by kernel_rfl : Try.prog.underlying 5 = some (.int .u8))
theorem tyOk6 : TyOk1 Try.prog 6 (.int .u8) := (by kernel_rfl : Try.prog.underlying 6 = some (.int .u8))
theorem tyOk9 : TyOk1 Try.prog 9 (.str) := (by kernel_rfl : Try.prog.underlying 9 = some (.string))
theorem tyOk10 : TyOk1 Try.prog 10 (.str) := (by kernel_rfl : Try.prog.underlying 10 = some (.string))
theorem tyOk11 : TyOk1 Try.prog 11 (.str) := (by kernel_rfl : Try.prog.underlying 11 = some (.string))
theorem tyOk12 : TyOk1 Try.prog 12 (.int .u64) := (by kernel_rfl : Try.prog.underlying 12 = some (.int .u64))
theorem tyOk15 : TyOk1 Try.prog 15 (.ptr 58) := (by kernel_rfl : Try.prog.underlying 15 = some (.pointer 58))
theorem tyOk16 : TyOk1 Try.prog 16 (.ptr 61) := (by kernel_rfl : Try.prog.underlying 16 = some (.pointer 61))
theorem tyOk17 : TyOk1 Try.prog 17 (.ptr 71) := (by kernel_rfl : Try.prog.underlying 17 = some (.pointer 71))
theorem tyOk20 : TyOk1 Try.prog 20 (.cell) := fun w => by kernel_rfl
theorem tyOk21 : TyOk1 Try.prog 21 (.int .i32) := (by kernel_rfl : Try.prog.underlying 21 = some (.int .i32))
theorem tyOk23 : TyOk1 Try.prog 23 (.cell) := fun w => by kernel_rfl
theorem tyOk24 : TyOk1 Try.prog 24 (.cell) := fun w => by kernel_rfl
theorem tyOk25 : TyOk1 Try.prog 25 (.cell) := fun w => by kernel_rfl
theorem tyOk26 : TyOk1 Try.prog 26 (.sl 5 1 1) := sl_mk (by kernel_rfl : Try.prog.underlying 26 = some (.slice 5)) (by decide) (by kernel_rfl : (Try.prog.info? 5).map (·.size) = some 1) (by kernel_rfl : (Try.prog.info? 5).map (·.bytes) = some 1) (by kernel_rfl : ((Try.prog.info? 5).bind (·.zero)).map (·.cells.size) = some 1)
theorem tyOk27 : TyOk1 Try.prog 27 (.int .u64) := (by kernel_rfl : Try.prog.underlying 27 = some (.int .u64))
theorem tyOk28 : TyOk1 Try.prog 28 (.arr 4 27 1 (some .u64)) := ⟨(by kernel_rfl : Try.prog.underlying 28 = some (.array 4 27)), (by kernel_rfl : (Try.prog.info? 27).map (·.size) = some 1), (by kernel_rfl : (Try.prog.info? 28).map (·.size) = some 4), (by kernel_rfl : Try.prog.eqGuardType Try.prog.depth 28 = false), fun k h => by cases h; exact (by kernel_rfl : Try.prog.underlying 27 = some (.int .u64))⟩
theorem tyOk29 : TyOk1 Try.prog 29 (.word) := ⟨27, (by kernel_rfl : Try.prog.underlying 29 = some (.array 4 27)), (by kernel_rfl : Try.prog.underlying 27 = some (.int .u64)), (by kernel_rfl : (Try.prog.info? 27).map (·.size) = some 1), (by kernel_rfl : (Try.prog.info? 29).map (·.size) = some 4), (by kernel_rfl : Try.prog.eqGuardType Try.prog.depth 29 = false)⟩
theorem tyOk31 : TyOk1 Try.prog 31 (.cell) := fun w => by kernel_rfl
theorem tyOk32 : TyOk1 Try.prog 32 (.cell) := fun w => by kernel_rfl
theorem tyOk33 : TyOk1 Try.prog 33 (.cell) := fun w => by kernel_rfl
theorem tyOk34 : TyOk1 Try.prog 34 (.cell) := fun w => by kernel_rfl
theorem tyOk35 : TyOk1 Try.prog 35 (.sl 27 1 8) := sl_mk (by kernel_rfl : Try.prog.underlying 35 = some (.slice 27)) (by decide) (by kernel_rfl : (Try.prog.info? 27).map (·.size) = some 1) (by kernel_rfl : (Try.prog.info? 27).map (·.bytes) = some 8) (by kernel_rfl : ((Try.prog.info? 27).bind (·.zero)).map (·.cells.size) = some 1)
theorem tyOk36 : TyOk1 Try.prog 36 (.cell) := fun w => by kernel_rfl
theorem tyOk37 : TyOk1 Try.prog 37 (.cell) := fun w => by kernel_rfl
theorem tyOk38 : TyOk1 Try.prog 38 (.cell) := fun w => by kernel_rfl
theorem tyOk39 : TyOk1 Try.prog 39 (.cell) := fun w => by kernel_rfl
theorem tyOk40 : TyOk1 Try.prog 40 (.int .u64) := (by kernel_rfl : Try.prog.underlying 40 = some (.int .u64))
theorem tyOk41 : TyOk1 Try.prog 41 (.cell) := fun w => by kernel_rfl
theorem tyOk42 : TyOk1 Try.prog 42 (.sl 45 3 24) := sl_mk (by kernel_rfl : Try.prog.underlying 42 = some (.slice 45)) (by decide) (by kernel_rfl : (Try.prog.info? 45).map (·.size) = some 3) (by kernel_rfl : (Try.prog.info? 45).map (·.bytes) = some 24) (by kernel_rfl : ((Try.prog.info? 45).bind (·.zero)).map (·.cells.size) = some 3)
theorem tyOk43 : TyOk1 Try.prog 43 (.cell) := fun w => by kernel_rfl
theorem tyOk46 : TyOk1 Try.prog 46 (.cell) := fun w => by kernel_rfl
theorem tyOk47 : TyOk1 Try.prog 47 (.arr 32 5 1 (some .u8)) := ⟨(by kernel_rfl : Try.prog.underlying 47 = some (.array 32 5)), (by kernel_rfl : (Try.prog.info? 5).map (·.size) = some 1), (by kernel_rfl : (Try.prog.info? 47).map (·.size) = some 32), (by kernel_rfl : Try.prog.eqGuardType Try.prog.depth 47 = false), fun k h => by cases h; exact (by kernel_rfl : Try.prog.underlying 5 = some (.int .u8))⟩
theorem tyOk48 : TyOk1 Try.prog 48 (.cell) := fun w => by kernel_rfl
theorem tyOk50 : TyOk1 Try.prog 50 (.cell) := fun w => by kernel_rfl
theorem tyOk51 : TyOk1 Try.prog 51 (.cell) := fun w => by kernel_rfl
theorem tyOk52 : TyOk1 Try.prog 52 (.cell) := fun w => by kernel_rfl
theorem tyOk53 : TyOk1 Try.prog 53 (.cell) := fun w => by kernel_rfl
theorem tyOk54 : TyOk1 Try.prog 54 (.cell) := fun w => by kernel_rfl
theorem tyOk55 : TyOk1 Try.prog 55 (.cell) := fun w => by kernel_rfl
theorem tyOk56 : TyOk1 Try.prog 56 (.cell) := fun w => by kernel_rfl
theorem tyOk59 : TyOk1 Try.prog 59 (.arr 0 16 1 none) := ⟨(by kernel_rfl : Try.prog.underlying 59 = some (.array 0 16)), (by kernel_rfl : (Try.prog.info? 16).map (·.size) = some 1), (by kernel_rfl : (Try.prog.info? 59).map (·.size) = some 0), (by kernel_rfl : Try.prog.eqGuardType Try.prog.depth 59 = false), fun k h => by cases h⟩
theorem tyOk62 : TyOk1 Try.prog 62 (.cell) := fun w => by kernel_rfl
theorem tyOk63 : TyOk1 Try.prog 63 (.int .u32) := (by kernel_rfl : Try.prog.underlying 63 = some (.int .u32))
theorem tyOk64 : TyOk1 Try.prog 64 (.int .u8) := (by kernel_rfl : Try.prog.underlying 64 = some (.int .u8))
theorem tyOk65 : TyOk1 Try.prog 65 (.int .u8) := (by kernel_rfl : Try.prog.underlying 65 = some (.int .u8))
theorem tyOk66 : TyOk1 Try.prog 66 (.cell) := fun w => by kernel_rfl
theorem tyOk67 : TyOk1 Try.prog 67 (.ptr 5) := (by kernel_rfl : Try.prog.underlying 67 = some (.pointer 5))
theorem tyOk68 : TyOk1 Try.prog 68 (.int .i32) := (by kernel_rfl : Try.prog.underlying 68 = some (.int .i32))
theorem tyOk69 : TyOk1 Try.prog 69 (.int .i32) := (by kernel_rfl : Try.prog.underlying 69 = some (.int .i32))
theorem tyT_ok : ∀ t, TyOk1 Try.prog t (tyT t)
  | 0 => trivial
  | 1 => tyOk1
  | 2 => tyOk2
  | 3 => tyOk3
  | 4 => tyOk4
  | 5 => tyOk5
  | 6 => tyOk6
  | 7 => trivial
  | 8 => trivial
  | 9 => tyOk9
  | 10 => tyOk10
  | 11 => tyOk11
  | 12 => tyOk12
  | 13 => trivial
  | 14 => trivial
  | 15 => tyOk15
  | 16 => tyOk16
  | 17 => tyOk17
  | 18 => trivial
  | 19 => trivial
  | 20 => tyOk20
  | 21 => tyOk21
  | 22 => trivial
  | 23 => tyOk23
  | 24 => tyOk24
  | 25 => tyOk25
  | 26 => tyOk26
  | 27 => tyOk27
  | 28 => tyOk28
  | 29 => tyOk29
  | 30 => trivial
  | 31 => tyOk31
  | 32 => tyOk32
  | 33 => tyOk33
  | 34 => tyOk34
  | 35 => tyOk35
  | 36 => tyOk36
  | 37 => tyOk37
  | 38 => tyOk38
  | 39 => tyOk39
  | 40 => tyOk40
  | 41 => tyOk41
  | 42 => tyOk42
  | 43 => tyOk43
  | 44 => trivial
  | 45 => trivial
  | 46 => tyOk46
  | 47 => tyOk47
  | 48 => tyOk48
  | 49 => trivial
  | 50 => tyOk50
  | 51 => tyOk51
  | 52 => tyOk52
  | 53 => tyOk53
  | 54 => tyOk54
  | 55 => tyOk55
  | 56 => tyOk56
  | 57 => trivial
  | 58 => trivial
  | 59 => tyOk59
  | 60 => trivial
  | 61 => trivial
  | 62 => tyOk62
  | 63 => tyOk63
  | 64 => tyOk64
  | 65 => tyOk65
  | 66 => tyOk66
  | 67 => tyOk67
  | 68 => tyOk68
  | 69 => tyOk69
  | 70 => trivial
  | 71 => trivial
  | 72 => trivial
  | _ + 73 => trivial
theorem szT_ok : ∀ t n, tsz (tyT t) = some n → Sz Try.prog t n
  | 0, n, h => by cases h
  | 1, n, h => by obtain rfl : 1 = n := Option.some.inj h; exact (by kernel_rfl : (Try.prog.info? 1).map (·.size) = some 1)
  | 2, n, h => by obtain rfl : 1 = n := Option.some.inj h; exact (by kernel_rfl : (Try.prog.info? 2).map (·.size) = some 1)
  | 3, n, h => by obtain rfl : 1 = n := Option.some.inj h; exact (by kernel_rfl : (Try.prog.info? 3).map (·.size) = some 1)
  | 4, n, h => by obtain rfl : 1 = n := Option.some.inj h; exact (by kernel_rfl : (Try.prog.info? 4).map (·.size) = some 1)
  | 5, n, h => by obtain rfl : 1 = n := Option.some.inj h; exact (by kernel_rfl : (Try.prog.info? 5).map (·.size) = some 1)
  | 6, n, h => by obtain rfl : 1 = n := Option.some.inj h; exact (by kernel_rfl : (Try.prog.info? 6).map (·.size) = some 1)
  | 7, n, h => by cases h
  | 8, n, h => by cases h
  | 9, n, h => by obtain rfl : 1 = n := Option.some.inj h; exact (by kernel_rfl : (Try.prog.info? 9).map (·.size) = some 1)
  | 10, n, h => by obtain rfl : 1 = n := Option.some.inj h; exact (by kernel_rfl : (Try.prog.info? 10).map (·.size) = some 1)
  | 11, n, h => by obtain rfl : 1 = n := Option.some.inj h; exact (by kernel_rfl : (Try.prog.info? 11).map (·.size) = some 1)
  | 12, n, h => by obtain rfl : 1 = n := Option.some.inj h; exact (by kernel_rfl : (Try.prog.info? 12).map (·.size) = some 1)
  | 13, n, h => by cases h
  | 14, n, h => by cases h
  | 15, n, h => by obtain rfl : 1 = n := Option.some.inj h; exact (by kernel_rfl : (Try.prog.info? 15).map (·.size) = some 1)
  | 16, n, h => by obtain rfl : 1 = n := Option.some.inj h; exact (by kernel_rfl : (Try.prog.info? 16).map (·.size) = some 1)
  | 17, n, h => by obtain rfl : 1 = n := Option.some.inj h; exact (by kernel_rfl : (Try.prog.info? 17).map (·.size) = some 1)
  | 18, n, h => by cases h
  | 19, n, h => by cases h
  | 20, n, h => by obtain rfl : 1 = n := Option.some.inj h; exact (by kernel_rfl : (Try.prog.info? 20).map (·.size) = some 1)
  | 21, n, h => by obtain rfl : 1 = n := Option.some.inj h; exact (by kernel_rfl : (Try.prog.info? 21).map (·.size) = some 1)
  | 22, n, h => by cases h
  | 23, n, h => by obtain rfl : 1 = n := Option.some.inj h; exact (by kernel_rfl : (Try.prog.info? 23).map (·.size) = some 1)
  | 24, n, h => by obtain rfl : 1 = n := Option.some.inj h; exact (by kernel_rfl : (Try.prog.info? 24).map (·.size) = some 1)
  | 25, n, h => by obtain rfl : 1 = n := Option.some.inj h; exact (by kernel_rfl : (Try.prog.info? 25).map (·.size) = some 1)
  | 26, n, h => by obtain rfl : 1 = n := Option.some.inj h; exact (by kernel_rfl : (Try.prog.info? 26).map (·.size) = some 1)
  | 27, n, h => by obtain rfl : 1 = n := Option.some.inj h; exact (by kernel_rfl : (Try.prog.info? 27).map (·.size) = some 1)
  | 28, n, h => by obtain rfl : 4 = n := Option.some.inj h; exact (by kernel_rfl : (Try.prog.info? 28).map (·.size) = some 4)
  | 29, n, h => by obtain rfl : 4 = n := Option.some.inj h; exact (by kernel_rfl : (Try.prog.info? 29).map (·.size) = some 4)
  | 30, n, h => by cases h
  | 31, n, h => by obtain rfl : 1 = n := Option.some.inj h; exact (by kernel_rfl : (Try.prog.info? 31).map (·.size) = some 1)
  | 32, n, h => by obtain rfl : 1 = n := Option.some.inj h; exact (by kernel_rfl : (Try.prog.info? 32).map (·.size) = some 1)
  | 33, n, h => by obtain rfl : 1 = n := Option.some.inj h; exact (by kernel_rfl : (Try.prog.info? 33).map (·.size) = some 1)
  | 34, n, h => by obtain rfl : 1 = n := Option.some.inj h; exact (by kernel_rfl : (Try.prog.info? 34).map (·.size) = some 1)
  | 35, n, h => by obtain rfl : 1 = n := Option.some.inj h; exact (by kernel_rfl : (Try.prog.info? 35).map (·.size) = some 1)
  | 36, n, h => by obtain rfl : 1 = n := Option.some.inj h; exact (by kernel_rfl : (Try.prog.info? 36).map (·.size) = some 1)
  | 37, n, h => by obtain rfl : 1 = n := Option.some.inj h; exact (by kernel_rfl : (Try.prog.info? 37).map (·.size) = some 1)
  | 38, n, h => by obtain rfl : 1 = n := Option.some.inj h; exact (by kernel_rfl : (Try.prog.info? 38).map (·.size) = some 1)
  | 39, n, h => by obtain rfl : 1 = n := Option.some.inj h; exact (by kernel_rfl : (Try.prog.info? 39).map (·.size) = some 1)
  | 40, n, h => by obtain rfl : 1 = n := Option.some.inj h; exact (by kernel_rfl : (Try.prog.info? 40).map (·.size) = some 1)
  | 41, n, h => by obtain rfl : 1 = n := Option.some.inj h; exact (by kernel_rfl : (Try.prog.info? 41).map (·.size) = some 1)
  | 42, n, h => by obtain rfl : 1 = n := Option.some.inj h; exact (by kernel_rfl : (Try.prog.info? 42).map (·.size) = some 1)
  | 43, n, h => by obtain rfl : 1 = n := Option.some.inj h; exact (by kernel_rfl : (Try.prog.info? 43).map (·.size) = some 1)
  | 44, n, h => by cases h
  | 45, n, h => by cases h
  | 46, n, h => by obtain rfl : 1 = n := Option.some.inj h; exact (by kernel_rfl : (Try.prog.info? 46).map (·.size) = some 1)
  | 47, n, h => by obtain rfl : 32 = n := Option.some.inj h; exact (by kernel_rfl : (Try.prog.info? 47).map (·.size) = some 32)
  | 48, n, h => by obtain rfl : 1 = n := Option.some.inj h; exact (by kernel_rfl : (Try.prog.info? 48).map (·.size) = some 1)
  | 49, n, h => by cases h
  | 50, n, h => by obtain rfl : 1 = n := Option.some.inj h; exact (by kernel_rfl : (Try.prog.info? 50).map (·.size) = some 1)
  | 51, n, h => by obtain rfl : 1 = n := Option.some.inj h; exact (by kernel_rfl : (Try.prog.info? 51).map (·.size) = some 1)
  | 52, n, h => by obtain rfl : 1 = n := Option.some.inj h; exact (by kernel_rfl : (Try.prog.info? 52).map (·.size) = some 1)
  | 53, n, h => by obtain rfl : 1 = n := Option.some.inj h; exact (by kernel_rfl : (Try.prog.info? 53).map (·.size) = some 1)
  | 54, n, h => by obtain rfl : 1 = n := Option.some.inj h; exact (by kernel_rfl : (Try.prog.info? 54).map (·.size) = some 1)
  | 55, n, h => by obtain rfl : 1 = n := Option.some.inj h; exact (by kernel_rfl : (Try.prog.info? 55).map (·.size) = some 1)
  | 56, n, h => by obtain rfl : 1 = n := Option.some.inj h; exact (by kernel_rfl : (Try.prog.info? 56).map (·.size) = some 1)
  | 57, n, h => by cases h
  | 58, n, h => by cases h
  | 59, n, h => by obtain rfl : 0 = n := Option.some.inj h; exact (by kernel_rfl : (Try.prog.info? 59).map (·.size) = some 0)
  | 60, n, h => by cases h
  | 61, n, h => by cases h
  | 62, n, h => by obtain rfl : 1 = n := Option.some.inj h; exact (by kernel_rfl : (Try.prog.info? 62).map (·.size) = some 1)
  | 63, n, h => by obtain rfl : 1 = n := Option.some.inj h; exact (by kernel_rfl : (Try.prog.info? 63).map (·.size) = some 1)
  | 64, n, h => by obtain rfl : 1 = n := Option.some.inj h; exact (by kernel_rfl : (Try.prog.info? 64).map (·.size) = some 1)
  | 65, n, h => by obtain rfl : 1 = n := Option.some.inj h; exact (by kernel_rfl : (Try.prog.info? 65).map (·.size) = some 1)
  | 66, n, h => by obtain rfl : 1 = n := Option.some.inj h; exact (by kernel_rfl : (Try.prog.info? 66).map (·.size) = some 1)
  | 67, n, h => by obtain rfl : 1 = n := Option.some.inj h; exact (by kernel_rfl : (Try.prog.info? 67).map (·.size) = some 1)
  | 68, n, h => by obtain rfl : 1 = n := Option.some.inj h; exact (by kernel_rfl : (Try.prog.info? 68).map (·.size) = some 1)
  | 69, n, h => by obtain rfl : 1 = n := Option.some.inj h; exact (by kernel_rfl : (Try.prog.info? 69).map (·.size) = some 1)
  | 70, n, h => by cases h
  | 71, n, h => by cases h
  | 72, n, h => by cases h
  | _ + 73, n, h => by cases h
theorem zcT_ok : ∀ t c, zcT t = some c → ∃ i z, Try.prog.info? t = some i ∧ i.zero = some z ∧ z.cells = (cc c).toArray
  | 0, c, h => by cases h
  | 1, c, h => by cases h
  | 2, c, h => by obtain rfl : _ = c := Option.some.inj h; exact zc_mk (by kernel_rfl)
  | 3, c, h => by obtain rfl : _ = c := Option.some.inj h; exact zc_mk (by kernel_rfl)
  | 4, c, h => by obtain rfl : _ = c := Option.some.inj h; exact zc_mk (by kernel_rfl)
  | 5, c, h => by obtain rfl : _ = c := Option.some.inj h; exact zc_mk (by kernel_rfl)
  | 6, c, h => by obtain rfl : _ = c := Option.some.inj h; exact zc_mk (by kernel_rfl)
  | 7, c, h => by cases h
  | 8, c, h => by cases h
  | 9, c, h => by obtain rfl : _ = c := Option.some.inj h; exact zc_mk (by kernel_rfl)
  | 10, c, h => by obtain rfl : _ = c := Option.some.inj h; exact zc_mk (by kernel_rfl)
  | 11, c, h => by obtain rfl : _ = c := Option.some.inj h; exact zc_mk (by kernel_rfl)
  | 12, c, h => by obtain rfl : _ = c := Option.some.inj h; exact zc_mk (by kernel_rfl)
  | 13, c, h => by cases h
  | 14, c, h => by cases h
  | 15, c, h => by cases h
  | 16, c, h => by cases h
  | 17, c, h => by cases h
  | 18, c, h => by cases h
  | 19, c, h => by cases h
  | 20, c, h => by cases h
  | 21, c, h => by obtain rfl : _ = c := Option.some.inj h; exact zc_mk (by kernel_rfl)
  | 22, c, h => by cases h
  | 23, c, h => by cases h
  | 24, c, h => by cases h
  | 25, c, h => by cases h
  | 26, c, h => by obtain rfl : _ = c := Option.some.inj h; exact zc_mk (by kernel_rfl)
  | 27, c, h => by obtain rfl : _ = c := Option.some.inj h; exact zc_mk (by kernel_rfl)
  | 28, c, h => by obtain rfl : _ = c := Option.some.inj h; exact zc_mk (by kernel_rfl)
  | 29, c, h => by obtain rfl : _ = c := Option.some.inj h; exact zc_mk (by kernel_rfl)
  | 30, c, h => by cases h
  | 31, c, h => by cases h
  | 32, c, h => by cases h
  | 33, c, h => by cases h
  | 34, c, h => by cases h
  | 35, c, h => by obtain rfl : _ = c := Option.some.inj h; exact zc_mk (by kernel_rfl)
  | 36, c, h => by cases h
  | 37, c, h => by cases h
  | 38, c, h => by cases h
  | 39, c, h => by cases h
  | 40, c, h => by obtain rfl : _ = c := Option.some.inj h; exact zc_mk (by kernel_rfl)
  | 41, c, h => by cases h
  | 42, c, h => by obtain rfl : _ = c := Option.some.inj h; exact zc_mk (by kernel_rfl)
  | 43, c, h => by cases h
  | 44, c, h => by cases h
  | 45, c, h => by cases h
  | 46, c, h => by cases h
  | 47, c, h => by obtain rfl : _ = c := Option.some.inj h; exact zc_mk (by kernel_rfl)
  | 48, c, h => by cases h
  | 49, c, h => by cases h
  | 50, c, h => by cases h
  | 51, c, h => by cases h
  | 52, c, h => by cases h
  | 53, c, h => by cases h
  | 54, c, h => by cases h
  | 55, c, h => by cases h
  | 56, c, h => by cases h
  | 57, c, h => by cases h
  | 58, c, h => by cases h
  | 59, c, h => by cases h
  | 60, c, h => by cases h
  | 61, c, h => by cases h
  | 62, c, h => by cases h
  | 63, c, h => by obtain rfl : _ = c := Option.some.inj h; exact zc_mk (by kernel_rfl)
  | 64, c, h => by obtain rfl : _ = c := Option.some.inj h; exact zc_mk (by kernel_rfl)
  | 65, c, h => by obtain rfl : _ = c := Option.some.inj h; exact zc_mk (by kernel_rfl)
  | 66, c, h => by cases h
  | 67, c, h => by cases h
  | 68, c, h => by obtain rfl : _ = c := Option.some.inj h; exact zc_mk (by kernel_rfl)
  | 69, c, h => by obtain rfl : _ = c := Option.some.inj h; exact zc_mk (by kernel_rfl)
  | 70, c, h => by cases h
  | 71, c, h => by cases h
  | 72, c, h => by cases h
  | _ + 73, c, h => by cases h
theorem zrT_ok : ∀ t, zrT t ≠ [] → ∃ i z, Try.prog.info? t = some i ∧ i.zero = some z ∧ z.cells = (cvs (zrT t)).toArray
  | 0, h => absurd rfl h
  | 1, h => absurd rfl h
  | 2, h => absurd rfl h
  | 3, h => absurd rfl h
  | 4, h => absurd rfl h
  | 5, h => absurd rfl h
  | 6, h => absurd rfl h
  | 7, h => absurd rfl h
  | 8, h => absurd rfl h
  | 9, h => absurd rfl h
  | 10, h => absurd rfl h
  | 11, h => absurd rfl h
  | 12, h => absurd rfl h
  | 13, h => absurd rfl h
  | 14, h => absurd rfl h
  | 15, h => absurd rfl h
  | 16, h => absurd rfl h
  | 17, h => absurd rfl h
  | 18, h => absurd rfl h
  | 19, h => absurd rfl h
  | 20, h => absurd rfl h
  | 21, h => absurd rfl h
  | 22, h => absurd rfl h
  | 23, h => absurd rfl h
  | 24, h => absurd rfl h
  | 25, h => absurd rfl h
  | 26, h => absurd rfl h
  | 27, h => absurd rfl h
  | 28, _ => zr_mk (by kernel_rfl)
  | 29, _ => zr_mk (by kernel_rfl)
  | 30, h => absurd rfl h
  | 31, h => absurd rfl h
  | 32, h => absurd rfl h
  | 33, h => absurd rfl h
  | 34, h => absurd rfl h
  | 35, h => absurd rfl h
  | 36, h => absurd rfl h
  | 37, h => absurd rfl h
  | 38, h => absurd rfl h
  | 39, h => absurd rfl h
  | 40, h => absurd rfl h
  | 41, h => absurd rfl h
  | 42, h => absurd rfl h
  | 43, h => absurd rfl h
  | 44, h => absurd rfl h
  | 45, h => absurd rfl h
  | 46, h => absurd rfl h
  | 47, _ => zr_mk (by kernel_rfl)
  | 48, h => absurd rfl h
  | 49, h => absurd rfl h
  | 50, h => absurd rfl h
  | 51, h => absurd rfl h
  | 52, h => absurd rfl h
  | 53, h => absurd rfl h
  | 54, h => absurd rfl h
  | 55, h => absurd rfl h
  | 56, h => absurd rfl h
  | 57, h => absurd rfl h
  | 58, h => absurd rfl h
  | 59, h => absurd rfl h
  | 60, h => absurd rfl h
  | 61, h => absurd rfl h
  | 62, h => absurd rfl h
  | 63, h => absurd rfl h
  | 64, h => absurd rfl h
  | 65, h => absurd rfl h
  | 66, h => absurd rfl h
  | 67, h => absurd rfl h
  | 68, h => absurd rfl h
  | 69, h => absurd rfl h
  | 70, h => absurd rfl h
  | 71, h => absurd rfl h
  | 72, h => absurd rfl h
  | _ + 73, h => absurd rfl h
theorem b8T_ok : ∀ e, tyT e = .int .u8 → ∃ i, Try.prog.info? e = some i ∧ i.zero = some (.int .u8 0) ∧ i.size = 1 ∧ i.bytes = 1
  | 0, h => by cases h
  | 1, h => by cases h
  | 2, h => by cases h
  | 3, h => by cases h
  | 4, h => by cases h
  | 5, _ => b8_mk (by kernel_rfl)
  | 6, _ => b8_mk (by kernel_rfl)
  | 7, h => by cases h
  | 8, h => by cases h
  | 9, h => by cases h
  | 10, h => by cases h
  | 11, h => by cases h
  | 12, h => by cases h
  | 13, h => by cases h
  | 14, h => by cases h
  | 15, h => by cases h
  | 16, h => by cases h
  | 17, h => by cases h
  | 18, h => by cases h
  | 19, h => by cases h
  | 20, h => by cases h
  | 21, h => by cases h
  | 22, h => by cases h
  | 23, h => by cases h
  | 24, h => by cases h
  | 25, h => by cases h
  | 26, h => by cases h
  | 27, h => by cases h
  | 28, h => by cases h
  | 29, h => by cases h
  | 30, h => by cases h
  | 31, h => by cases h
  | 32, h => by cases h
  | 33, h => by cases h
  | 34, h => by cases h
  | 35, h => by cases h
  | 36, h => by cases h
  | 37, h => by cases h
  | 38, h => by cases h
  | 39, h => by cases h
  | 40, h => by cases h
  | 41, h => by cases h
  | 42, h => by cases h
  | 43, h => by cases h
  | 44, h => by cases h
  | 45, h => by cases h
  | 46, h => by cases h
  | 47, h => by cases h
  | 48, h => by cases h
  | 49, h => by cases h
  | 50, h => by cases h
  | 51, h => by cases h
  | 52, h => by cases h
  | 53, h => by cases h
  | 54, h => by cases h
  | 55, h => by cases h
  | 56, h => by cases h
  | 57, h => by cases h
  | 58, h => by cases h
  | 59, h => by cases h
  | 60, h => by cases h
  | 61, h => by cases h
  | 62, h => by cases h
  | 63, h => by cases h
  | 64, _ => b8_mk (by kernel_rfl)
  | 65, _ => b8_mk (by kernel_rfl)
  | 66, h => by cases h
  | 67, h => by cases h
  | 68, h => by cases h
  | 69, h => by cases h
  | 70, h => by cases h
  | 71, h => by cases h
  | 72, h => by cases h
  | _ + 73, h => by cases h
theorem ty_3 : T0.ty 3 = .int .i64 := rfl
theorem zc_3 : T0.zc 3 = some (.ints .i64 [0]) := rfl
theorem ty_4 : T0.ty 4 = .bool := rfl
theorem zc_4 : T0.zc 4 = some (.cells [.bool false]) := rfl
theorem ty_5 : T0.ty 5 = .int .u8 := rfl
theorem zc_5 : T0.zc 5 = some (.ints .u8 [0]) := rfl
theorem ty_26 : T0.ty 26 = .sl 5 1 1 := rfl
theorem zc_26 : T0.zc 26 = some (.cells [.nilsl]) := rfl
theorem ty_27 : T0.ty 27 = .int .u64 := rfl
theorem zc_27 : T0.zc 27 = some (.ints .u64 [0]) := rfl
theorem ty_29 : T0.ty 29 = .word := rfl
theorem zc_29 : T0.zc 29 = some (.words [0]) := rfl
theorem zr_29 : T0.zr 29 = [.int .u64 0, .int .u64 0, .int .u64 0, .int .u64 0] := rfl
theorem ty_35 : T0.ty 35 = .sl 27 1 8 := rfl
theorem zc_35 : T0.zc 35 = some (.cells [.nilsl]) := rfl
theorem ty_40 : T0.ty 40 = .int .u64 := rfl
theorem zc_40 : T0.zc 40 = some (.ints .u64 [0]) := rfl
theorem ty_42 : T0.ty 42 = .sl 45 3 24 := rfl
theorem zc_42 : T0.zc 42 = some (.cells [.nilsl]) := rfl
theorem ty_47 : T0.ty 47 = .arr 32 5 1 (some .u8) := rfl
theorem zc_47 : T0.zc 47 = some (.ints .u8 (List.replicate 32 0)) := rfl
theorem zr_47 : T0.zr 47 = [.int .u8 0, .int .u8 0, .int .u8 0, .int .u8 0, .int .u8 0, .int .u8 0, .int .u8 0, .int .u8 0, .int .u8 0, .int .u8 0, .int .u8 0, .int .u8 0, .int .u8 0, .int .u8 0, .int .u8 0, .int .u8 0, .int .u8 0, .int .u8 0, .int .u8 0, .int .u8 0, .int .u8 0, .int .u8 0, .int .u8 0, .int .u8 0, .int .u8 0, .int .u8 0, .int .u8 0, .int .u8 0, .int .u8 0, .int .u8 0, .int .u8 0, .int .u8 0] := rfl
set_option linter.defProp false in
def tabs := And.intro @ty_3 <| And.intro @zc_3 <| And.intro @ty_4 <| And.intro @zc_4 <| And.intro @ty_5 <| And.intro @zc_5 <| And.intro @ty_26 <| And.intro @zc_26 <| And.intro @ty_27 <| And.intro @zc_27 <| And.intro @ty_29 <| And.intro @zc_29 <| And.intro @zr_29 <| And.intro @ty_35 <| And.intro @zc_35 <| And.intro @ty_40 <| And.intro @zc_40 <| And.intro @ty_42 <| And.intro @zc_42 <| And.intro @ty_47 <| And.intro @zc_47 <| @zr_47
theorem T0_ok : TabOk Try.prog T0 := { b8 := b8T_ok, sz := szT_ok, zc := zcT_ok, ty := tyT_ok, gl := glT_ok, zr := zrT_ok }
end Go.Proofs.Ytajgdlekngcmjaa

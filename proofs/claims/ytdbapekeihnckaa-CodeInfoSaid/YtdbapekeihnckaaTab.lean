/-
  The table of this translation's types.
-/
import Derived.Test.YtdbapekeihnckaaRows
import Derived.Test.YtdbapekeihnckaaEB
namespace Go.Proofs.Ytdbapekeihnckaa
set_option linter.unusedSimpArgs false
set_option linter.unusedVariables false
set_option maxRecDepth 20000
open Go.RowKit
def tyT : Nat → Ty
  | 1 => .cell
  | 2 => .int .i64
  | 3 => .int .i64
  | 4 => .bool
  | 5 => .int .u8
  | 6 => .int .u8
  | 9 => .str
  | 10 => .str
  | 11 => .str
  | 12 => .int .u64
  | 15 => .ptr 48
  | 16 => .ptr 51
  | 17 => .ptr 61
  | 20 => .cell
  | 21 => .int .i32
  | 23 => .cell
  | 24 => .cell
  | 25 => .cell
  | 26 => .sl 29 3 24
  | 27 => .cell
  | 28 => .struct 3 [(0, 1, 5), (1, 1, 3), (2, 1, 3)]
  | 29 => .struct 3 [(0, 1, 5), (1, 1, 3), (2, 1, 3)]
  | 30 => .sl 33 1 8
  | 31 => .cell
  | 32 => .sl 5 1 1
  | 33 => .int .u64
  | 34 => .arr 4 33 1 (some .u64)
  | 35 => .word
  | 37 => .cell
  | 38 => .cell
  | 39 => .cell
  | 40 => .cell
  | 41 => .cell
  | 42 => .cell
  | 43 => .arr 32 5 1 (some .u8)
  | 44 => .cell
  | 45 => .cell
  | 46 => .cell
  | 49 => .arr 0 16 1 none
  | 52 => .cell
  | 53 => .int .u32
  | 54 => .int .u8
  | 55 => .int .u8
  | 56 => .cell
  | 57 => .ptr 5
  | 58 => .int .i32
  | 59 => .int .i32
  | _ => .other
def zcT : Nat → Option Con
  | 1 => some (.cells [.raw .nilFunc])
  | 2 => some (.ints .i64 [0])
  | 3 => some (.ints .i64 [0])
  | 4 => some (.cells [.bool false])
  | 5 => some (.ints .u8 [0])
  | 6 => some (.ints .u8 [0])
  | 9 => some (.cells [.str []])
  | 10 => some (.cells [.str []])
  | 11 => some (.cells [.str []])
  | 12 => some (.ints .u64 [0])
  | 15 => some (.cells [.raw (.pointer none)])
  | 16 => some (.cells [.raw (.pointer none)])
  | 17 => some (.cells [.raw (.pointer none)])
  | 20 => some (.cells [.raw .nilIface])
  | 21 => some (.ints .i32 [0])
  | 23 => some (.cells [.raw .nilFunc])
  | 24 => some (.cells [.raw .nilFunc])
  | 25 => some (.cells [.raw .nilFunc])
  | 26 => some (.cells [.nilsl])
  | 27 => some (.cells [.raw .nilFunc])
  | 28 => some (.cells [.int .u8 0, .int .i64 0, .int .i64 0])
  | 29 => some (.cells [.int .u8 0, .int .i64 0, .int .i64 0])
  | 30 => some (.cells [.nilsl])
  | 31 => some (.cells [.raw .nilFunc])
  | 32 => some (.cells [.nilsl])
  | 33 => some (.ints .u64 [0])
  | 34 => some (.ints .u64 (List.replicate 4 0))
  | 35 => some (.words [0])
  | 37 => some (.cells [.raw .nilFunc])
  | 38 => some (.cells [.raw .nilFunc])
  | 39 => some (.cells [.raw .nilFunc])
  | 40 => some (.cells [.raw .nilFunc])
  | 41 => some (.cells [.raw .nilFunc])
  | 42 => some (.cells [.raw .nilFunc])
  | 43 => some (.ints .u8 (List.replicate 32 0))
  | 44 => some (.cells [.raw .nilFunc])
  | 45 => some (.cells [.raw .nilFunc])
  | 46 => some (.cells [.raw .nilFunc])
  | 52 => some (.cells [.raw .nilFunc])
  | 53 => some (.ints .u32 [0])
  | 54 => some (.ints .u8 [0])
  | 55 => some (.ints .u8 [0])
  | 56 => some (.cells [.raw .nilFunc])
  | 57 => some (.cells [.raw (.pointer none)])
  | 58 => some (.ints .i32 [0])
  | 59 => some (.ints .i32 [0])
  | _ => none
def zrT : Nat → List SV
  | 28 => [.int .u8 0, .int .i64 0, .int .i64 0]
  | 29 => [.int .u8 0, .int .i64 0, .int .i64 0]
  | 34 => [.int .u64 0, .int .u64 0, .int .u64 0, .int .u64 0]
  | 35 => [.int .u64 0, .int .u64 0, .int .u64 0, .int .u64 0]
  | 43 => [.int .u8 0, .int .u8 0, .int .u8 0, .int .u8 0, .int .u8 0, .int .u8 0, .int .u8 0, .int .u8 0, .int .u8 0, .int .u8 0, .int .u8 0, .int .u8 0, .int .u8 0, .int .u8 0, .int .u8 0, .int .u8 0, .int .u8 0, .int .u8 0, .int .u8 0, .int .u8 0, .int .u8 0, .int .u8 0, .int .u8 0, .int .u8 0, .int .u8 0, .int .u8 0, .int .u8 0, .int .u8 0, .int .u8 0, .int .u8 0, .int .u8 0, .int .u8 0]
  | _ => []
def glT : Nat → SV
  | g => .raw (.pointer (some ⟨g, 0, none⟩))
def T0 : Tab := { ty := tyT, zr := zrT, zc := zcT, gl := glT }
theorem glT_ok : ∀ g, cv (T0.gl g) = .pointer (some ⟨g, 0, none⟩) := by
  intro g
  show cv (glT g) = _
  unfold glT
  first | (split <;> rfl) | rfl
theorem tyOk1 : TyOk1 Try.prog 1 (.cell) := fun w => by kernel_rfl
theorem tyOk2 : TyOk1 Try.prog 2 (.int .i64) := (by kernel_rfl : Try.prog.underlying 2 = some (.int .i64))
theorem tyOk3 : TyOk1 Try.prog 3 (.int .i64) := (by kernel_rfl : Try.prog.underlying 3 = some (.int .i64))
theorem tyOk4 : TyOk1 Try.prog 4 (.bool) := (by kernel_rfl : Try.prog.underlying 4 = some (.bool))
theorem tyOk5 : TyOk1 Try.prog 5 (.int .u8) := (by kernel_rfl : Try.prog.underlying 5 = some (.int .u8))
theorem tyOk6 : TyOk1 Try.prog 6 (.int .u8) := (by kernel_rfl : Try.prog.underlying 6 = some (.int .u8))
theorem tyOk9 : TyOk1 Try.prog 9 (.str) := (by kernel_rfl : Try.prog.underlying 9 = some (.string))
theorem tyOk10 : TyOk1 Try.prog 10 (.str) := (by kernel_rfl : Try.prog.underlying 10 = some (.string))
theorem tyOk11 : TyOk1 Try.prog 11 (.str) := (by kernel_rfl : Try.prog.underlying 11 = some (.string))
theorem tyOk12 : TyOk1 Try.prog 12 (.int .u64) := (by kernel_rfl : Try.prog.underlying 12 = some (.int .u64))
theorem tyOk15 : TyOk1 Try.prog 15 (.ptr 48) := (by kernel_rfl : Try.prog.underlying 15 = some (.pointer 48))
theorem tyOk16 : TyOk1 Try.prog 16 (.ptr 51) := (by kernel_rfl : Try.prog.underlying 16 = some (.pointer 51))
theorem tyOk17 : TyOk1 Try.prog 17 (.ptr 61) := (by kernel_rfl : Try.prog.underlying 17 = some (.pointer 61))
theorem tyOk20 : TyOk1 Try.prog 20 (.cell) := fun w => by kernel_rfl
theorem tyOk21 : TyOk1 Try.prog 21 (.int .i32) := (by kernel_rfl : Try.prog.underlying 21 = some (.int .i32))
theorem tyOk23 : TyOk1 Try.prog 23 (.cell) := fun w => by kernel_rfl
theorem tyOk24 : TyOk1 Try.prog 24 (.cell) := fun w => by kernel_rfl
theorem tyOk25 : TyOk1 Try.prog 25 (.cell) := fun w => by kernel_rfl
theorem tyOk26 : TyOk1 Try.prog 26 (.sl 29 3 24) := sl_mk (by kernel_rfl : Try.prog.underlying 26 = some (.slice 29)) (by decide) (by kernel_rfl : (Try.prog.info? 29).map (·.size) = some 3) (by kernel_rfl : (Try.prog.info? 29).map (·.bytes) = some 24) (by kernel_rfl : ((Try.prog.info? 29).bind (·.zero)).map (·.cells.size) = some 3)
theorem tyOk27 : TyOk1 Try.prog 27 (.cell) := fun w => by kernel_rfl
theorem tyOk28 : TyOk1 Try.prog 28 (.struct 3 [(0, 1, 5), (1, 1, 3), (2, 1, 3)]) := st_mk (by kernel_rfl) (by kernel_rfl : (Try.prog.info? 28).map (·.size) = some 3)
theorem tyOk29 : TyOk1 Try.prog 29 (.struct 3 [(0, 1, 5), (1, 1, 3), (2, 1, 3)]) := st_mk (by kernel_rfl) (by kernel_rfl : (Try.prog.info? 29).map (·.size) = some 3)
theorem tyOk30 : TyOk1 Try.prog 30 (.sl 33 1 8) := sl_mk (by kernel_rfl : Try.prog.underlying 30 = some (.slice 33)) (by decide) (by kernel_rfl : (Try.prog.info? 33).map (·.size) = some 1) (by kernel_rfl : (Try.prog.info? 33).map (·.bytes) = some 8) (by kernel_rfl : ((Try.prog.info? 33).bind (·.zero)).map (·.cells.size) = some 1)
theorem tyOk31 : TyOk1 Try.prog 31 (.cell) := fun w => by kernel_rfl
theorem tyOk32 : TyOk1 Try.prog 32 (.sl 5 1 1) := sl_mk (by kernel_rfl : Try.prog.underlying 32 = some (.slice 5)) (by decide) (by kernel_rfl : (Try.prog.info? 5).map (·.size) = some 1) (by kernel_rfl : (Try.prog.info? 5).map (·.bytes) = some 1) (by kernel_rfl : ((Try.prog.info? 5).bind (·.zero)).map (·.cells.size) = some 1)
theorem tyOk33 : TyOk1 Try.prog 33 (.int .u64) := (by kernel_rfl : Try.prog.underlying 33 = some (.int .u64))
theorem tyOk34 : TyOk1 Try.prog 34 (.arr 4 33 1 (some .u64)) := ⟨(by kernel_rfl : Try.prog.underlying 34 = some (.array 4 33)), (by kernel_rfl : (Try.prog.info? 33).map (·.size) = some 1), (by kernel_rfl : (Try.prog.info? 34).map (·.size) = some 4), (by kernel_rfl : Try.prog.eqGuardType Try.prog.depth 34 = false), fun k h => by cases h; exact (by kernel_rfl : Try.prog.underlying 33 = some (.int .u64))⟩
theorem tyOk35 : TyOk1 Try.prog 35 (.word) := ⟨33, (by kernel_rfl : Try.prog.underlying 35 = some (.array 4 33)), (by kernel_rfl : Try.prog.underlying 33 = some (.int .u64)), (by kernel_rfl : (Try.prog.info? 33).map (·.size) = some 1), (by kernel_rfl : (Try.prog.info? 35).map (·.size) = some 4), (by kernel_rfl : Try.prog.eqGuardType Try.prog.depth 35 = false)⟩
theorem tyOk37 : TyOk1 Try.prog 37 (.cell) := fun w => by kernel_rfl
theorem tyOk38 : TyOk1 Try.prog 38 (.cell) := fun w => by kernel_rfl
theorem tyOk39 : TyOk1 Try.prog 39 (.cell) := fun w => by kernel_rfl
theorem tyOk40 : TyOk1 Try.prog 40 (.cell) := fun w => by kernel_rfl
theorem tyOk41 : TyOk1 Try.prog 41 (.cell) := fun w => by kernel_rfl
theorem tyOk42 : TyOk1 Try.prog 42 (.cell) := fun w => by kernel_rfl
theorem tyOk43 : TyOk1 Try.prog 43 (.arr 32 5 1 (some .u8)) := ⟨(by kernel_rfl : Try.prog.underlying 43 = some (.array 32 5)), (by kernel_rfl : (Try.prog.info? 5).map (·.size) = some 1), (by kernel_rfl : (Try.prog.info? 43).map (·.size) = some 32), (by kernel_rfl : Try.prog.eqGuardType Try.prog.depth 43 = false), fun k h => by cases h; exact (by kernel_rfl : Try.prog.underlying 5 = some (.int .u8))⟩
theorem tyOk44 : TyOk1 Try.prog 44 (.cell) := fun w => by kernel_rfl
theorem tyOk45 : TyOk1 Try.prog 45 (.cell) := fun w => by kernel_rfl
theorem tyOk46 : TyOk1 Try.prog 46 (.cell) := fun w => by kernel_rfl
theorem tyOk49 : TyOk1 Try.prog 49 (.arr 0 16 1 none) := ⟨(by kernel_rfl : Try.prog.underlying 49 = some (.array 0 16)), (by kernel_rfl : (Try.prog.info? 16).map (·.size) = some 1), (by kernel_rfl : (Try.prog.info? 49).map (·.size) = some 0), (by kernel_rfl : Try.prog.eqGuardType Try.prog.depth 49 = false), fun k h => by cases h⟩
theorem tyOk52 : TyOk1 Try.prog 52 (.cell) := fun w => by kernel_rfl
theorem tyOk53 : TyOk1 Try.prog 53 (.int .u32) := (by kernel_rfl : Try.prog.underlying 53 = some (.int .u32))
theorem tyOk54 : TyOk1 Try.prog 54 (.int .u8) := (by kernel_rfl : Try.prog.underlying 54 = some (.int .u8))
theorem tyOk55 : TyOk1 Try.prog 55 (.int .u8) := (by kernel_rfl : Try.prog.underlying 55 = some (.int .u8))
theorem tyOk56 : TyOk1 Try.prog 56 (.cell) := fun w => by kernel_rfl
theorem tyOk57 : TyOk1 Try.prog 57 (.ptr 5) := (by kernel_rfl : Try.prog.underlying 57 = some (.pointer 5))
theorem tyOk58 : TyOk1 Try.prog 58 (.int .i32) := (by kernel_rfl : Try.prog.underlying 58 = some (.int .i32))
theorem tyOk59 : TyOk1 Try.prog 59 (.int .i32) := (by kernel_rfl : Try.prog.underlying 59 = some (.int .i32))
theorem tyT_ok : ∀ t, TyOk1 Try.prog t (tyT t)
  | 0 => trivial
  | 1 => tyOk1
  | 2 => tyOk2
  | 3 => tyOk3
  | 4 => tyOk4
  | 5 => tyOk5
  | 6 => tyOk6
  | 7 => trivial
  | 8 => trivial
  | 9 => tyOk9
  | 10 => tyOk10
  | 11 => tyOk11
  | 12 => tyOk12
  | 13 => trivial
  | 14 => trivial
  | 15 => tyOk15
  | 16 => tyOk16
  | 17 => tyOk17
  | 18 => trivial
  | 19 => trivial
  | 20 => tyOk20
  | 21 => tyOk21
  | 22 => trivial
  | 23 => tyOk23
  | 24 => tyOk24
  | 25 => tyOk25
  | 26 => tyOk26
  | 27 => tyOk27
  | 28 => tyOk28
  | 29 => tyOk29
  | 30 => tyOk30
  | 31 => tyOk31
  | 32 => tyOk32
  | 33 => tyOk33
  | 34 => tyOk34
  | 35 => tyOk35
  | 36 => trivial
  | 37 => tyOk37
  | 38 => tyOk38
  | 39 => tyOk39
  | 40 => tyOk40
  | 41 => tyOk41
  | 42 => tyOk42
  | 43 => tyOk43
  | 44 => tyOk44
  | 45 => tyOk45
  | 46 => tyOk46
  | 47 => trivial
  | 48 => trivial
  | 49 => tyOk49
  | 50 => trivial
  | 51 => trivial
  | 52 => tyOk52
  | 53 => tyOk53
  | 54 => tyOk54
  | 55 => tyOk55
  | 56 => tyOk56
  | 57 => tyOk57
  | 58 => tyOk58
  | 59 => tyOk59
  | 60 => trivial
  | 61 => trivial
  | 62 => trivial
  | _ + 63 => trivial
theorem szT_ok : ∀ t n, tsz (tyT t) = some n → Sz Try.prog t n
  | 0, n, h => by cases h
  | 1, n, h => by obtain rfl : 1 = n := Option.some.inj h; exact (by kernel_rfl : (Try.prog.info? 1).map (·.size) = some 1)
  | 2, n, h => by obtain rfl : 1 = n := Option.some.inj h; exact (by kernel_rfl : (Try.prog.info? 2).map (·.size) = some 1)
  | 3, n, h => by obtain rfl : 1 = n := Option.some.inj h; exact (by kernel_rfl : (Try.prog.info? 3).map (·.size) = some 1)
  | 4, n, h => by obtain rfl : 1 = n := Option.some.inj h; exact (by kernel_rfl : (Try.prog.info? 4).map (·.size) = some 1)
  | 5, n, h => by obtain rfl : 1 = n := Option.some.inj h; exact (by kernel_rfl : (Try.prog.info? 5).map (·.size) = some 1)
  | 6, n, h => by obtain rfl : 1 = n := Option.some.inj h; exact (by kernel_rfl : (Try.prog.info? 6).map (·.size) = some 1)
  | 7, n, h => by cases h
  | 8, n, h => by cases h
  | 9, n, h => by obtain rfl : 1 = n := Option.some.inj h; exact (by kernel_rfl : (Try.prog.info? 9).map (·.size) = some 1)
  | 10, n, h => by obtain rfl : 1 = n := Option.some.inj h; exact (by kernel_rfl : (Try.prog.info? 10).map (·.size) = some 1)
  | 11, n, h => by obtain rfl : 1 = n := Option.some.inj h; exact (by kernel_rfl : (Try.prog.info? 11).map (·.size) = some 1)
  | 12, n, h => by obtain rfl : 1 = n := Option.some.inj h; exact (by kernel_rfl : (Try.prog.info? 12).map (·.size) = some 1)
  | 13, n, h => by cases h
  | 14, n, h => by cases h
  | 15, n, h => by obtain rfl : 1 = n := Option.some.inj h; exact (by kernel_rfl : (Try.prog.info? 15).map (·.size) = some 1)
  | 16, n, h => by obtain rfl : 1 = n := Option.some.inj h; exact (by kernel_rfl : (Try.prog.info? 16).map (·.size) = some 1)
  | 17, n, h => by obtain rfl : 1 = n := Option.some.inj h; exact (by kernel_rfl : (Try.prog.info? 17).map (·.size) = some 1)
  | 18, n, h => by cases h
  | 19, n, h => by cases h
  | 20, n, h => by obtain rfl : 1 = n := Option.some.inj h; exact (by kernel_rfl : (Try.prog.info? 20).map (·.size) = some 1)
  | 21, n, h => by obtain rfl : 1 = n := Option.some.inj h; exact (by kernel_rfl : (Try.prog.info? 21).map (·.size) = some 1)
  | 22, n, h => by cases h
  | 23, n, h => by obtain rfl : 1 = n := Option.some.inj h; exact (by kernel_rfl : (Try.prog.info? 23).map (·.size) = some 1)
  | 24, n, h => by obtain rfl : 1 = n := Option.some.inj h; exact (by kernel_rfl : (Try.prog.info? 24).map (·.size) = some 1)
  | 25, n, h => by obtain rfl : 1 = n := Option.some.inj h; exact (by kernel_rfl : (Try.prog.info? 25).map (·.size) = some 1)
  | 26, n, h => by obtain rfl : 1 = n := Option.some.inj h; exact (by kernel_rfl : (Try.prog.info? 26).map (·.size) = some 1)
  | 27, n, h => by obtain rfl : 1 = n := Option.some.inj h; exact (by kernel_rfl : (Try.prog.info? 27).map (·.size) = some 1)
  | 28, n, h => by obtain rfl : 3 = n := Option.some.inj h; exact (by kernel_rfl : (Try.prog.info? 28).map (·.size) = some 3)
  | 29, n, h => by obtain rfl : 3 = n := Option.some.inj h; exact (by kernel_rfl : (Try.prog.info? 29).map (·.size) = some 3)
  | 30, n, h => by obtain rfl : 1 = n := Option.some.inj h; exact (by kernel_rfl : (Try.prog.info? 30).map (·.size) = some 1)
  | 31, n, h => by obtain rfl : 1 = n := Option.some.inj h; exact (by kernel_rfl : (Try.prog.info? 31).map (·.size) = some 1)
  | 32, n, h => by obtain rfl : 1 = n := Option.some.inj h; exact (by kernel_rfl : (Try.prog.info? 32).map (·.size) = some 1)
  | 33, n, h => by obtain rfl : 1 = n := Option.some.inj h; exact (by kernel_rfl : (Try.prog.info? 33).map (·.size) = some 1)
  | 34, n, h => by obtain rfl : 4 = n := Option.some.inj h; exact (by kernel_rfl : (Try.prog.info? 34).map (·.size) = some 4)
  | 35, n, h => by obtain rfl : 4 = n := Option.some.inj h; exact (by kernel_rfl : (Try.prog.info? 35).map (·.size) = some 4)
  | 36, n, h => by cases h
  | 37, n, h => by obtain rfl : 1 = n := Option.some.inj h; exact (by kernel_rfl : (Try.prog.info? 37).map (·.size) = some 1)
  | 38, n, h => by obtain rfl : 1 = n := Option.some.inj h; exact (by kernel_rfl : (Try.prog.info? 38).map (·.size) = some 1)
  | 39, n, h => by obtain rfl : 1 = n := Option.some.inj h; exact (by kernel_rfl : (Try.prog.info? 39).map (·.size) = some 1)
  | 40, n, h => by obtain rfl : 1 = n := Option.some.inj h; exact (by kernel_rfl : (Try.prog.info? 40).map (·.size) = some 1)
  | 41, n, h => by obtain rfl : 1 = n := Option.some.inj h; exact (by kernel_rfl : (Try.prog.info? 41).map (·.size) = some 1)
  | 42, n, h => by obtain rfl : 1 = n := Option.some.inj h; exact (by kernel_rfl : (Try.prog.info? 42).map (·.size) = some 1)
  | 43, n, h => by obtain rfl : 32 = n := Option.some.inj h; exact (by kernel_rfl : (Try.prog.info? 43).map (·.size) = some 32)
  | 44, n, h => by obtain rfl : 1 = n := Option.some.inj h; exact (by kernel_rfl : (Try.prog.info? 44).map (·.size) = some 1)
  | 45, n, h => by obtain rfl : 1 = n := Option.some.inj h; exact (by kernel_rfl : (Try.prog.info? 45).map (·.size) = some 1)
  | 46, n, h => by obtain rfl : 1 = n := Option.some.inj h; exact (by kernel_rfl : (Try.prog.info? 46).map (·.size) = some 1)
  | 47, n, h => by cases h
  | 48, n, h => by cases h
  | 49, n, h => by obtain rfl : 0 = n := Option.some.inj h; exact (by kernel_rfl : (Try.prog.info? 49).map (·.size) = some 0)
  | 50, n, h => by cases h
  | 51, n, h => by cases h
  | 52, n, h => by obtain rfl : 1 = n := Option.some.inj h; exact (by kernel_rfl : (Try.prog.info? 52).map (·.size) = some 1)
  | 53, n, h => by obtain rfl : 1 = n := Option.some.inj h; exact (by kernel_rfl : (Try.prog.info? 53).map (·.size) = some 1)
  | 54, n, h => by obtain rfl : 1 = n := Option.some.inj h; exact (by kernel_rfl : (Try.prog.info? 54).map (·.size) = some 1)
  | 55, n, h => by obtain rfl : 1 = n := Option.some.inj h; exact (by kernel_rfl : (Try.prog.info? 55).map (·.size) = some 1)
  | 56, n, h => by obtain rfl : 1 = n := Option.some.inj h; exact (by kernel_rfl : (Try.prog.info? 56).map (·.size) = some 1)
  | 57, n, h => by obtain rfl : 1 = n := Option.some.inj h; exact (by kernel_rfl : (Try.prog.info? 57).map (·.size) = some 1)
  | 58, n, h => by obtain rfl : 1 = n := Option.some.inj h; exact (by kernel_rfl : (Try.prog.info? 58).map (·.size) = some 1)
  | 59, n, h => by obtain rfl : 1 = n := Option.some.inj h; exact (by kernel_rfl : (Try.prog.info? 59).map (·.size) = some 1)
  | 60, n, h => by cases h
  | 61, n, h => by cases h
  | 62, n, h => by cases h
  | _ + 63, n, h => by cases h
theorem zcT_ok : ∀ t c, zcT t = some c → ∃ i z, Try.prog.info? t = some i ∧ i.zero = some z ∧ z.cells = (cc c).toArray
  | 0, c, h => by cases h
  | 1, c, h => by obtain rfl : _ = c := Option.some.inj h; exact zc_mk (by kernel_rfl)
  | 2, c, h => by obtain rfl : _ = c := Option.some.inj h; exact zc_mk (by kernel_rfl)
  | 3, c, h => by obtain rfl : _ = c := Option.some.inj h; exact zc_mk (by kernel_rfl)
  | 4, c, h => by obtain rfl : _ = c := Option.some.inj h; exact zc_mk (by kernel_rfl)
  | 5, c, h => by obtain rfl : _ = c := Option.some.inj h; exact zc_mk (by kernel_rfl)
  | 6, c, h => by obtain rfl : _ = c := Option.some.inj h; exact zc_mk (by kernel_rfl)
  | 7, c, h => by cases h
  | 8, c, h => by cases h
  | 9, c, h => by obtain rfl : _ = c := Option.some.inj h; exact zc_mk (by kernel_rfl)
  | 10, c, h => by obtain rfl : _ = c := Option.some.inj h; exact zc_mk (by kernel_rfl)
  | 11, c, h => by obtain rfl : _ = c := Option.some.inj h; exact zc_mk (by kernel_rfl)
  | 12, c, h => by obtain rfl : _ = c := Option.some.inj h; exact zc_mk (by kernel_rfl)
  | 13, c, h => by cases h
  | 14, c, h => by cases h
  | 15, c, h => by obtain rfl : _ = c := Option.some.inj h; exact zc_mk (by kernel_rfl)
  | 16, c, h => by obtain rfl : _ = c := Option.some.inj h; exact zc_mk (by kernel_rfl)
  | 17, c, h => by obtain rfl : _ = c := Option.some.inj h; exact zc_mk (by kernel_rfl)
  | 18, c, h => by cases h
  | 19, c, h => by cases h
  | 20, c, h => by obtain rfl : _ = c := Option.some.inj h; exact zc_mk (by kernel_rfl)
  | 21, c, h => by obtain rfl : _ = c := Option.some.inj h; exact zc_mk (by kernel_rfl)
  | 22, c, h => by cases h
  | 23, c, h => by obtain rfl : _ = c := Option.some.inj h; exact zc_mk (by kernel_rfl)
  | 24, c, h => by obtain rfl : _ = c := Option.some.inj h; exact zc_mk (by kernel_rfl)
  | 25, c, h => by obtain rfl : _ = c := Option.some.inj h; exact zc_mk (by kernel_rfl)
  | 26, c, h => by obtain rfl : _ = c := Option.some.inj h; exact zc_mk (by kernel_rfl)
  | 27, c, h => by obtain rfl : _ = c := Option.some.inj h; exact zc_mk (by kernel_rfl)
  | 28, c, h => by obtain rfl : _ = c := Option.some.inj h; exact zc_mk (by kernel_rfl)
  | 29, c, h => by obtain rfl : _ = c := Option.some.inj h; exact zc_mk (by kernel_rfl)
  | 30, c, h => by obtain rfl : _ = c := Option.some.inj h; exact zc_mk (by kernel_rfl)
  | 31, c, h => by obtain rfl : _ = c := Option.some.inj h; exact zc_mk (by kernel_rfl)
  | 32, c, h => by obtain rfl : _ = c := Option.some.inj h; exact zc_mk (by kernel_rfl)
  | 33, c, h => by obtain rfl : _ = c := Option.some.inj h; exact zc_mk (by kernel_rfl)
  | 34, c, h => by obtain rfl : _ = c := Option.some.inj h; exact zc_mk (by kernel_rfl)
  | 35, c, h => by obtain rfl : _ = c := Option.some.inj h; exact zc_mk (by kernel_rfl)
  | 36, c, h => by cases h
  | 37, c, h => by obtain rfl : _ = c := Option.some.inj h; exact zc_mk (by kernel_rfl)
  | 38, c, h => by obtain rfl : _ = c := Option.some.inj h; exact zc_mk (by kernel_rfl)
  | 39, c, h => by obtain rfl : _ = c := Option.some.inj h; exact zc_mk (by kernel_rfl)
  | 40, c, h => by obtain rfl : _ = c := Option.some.inj h; exact zc_mk (by kernel_rfl)
  | 41, c, h => by obtain rfl : _ = c := Option.some.inj h; exact zc_mk (by kernel_rfl)
  | 42, c, h => by obtain rfl : _ = c := Option.some.inj h; exact zc_mk (by kernel_rfl)
  | 43, c, h => by obtain rfl : _ = c := Option.some.inj h; exact zc_mk (by kernel_rfl)
  | 44, c, h => by obtain rfl : _ = c := Option.some.inj h; exact zc_mk (by kernel_rfl)
  | 45, c, h => by obtain rfl : _ = c := Option.some.inj h; exact zc_mk (by kernel_rfl)
  | 46, c, h => by obtain rfl : _ = c := Option.some.inj h; exact zc_mk (by kernel_rfl)
  | 47, c, h => by cases h
  | 48, c, h => by cases h
  | 49, c, h => by cases h
  | 50, c, h => by cases h
  | 51, c, h => by cases h
  | 52, c, h => by obtain rfl : _ = c := Option.some.inj h; exact zc_mk (by kernel_rfl)
  | 53, c, h => by obtain rfl : _ = c := Option.some.inj h; exact zc_mk (by kernel_rfl)
  | 54, c, h => by obtain rfl : _ = c := Option.some.inj h; exact zc_mk (by kernel_rfl)
  | 55, c, h => by obtain rfl : _ = c := Option.some.inj h; exact zc_mk (by kernel_rfl)
  | 56, c, h => by obtain rfl : _ = c := Option.some.inj h; exact zc_mk (by kernel_rfl)
  | 57, c, h => by obtain rfl : _ = c := Option.some.inj h; exact zc_mk (by kernel_rfl)
  | 58, c, h => by obtain rfl : _ = c := Option.some.inj h; exact zc_mk (by kernel_rfl)
  | 59, c, h => by obtain rfl : _ = c := Option.some.inj h; exact zc_mk (by kernel_rfl)
  | 60, c, h => by cases h
  | 61, c, h => by cases h
  | 62, c, h => by cases h
  | _ + 63, c, h => by cases h
theorem zrT_ok : ∀ t, zrT t ≠ [] → ∃ i z, Try.prog.info? t = some i ∧ i.zero = some z ∧ z.cells = (cvs (zrT t)).toArray
  | 0, h => absurd rfl h
  | 1, h => absurd rfl h
  | 2, h => absurd rfl h
  | 3, h => absurd rfl h
  | 4, h => absurd rfl h
  | 5, h => absurd rfl h
  | 6, h => absurd rfl h
  | 7, h => absurd rfl h
  | 8, h => absurd rfl h
  | 9, h => absurd rfl h
  | 10, h => absurd rfl h
  | 11, h => absurd rfl h
  | 12, h => absurd rfl h
  | 13, h => absurd rfl h
  | 14, h => absurd rfl h
  | 15, h => absurd rfl h
  | 16, h => absurd rfl h
  | 17, h => absurd rfl h
  | 18, h => absurd rfl h
  | 19, h => absurd rfl h
  | 20, h => absurd rfl h
  | 21, h => absurd rfl h
  | 22, h => absurd rfl h
  | 23, h => absurd rfl h
  | 24, h => absurd rfl h
  | 25, h => absurd rfl h
  | 26, h => absurd rfl h
  | 27, h => absurd rfl h
  | 28, _ => zr_mk (by kernel_rfl)
  | 29, _ => zr_mk (by kernel_rfl)
  | 30, h => absurd rfl h
  | 31, h => absurd rfl h
  | 32, h => absurd rfl h
  | 33, h => absurd rfl h
  | 34, _ => zr_mk (by kernel_rfl)
  | 35, _ => zr_mk (by kernel_rfl)
  | 36, h => absurd rfl h
  | 37, h => absurd rfl h
  | 38, h => absurd rfl h
  | 39, h => absurd rfl h
  | 40, h => absurd rfl h
  | 41, h => absurd rfl h
  | 42, h => absurd rfl h
  | 43, _ => zr_mk (by kernel_rfl)
  | 44, h => absurd rfl h
  | 45, h => absurd rfl h
  | 46, h => absurd rfl h
  | 47, h => absurd rfl h
  | 48, h => absurd rfl h
  | 49, h => absurd rfl h
  | 50, h => absurd rfl h
  | 51, h => absurd rfl h
  | 52, h => absurd rfl h
  | 53, h => absurd rfl h
  | 54, h => absurd rfl h
  | 55, h => absurd rfl h
  | 56, h => absurd rfl h
  | 57, h => absurd rfl h
  | 58, h => absurd rfl h
  | 59, h => absurd rfl h
  | 60, h => absurd rfl h
  | 61, h => absurd rfl h
  | 62, h => absurd rfl h
  | _ + 63, h => absurd rfl h
theorem b8T_ok : ∀ e, tyT e = .int .u8 → ∃ i, Try.prog.info? e = some i ∧ i.zero = some (.int .u8 0) ∧ i.size = 1 ∧ i.bytes = 1
  | 0, h => by cases h
  | 1, h => by cases h
  | 2, h => by cases h
  | 3, h => by cases h
  | 4, h => by cases h
  | 5, _ => b8_mk (by kernel_rfl)
  | 6, _ => b8_mk (by kernel_rfl)
  | 7, h => by cases h
  | 8, h => by cases h
  | 9, h => by cases h
  | 10, h => by cases h
  | 11, h => by cases h
  | 12, h => by cases h
  | 13, h => by cases h
  | 14, h => by cases h
  | 15, h => by cases h
  | 16, h => by cases h
  | 17, h => by cases h
  | 18, h => by cases h
  | 19, h => by cases h
  | 20, h => by cases h
  | 21, h => by cases h
  | 22, h => by cases h
  | 23, h => by cases h
  | 24, h => by cases h
  | 25, h => by cases h
  | 26, h => by cases h
  | 27, h => by cases h
  | 28, h => by cases h
  | 29, h => by cases h
  | 30, h => by cases h
  | 31, h => by cases h
  | 32, h => by cases h
  | 33, h => by cases h
  | 34, h => by cases h
  | 35, h => by cases h
  | 36, h => by cases h
  | 37, h => by cases h
  | 38, h => by cases h
  | 39, h => by cases h
  | 40, h => by cases h
  | 41, h => by cases h
  | 42, h => by cases h
  | 43, h => by cases h
  | 44, h => by cases h
  | 45, h => by cases h
  | 46, h => by cases h
  | 47, h => by cases h
  | 48, h => by cases h
  | 49, h => by cases h
  | 50, h => by cases h
  | 51, h => by cases h
  | 52, h => by cases h
  | 53, h => by cases h
  | 54, _ => b8_mk (by kernel_rfl)
  | 55, _ => b8_mk (by kernel_rfl)
  | 56, h => by cases h
  | 57, h => by cases h
  | 58, h => by cases h
  | 59, h => by cases h
  | 60, h => by cases h
  | 61, h => by cases h
  | 62, h => by cases h
  | _ + 63, h => by cases h
theorem ty_3 : T0.ty 3 = .int .i64 := rfl
theorem zc_3 : T0.zc 3 = some (.ints .i64 [0]) := rfl
theorem ty_4 : T0.ty 4 = .bool := rfl
theorem zc_4 : T0.zc 4 = some (.cells [.bool false]) := rfl
theorem ty_5 : T0.ty 5 = .int .u8 := rfl
theorem zc_5 : T0.zc 5 = some (.ints .u8 [0]) := rfl
theorem ty_26 : T0.ty 26 = .sl 29 3 24 := rfl
theorem zc_26 : T0.zc 26 = some (.cells [.nilsl]) := rfl
theorem ty_29 : T0.ty 29 = .struct 3 [(0, 1, 5), (1, 1, 3), (2, 1, 3)] := rfl
theorem zc_29 : T0.zc 29 = some (.cells [.int .u8 0, .int .i64 0, .int .i64 0]) := rfl
theorem zr_29 : T0.zr 29 = [.int .u8 0, .int .i64 0, .int .i64 0] := rfl
theorem ty_30 : T0.ty 30 = .sl 33 1 8 := rfl
theorem zc_30 : T0.zc 30 = some (.cells [.nilsl]) := rfl
theorem ty_32 : T0.ty 32 = .sl 5 1 1 := rfl
theorem zc_32 : T0.zc 32 = some (.cells [.nilsl]) := rfl
theorem ty_33 : T0.ty 33 = .int .u64 := rfl
theorem zc_33 : T0.zc 33 = some (.ints .u64 [0]) := rfl
theorem ty_35 : T0.ty 35 = .word := rfl
theorem zc_35 : T0.zc 35 = some (.words [0]) := rfl
theorem zr_35 : T0.zr 35 = [.int .u64 0, .int .u64 0, .int .u64 0, .int .u64 0] := rfl
theorem ty_43 : T0.ty 43 = .arr 32 5 1 (some .u8) := rfl
theorem zc_43 : T0.zc 43 = some (.ints .u8 (List.replicate 32 0)) := rfl
theorem zr_43 : T0.zr 43 = [.int .u8 0, .int .u8 0, .int .u8 0, .int .u8 0, .int .u8 0, .int .u8 0, .int .u8 0, .int .u8 0, .int .u8 0, .int .u8 0, .int .u8 0, .int .u8 0, .int .u8 0, .int .u8 0, .int .u8 0, .int .u8 0, .int .u8 0, .int .u8 0, .int .u8 0, .int .u8 0, .int .u8 0, .int .u8 0, .int .u8 0, .int .u8 0, .int .u8 0, .int .u8 0, .int .u8 0, .int .u8 0, .int .u8 0, .int .u8 0, .int .u8 0, .int .u8 0] := rfl
set_option linter.defProp false in
def tabs := And.intro @ty_3 <| And.intro @zc_3 <| And.intro @ty_4 <| And.intro @zc_4 <| And.intro @ty_5 <| And.intro @zc_5 <| And.intro @ty_26 <| And.intro @zc_26 <| And.intro @ty_29 <| And.intro @zc_29 <| And.intro @zr_29 <| And.intro @ty_30 <| And.intro @zc_30 <| And.intro @ty_32 <| And.intro @zc_32 <| And.intro @ty_33 <| And.intro @zc_33 <| And.intro @ty_35 <| And.intro @zc_35 <| And.intro @zr_35 <| And.intro @ty_43 <| And.intro @zc_43 <| @zr_43
theorem T0_ok : TabOk Try.prog T0 := { b8 := b8T_ok, sz := szT_ok, zc := zcT_ok, ty := tyT_ok, gl := glT_ok, zr := zrT_ok }
end Go.Proofs.Ytdbapekeihnckaa

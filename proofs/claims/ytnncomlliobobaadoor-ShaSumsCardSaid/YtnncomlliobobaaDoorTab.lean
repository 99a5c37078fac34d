/-
  The table of this translation's types.
-/
import Derived.Test.YtnncomlliobobaaDoorRows
import Derived.Test.YtnncomlliobobaaDoorEB
namespace Go.Proofs.YtnncomlliobobaaDoor
set_option linter.unusedSimpArgs false
set_option linter.unusedVariables false
set_option maxRecDepth 20000
open Go.RowKit
def tyT : Nat → Ty
  | 1 => .cell
  | 2 => .int .i64
  | 3 => .int .i64
  | 4 => .bool
  | 5 => .int .u8
  | 6 => .int .u8
  | 9 => .str
  | 10 => .str
  | 11 => .str
  | 12 => .int .u64
  | 15 => .ptr 71
  | 16 => .ptr 74
  | 17 => .ptr 83
  | 20 => .cell
  | 21 => .int .i32
  | 22 => .sl 5 1 1
  | 23 => .cell
  | 24 => .int .u64
  | 25 => .arr 4 24 1 (some .u64)
  | 26 => .word
  | 27 => .cell
  | 28 => .cell
  | 29 => .sl 26 4 32
  | 30 => .cell
  | 31 => .cell
  | 32 => .cell
  | 33 => .int .u64
  | 34 => .cell
  | 35 => .arr 25 24 1 (some .u64)
  | 36 => .arr 25 24 1 (some .u64)
  | 37 => .cell
  | 38 => .arr 136 5 1 (some .u8)
  | 39 => .cell
  | 40 => .sl 3 1 8
  | 41 => .cell
  | 42 => .sl 24 1 8
  | 43 => .cell
  | 44 => .cell
  | 45 => .cell
  | 46 => .int .u32
  | 47 => .arr 8 46 1 (some .u32)
  | 48 => .arr 8 46 1 (some .u32)
  | 49 => .cell
  | 50 => .arr 64 5 1 (some .u8)
  | 51 => .arr 64 5 1 (some .u8)
  | 52 => .cell
  | 53 => .sl 46 1 4
  | 54 => .cell
  | 55 => .ptr 36
  | 56 => .arr 32 5 1 (some .u8)
  | 57 => .cell
  | 58 => .cell
  | 59 => .ptr 48
  | 60 => .arr 64 46 1 (some .u32)
  | 61 => .cell
  | 62 => .cell
  | 63 => .cell
  | 64 => .cell
  | 65 => .arr 24 24 1 (some .u64)
  | 66 => .cell
  | 67 => .arr 5 24 1 (some .u64)
  | 68 => .arr 24 5 1 (some .u8)
  | 69 => .cell
  | 72 => .arr 0 16 1 none
  | 75 => .cell
  | 76 => .int .u8
  | 77 => .int .u8
  | 78 => .cell
  | 79 => .ptr 5
  | 80 => .int .i32
  | 81 => .int .i32
  | _ => .other
def zcT : Nat → Option Con
  | 2 => some (.ints .i64 [0])
  | 3 => some (.ints .i64 [0])
  | 4 => some (.cells [.bool false])
  | 5 => some (.ints .u8 [0])
  | 6 => some (.ints .u8 [0])
  | 9 => some (.cells [.str []])
  | 10 => some (.cells [.str []])
  | 11 => some (.cells [.str []])
  | 12 => some (.ints .u64 [0])
  | 21 => some (.ints .i32 [0])
  | 22 => some (.cells [.nilsl])
  | 24 => some (.ints .u64 [0])
  | 25 => some (.ints .u64 (List.replicate 4 0))
  | 26 => some (.words [0])
  | 29 => some (.cells [.nilsl])
  | 33 => some (.ints .u64 [0])
  | 35 => some (.ints .u64 (List.replicate 25 0))
  | 36 => some (.ints .u64 (List.replicate 25 0))
  | 38 => some (.ints .u8 (List.replicate 136 0))
  | 40 => some (.cells [.nilsl])
  | 42 => some (.cells [.nilsl])
  | 46 => some (.ints .u32 [0])
  | 47 => some (.ints .u32 (List.replicate 8 0))
  | 48 => some (.ints .u32 (List.replicate 8 0))
  | 50 => some (.ints .u8 (List.replicate 64 0))
  | 51 => some (.ints .u8 (List.replicate 64 0))
  | 53 => some (.cells [.nilsl])
  | 56 => some (.ints .u8 (List.replicate 32 0))
  | 60 => some (.ints .u32 (List.replicate 64 0))
  | 65 => some (.ints .u64 (List.replicate 24 0))
  | 67 => some (.ints .u64 (List.replicate 5 0))
  | 68 => some (.ints .u8 (List.replicate 24 0))
  | 76 => some (.ints .u8 [0])
  | 77 => some (.ints .u8 [0])
  | 80 => some (.ints .i32 [0])
  | 81 => some (.ints .i32 [0])
  | _ => none
def zrT : Nat → List SV
  | 25 => [.int .u64 0, .int .u64 0, .int .u64 0, .int .u64 0]
  | 26 => [.int .u64 0, .int .u64 0, .int .u64 0, .int .u64 0]
  | 35 => [.int .u64 0, .int .u64 0, .int .u64 0, .int .u64 0, .int .u64 0, .int .u64 0, .int .u64 0, .int .u64 0, .int .u64 0, .int .u64 0, .int .u64 0, .int .u64 0, .int .u64 0, .int .u64 0, .int .u64 0, .int .u64 0, .int .u64 0, .int .u64 0, .int .u64 0, .int .u64 0, .int .u64 0, .int .u64 0, .int .u64 0, .int .u64 0, .int .u64 0]
  | 36 => [.int .u64 0, .int .u64 0, .int .u64 0, .int .u64 0, .int .u64 0, .int .u64 0, .int .u64 0, .int .u64 0, .int .u64 0, .int .u64 0, .int .u64 0, .int .u64 0, .int .u64 0, .int .u64 0, .int .u64 0, .int .u64 0, .int .u64 0, .int .u64 0, .int .u64 0, .int .u64 0, .int .u64 0, .int .u64 0, .int .u64 0, .int .u64 0, .int .u64 0]
  | 47 => [.int .u32 0, .int .u32 0, .int .u32 0, .int .u32 0, .int .u32 0, .int .u32 0, .int .u32 0, .int .u32 0]
  | 48 => [.int .u32 0, .int .u32 0, .int .u32 0, .int .u32 0, .int .u32 0, .int .u32 0, .int .u32 0, .int .u32 0]
  | 50 => [.int .u8 0, .int .u8 0, .int .u8 0, .int .u8 0, .int .u8 0, .int .u8 0, .int .u8 0, .int .u8 0, .int .u8 0, .int .u8 0, .int .u8 0, .int .u8 0, .int .u8 0, .int .u8 0, .int .u8 0, .int .u8 0, .int .u8 0, .int .u8 0, .int .u8 0, .int .u8 0, .int .u8 0, .int .u8 0, .int .u8 0, .int .u8 0, .int .u8 0, .int .u8 0, .int .u8 0, .int .u8 0, .int .u8 0, .int .u8 0, .int .u8 0, .int .u8 0, .int .u8 0, .int .u8 0, .int .u8 0, .int .u8 0, .int .u8 0, .int .u8 0, .int .u8 0, .int .u8 0, .int .u8 0, .int .u8 0, .int .u8 0, .int .u8 0, .int .u8 0, .int .u8 0, .int .u8 0, .int .u8 0, .int .u8 0, .int .u8 0, .int .u8 0, .int .u8 0, .int .u8 0, .int .u8 0, .int .u8 0, .int .u8 0, .int .u8 0, .int .u8 0, .int .u8 0, .int .u8 0, .int .u8 0, .int .u8 0, .int .u8 0, .int .u8 0]
  | 51 => [.int .u8 0, .int .u8 0, .int .u8 0, .int .u8 0, .int .u8 0, .int .u8 0, .int .u8 0, .int .u8 0, .int .u8 0, .int .u8 0, .int .u8 0, .int .u8 0, .int .u8 0, .int .u8 0, .int .u8 0, .int .u8 0, .int .u8 0, .int .u8 0, .int .u8 0, .int .u8 0, .int .u8 0, .int .u8 0, .int .u8 0, .int .u8 0, .int .u8 0, .int .u8 0, .int .u8 0, .int .u8 0, .int .u8 0, .int .u8 0, .int .u8 0, .int .u8 0, .int .u8 0, .int .u8 0, .int .u8 0, .int .u8 0, .int .u8 0, .int .u8 0, .int .u8 0, .int .u8 0, .int .u8 0, .int .u8 0, .int .u8 0, .int .u8 0, .int .u8 0, .int .u8 0, .int .u8 0, .int .u8 0, .int .u8 0, .int .u8 0, .int .u8 0, .int .u8 0, .int .u8 0, .int .u8 0, .int .u8 0, .int .u8 0, .int .u8 0, .int .u8 0, .int .u8 0, .int .u8 0, .int .u8 0, .int .u8 0, .int .u8 0, .int .u8 0]
  | 56 => [.int .u8 0, .int .u8 0, .int .u8 0, .int .u8 0, .int .u8 0, .int .u8 0, .int .u8 0, .int .u8 0, .int .u8 0, .int .u8 0, .int .u8 0, .int .u8 0, .int .u8 0, .int .u8 0, .int .u8 0, .int .u8 0, .int .u8 0, .int .u8 0, .int .u8 0, .int .u8 0, .int .u8 0, .int .u8 0, .int .u8 0, .int .u8 0, .int .u8 0, .int .u8 0, .int .u8 0, .int .u8 0, .int .u8 0, .int .u8 0, .int .u8 0, .int .u8 0]
  | 60 => [.int .u32 0, .int .u32 0, .int .u32 0, .int .u32 0, .int .u32 0, .int .u32 0, .int .u32 0, .int .u32 0, .int .u32 0, .int .u32 0, .int .u32 0, .int .u32 0, .int .u32 0, .int .u32 0, .int .u32 0, .int .u32 0, .int .u32 0, .int .u32 0, .int .u32 0, .int .u32 0, .int .u32 0, .int .u32 0, .int .u32 0, .int .u32 0, .int .u32 0, .int .u32 0, .int .u32 0, .int .u32 0, .int .u32 0, .int .u32 0, .int .u32 0, .int .u32 0, .int .u32 0, .int .u32 0, .int .u32 0, .int .u32 0, .int .u32 0, .int .u32 0, .int .u32 0, .int .u32 0, .int .u32 0, .int .u32 0, .int .u32 0, .int .u32 0, .int .u32 0, .int .u32 0, .int .u32 0, .int .u32 0, .int .u32 0, .int .u32 0, .int .u32 0, .int .u32 0, .int .u32 0, .int .u32 0, .int .u32 0, .int .u32 0, .int .u32 0, .int .u32 0, .int .u32 0, .int .u32 0, .int .u32 0, .int .u32 0, .int .u32 0, .int .u32 0]
  | 65 => [.int .u64 0, .int .u64 0, .int .u64 0, .int .u64 0, .int .u64 0, .int .u64 0, .int .u64 0, .int .u64 0, .int .u64 0, .int .u64 0, .int .u64 0, .int .u64 0, .int .u64 0, .int .u64 0, .int .u64 0, .int .u64 0, .int .u64 0, .int .u64 0, .int .u64 0, .int .u64 0, .int .u64 0, .int .u64 0, .int .u64 0, .int .u64 0]
  | 67 => [.int .u64 0, .int .u64 0, .int .u64 0, .int .u64 0, .int .u64 0]
  | 68 => [.int .u8 0, .int .u8 0, .int .u8 0, .int .u8 0, .int .u8 0, .int .u8 0, .int .u8 0, .int .u8 0, .int .u8 0, .int .u8 0, .int .u8 0, .int .u8 0, .int .u8 0, .int .u8 0, .int .u8 0, .int .u8 0, .int .u8 0, .int .u8 0, .int .u8 0, .int .u8 0, .int .u8 0, .int .u8 0, .int .u8 0, .int .u8 0]
  | _ => []
def glT : Nat → SV
  | 0 => .ptr 0 0 0 0 0 0
  | 1 => .ptr 1 1 0 0 0 0
  | 2 => .ptr 0 2 0 0 0 0
  | 3 => .ptr 1 3 0 0 0 0
  | g => .raw (.pointer (some ⟨g, 0, none⟩))
def T0 : Tab := { ty := tyT, zr := zrT, zc := zcT, gl := glT }
theorem glT_ok : ∀ g, cv (T0.gl g) = .pointer (some ⟨g, 0, none⟩) := by
  intro g
  show cv (glT g) = _
  unfold glT
  split <;> rfl
theorem tyOk1 : TyOk1 Tryd.prog 1 (.cell) := fun w => by kernel_rfl
theorem tyOk2 : TyOk1 Tryd.prog 2 (.int .i64) := (by kernel_rfl : Tryd.prog.underlying 2 = some (.int .i64))
theorem tyOk3 : TyOk1 Tryd.prog 3 (.int .i64) := (by kernel_rfl : Tryd.prog.underlying 3 = some (.int .i64))
theorem tyOk4 : TyOk1 Tryd.prog 4 (.bool) := (by kernel_rfl : Tryd.prog.underlying 4 = some (.bool))
theorem tyOk5 : TyOk1 Tryd.prog 5 (.int .u8) := (by kernel_rfl : Tryd.prog.underlying 5 = some (.int .u8))
theorem tyOk6 : TyOk1 Tryd.prog 6 (.int .u8) := (by kernel_rfl : Tryd.prog.underlying 6 = some (.int .u8))
theorem tyOk9 : TyOk1 Tryd.prog 9 (.str) := (by kernel_rfl : Tryd.prog.underlying 9 = some (.string))
theorem tyOk10 : TyOk1 Tryd.prog 10 (.str) := (by kernel_rfl : Tryd.prog.underlying 10 = some (.string))
theorem tyOk11 : TyOk1 Tryd.prog 11 (.str) := (by kernel_rfl : Tryd.prog.underlying 11 = some (.string))
theorem tyOk12 : TyOk1 Tryd.prog 12 (.int .u64) := (by kernel_rfl : Tryd.prog.underlying 12 = some (.int .u64))
theorem tyOk15 : TyOk1 Tryd.prog 15 (.ptr 71) := (by kernel_rfl : Tryd.prog.underlying 15 = some (.pointer 71))
theorem tyOk16 : TyOk1 Tryd.prog 16 (.ptr 74) := (by kernel_rfl : Tryd.prog.underlying 16 = some (.pointer 74))
theorem tyOk17 : TyOk1 Tryd.prog 17 (.ptr 83) := (by kernel_rfl : Tryd.prog.underlying 17 = some (.pointer 83))
theorem tyOk20 : TyOk1 Tryd.prog 20 (.cell) := fun w => by kernel_rfl
theorem tyOk21 : TyOk1 Tryd.prog 21 (.int .i32) := (by kernel_rfl : Tryd.prog.underlying 21 = some (.int .i32))
theorem tyOk22 : TyOk1 Tryd.prog 22 (.sl 5 1 1) := sl_mk (by kernel_rfl : Tryd.prog.underlying 22 = some (.slice 5)) (by decide) (by kernel_rfl : (Tryd.prog.info? 5).map (·.size) = some 1) (by kernel_rfl : (Tryd.prog.info? 5).map (·.bytes) = some 1) (by kernel_rfl : ((Tryd.prog.info? 5).bind (·.zero)).map (·.cells.size) = some 1)
theorem tyOk23 : TyOk1 Tryd.prog 23 (.cell) := fun w => by kernel_rfl
theorem tyOk24 : TyOk1 Tryd.prog 24 (.int .u64) := (by kernel_rfl : Tryd.prog.underlying 24 = some (.int .u64))
theorem tyOk25 : TyOk1 Tryd.prog 25 (.arr 4 24 1 (some .u64)) := ⟨(by kernel_rfl : Tryd.prog.underlying 25 = some (.array 4 24)), (by kernel_rfl : (Tryd.prog.info? 24).map (·.size) = some 1), (by kernel_rfl : (Tryd.prog.info? 25).map (·.size) = some 4), (by kernel_rfl : Tryd.prog.eqGuardType Tryd.prog.depth 25 = false), fun k h => by cases h; exact (by kernel_rfl : Tryd.prog.underlying 24 = some (.int .u64))⟩
theorem tyOk26 : TyOk1 Tryd.prog 26 (.word) := ⟨24, (by kernel_rfl : Tryd.prog.underlying 26 = some (.array 4 24)), (by kernel_rfl : Tryd.prog.underlying 24 = some (.int .u64)), (by kernel_rfl : (Tryd.prog.info? 24).map (·.size) = some 1), (by kernel_rfl : (Tryd.prog.info? 26).map (·.size) = some 4), (by kernel_rfl : Tryd.prog.eqGuardType Tryd.prog.depth 26 = false)⟩
theorem tyOk27 : TyOk1 Tryd.prog 27 (.cell) := fun w => by kernel_rfl
theorem tyOk28 : TyOk1 Tryd.prog 28 (.cell) := fun w => by kernel_rfl
theorem tyOk29 : TyOk1 Tryd.prog 29 (.sl 26 4 32) := sl_mk (by kernel_rfl : Tryd.prog.underlying 29 = some (.slice 26)) (by decide) (by kernel_rfl : (Tryd.prog.info? 26).map (·.size) = some 4) (by kernel_rfl : (Tryd.prog.info? 26).map (·.bytes) = some 32) (by kernel_rfl : ((Tryd.prog.info? 26).bind (·.zero)).map (·.cells.size) = some 4)
theorem tyOk30 : TyOk1 Tryd.prog 30 (.cell) := fun w => by kernel_rfl
theorem tyOk31 : TyOk1 Tryd.prog 31 (.cell) := fun w => by kernel_rfl
theorem tyOk32 : TyOk1 Tryd.prog 32 (.cell) := fun w => by kernel_rfl
theorem tyOk33 : TyOk1 Tryd.prog 33 (.int .u64) := (by kernel_rfl : Tryd.prog.underlying 33 = some (.int .u64))
theorem tyOk34 : TyOk1 Tryd.prog 34 (.cell) := fun w => by kernel_rfl
theorem tyOk35 : TyOk1 Tryd.prog 35 (.arr 25 24 1 (some .u64)) := ⟨(by kernel_rfl : Tryd.prog.underlying 35 = some (.array 25 24)), (by kernel_rfl : (Tryd.prog.info? 24).map (·.size) = some 1), (by kernel_rfl : (Tryd.prog.info? 35).map (·.size) = some 25), (by kernel_rfl : Tryd.prog.eqGuardType Tryd.prog.depth 35 = false), fun k h => by cases h; exact (by kernel_rfl : Tryd.prog.underlying 24 = some (.int .u64))⟩
theorem tyOk36 : TyOk1 Tryd.prog 36 (.arr 25 24 1 (some .u64)) := ⟨(by kernel_rfl : Tryd.prog.underlying 36 = some (.array 25 24)), (by kernel_rfl : (Tryd.prog.info? 24).map (·.size) = some 1), (by kernel_rfl : (Tryd.prog.info? 36).map (·.size) = some 25), (by kernel_rfl : Tryd.prog.eqGuardType Tryd.prog.depth 36 = false), fun k h => by cases h; exact (by kernel_rfl : Tryd.prog.underlying 24 = some (.int .u64))⟩
theorem tyOk37 : TyOk1 Tryd.prog 37 (.cell) := fun w => by kernel_rfl
theorem tyOk38 : TyOk1 Tryd.prog 38 (.arr 136 5 1 (some .u8)) := ⟨(by kernel_rfl : Tryd.prog.underlying 38 = some (.array 136 5)), (by kernel_rfl : (Tryd.prog.info? 5).map (·.size) = some 1), (by kernel_rfl : (Tryd.prog.info? 38).map (·.size) = some 136), (by kernel_rfl : Tryd.prog.eqGuardType Tryd.prog.depth 38 = false), fun k h => by cases h; exact (by kernel_rfl : Tryd.prog.underlying 5 = some (.int .u8))⟩
theorem tyOk39 : TyOk1 Tryd.prog 39 (.cell) := fun w => by kernel_rfl
theorem tyOk40 : TyOk1 Tryd.prog 40 (.sl 3 1 8) := sl_mk (by kernel_rfl : Tryd.prog.underlying 40 = some (.slice 3)) (by decide) (by kernel_rfl : (Tryd.prog.info? 3).map (·.size) = some 1) (by kernel_rfl : (Tryd.prog.info? 3).map (·.bytes) = some 8) (by kernel_rfl : ((Tryd.prog.info? 3).bind (·.zero)).map (·.cells.size) = some 1)
theorem tyOk41 : TyOk1 Tryd.prog 41 (.cell) := fun w => by kernel_rfl
theorem tyOk42 : TyOk1 Tryd.prog 42 (.sl 24 1 8) := sl_mk (by kernel_rfl : Tryd.prog.underlying 42 = some (.slice 24)) (by decide) (by kernel_rfl : (Tryd.prog.info? 24).map (·.size) = some 1) (by kernel_rfl : (Tryd.prog.info? 24).map (·.bytes) = some 8) (by kernel_rfl : ((Tryd.prog.info? 24).bind (·.zero)).map (·.cells.size) = some 1)
theorem tyOk43 : TyOk1 Tryd.prog 43 (.cell) := fun w => by kernel_rfl
theorem tyOk44 : TyOk1 Tryd.prog 44 (.cell) := fun w => by kernel_rfl
theorem tyOk45 : TyOk1 Tryd.prog 45 (.cell) := fun w => by kernel_rfl
theorem tyOk46 : TyOk1 Tryd.prog 46 (.int .u32) := (by kernel_rfl : Tryd.prog.underlying 46 = some (.int .u32))
theorem tyOk47 : TyOk1 Tryd.prog 47 (.arr 8 46 1 (some .u32)) := ⟨(by kernel_rfl : Tryd.prog.underlying 47 = some (.array 8 46)), (by kernel_rfl : (Tryd.prog.info? 46).map (·.size) = some 1), (by kernel_rfl : (Tryd.prog.info? 47).map (·.size) = some 8), (by kernel_rfl : Tryd.prog.eqGuardType Tryd.prog.depth 47 = false), fun k h => by cases h; exact (by kernel_rfl : Tryd.prog.underlying 46 = some (.int .u32))⟩
theorem tyOk48 : TyOk1 Tryd.prog 48 (.arr 8 46 1 (some .u32)) := ⟨(by kernel_rfl : Tryd.prog.underlying 48 = some (.array 8 46)), (by kernel_rfl : (Tryd.prog.info? 46).map (·.size) = some 1), (by kernel_rfl : (Tryd.prog.info? 48).map (·.size) = some 8), (by kernel_rfl : Tryd.prog.eqGuardType Tryd.prog.depth 48 = false), fun k h => by cases h; exact (by kernel_rfl : Tryd.prog.underlying 46 = some (.int .u32))⟩
theorem tyOk49 : TyOk1 Tryd.prog 49 (.cell) := fun w => by kernel_rfl
theorem tyOk50 : TyOk1 Tryd.prog 50 (.arr 64 5 1 (some .u8)) := ⟨(by kernel_rfl : Tryd.prog.underlying 50 = some (.array 64 5)), (by kernel_rfl : (Tryd.prog.info? 5).map (·.size) = some 1), (by kernel_rfl : (Tryd.prog.info? 50).map (·.size) = some 64), (by kernel_rfl : Tryd.prog.eqGuardType Tryd.prog.depth 50 = false), fun k h => by cases h; exact (by kernel_rfl : Tryd.prog.underlying 5 = some (.int .u8))⟩
theorem tyOk51 : TyOk1 Tryd.prog 51 (.arr 64 5 1 (some .u8)) := ⟨(by kernel_rfl : Tryd.prog.underlying 51 = some (.array 64 5)), (by kernel_rfl : (Tryd.prog.info? 5).map (·.size) = some 1), (by kernel_rfl : (Tryd.prog.info? 51).map (·.size) = some 64), (by kernel_rfl : Tryd.prog.eqGuardType Tryd.prog.depth 51 = false), fun k h => by cases h; exact (by kernel_rfl : Tryd.prog.underlying 5 = some (.int .u8))⟩
theorem tyOk52 : TyOk1 Tryd.prog 52 (.cell) := fun w => by kernel_rfl
theorem tyOk53 : TyOk1 Tryd.prog 53 (.sl 46 1 4) := sl_mk (by kernel_rfl : Tryd.prog.underlying 53 = some (.slice 46)) (by decide) (by kernel_rfl : (Tryd.prog.info? 46).map (·.size) = some 1) (by kernel_rfl : (Tryd.prog.info? 46).map (·.bytes) = some 4) (by kernel_rfl : ((Tryd.prog.info? 46).bind (·.zero)).map (·.cells.size) = some 1)
theorem tyOk54 : TyOk1 Tryd.prog 54 (.cell) := fun w => by kernel_rfl
theorem tyOk55 : TyOk1 Tryd.prog 55 (.ptr 36) := (by kernel_rfl : Tryd.prog.underlying 55 = some (.pointer 36))
theorem tyOk56 : TyOk1 Tryd.prog 56 (.arr 32 5 1 (some .u8)) := ⟨(by kernel_rfl : Tryd.prog.underlying 56 = some (.array 32 5)), (by kernel_rfl : (Tryd.prog.info? 5).map (·.size) = some 1), (by kernel_rfl : (Tryd.prog.info? 56).map (·.size) = some 32), (by kernel_rfl : Tryd.prog.eqGuardType Tryd.prog.depth 56 = false), fun k h => by cases h; exact (by kernel_rfl : Tryd.prog.underlying 5 = some (.int .u8))⟩
theorem tyOk57 : TyOk1 Tryd.prog 57 (.cell) := fun w => by kernel_rfl
theorem tyOk58 : TyOk1 Tryd.prog 58 (.cell) := fun w => by kernel_rfl
theorem tyOk59 : TyOk1 Tryd.prog 59 (.ptr 48) := (by kernel_rfl : Tryd.prog.underlying 59 = some (.pointer 48))
theorem tyOk60 : TyOk1 Tryd.prog 60 (.arr 64 46 1 (some .u32)) := ⟨(by kernel_rfl : Tryd.prog.underlying 60 = some (.array 64 46)), (by kernel_rfl : (Tryd.prog.info? 46).map (·.size) = some 1), (by kernel_rfl : (Tryd.prog.info? 60).map (·.size) = some 64), (by kernel_rfl : Tryd.prog.eqGuardType Tryd.prog.depth 60 = false), fun k h => by cases h; exact (by kernel_rfl : Tryd.prog.underlying 46 = some (.int .u32))⟩
theorem tyOk61 : TyOk1 Tryd.prog 61 (.cell) := fun w => by kernel_rfl
theorem tyOk62 : TyOk1 Tryd.prog 62 (.cell) := fun w => by kernel_rfl
theorem tyOk63 : TyOk1 Tryd.prog 63 (.cell) := fun w => by kernel_rfl
theorem tyOk64 : TyOk1 Tryd.prog 64 (.cell) := fun w => by kernel_rfl
theorem tyOk65 : TyOk1 Tryd.prog 65 (.arr 24 24 1 (some .u64)) := ⟨(by kernel_rfl : Tryd.prog.underlying 65 = some (.array 24 24)), (by kernel_rfl : (Tryd.prog.info? 24).map (·.size) = some 1), (by kernel_rfl : (Tryd.prog.info? 65).map (·.size) = some 24), (by kernel_rfl : Tryd.prog.eqGuardType Tryd.prog.depth 65 = false), fun k h => by cases h; exact (by kernel_rfl : Tryd.prog.underlying 24 = some (.int .u64))⟩
theorem tyOk66 : TyOk1 Tryd.prog 66 (.cell) := fun w => by kernel_rfl
theorem tyOk67 : TyOk1 Tryd.prog 67 (.arr 5 24 1 (some .u64)) := ⟨(by kernel_rfl : Tryd.prog.underlying 67 = some (.array 5 24)), (by kernel_rfl : (Tryd.prog.info? 24).map (·.size) = some 1), (by kernel_rfl : (Tryd.prog.info? 67).map (·.size) = some 5), (by kernel_rfl : Tryd.prog.eqGuardType Tryd.prog.depth 67 = false), fun k h => by cases h; exact (by kernel_rfl : Tryd.prog.underlying 24 = some (.int .u64))⟩
theorem tyOk68 : TyOk1 Tryd.prog 68 (.arr 24 5 1 (some .u8)) := ⟨(by kernel_rfl : Tryd.prog.underlying 68 = some (.array 24 5)), (by kernel_rfl : (Tryd.prog.info? 5).map (·.size) = some 1), (by kernel_rfl : (Tryd.prog.info? 68).map (·.size) = some 24), (by kernel_rfl : Tryd.prog.eqGuardType Tryd.prog.depth 68 = false), fun k h => by cases h; exact (by kernel_rfl : Tryd.prog.underlying 5 = some (.int .u8))⟩
theorem tyOk69 : TyOk1 Tryd.prog 69 (.cell) := fun w => by kernel_rfl
theorem tyOk72 : TyOk1 Tryd.prog 72 (.arr 0 16 1 none) := ⟨(by kernel_rfl : Tryd.prog.underlying 72 = some (.array 0 16)), (by kernel_rfl : (Tryd.prog.info? 16).map (·.size) = some 1), (by kernel_rfl : (Tryd.prog.info? 72).map (·.size) = some 0), (by kernel_rfl : Tryd.prog.eqGuardType Tryd.prog.depth 72 = false), fun k h => by cases h⟩
theorem tyOk75 : TyOk1 Tryd.prog 75 (.cell) := fun w => by kernel_rfl
theorem tyOk76 : TyOk1 Tryd.prog 76 (.int .u8) := (by kernel_rfl : Tryd.prog.underlying 76 = some (.int .u8))
theorem tyOk77 : TyOk1 Tryd.prog 77 (.int .u8) := (by kernel_rfl : Tryd.prog.underlying 77 = some (.int .u8))
theorem tyOk78 : TyOk1 Tryd.prog 78 (.cell) := fun w => by kernel_rfl
theorem tyOk79 : TyOk1 Tryd.prog 79 (.ptr 5) := (by kernel_rfl : Tryd.prog.underlying 79 = some (.pointer 5))
theorem tyOk80 : TyOk1 Tryd.prog 80 (.int .i32) := (by kernel_rfl : Tryd.prog.underlying 80 = some (.int .i32))
theorem tyOk81 : TyOk1 Tryd.prog 81 (.int .i32) := (by kernel_rfl : Tryd.prog.underlying 81 = some (.int .i32))
theorem tyT_ok : ∀ t, TyOk1 Tryd.prog t (tyT t)
  | 0 => trivial
  | 1 => tyOk1
  | 2 => tyOk2
  | 3 => tyOk3
  | 4 => tyOk4
  | 5 => tyOk5
  | 6 => tyOk6
  | 7 => trivial
  | 8 => trivial
  | 9 => tyOk9
  | 10 => tyOk10
  | 11 => tyOk11
  | 12 => tyOk12
  | 13 => trivial
  | 14 => trivial
  | 15 => tyOk15
  | 16 => tyOk16
  | 17 => tyOk17
  | 18 => trivial
  | 19 => trivial
  | 20 => tyOk20
  | 21 => tyOk21
  | 22 => tyOk22
  | 23 => tyOk23
  | 24 => tyOk24
  | 25 => tyOk25
  | 26 => tyOk26
  | 27 => tyOk27
  | 28 => tyOk28
  | 29 => tyOk29
  | 30 => tyOk30
  | 31 => tyOk31
  | 32 => tyOk32
  | 33 => tyOk33
  | 34 => tyOk34
  | 35 => tyOk35
  | 36 => tyOk36
  | 37 => tyOk37
  | 38 => tyOk38
  | 39 => tyOk39
  | 40 => tyOk40
  | 41 => tyOk41
  | 42 => tyOk42
  | 43 => tyOk43
  | 44 => tyOk44
  | 45 => tyOk45
  | 46 => tyOk46
  | 47 => tyOk47
  | 48 => tyOk48
  | 49 => tyOk49
  | 50 => tyOk50
  | 51 => tyOk51
  | 52 => tyOk52
  | 53 => tyOk53
  | 54 => tyOk54
  | 55 => tyOk55
  | 56 => tyOk56
  | 57 => tyOk57
  | 58 => tyOk58
  | 59 => tyOk59
  | 60 => tyOk60
  | 61 => tyOk61
  | 62 => tyOk62
  | 63 => tyOk63
  | 64 => tyOk64
  | 65 => tyOk65
  | 66 => tyOk66
  | 67 => tyOk67
  | 68 => tyOk68
  | 69 => tyOk69
  | 70 => trivial
  | 71 => trivial
  | 72 => tyOk72
  | 73 => trivial
  | 74 => trivial
  | 75 => tyOk75
  | 76 => tyOk76
  | 77 => tyOk77
  | 78 => tyOk78
  | 79 => tyOk79
  | 80 => tyOk80
  | 81 => tyOk81
  | 82 => trivial
  | 83 => trivial
  | 84 => trivial
  | _ + 85 => trivial
theorem szT_ok : ∀ t n, tsz (tyT t) = some n → Sz Tryd.prog t n
  | 0, n, h => by cases h
  | 1, n, h => by obtain rfl : 1 = n := Option.some.inj h; exact (by kernel_rfl : (Tryd.prog.info? 1).map (·.size) = some 1)
  | 2, n, h => by obtain rfl : 1 = n := Option.some.inj h; exact (by kernel_rfl : (Tryd.prog.info? 2).map (·.size) = some 1)
  | 3, n, h => by obtain rfl : 1 = n := Option.some.inj h; exact (by kernel_rfl : (Tryd.prog.info? 3).map (·.size) = some 1)
  | 4, n, h => by obtain rfl : 1 = n := Option.some.inj h; exact (by kernel_rfl : (Tryd.prog.info? 4).map (·.size) = some 1)
  | 5, n, h => by obtain rfl : 1 = n := Option.some.inj h; exact (by kernel_rfl : (Tryd.prog.info? 5).map (·.size) = some 1)
  | 6, n, h => by obtain rfl : 1 = n := Option.some.inj h; exact (by kernel_rfl : (Tryd.prog.info? 6).map (·.size) = some 1)
  | 7, n, h => by cases h
  | 8, n, h => by cases h
  | 9, n, h => by obtain rfl : 1 = n := Option.some.inj h; exact (by kernel_rfl : (Tryd.prog.info? 9).map (·.size) = some 1)
  | 10, n, h => by obtain rfl : 1 = n := Option.some.inj h; exact (by kernel_rfl : (Tryd.prog.info? 10).map (·.size) = some 1)
  | 11, n, h => by obtain rfl : 1 = n := Option.some.inj h; exact (by kernel_rfl : (Tryd.prog.info? 11).map (·.size) = some 1)
  | 12, n, h => by obtain rfl : 1 = n := Option.some.inj h; exact (by kernel_rfl : (Tryd.prog.info? 12).map (·.size) = some 1)
  | 13, n, h => by cases h
  | 14, n, h => by cases h
  | 15, n, h => by obtain rfl : 1 = n := Option.some.inj h; exact (by kernel_rfl : (Tryd.prog.info? 15).map (·.size) = some 1)
  | 16, n, h => by obtain rfl : 1 = n := Option.some.inj h; exact (by kernel_rfl : (Tryd.prog.info? 16).map (·.size) = some 1)
  | 17, n, h => by obtain rfl : 1 = n := Option.some.inj h; exact (by kernel_rfl : (Tryd.prog.info? 17).map (·.size) = some 1)
  | 18, n, h => by cases h
  | 19, n, h => by cases h
  | 20, n, h => by obtain rfl : 1 = n := Option.some.inj h; exact (by kernel_rfl : (Tryd.prog.info? 20).map (·.size) = some 1)
  | 21, n, h => by obtain rfl : 1 = n := Option.some.inj h; exact (by kernel_rfl : (Tryd.prog.info? 21).map (·.size) = some 1)
  | 22, n, h => by obtain rfl : 1 = n := Option.some.inj h; exact (by kernel_rfl : (Tryd.prog.info? 22).map (·.size) = some 1)
  | 23, n, h => by obtain rfl : 1 = n := Option.some.inj h; exact (by kernel_rfl : (Tryd.prog.info? 23).map (·.size) = some 1)
  | 24, n, h => by obtain rfl : 1 = n := Option.some.inj h; exact (by kernel_rfl : (Tryd.prog.info? 24).map (·.size) = some 1)
  | 25, n, h => by obtain rfl : 4 = n := Option.some.inj h; exact (by kernel_rfl : (Tryd.prog.info? 25).map (·.size) = some 4)
  | 26, n, h => by obtain rfl : 4 = n := Option.some.inj h; exact (by kernel_rfl : (Tryd.prog.info? 26).map (·.size) = some 4)
  | 27, n, h => by obtain rfl : 1 = n := Option.some.inj h; exact (by kernel_rfl : (Tryd.prog.info? 27).map (·.size) = some 1)
  | 28, n, h => by obtain rfl : 1 = n := Option.some.inj h; exact (by kernel_rfl : (Tryd.prog.info? 28).map (·.size) = some 1)
  | 29, n, h => by obtain rfl : 1 = n := Option.some.inj h; exact (by kernel_rfl : (Tryd.prog.info? 29).map (·.size) = some 1)
  | 30, n, h => by obtain rfl : 1 = n := Option.some.inj h; exact (by kernel_rfl : (Tryd.prog.info? 30).map (·.size) = some 1)
  | 31, n, h => by obtain rfl : 1 = n := Option.some.inj h; exact (by kernel_rfl : (Tryd.prog.info? 31).map (·.size) = some 1)
  | 32, n, h => by obtain rfl : 1 = n := Option.some.inj h; exact (by kernel_rfl : (Tryd.prog.info? 32).map (·.size) = some 1)
  | 33, n, h => by obtain rfl : 1 = n := Option.some.inj h; exact (by kernel_rfl : (Tryd.prog.info? 33).map (·.size) = some 1)
  | 34, n, h => by obtain rfl : 1 = n := Option.some.inj h; exact (by kernel_rfl : (Tryd.prog.info? 34).map (·.size) = some 1)
  | 35, n, h => by obtain rfl : 25 = n := Option.some.inj h; exact (by kernel_rfl : (Tryd.prog.info? 35).map (·.size) = some 25)
  | 36, n, h => by obtain rfl : 25 = n := Option.some.inj h; exact (by kernel_rfl : (Tryd.prog.info? 36).map (·.size) = some 25)
  | 37, n, h => by obtain rfl : 1 = n := Option.some.inj h; exact (by kernel_rfl : (Tryd.prog.info? 37).map (·.size) = some 1)
  | 38, n, h => by obtain rfl : 136 = n := Option.some.inj h; exact (by kernel_rfl : (Tryd.prog.info? 38).map (·.size) = some 136)
  | 39, n, h => by obtain rfl : 1 = n := Option.some.inj h; exact (by kernel_rfl : (Tryd.prog.info? 39).map (·.size) = some 1)
  | 40, n, h => by obtain rfl : 1 = n := Option.some.inj h; exact (by kernel_rfl : (Tryd.prog.info? 40).map (·.size) = some 1)
  | 41, n, h => by obtain rfl : 1 = n := Option.some.inj h; exact (by kernel_rfl : (Tryd.prog.info? 41).map (·.size) = some 1)
  | 42, n, h => by obtain rfl : 1 = n := Option.some.inj h; exact (by kernel_rfl : (Tryd.prog.info? 42).map (·.size) = some 1)
  | 43, n, h => by obtain rfl : 1 = n := Option.some.inj h; exact (by kernel_rfl : (Tryd.prog.info? 43).map (·.size) = some 1)
  | 44, n, h => by obtain rfl : 1 = n := Option.some.inj h; exact (by kernel_rfl : (Tryd.prog.info? 44).map (·.size) = some 1)
  | 45, n, h => by obtain rfl : 1 = n := Option.some.inj h; exact (by kernel_rfl : (Tryd.prog.info? 45).map (·.size) = some 1)
  | 46, n, h => by obtain rfl : 1 = n := Option.some.inj h; exact (by kernel_rfl : (Tryd.prog.info? 46).map (·.size) = some 1)
  | 47, n, h => by obtain rfl : 8 = n := Option.some.inj h; exact (by kernel_rfl : (Tryd.prog.info? 47).map (·.size) = some 8)
  | 48, n, h => by obtain rfl : 8 = n := Option.some.inj h; exact (by kernel_rfl : (Tryd.prog.info? 48).map (·.size) = some 8)
  | 49, n, h => by obtain rfl : 1 = n := Option.some.inj h; exact (by kernel_rfl : (Tryd.prog.info? 49).map (·.size) = some 1)
  | 50, n, h => by obtain rfl : 64 = n := Option.some.inj h; exact (by kernel_rfl : (Tryd.prog.info? 50).map (·.size) = some 64)
  | 51, n, h => by obtain rfl : 64 = n := Option.some.inj h; exact (by kernel_rfl : (Tryd.prog.info? 51).map (·.size) = some 64)
  | 52, n, h => by obtain rfl : 1 = n := Option.some.inj h; exact (by kernel_rfl : (Tryd.prog.info? 52).map (·.size) = some 1)
  | 53, n, h => by obtain rfl : 1 = n := Option.some.inj h; exact (by kernel_rfl : (Tryd.prog.info? 53).map (·.size) = some 1)
  | 54, n, h => by obtain rfl : 1 = n := Option.some.inj h; exact (by kernel_rfl : (Tryd.prog.info? 54).map (·.size) = some 1)
  | 55, n, h => by obtain rfl : 1 = n := Option.some.inj h; exact (by kernel_rfl : (Tryd.prog.info? 55).map (·.size) = some 1)
  | 56, n, h => by obtain rfl : 32 = n := Option.some.inj h; exact (by kernel_rfl : (Tryd.prog.info? 56).map (·.size) = some 32)
  | 57, n, h => by obtain rfl : 1 = n := Option.some.inj h; exact (by kernel_rfl : (Tryd.prog.info? 57).map (·.size) = some 1)
  | 58, n, h => by obtain rfl : 1 = n := Option.some.inj h; exact (by kernel_rfl : (Tryd.prog.info? 58).map (·.size) = some 1)
  | 59, n, h => by obtain rfl : 1 = n := Option.some.inj h; exact (by kernel_rfl : (Tryd.prog.info? 59).map (·.size) = some 1)
  | 60, n, h => by obtain rfl : 64 = n := Option.some.inj h; exact (by kernel_rfl : (Tryd.prog.info? 60).map (·.size) = some 64)
  | 61, n, h => by obtain rfl : 1 = n := Option.some.inj h; exact (by kernel_rfl : (Tryd.prog.info? 61).map (·.size) = some 1)
  | 62, n, h => by obtain rfl : 1 = n := Option.some.inj h; exact (by kernel_rfl : (Tryd.prog.info? 62).map (·.size) = some 1)
  | 63, n, h => by obtain rfl : 1 = n := Option.some.inj h; exact (by kernel_rfl : (Tryd.prog.info? 63).map (·.size) = some 1)
  | 64, n, h => by obtain rfl : 1 = n := Option.some.inj h; exact (by kernel_rfl : (Tryd.prog.info? 64).map (·.size) = some 1)
  | 65, n, h => by obtain rfl : 24 = n := Option.some.inj h; exact (by kernel_rfl : (Tryd.prog.info? 65).map (·.size) = some 24)
  | 66, n, h => by obtain rfl : 1 = n := Option.some.inj h; exact (by kernel_rfl : (Tryd.prog.info? 66).map (·.size) = some 1)
  | 67, n, h => by obtain rfl : 5 = n := Option.some.inj h; exact (by kernel_rfl : (Tryd.prog.info? 67).map (·.size) = some 5)
  | 68, n, h => by obtain rfl : 24 = n := Option.some.inj h; exact (by kernel_rfl : (Tryd.prog.info? 68).map (·.size) = some 24)
  | 69, n, h => by obtain rfl : 1 = n := Option.some.inj h; exact (by kernel_rfl : (Tryd.prog.info? 69).map (·.size) = some 1)
  | 70, n, h => by cases h
  | 71, n, h => by cases h
  | 72, n, h => by obtain rfl : 0 = n := Option.some.inj h; exact (by kernel_rfl : (Tryd.prog.info? 72).map (·.size) = some 0)
  | 73, n, h => by cases h
  | 74, n, h => by cases h
  | 75, n, h => by obtain rfl : 1 = n := Option.some.inj h; exact (by kernel_rfl : (Tryd.prog.info? 75).map (·.size) = some 1)
  | 76, n, h => by obtain rfl : 1 = n := Option.some.inj h; exact (by kernel_rfl : (Tryd.prog.info? 76).map (·.size) = some 1)
  | 77, n, h => by obtain rfl : 1 = n := Option.some.inj h; exact (by kernel_rfl : (Tryd.prog.info? 77).map (·.size) = some 1)
  | 78, n, h => by obtain rfl : 1 = n := Option.some.inj h; exact (by kernel_rfl : (Tryd.prog.info? 78).map (·.size) = some 1)
  | 79, n, h => by obtain rfl : 1 = n := Option.some.inj h; exact (by kernel_rfl : (Tryd.prog.info? 79).map (·.size) = some 1)
  | 80, n, h => by obtain rfl : 1 = n := Option.some.inj h; exact (by kernel_rfl : (Tryd.prog.info? 80).map (·.size) = some 1)
  | 81, n, h => by obtain rfl : 1 = n := Option.some.inj h; exact (by kernel_rfl : (Tryd.prog.info? 81).map (·.size) = some 1)
  | 82, n, h => by cases h
  | 83, n, h => by cases h
  | 84, n, h => by cases h
  | _ + 85, n, h => by cases h
theorem zcT_ok : ∀ t c, zcT t = some c → ∃ i z, Tryd.prog.info? t = some i ∧ i.zero = some z ∧ z.cells = (cc c).toArray
  | 0, c, h => by cases h
  | 1, c, h => by cases h
  | 2, c, h => by obtain rfl : _ = c := Option.some.inj h; exact zc_mk (by kernel_rfl)
  | 3, c, h => by obtain rfl : _ = c := Option.some.inj h; exact zc_mk (by kernel_rfl)
  | 4, c, h => by obtain rfl : _ = c := Option.some.inj h; exact zc_mk (by kernel_rfl)
  | 5, c, h => by obtain rfl : _ = c := Option.some.inj h; exact zc_mk (by kernel_rfl)
  | 6, c, h => by obtain rfl : _ = c := Option.some.inj h; exact zc_mk (by kernel_rfl)
  | 7, c, h => by cases h
  | 8, c, h => by cases h
  | 9, c, h => by obtain rfl : _ = c := Option.some.inj h; exact zc_mk (by kernel_rfl)
  | 10, c, h => by obtain rfl : _ = c := Option.some.inj h; exact zc_mk (by kernel_rfl)
  | 11, c, h => by obtain rfl : _ = c := Option.some.inj h; exact zc_mk (by kernel_rfl)
  | 12, c, h => by obtain rfl : _ = c := Option.some.inj h; exact zc_mk (by kernel_rfl)
  | 13, c, h => by cases h
  | 14, c, h => by cases h
  | 15, c, h => by cases h
  | 16, c, h => by cases h
  | 17, c, h => by cases h
  | 18, c, h => by cases h
  | 19, c, h => by cases h
  | 20, c, h => by cases h
  | 21, c, h => by obtain rfl : _ = c := Option.some.inj h; exact zc_mk (by kernel_rfl)
  | 22, c, h => by obtain rfl : _ = c := Option.some.inj h; exact zc_mk (by kernel_rfl)
  | 23, c, h => by cases h
  | 24, c, h => by obtain rfl : _ = c := Option.some.inj h; exact zc_mk (by kernel_rfl)
  | 25, c, h => by obtain rfl : _ = c := Option.some.inj h; exact zc_mk (by kernel_rfl)
  | 26, c, h => by obtain rfl : _ = c := Option.some.inj h; exact zc_mk (by kernel_rfl)
  | 27, c, h => by cases h
  | 28, c, h => by cases h
  | 29, c, h => by obtain rfl : _ = c := Option.some.inj h; exact zc_mk (by kernel_rfl)
  | 30, c, h => by cases h
  | 31, c, h => by cases h
  | 32, c, h => by cases h
  | 33, c, h => by obtain rfl : _ = c := Option.some.inj h; exact zc_mk (by kernel_rfl)
  | 34, c, h => by cases h
  | 35, c, h => by obtain rfl : _ = c := Option.some.inj h; exact zc_mk (by kernel_rfl)
  | 36, c, h => by obtain rfl : _ = c := Option.some.inj h; exact zc_mk (by kernel_rfl)
  | 37, c, h => by cases h
  | 38, c, h => by obtain rfl : _ = c := Option.some.inj h; exact zc_mk (by kernel_rfl)
  | 39, c, h => by cases h
  | 40, c, h => by obtain rfl : _ = c := Option.some.inj h; exact zc_mk (by kernel_rfl)
  | 41, c, h => by cases h
  | 42, c, h => by obtain rfl : _ = c := Option.some.inj h; exact zc_mk (by kernel_rfl)
  | 43, c, h => by cases h
  | 44, c, h => by cases h
  | 45, c, h => by cases h
  | 46, c, h => by obtain rfl : _ = c := Option.some.inj h; exact zc_mk (by kernel_rfl)
  | 47, c, h => by obtain rfl : _ = c := Option.some.inj h; exact zc_mk (by kernel_rfl)
  | 48, c, h => by obtain rfl : _ = c := Option.some.inj h; exact zc_mk (by kernel_rfl)
  | 49, c, h => by cases h
  | 50, c, h => by obtain rfl : _ = c := Option.some.inj h; exact zc_mk (by kernel_rfl)
  | 51, c, h => by obtain rfl : _ = c := Option.some.inj h; exact zc_mk (by kernel_rfl)
  | 52, c, h => by cases h
  | 53, c, h => by obtain rfl : _ = c := Option.some.inj h; exact zc_mk (by kernel_rfl)
  | 54, c, h => by cases h
  | 55, c, h => by cases h
  | 56, c, h => by obtain rfl : _ = c := Option.some.inj h; exact zc_mk (by kernel_rfl)
  | 57, c, h => by cases h
  | 58, c, h => by cases h
  | 59, c, h => by cases h
  | 60, c, h => by obtain rfl : _ = c := Option.some.inj h; exact zc_mk (by kernel_rfl)
  | 61, c, h => by cases h
  | 62, c, h => by cases h
  | 63, c, h => by cases h
  | 64, c, h => by cases h
  | 65, c, h => by obtain rfl : _ = c := Option.some.inj h; exact zc_mk (by kernel_rfl)
  | 66, c, h => by cases h
  | 67, c, h => by obtain rfl : _ = c := Option.some.inj h; exact zc_mk (by kernel_rfl)
  | 68, c, h => by obtain rfl : _ = c := Option.some.inj h; exact zc_mk (by kernel_rfl)
  | 69, c, h => by cases h
  | 70, c, h => by cases h
  | 71, c, h => by cases h
  | 72, c, h => by cases h
  | 73, c, h => by cases h
  | 74, c, h => by cases h
  | 75, c, h => by cases h
  | 76, c, h => by obtain rfl : _ = c := Option.some.inj h; exact zc_mk (by kernel_rfl)
  | 77, c, h => by obtain rfl : _ = c := Option.some.inj h; exact zc_mk (by kernel_rfl)
  | 78, c, h => by cases h
  | 79, c, h => by cases h
  | 80, c, h => by obtain rfl : _ = c := Option.some.inj h; exact zc_mk (by kernel_rfl)
  | 81, c, h => by obtain rfl : _ = c := Option.some.inj h; exact zc_mk (by kernel_rfl)
  | 82, c, h => by cases h
  | 83, c, h => by cases h
  | 84, c, h => by cases h
  | _ + 85, c, h => by cases h
theorem zrT_ok : ∀ t, zrT t ≠ [] → ∃ i z, Tryd.prog.info? t = some i ∧ i.zero = some z ∧ z.cells = (cvs (zrT t)).toArray
  | 0, h => absurd rfl h
  | 1, h => absurd rfl h
  | 2, h => absurd rfl h
  | 3, h => absurd rfl h
  | 4, h => absurd rfl h
  | 5, h => absurd rfl h
  | 6, h => absurd rfl h
  | 7, h => absurd rfl h
  | 8, h => absurd rfl h
  | 9, h => absurd rfl h
  | 10, h => absurd rfl h
  | 11, h => absurd rfl h
  | 12, h => absurd rfl h
  | 13, h => absurd rfl h
  | 14, h => absurd rfl h
  | 15, h => absurd rfl h
  | 16, h => absurd rfl h
  | 17, h => absurd rfl h
  | 18, h => absurd rfl h
  | 19, h => absurd rfl h
  | 20, h => absurd rfl h
  | 21, h => absurd rfl h
  | 22, h => absurd rfl h
  | 23, h => absurd rfl h
  | 24, h => absurd rfl h
  | 25, _ => zr_mk (by kernel_rfl)
  | 26, _ => zr_mk (by kernel_rfl)
  | 27, h => absurd rfl h
  | 28, h => absurd rfl h
  | 29, h => absurd rfl h
  | 30, h => absurd rfl h
  | 31, h => absurd rfl h
  | 32, h => absurd rfl h
  | 33, h => absurd rfl h
  | 34, h => absurd rfl h
  | 35, _ => zr_mk (by kernel_rfl)
  | 36, _ => zr_mk (by kernel_rfl)
  | 37, h => absurd rfl h
  | 38, h => absurd rfl h
  | 39, h => absurd rfl h
  | 40, h => absurd rfl h
  | 41, h => absurd rfl h
  | 42, h => absurd rfl h
  | 43, h => absurd rfl h
  | 44, h => absurd rfl h
  | 45, h => absurd rfl h
  | 46, h => absurd rfl h
  | 47, _ => zr_mk (by kernel_rfl)
  | 48, _ => zr_mk (by kernel_rfl)
  | 49, h => absurd rfl h
  | 50, _ => zr_mk (by kernel_rfl)
  | 51, _ => zr_mk (by kernel_rfl)
  | 52, h => absurd rfl h
  | 53, h => absurd rfl h
  | 54, h => absurd rfl h
  | 55, h => absurd rfl h
  | 56, _ => zr_mk (by kernel_rfl)
  | 57, h => absurd rfl h
  | 58, h => absurd rfl h
  | 59, h => absurd rfl h
  | 60, _ => zr_mk (by kernel_rfl)
  | 61, h => absurd rfl h
  | 62, h => absurd rfl h
  | 63, h => absurd rfl h
  | 64, h => absurd rfl h
  | 65, _ => zr_mk (by kernel_rfl)
  | 66, h => absurd rfl h
  | 67, _ => zr_mk (by kernel_rfl)
  | 68, _ => zr_mk (by kernel_rfl)
  | 69, h => absurd rfl h
  | 70, h => absurd rfl h
  | 71, h => absurd rfl h
  | 72, h => absurd rfl h
  | 73, h => absurd rfl h
  | 74, h => absurd rfl h
  | 75, h => absurd rfl h
  | 76, h => absurd rfl h
  | 77, h => absurd rfl h
  | 78, h => absurd rfl h
  | 79, h => absurd rfl h
  | 80, h => absurd rfl h
  | 81, h => absurd rfl h
  | 82, h => absurd rfl h
  | 83, h => absurd rfl h
  | 84, h => absurd rfl h
  | _ + 85, h => absurd rfl h
theorem b8T_ok : ∀ e, tyT e = .int .u8 → ∃ i, Tryd.prog.info? e = some i ∧ i.zero = some (.int .u8 0) ∧ i.size = 1 ∧ i.bytes = 1
  | 0, h => by cases h
  | 1, h => by cases h
  | 2, h => by cases h
  | 3, h => by cases h
  | 4, h => by cases h
  | 5, _ => b8_mk (by kernel_rfl)
  | 6, _ => b8_mk (by kernel_rfl)
  | 7, h => by cases h
  | 8, h => by cases h
  | 9, h => by cases h
  | 10, h => by cases h
  | 11, h => by cases h
  | 12, h => by cases h
  | 13, h => by cases h
  | 14, h => by cases h
  | 15, h => by cases h
  | 16, h => by cases h
  | 17, h => by cases h
  | 18, h => by cases h
  | 19, h => by cases h
  | 20, h => by cases h
  | 21, h => by cases h
  | 22, h => by cases h
  | 23, h => by cases h
  | 24, h => by cases h
  | 25, h => by cases h
  | 26, h => by cases h
  | 27, h => by cases h
  | 28, h => by cases h
  | 29, h => by cases h
  | 30, h => by cases h
  | 31, h => by cases h
  | 32, h => by cases h
  | 33, h => by cases h
  | 34, h => by cases h
  | 35, h => by cases h
  | 36, h => by cases h
  | 37, h => by cases h
  | 38, h => by cases h
  | 39, h => by cases h
  | 40, h => by cases h
  | 41, h => by cases h
  | 42, h => by cases h
  | 43, h => by cases h
  | 44, h => by cases h
  | 45, h => by cases h
  | 46, h => by cases h
  | 47, h => by cases h
  | 48, h => by cases h
  | 49, h => by cases h
  | 50, h => by cases h
  | 51, h => by cases h
  | 52, h => by cases h
  | 53, h => by cases h
  | 54, h => by cases h
  | 55, h => by cases h
  | 56, h => by cases h
  | 57, h => by cases h
  | 58, h => by cases h
  | 59, h => by cases h
  | 60, h => by cases h
  | 61, h => by cases h
  | 62, h => by cases h
  | 63, h => by cases h
  | 64, h => by cases h
  | 65, h => by cases h
  | 66, h => by cases h
  | 67, h => by cases h
  | 68, h => by cases h
  | 69, h => by cases h
  | 70, h => by cases h
  | 71, h => by cases h
  | 72, h => by cases h
  | 73, h => by cases h
  | 74, h => by cases h
  | 75, h => by cases h
  | 76, _ => b8_mk (by kernel_rfl)
  | 77, _ => b8_mk (by kernel_rfl)
  | 78, h => by cases h
  | 79, h => by cases h
  | 80, h => by cases h
  | 81, h => by cases h
  | 82, h => by cases h
  | 83, h => by cases h
  | 84, h => by cases h
  | _ + 85, h => by cases h
theorem ty_3 : T0.ty 3 = .int .i64 := rfl
theorem zc_3 : T0.zc 3 = some (.ints .i64 [0]) := rfl
theorem ty_5 : T0.ty 5 = .int .u8 := rfl
theorem zc_5 : T0.zc 5 = some (.ints .u8 [0]) := rfl
theorem ty_9 : T0.ty 9 = .str := rfl
theorem zc_9 : T0.zc 9 = some (.cells [.str []]) := rfl
theorem ty_22 : T0.ty 22 = .sl 5 1 1 := rfl
theorem zc_22 : T0.zc 22 = some (.cells [.nilsl]) := rfl
theorem ty_24 : T0.ty 24 = .int .u64 := rfl
theorem zc_24 : T0.zc 24 = some (.ints .u64 [0]) := rfl
theorem ty_26 : T0.ty 26 = .word := rfl
theorem zc_26 : T0.zc 26 = some (.words [0]) := rfl
theorem zr_26 : T0.zr 26 = [.int .u64 0, .int .u64 0, .int .u64 0, .int .u64 0] := rfl
theorem ty_29 : T0.ty 29 = .sl 26 4 32 := rfl
theorem zc_29 : T0.zc 29 = some (.cells [.nilsl]) := rfl
theorem ty_33 : T0.ty 33 = .int .u64 := rfl
theorem zc_33 : T0.zc 33 = some (.ints .u64 [0]) := rfl
theorem ty_36 : T0.ty 36 = .arr 25 24 1 (some .u64) := rfl
theorem zc_36 : T0.zc 36 = some (.ints .u64 (List.replicate 25 0)) := rfl
theorem zr_36 : T0.zr 36 = [.int .u64 0, .int .u64 0, .int .u64 0, .int .u64 0, .int .u64 0, .int .u64 0, .int .u64 0, .int .u64 0, .int .u64 0, .int .u64 0, .int .u64 0, .int .u64 0, .int .u64 0, .int .u64 0, .int .u64 0, .int .u64 0, .int .u64 0, .int .u64 0, .int .u64 0, .int .u64 0, .int .u64 0, .int .u64 0, .int .u64 0, .int .u64 0, .int .u64 0] := rfl
theorem ty_38 : T0.ty 38 = .arr 136 5 1 (some .u8) := rfl
theorem zc_38 : T0.zc 38 = some (.ints .u8 (List.replicate 136 0)) := rfl
theorem ty_40 : T0.ty 40 = .sl 3 1 8 := rfl
theorem zc_40 : T0.zc 40 = some (.cells [.nilsl]) := rfl
theorem ty_42 : T0.ty 42 = .sl 24 1 8 := rfl
theorem zc_42 : T0.zc 42 = some (.cells [.nilsl]) := rfl
theorem ty_46 : T0.ty 46 = .int .u32 := rfl
theorem zc_46 : T0.zc 46 = some (.ints .u32 [0]) := rfl
theorem ty_48 : T0.ty 48 = .arr 8 46 1 (some .u32) := rfl
theorem zc_48 : T0.zc 48 = some (.ints .u32 (List.replicate 8 0)) := rfl
theorem zr_48 : T0.zr 48 = [.int .u32 0, .int .u32 0, .int .u32 0, .int .u32 0, .int .u32 0, .int .u32 0, .int .u32 0, .int .u32 0] := rfl
theorem ty_51 : T0.ty 51 = .arr 64 5 1 (some .u8) := rfl
theorem zc_51 : T0.zc 51 = some (.ints .u8 (List.replicate 64 0)) := rfl
theorem zr_51 : T0.zr 51 = [.int .u8 0, .int .u8 0, .int .u8 0, .int .u8 0, .int .u8 0, .int .u8 0, .int .u8 0, .int .u8 0, .int .u8 0, .int .u8 0, .int .u8 0, .int .u8 0, .int .u8 0, .int .u8 0, .int .u8 0, .int .u8 0, .int .u8 0, .int .u8 0, .int .u8 0, .int .u8 0, .int .u8 0, .int .u8 0, .int .u8 0, .int .u8 0, .int .u8 0, .int .u8 0, .int .u8 0, .int .u8 0, .int .u8 0, .int .u8 0, .int .u8 0, .int .u8 0, .int .u8 0, .int .u8 0, .int .u8 0, .int .u8 0, .int .u8 0, .int .u8 0, .int .u8 0, .int .u8 0, .int .u8 0, .int .u8 0, .int .u8 0, .int .u8 0, .int .u8 0, .int .u8 0, .int .u8 0, .int .u8 0, .int .u8 0, .int .u8 0, .int .u8 0, .int .u8 0, .int .u8 0, .int .u8 0, .int .u8 0, .int .u8 0, .int .u8 0, .int .u8 0, .int .u8 0, .int .u8 0, .int .u8 0, .int .u8 0, .int .u8 0, .int .u8 0] := rfl
theorem ty_53 : T0.ty 53 = .sl 46 1 4 := rfl
theorem zc_53 : T0.zc 53 = some (.cells [.nilsl]) := rfl
theorem ty_55 : T0.ty 55 = .ptr 36 := rfl
theorem ty_56 : T0.ty 56 = .arr 32 5 1 (some .u8) := rfl
theorem zc_56 : T0.zc 56 = some (.ints .u8 (List.replicate 32 0)) := rfl
theorem zr_56 : T0.zr 56 = [.int .u8 0, .int .u8 0, .int .u8 0, .int .u8 0, .int .u8 0, .int .u8 0, .int .u8 0, .int .u8 0, .int .u8 0, .int .u8 0, .int .u8 0, .int .u8 0, .int .u8 0, .int .u8 0, .int .u8 0, .int .u8 0, .int .u8 0, .int .u8 0, .int .u8 0, .int .u8 0, .int .u8 0, .int .u8 0, .int .u8 0, .int .u8 0, .int .u8 0, .int .u8 0, .int .u8 0, .int .u8 0, .int .u8 0, .int .u8 0, .int .u8 0, .int .u8 0] := rfl
theorem ty_59 : T0.ty 59 = .ptr 48 := rfl
theorem ty_60 : T0.ty 60 = .arr 64 46 1 (some .u32) := rfl
theorem zc_60 : T0.zc 60 = some (.ints .u32 (List.replicate 64 0)) := rfl
theorem zr_60 : T0.zr 60 = [.int .u32 0, .int .u32 0, .int .u32 0, .int .u32 0, .int .u32 0, .int .u32 0, .int .u32 0, .int .u32 0, .int .u32 0, .int .u32 0, .int .u32 0, .int .u32 0, .int .u32 0, .int .u32 0, .int .u32 0, .int .u32 0, .int .u32 0, .int .u32 0, .int .u32 0, .int .u32 0, .int .u32 0, .int .u32 0, .int .u32 0, .int .u32 0, .int .u32 0, .int .u32 0, .int .u32 0, .int .u32 0, .int .u32 0, .int .u32 0, .int .u32 0, .int .u32 0, .int .u32 0, .int .u32 0, .int .u32 0, .int .u32 0, .int .u32 0, .int .u32 0, .int .u32 0, .int .u32 0, .int .u32 0, .int .u32 0, .int .u32 0, .int .u32 0, .int .u32 0, .int .u32 0, .int .u32 0, .int .u32 0, .int .u32 0, .int .u32 0, .int .u32 0, .int .u32 0, .int .u32 0, .int .u32 0, .int .u32 0, .int .u32 0, .int .u32 0, .int .u32 0, .int .u32 0, .int .u32 0, .int .u32 0, .int .u32 0, .int .u32 0, .int .u32 0] := rfl
theorem ty_65 : T0.ty 65 = .arr 24 24 1 (some .u64) := rfl
theorem zc_65 : T0.zc 65 = some (.ints .u64 (List.replicate 24 0)) := rfl
theorem zr_65 : T0.zr 65 = [.int .u64 0, .int .u64 0, .int .u64 0, .int .u64 0, .int .u64 0, .int .u64 0, .int .u64 0, .int .u64 0, .int .u64 0, .int .u64 0, .int .u64 0, .int .u64 0, .int .u64 0, .int .u64 0, .int .u64 0, .int .u64 0, .int .u64 0, .int .u64 0, .int .u64 0, .int .u64 0, .int .u64 0, .int .u64 0, .int .u64 0, .int .u64 0] := rfl
theorem ty_67 : T0.ty 67 = .arr 5 24 1 (some .u64) := rfl
theorem zc_67 : T0.zc 67 = some (.ints .u64 (List.replicate 5 0)) := rfl
theorem zr_67 : T0.zr 67 = [.int .u64 0, .int .u64 0, .int .u64 0, .int .u64 0, .int .u64 0] := rfl
theorem ty_68 : T0.ty 68 = .arr 24 5 1 (some .u8) := rfl
theorem zc_68 : T0.zc 68 = some (.ints .u8 (List.replicate 24 0)) := rfl
theorem zr_68 : T0.zr 68 = [.int .u8 0, .int .u8 0, .int .u8 0, .int .u8 0, .int .u8 0, .int .u8 0, .int .u8 0, .int .u8 0, .int .u8 0, .int .u8 0, .int .u8 0, .int .u8 0, .int .u8 0, .int .u8 0, .int .u8 0, .int .u8 0, .int .u8 0, .int .u8 0, .int .u8 0, .int .u8 0, .int .u8 0, .int .u8 0, .int .u8 0, .int .u8 0] := rfl
theorem gl_0 : T0.gl 0 = .ptr 0 0 0 0 0 0 := rfl
theorem gl_1 : T0.gl 1 = .ptr 1 1 0 0 0 0 := rfl
theorem gl_2 : T0.gl 2 = .ptr 0 2 0 0 0 0 := rfl
theorem gl_3 : T0.gl 3 = .ptr 1 3 0 0 0 0 := rfl
set_option linter.defProp false in
def tabs := And.intro @ty_3 <| And.intro @zc_3 <| And.intro @ty_5 <| And.intro @zc_5 <| And.intro @ty_9 <| And.intro @zc_9 <| And.intro @ty_22 <| And.intro @zc_22 <| And.intro @ty_24 <| And.intro @zc_24 <| And.intro @ty_26 <| And.intro @zc_26 <| And.intro @zr_26 <| And.intro @ty_29 <| And.intro @zc_29 <| And.intro @ty_33 <| And.intro @zc_33 <| And.intro @ty_36 <| And.intro @zc_36 <| And.intro @zr_36 <| And.intro @ty_38 <| And.intro @zc_38 <| And.intro @ty_40 <| And.intro @zc_40 <| And.intro @ty_42 <| And.intro @zc_42 <| And.intro @ty_46 <| And.intro @zc_46 <| And.intro @ty_48 <| And.intro @zc_48 <| And.intro @zr_48 <| And.intro @ty_51 <| And.intro @zc_51 <| And.intro @zr_51 <| And.intro @ty_53 <| And.intro @zc_53 <| And.intro @ty_55 <| And.intro @ty_56 <| And.intro @zc_56 <| And.intro @zr_56 <| And.intro @ty_59 <| And.intro @ty_60 <| And.intro @zc_60 <| And.intro @zr_60 <| And.intro @ty_65 <| And.intro @zc_65 <| And.intro @zr_65 <| And.intro @ty_67 <| And.intro @zc_67 <| And.intro @zr_67 <| And.intro @ty_68 <| And.intro @zc_68 <| And.intro @zr_68 <| And.intro @gl_0 <| And.intro @gl_1 <| And.intro @gl_2 <| @gl_3
theorem T0_ok : TabOk Tryd.prog T0 := { b8 := b8T_ok, sz := szT_ok, zc := zcT_ok, ty := tyT_ok, gl := glT_ok, zr := zrT_ok }
end Go.Proofs.YtnncomlliobobaaDoor

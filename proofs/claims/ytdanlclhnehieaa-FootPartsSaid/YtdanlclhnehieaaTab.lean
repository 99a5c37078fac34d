/-
  The table of this translation's types.
-/
import Derived.Test.YtdanlclhnehieaaRows
import Derived.Test.YtdanlclhnehieaaEB
namespace Go.Proofs.Ytdanlclhnehieaa
set_option linter.unusedSimpArgs false
set_option linter.unusedVariables false
set_option maxRecDepth 20000
open Go.RowKit
def ck_38 : List CK := [.i .u8, .i .u8, .i .u8, .i .u8, .i .u8, .i .u8, .i .u8, .i .u8, .i .u8, .i .u8, .i .u8, .i .u8, .i .u8, .i .u8, .i .u8, .i .u8, .i .u8, .i .u8, .i .u8, .i .u8, .b, .i .u64, .i .u64, .i .u64, .i .u64]
theorem ckOk_38 : KeyOk Try.prog 38 ck_38 := key_mk 3 (by decide) (Nat.le_of_ble_eq_true (by kernel_rfl : Nat.ble 3 (Try.prog.types.size + 1) = true)) (by kernel_rfl) (by kernel_rfl) (by kernel_rfl) (by kernel_rfl) (by kernel_rfl : leaves Try.prog 3 38 = some ck_38) (by kernel_rfl)
theorem cc_38 {x0 x1 x2 x3 x4 x5 x6 x7 x8 x9 x10 x11 x12 x13 x14 x15 x16 x17 x18 x19 x21 x22 x23 x24 : Int} {v20 : Bool} : codeC ck_38 [.int .u8 x0, .int .u8 x1, .int .u8 x2, .int .u8 x3, .int .u8 x4, .int .u8 x5, .int .u8 x6, .int .u8 x7, .int .u8 x8, .int .u8 x9, .int .u8 x10, .int .u8 x11, .int .u8 x12, .int .u8 x13, .int .u8 x14, .int .u8 x15, .int .u8 x16, .int .u8 x17, .int .u8 x18, .int .u8 x19, .bool v20, .int .u64 x21, .int .u64 x22, .int .u64 x23, .int .u64 x24] = some [x0, x1, x2, x3, x4, x5, x6, x7, x8, x9, x10, x11, x12, x13, x14, x15, x16, x17, x18, x19, cond v20 1 0, x21, x22, x23, x24] := Eq.trans rfl rfl
theorem cs_38 {x0 x1 x2 x3 x4 x5 x6 x7 x8 x9 x10 x11 x12 x13 x14 x15 x16 x17 x18 x19 x20 x21 x22 x23 x24 : Int} : cellsS ck_38 [x0, x1, x2, x3, x4, x5, x6, x7, x8, x9, x10, x11, x12, x13, x14, x15, x16, x17, x18, x19, x20, x21, x22, x23, x24] = [.int .u8 x0, .int .u8 x1, .int .u8 x2, .int .u8 x3, .int .u8 x4, .int .u8 x5, .int .u8 x6, .int .u8 x7, .int .u8 x8, .int .u8 x9, .int .u8 x10, .int .u8 x11, .int .u8 x12, .int .u8 x13, .int .u8 x14, .int .u8 x15, .int .u8 x16, .int .u8 x17, .int .u8 x18, .int .u8 x19, .bool (decide (x20 = 1)), .int .u64 x21, .int .u64 x22, .int .u64 x23, .int .u64 x24] := Eq.trans rfl rfl
theorem al8_38 : allCk .u8 ck_38 = false := Eq.trans rfl rfl
def tyT : Nat → Ty
  | 1 => .cell
  | 2 => .int .i64
  | 3 => .int .i64
  | 4 => .bool
  | 5 => .int .u8
  | 6 => .int .u8
  | 9 => .str
  | 10 => .str
  | 11 => .str
  | 12 => .int .u64
  | 15 => .ptr 96
  | 16 => .ptr 99
  | 17 => .ptr 108
  | 20 => .ifc
  | 21 => .int .i32
  | 22 => .sl 38 25 56
  | 24 => .struct 2 [(0, 1, 22), (1, 1, 22)]
  | 25 => .sl 24 2 48
  | 26 => .cell
  | 27 => .cell
  | 28 => .cell
  | 29 => .cell
  | 30 => .cell
  | 31 => .cell
  | 32 => .arr 20 5 1 (some .u8)
  | 33 => .arr 20 5 1 (some .u8)
  | 34 => .int .u64
  | 35 => .arr 4 34 1 (some .u64)
  | 36 => .word
  | 38 => .struct 25 [(0, 20, 33), (20, 1, 4), (21, 4, 36)]
  | 39 => .map ck_38 (.agg [])
  | 40 => .map ck_38 (.agg [])
  | 41 => .cell
  | 42 => .cell
  | 43 => .cell
  | 44 => .cell
  | 45 => .cell
  | 46 => .struct 0 []
  | 47 => .cell
  | 48 => .cell
  | 49 => .cell
  | 50 => .cell
  | 51 => .cell
  | 52 => .cell
  | 53 => .cell
  | 54 => .cell
  | 55 => .cell
  | 56 => .cell
  | 57 => .cell
  | 58 => .sl 5 1 1
  | 59 => .cell
  | 60 => .cell
  | 61 => .cell
  | 62 => .cell
  | 64 => .cell
  | 65 => .cell
  | 66 => .cell
  | 67 => .int .u64
  | 68 => .sl 3 1 8
  | 69 => .cell
  | 71 => .cell
  | 72 => .cell
  | 73 => .int .i64
  | 75 => .cell
  | 76 => .cell
  | 77 => .cell
  | 79 => .cell
  | 80 => .cell
  | 81 => .int .u32
  | 82 => .cell
  | 84 => .cell
  | 85 => .int .u64
  | 86 => .cell
  | 87 => .cell
  | 88 => .cell
  | 89 => .ptr 3
  | 90 => .cell
  | 91 => .ptr 85
  | 93 => .cell
  | 94 => .cell
  | 97 => .arr 0 16 1 none
  | 100 => .cell
  | 101 => .int .u8
  | 102 => .int .u8
  | 103 => .cell
  | 104 => .ptr 5
  | 105 => .int .i32
  | 106 => .int .i32
  | _ => .other
def zcT : Nat → Option Con
  | 1 => some (.cells [.raw .nilFunc])
  | 2 => some (.ints .i64 [0])
  | 3 => some (.ints .i64 [0])
  | 4 => some (.cells [.bool false])
  | 5 => some (.ints .u8 [0])
  | 6 => some (.ints .u8 [0])
  | 9 => some (.cells [.str []])
  | 10 => some (.cells [.str []])
  | 11 => some (.cells [.str []])
  | 12 => some (.ints .u64 [0])
  | 15 => some (.cells [.raw (.pointer none)])
  | 16 => some (.cells [.raw (.pointer none)])
  | 17 => some (.cells [.raw (.pointer none)])
  | 20 => some (.cells [.raw .nilIface])
  | 21 => some (.ints .i32 [0])
  | 22 => some (.cells [.nilsl])
  | 24 => some (.cells [.nilsl, .nilsl])
  | 25 => some (.cells [.nilsl])
  | 26 => some (.cells [.raw .nilFunc])
  | 27 => some (.cells [.raw .nilFunc])
  | 28 => some (.cells [.raw .nilFunc])
  | 29 => some (.cells [.raw .nilFunc])
  | 30 => some (.cells [.raw .nilFunc])
  | 31 => some (.cells [.raw .nilFunc])
  | 32 => some (.ints .u8 (List.replicate 20 0))
  | 33 => some (.ints .u8 (List.replicate 20 0))
  | 34 => some (.ints .u64 [0])
  | 35 => some (.ints .u64 (List.replicate 4 0))
  | 36 => some (.words [0])
  | 38 => some (.cells [.int .u8 0, .int .u8 0, .int .u8 0, .int .u8 0, .int .u8 0, .int .u8 0, .int .u8 0, .int .u8 0, .int .u8 0, .int .u8 0, .int .u8 0, .int .u8 0, .int .u8 0, .int .u8 0, .int .u8 0, .int .u8 0, .int .u8 0, .int .u8 0, .int .u8 0, .int .u8 0, .bool false, .int .u64 0, .int .u64 0, .int .u64 0, .int .u64 0])
  | 39 => some (.cells [.raw (.map none)])
  | 40 => some (.cells [.raw (.map none)])
  | 41 => some (.cells [.raw .nilFunc])
  | 42 => some (.cells [.raw .nilFunc])
  | 43 => some (.cells [.raw .nilFunc])
  | 44 => some (.cells [.raw .nilFunc])
  | 45 => some (.cells [.raw .nilFunc])
  | 46 => some (.cells [])
  | 47 => some (.cells [.raw .nilFunc])
  | 48 => some (.cells [.raw .nilFunc])
  | 49 => some (.cells [.raw .nilFunc])
  | 50 => some (.cells [.raw .nilFunc])
  | 51 => some (.cells [.raw .nilFunc])
  | 52 => some (.cells [.raw .nilFunc])
  | 53 => some (.cells [.raw .nilFunc])
  | 54 => some (.cells [.raw .nilFunc])
  | 55 => some (.cells [.raw .nilFunc])
  | 56 => some (.cells [.raw .nilFunc])
  | 57 => some (.cells [.raw .nilFunc])
  | 58 => some (.cells [.nilsl])
  | 59 => some (.cells [.raw .nilFunc])
  | 60 => some (.cells [.raw .nilFunc])
  | 61 => some (.cells [.raw .nilFunc])
  | 62 => some (.cells [.raw .nilFunc])
  | 64 => some (.cells [.raw .nilFunc])
  | 65 => some (.cells [.raw .nilFunc])
  | 66 => some (.cells [.raw .nilFunc])
  | 67 => some (.ints .u64 [0])
  | 68 => some (.cells [.nilsl])
  | 69 => some (.cells [.raw .nilFunc])
  | 71 => some (.cells [.raw .nilFunc])
  | 72 => some (.cells [.raw .nilFunc])
  | 73 => some (.ints .i64 [0])
  | 75 => some (.cells [.raw .nilFunc])
  | 76 => some (.cells [.raw .nilFunc])
  | 77 => some (.cells [.raw .nilFunc])
  | 79 => some (.cells [.raw .nilFunc])
  | 80 => some (.cells [.raw .nilFunc])
  | 81 => some (.ints .u32 [0])
  | 82 => some (.cells [.raw .nilFunc])
  | 84 => some (.cells [.raw .nilFunc])
  | 85 => some (.ints .u64 [0])
  | 86 => some (.cells [.raw .nilFunc])
  | 87 => some (.cells [.raw .nilFunc])
  | 88 => some (.cells [.raw .nilFunc])
  | 89 => some (.cells [.raw (.pointer none)])
  | 90 => some (.cells [.raw .nilFunc])
  | 91 => some (.cells [.raw (.pointer none)])
  | 93 => some (.cells [.raw .nilFunc])
  | 94 => some (.cells [.raw .nilFunc])
  | 100 => some (.cells [.raw .nilFunc])
  | 101 => some (.ints .u8 [0])
  | 102 => some (.ints .u8 [0])
  | 103 => some (.cells [.raw .nilFunc])
  | 104 => some (.cells [.raw (.pointer none)])
  | 105 => some (.ints .i32 [0])
  | 106 => some (.ints .i32 [0])
  | _ => none
def zrT : Nat → List SV
  | 24 => [.nilsl, .nilsl]
  | 32 => [.int .u8 0, .int .u8 0, .int .u8 0, .int .u8 0, .int .u8 0, .int .u8 0, .int .u8 0, .int .u8 0, .int .u8 0, .int .u8 0, .int .u8 0, .int .u8 0, .int .u8 0, .int .u8 0, .int .u8 0, .int .u8 0, .int .u8 0, .int .u8 0, .int .u8 0, .int .u8 0]
  | 33 => [.int .u8 0, .int .u8 0, .int .u8 0, .int .u8 0, .int .u8 0, .int .u8 0, .int .u8 0, .int .u8 0, .int .u8 0, .int .u8 0, .int .u8 0, .int .u8 0, .int .u8 0, .int .u8 0, .int .u8 0, .int .u8 0, .int .u8 0, .int .u8 0, .int .u8 0, .int .u8 0]
  | 35 => [.int .u64 0, .int .u64 0, .int .u64 0, .int .u64 0]
  | 36 => [.int .u64 0, .int .u64 0, .int .u64 0, .int .u64 0]
  | 38 => [.int .u8 0, .int .u8 0, .int .u8 0, .int .u8 0, .int .u8 0, .int .u8 0, .int .u8 0, .int .u8 0, .int .u8 0, .int .u8 0, .int .u8 0, .int .u8 0, .int .u8 0, .int .u8 0, .int .u8 0, .int .u8 0, .int .u8 0, .int .u8 0, .int .u8 0, .int .u8 0, .bool false, .int .u64 0, .int .u64 0, .int .u64 0, .int .u64 0]
  | _ => []
def glT : Nat → SV
  | g => .raw (.pointer (some ⟨g, 0, none⟩))
def lvT : Nat → Option (List CK)
  | 38 => some [.i .u8, .i .u8, .i .u8, .i .u8, .i .u8, .i .u8, .i .u8, .i .u8, .i .u8, .i .u8, .i .u8, .i .u8, .i .u8, .i .u8, .i .u8, .i .u8, .i .u8, .i .u8, .i .u8, .i .u8, .b, .i .u64, .i .u64, .i .u64, .i .u64]
  | _ => none
def T0 : Tab := { ty := tyT, zr := zrT, zc := zcT, gl := glT, lv := lvT }
theorem lvT_ok : ∀ t ks, lvT t = some ks → EqOk Try.prog t ks
  | 0, ks, h => by cases h
  | 1, ks, h => by cases h
  | 2, ks, h => by cases h
  | 3, ks, h => by cases h
  | 4, ks, h => by cases h
  | 5, ks, h => by cases h
  | 6, ks, h => by cases h
  | 7, ks, h => by cases h
  | 8, ks, h => by cases h
  | 9, ks, h => by cases h
  | 10, ks, h => by cases h
  | 11, ks, h => by cases h
  | 12, ks, h => by cases h
  | 13, ks, h => by cases h
  | 14, ks, h => by cases h
  | 15, ks, h => by cases h
  | 16, ks, h => by cases h
  | 17, ks, h => by cases h
  | 18, ks, h => by cases h
  | 19, ks, h => by cases h
  | 20, ks, h => by cases h
  | 21, ks, h => by cases h
  | 22, ks, h => by cases h
  | 23, ks, h => by cases h
  | 24, ks, h => by cases h
  | 25, ks, h => by cases h
  | 26, ks, h => by cases h
  | 27, ks, h => by cases h
  | 28, ks, h => by cases h
  | 29, ks, h => by cases h
  | 30, ks, h => by cases h
  | 31, ks, h => by cases h
  | 32, ks, h => by cases h
  | 33, ks, h => by cases h
  | 34, ks, h => by cases h
  | 35, ks, h => by cases h
  | 36, ks, h => by cases h
  | 37, ks, h => by cases h
  | 38, ks, h => by obtain rfl : [.i .u8, .i .u8, .i .u8, .i .u8, .i .u8, .i .u8, .i .u8, .i .u8, .i .u8, .i .u8, .i .u8, .i .u8, .i .u8, .i .u8, .i .u8, .i .u8, .i .u8, .i .u8, .i .u8, .i .u8, .b, .i .u64, .i .u64, .i .u64, .i .u64] = ks := Option.some.inj h; exact eq_mk 3 (by decide) (Nat.le_of_ble_eq_true (by kernel_rfl : Nat.ble 3 (Try.prog.types.size + 1) = true)) (by kernel_rfl) (by kernel_rfl) (by kernel_rfl) (by kernel_rfl) (by kernel_rfl : leaves Try.prog 3 38 = some _) (by kernel_rfl) (by kernel_rfl)
  | _ + 39, ks, h => by cases h
theorem glT_ok : ∀ g, cv (T0.gl g) = .pointer (some ⟨g, 0, none⟩) := by
  intro g
  show cv (glT g) = _
  unfold glT
  first | (split <;> rfl) | rfl
theorem tyOk1 : TyOk1 Try.prog 1 (.cell) := fun w => by kernel_rfl
theorem tyOk2 : TyOk1 Try.prog 2 (.int .i64) := (by kernel_rfl : Try.prog.underlying 2 = some (.int .i64))
theorem tyOk3 : TyOk1 Try.prog 3 (.int .i64) := (by kernel_rfl : Try.prog.underlying 3 = some (.int .i64))
theorem tyOk4 : TyOk1 Try.prog 4 (.bool) := (by kernel_rfl : Try.prog.underlying 4 = some (.bool))
theorem tyOk5 : TyOk1 Try.prog 5 (.int .u8) := (by kernel_rfl : Try.prog.underlying 5 = some (.int .u8))
theorem tyOk6 : TyOk1 Try.prog 6 (.int .u8) := (by kernel_rfl : Try.prog.underlying 6 = some (.int .u8))
theorem tyOk9 : TyOk1 Try.prog 9 (.str) := (by kernel_rfl : Try.prog.underlying 9 = some (.string))
theorem tyOk10 : TyOk1 Try.prog 10 (.str) := (by kernel_rfl : Try.prog.underlying 10 = some (.string))
theorem tyOk11 : TyOk1 Try.prog 11 (.str) := (by kernel_rfl : Try.prog.underlying 11 = some (.string))
theorem tyOk12 : TyOk1 Try.prog 12 (.int .u64) := (by kernel_rfl : Try.prog.underlying 12 = some (.int .u64))
theorem tyOk15 : TyOk1 Try.prog 15 (.ptr 96) := (by kernel_rfl : Try.prog.underlying 15 = some (.pointer 96))
theorem tyOk16 : TyOk1 Try.prog 16 (.ptr 99) := (by kernel_rfl : Try.prog.underlying 16 = some (.pointer 99))
theorem tyOk17 : TyOk1 Try.prog 17 (.ptr 108) := (by kernel_rfl : Try.prog.underlying 17 = some (.pointer 108))
theorem tyOk20 : TyOk1 Try.prog 20 (.ifc) := ifc_mk (by kernel_rfl : isIfc (Try.prog.underlying 20) = true)
theorem tyOk21 : TyOk1 Try.prog 21 (.int .i32) := (by kernel_rfl : Try.prog.underlying 21 = some (.int .i32))
theorem tyOk22 : TyOk1 Try.prog 22 (.sl 38 25 56) := sl_mk (by kernel_rfl : Try.prog.underlying 22 = some (.slice 38)) (by decide) (by kernel_rfl : (Try.prog.info? 38).map (·.size) = some 25) (by kernel_rfl : (Try.prog.info? 38).map (·.bytes) = some 56) (by kernel_rfl : ((Try.prog.info? 38).bind (·.zero)).map (·.cells.size) = some 25)
theorem tyOk24 : TyOk1 Try.prog 24 (.struct 2 [(0, 1, 22), (1, 1, 22)]) := st_mk (by kernel_rfl) (by kernel_rfl : (Try.prog.info? 24).map (·.size) = some 2)
theorem tyOk25 : TyOk1 Try.prog 25 (.sl 24 2 48) := sl_mk (by kernel_rfl : Try.prog.underlying 25 = some (.slice 24)) (by decide) (by kernel_rfl : (Try.prog.info? 24).map (·.size) = some 2) (by kernel_rfl : (Try.prog.info? 24).map (·.bytes) = some 48) (by kernel_rfl : ((Try.prog.info? 24).bind (·.zero)).map (·.cells.size) = some 2)
theorem tyOk26 : TyOk1 Try.prog 26 (.cell) := fun w => by kernel_rfl
theorem tyOk27 : TyOk1 Try.prog 27 (.cell) := fun w => by kernel_rfl
theorem tyOk28 : TyOk1 Try.prog 28 (.cell) := fun w => by kernel_rfl
theorem tyOk29 : TyOk1 Try.prog 29 (.cell) := fun w => by kernel_rfl
theorem tyOk30 : TyOk1 Try.prog 30 (.cell) := fun w => by kernel_rfl
theorem tyOk31 : TyOk1 Try.prog 31 (.cell) := fun w => by kernel_rfl
theorem tyOk32 : TyOk1 Try.prog 32 (.arr 20 5 1 (some .u8)) := ⟨(by kernel_rfl : Try.prog.underlying 32 = some (.array 20 5)), (by kernel_rfl : (Try.prog.info? 5).map (·.size) = some 1), (by kernel_rfl : (Try.prog.info? 32).map (·.size) = some 20), (by kernel_rfl : Try.prog.eqGuardType Try.prog.depth 32 = false), fun k h => by cases h; exact (by kernel_rfl : Try.prog.underlying 5 = some (.int .u8))⟩
theorem tyOk33 : TyOk1 Try.prog 33 (.arr 20 5 1 (some .u8)) := ⟨(by kernel_rfl : Try.prog.underlying 33 = some (.array 20 5)), (by kernel_rfl : (Try.prog.info? 5).map (·.size) = some 1), (by kernel_rfl : (Try.prog.info? 33).map (·.size) = some 20), (by kernel_rfl : Try.prog.eqGuardType Try.prog.depth 33 = false), fun k h => by cases h; exact (by kernel_rfl : Try.prog.underlying 5 = some (.int .u8))⟩
theorem tyOk34 : TyOk1 Try.prog 34 (.int .u64) := (by kernel_rfl : Try.prog.underlying 34 = some (.int .u64))
theorem tyOk35 : TyOk1 Try.prog 35 (.arr 4 34 1 (some .u64)) := ⟨(by kernel_rfl : Try.prog.underlying 35 = some (.array 4 34)), (by kernel_rfl : (Try.prog.info? 34).map (·.size) = some 1), (by kernel_rfl : (Try.prog.info? 35).map (·.size) = some 4), (by kernel_rfl : Try.prog.eqGuardType Try.prog.depth 35 = false), fun k h => by cases h; exact (by kernel_rfl : Try.prog.underlying 34 = some (.int .u64))⟩
theorem tyOk36 : TyOk1 Try.prog 36 (.word) := ⟨34, (by kernel_rfl : Try.prog.underlying 36 = some (.array 4 34)), (by kernel_rfl : Try.prog.underlying 34 = some (.int .u64)), (by kernel_rfl : (Try.prog.info? 34).map (·.size) = some 1), (by kernel_rfl : (Try.prog.info? 36).map (·.size) = some 4), (by kernel_rfl : Try.prog.eqGuardType Try.prog.depth 36 = false)⟩
theorem tyOk38 : TyOk1 Try.prog 38 (.struct 25 [(0, 20, 33), (20, 1, 4), (21, 4, 36)]) := st_mk (by kernel_rfl) (by kernel_rfl : (Try.prog.info? 38).map (·.size) = some 25)
theorem tyOk39 : TyOk1 Try.prog 39 (.map ck_38 (.agg [])) := ⟨38, 46, (by kernel_rfl : Try.prog.underlying 39 = some (.map 38 46)), ckOk_38, zv_mk (by kernel_rfl : ((Try.prog.info? 46).bind (·.zero)) = some (cv (.agg [])))⟩
theorem tyOk40 : TyOk1 Try.prog 40 (.map ck_38 (.agg [])) := ⟨38, 46, (by kernel_rfl : Try.prog.underlying 40 = some (.map 38 46)), ckOk_38, zv_mk (by kernel_rfl : ((Try.prog.info? 46).bind (·.zero)) = some (cv (.agg [])))⟩
theorem tyOk41 : TyOk1 Try.prog 41 (.cell) := fun w => by kernel_rfl
theorem tyOk42 : TyOk1 Try.prog 42 (.cell) := fun w => by kernel_rfl
theorem tyOk43 : TyOk1 Try.prog 43 (.cell) := fun w => by kernel_rfl
theorem tyOk44 : TyOk1 Try.prog 44 (.cell) := fun w => by kernel_rfl
theorem tyOk45 : TyOk1 Try.prog 45 (.cell) := fun w => by kernel_rfl
theorem tyOk46 : TyOk1 Try.prog 46 (.struct 0 []) := st_mk (by kernel_rfl) (by kernel_rfl : (Try.prog.info? 46).map (·.size) = some 0)
theorem tyOk47 : TyOk1 Try.prog 47 (.cell) := fun w => by kernel_rfl
theorem tyOk48 : TyOk1 Try.prog 48 (.cell) := fun w => by kernel_rfl
theorem tyOk49 : TyOk1 Try.prog 49 (.cell) := fun w => by kernel_rfl
theorem tyOk50 : TyOk1 Try.prog 50 (.cell) := fun w => by kernel_rfl
theorem tyOk51 : TyOk1 Try.prog 51 (.cell) := fun w => by kernel_rfl
theorem tyOk52 : TyOk1 Try.prog 52 (.cell) := fun w => by kernel_rfl
theorem tyOk53 : TyOk1 Try.prog 53 (.cell) := fun w => by kernel_rfl
theorem tyOk54 : TyOk1 Try.prog 54 (.cell) := fun w => by kernel_rfl
theorem tyOk55 : TyOk1 Try.prog 55 (.cell) := fun w => by kernel_rfl
theorem tyOk56 : TyOk1 Try.prog 56 (.cell) := fun w => by kernel_rfl
theorem tyOk57 : TyOk1 Try.prog 57 (.cell) := fun w => by kernel_rfl
theorem tyOk58 : TyOk1 Try.prog 58 (.sl 5 1 1) := sl_mk (by kernel_rfl : Try.prog.underlying 58 = some (.slice 5)) (by decide) (by kernel_rfl : (Try.prog.info? 5).map (·.size) = some 1) (by kernel_rfl : (Try.prog.info? 5).map (·.bytes) = some 1) (by kernel_rfl : ((Try.prog.info? 5).bind (·.zero)).map (·.cells.size) = some 1)
theorem tyOk59 : TyOk1 Try.prog 59 (.cell) := fun w => by kernel_rfl
theorem tyOk60 : TyOk1 Try.prog 60 (.cell) := fun w => by kernel_rfl
theorem tyOk61 : TyOk1 Try.prog 61 (.cell) := fun w => by kernel_rfl
theorem tyOk62 : TyOk1 Try.prog 62 (.cell) := fun w => by kernel_rfl
theorem tyOk64 : TyOk1 Try.prog 64 (.cell) := fun w => by kernel_rfl
theorem tyOk65 : TyOk1 Try.prog 65 (.cell) := fun w => by kernel_rfl
theorem tyOk66 : TyOk1 Try.prog 66 (.cell) := fun w => by kernel_rfl
theorem tyOk67 : TyOk1 Try.prog 67 (.int .u64) := (by kernel_rfl : Try.prog.underlying 67 = some (.int .u64))
theorem tyOk68 : TyOk1 Try.prog 68 (.sl 3 1 8) := sl_mk (by kernel_rfl : Try.prog.underlying 68 = some (.slice 3)) (by decide) (by kernel_rfl : (Try.prog.info? 3).map (·.size) = some 1) (by kernel_rfl : (Try.prog.info? 3).map (·.bytes) = some 8) (by kernel_rfl : ((Try.prog.info? 3).bind (·.zero)).map (·.cells.size) = some 1)
theorem tyOk69 : TyOk1 Try.prog 69 (.cell) := fun w => by kernel_rfl
theorem tyOk71 : TyOk1 Try.prog 71 (.cell) := fun w => by kernel_rfl
theorem tyOk72 : TyOk1 Try.prog 72 (.cell) := fun w => by kernel_rfl
theorem tyOk73 : TyOk1 Try.prog 73 (.int .i64) := (by kernel_rfl : Try.prog.underlying 73 = some (.int .i64))
theorem tyOk75 : TyOk1 Try.prog 75 (.cell) := fun w => by kernel_rfl
theorem tyOk76 : TyOk1 Try.prog 76 (.cell) := fun w => by kernel_rfl
theorem tyOk77 : TyOk1 Try.prog 77 (.cell) := fun w => by kernel_rfl
theorem tyOk79 : TyOk1 Try.prog 79 (.cell) := fun w => by kernel_rfl
theorem tyOk80 : TyOk1 Try.prog 80 (.cell) := fun w => by kernel_rfl
theorem tyOk81 : TyOk1 Try.prog 81 (.int .u32) := (by kernel_rfl : Try.prog.underlying 81 = some (.int .u32))
theorem tyOk82 : TyOk1 Try.prog 82 (.cell) := fun w => by kernel_rfl
theorem tyOk84 : TyOk1 Try.prog 84 (.cell) := fun w => by kernel_rfl
theorem tyOk85 : TyOk1 Try.prog 85 (.int .u64) := (by kernel_rfl : Try.prog.underlying 85 = some (.int .u64))
theorem tyOk86 : TyOk1 Try.prog 86 (.cell) := fun w => by kernel_rfl
theorem tyOk87 : TyOk1 Try.prog 87 (.cell) := fun w => by kernel_rfl
theorem tyOk88 : TyOk1 Try.prog 88 (.cell) := fun w => by kernel_rfl
theorem tyOk89 : TyOk1 Try.prog 89 (.ptr 3) := (by kernel_rfl : Try.prog.underlying 89 = some (.pointer 3))
theorem tyOk90 : TyOk1 Try.prog 90 (.cell) := fun w => by kernel_rfl
theorem tyOk91 : TyOk1 Try.prog 91 (.ptr 85) := (by kernel_rfl : Try.prog.underlying 91 = some (.pointer 85))
theorem tyOk93 : TyOk1 Try.prog 93 (.cell) := fun w => by kernel_rfl
theorem tyOk94 : TyOk1 Try.prog 94 (.cell) := fun w => by kernel_rfl
theorem tyOk97 : TyOk1 Try.prog 97 (.arr 0 16 1 none) := ⟨(by kernel_rfl : Try.prog.underlying 97 = some (.array 0 16)), (by kernel_rfl : (Try.prog.info? 16).map (·.size) = some 1), (by kernel_rfl : (Try.prog.info? 97).map (·.size) = some 0), (by kernel_rfl : Try.prog.eqGuardType Try.prog.depth 97 = false), fun k h => by cases h⟩
theorem tyOk100 : TyOk1 Try.prog 100 (.cell) := fun w => by kernel_rfl
theorem tyOk101 : TyOk1 Try.prog 101 (.int .u8) := (by kernel_rfl : Try.prog.underlying 101 = some (.int .u8))
theorem tyOk102 : TyOk1 Try.prog 102 (.int .u8) := (by kernel_rfl : Try.prog.underlying 102 = some (.int .u8))
theorem tyOk103 : TyOk1 Try.prog 103 (.cell) := fun w => by kernel_rfl
theorem tyOk104 : TyOk1 Try.prog 104 (.ptr 5) := (by kernel_rfl : Try.prog.underlying 104 = some (.pointer 5))
theorem tyOk105 : TyOk1 Try.prog 105 (.int .i32) := (by kernel_rfl : Try.prog.underlying 105 = some (.int .i32))
theorem tyOk106 : TyOk1 Try.prog 106 (.int .i32) := (by kernel_rfl : Try.prog.underlying 106 = some (.int .i32))
theorem tyT_ok : ∀ t, TyOk1 Try.prog t (tyT t)
  | 0 => trivial
  | 1 => tyOk1
  | 2 => tyOk2
  | 3 => tyOk3
  | 4 => tyOk4
  | 5 => tyOk5
  | 6 => tyOk6
  | 7 => trivial
  | 8 => trivial
  | 9 => tyOk9
  | 10 => tyOk10
  | 11 => tyOk11
  | 12 => tyOk12
  | 13 => trivial
  | 14 => trivial
  | 15 => tyOk15
  | 16 => tyOk16
  | 17 => tyOk17
  | 18 => trivial
  | 19 => trivial
  | 20 => tyOk20
  | 21 => tyOk21
  | 22 => tyOk22
  | 23 => trivial
  | 24 => tyOk24
  | 25 => tyOk25
  | 26 => tyOk26
  | 27 => tyOk27
  | 28 => tyOk28
  | 29 => tyOk29
  | 30 => tyOk30
  | 31 => tyOk31
  | 32 => tyOk32
  | 33 => tyOk33
  | 34 => tyOk34
  | 35 => tyOk35
  | 36 => tyOk36
  | 37 => trivial
  | 38 => tyOk38
  | 39 => tyOk39
  | 40 => tyOk40
  | 41 => tyOk41
  | 42 => tyOk42
  | 43 => tyOk43
  | 44 => tyOk44
  | 45 => tyOk45
  | 46 => tyOk46
  | 47 => tyOk47
  | 48 => tyOk48
  | 49 => tyOk49
  | 50 => tyOk50
  | 51 => tyOk51
  | 52 => tyOk52
  | 53 => tyOk53
  | 54 => tyOk54
  | 55 => tyOk55
  | 56 => tyOk56
  | 57 => tyOk57
  | 58 => tyOk58
  | 59 => tyOk59
  | 60 => tyOk60
  | 61 => tyOk61
  | 62 => tyOk62
  | 63 => trivial
  | 64 => tyOk64
  | 65 => tyOk65
  | 66 => tyOk66
  | 67 => tyOk67
  | 68 => tyOk68
  | 69 => tyOk69
  | 70 => trivial
  | 71 => tyOk71
  | 72 => tyOk72
  | 73 => tyOk73
  | 74 => trivial
  | 75 => tyOk75
  | 76 => tyOk76
  | 77 => tyOk77
  | 78 => trivial
  | 79 => tyOk79
  | 80 => tyOk80
  | 81 => tyOk81
  | 82 => tyOk82
  | 83 => trivial
  | 84 => tyOk84
  | 85 => tyOk85
  | 86 => tyOk86
  | 87 => tyOk87
  | 88 => tyOk88
  | 89 => tyOk89
  | 90 => tyOk90
  | 91 => tyOk91
  | 92 => trivial
  | 93 => tyOk93
  | 94 => tyOk94
  | 95 => trivial
  | 96 => trivial
  | 97 => tyOk97
  | 98 => trivial
  | 99 => trivial
  | 100 => tyOk100
  | 101 => tyOk101
  | 102 => tyOk102
  | 103 => tyOk103
  | 104 => tyOk104
  | 105 => tyOk105
  | 106 => tyOk106
  | 107 => trivial
  | 108 => trivial
  | 109 => trivial
  | _ + 110 => trivial
theorem szT_ok : ∀ t n, tsz (tyT t) = some n → Sz Try.prog t n
  | 0, n, h => by cases h
  | 1, n, h => by obtain rfl : 1 = n := Option.some.inj h; exact (by kernel_rfl : (Try.prog.info? 1).map (·.size) = some 1)
  | 2, n, h => by obtain rfl : 1 = n := Option.some.inj h; exact (by kernel_rfl : (Try.prog.info? 2).map (·.size) = some 1)
  | 3, n, h => by obtain rfl : 1 = n := Option.some.inj h; exact (by kernel_rfl : (Try.prog.info? 3).map (·.size) = some 1)
  | 4, n, h => by obtain rfl : 1 = n := Option.some.inj h; exact (by kernel_rfl : (Try.prog.info? 4).map (·.size) = some 1)
  | 5, n, h => by obtain rfl : 1 = n := Option.some.inj h; exact (by kernel_rfl : (Try.prog.info? 5).map (·.size) = some 1)
  | 6, n, h => by obtain rfl : 1 = n := Option.some.inj h; exact (by kernel_rfl : (Try.prog.info? 6).map (·.size) = some 1)
  | 7, n, h => by cases h
  | 8, n, h => by cases h
  | 9, n, h => by obtain rfl : 1 = n := Option.some.inj h; exact (by kernel_rfl : (Try.prog.info? 9).map (·.size) = some 1)
  | 10, n, h => by obtain rfl : 1 = n := Option.some.inj h; exact (by kernel_rfl : (Try.prog.info? 10).map (·.size) = some 1)
  | 11, n, h => by obtain rfl : 1 = n := Option.some.inj h; exact (by kernel_rfl : (Try.prog.info? 11).map (·.size) = some 1)
  | 12, n, h => by obtain rfl : 1 = n := Option.some.inj h; exact (by kernel_rfl : (Try.prog.info? 12).map (·.size) = some 1)
  | 13, n, h => by cases h
  | 14, n, h => by cases h
  | 15, n, h => by obtain rfl : 1 = n := Option.some.inj h; exact (by kernel_rfl : (Try.prog.info? 15).map (·.size) = some 1)
  | 16, n, h => by obtain rfl : 1 = n := Option.some.inj h; exact (by kernel_rfl : (Try.prog.info? 16).map (·.size) = some 1)
  | 17, n, h => by obtain rfl : 1 = n := Option.some.inj h; exact (by kernel_rfl : (Try.prog.info? 17).map (·.size) = some 1)
  | 18, n, h => by cases h
  | 19, n, h => by cases h
  | 20, n, h => by obtain rfl : 1 = n := Option.some.inj h; exact (by kernel_rfl : (Try.prog.info? 20).map (·.size) = some 1)
  | 21, n, h => by obtain rfl : 1 = n := Option.some.inj h; exact (by kernel_rfl : (Try.prog.info? 21).map (·.size) = some 1)
  | 22, n, h => by obtain rfl : 1 = n := Option.some.inj h; exact (by kernel_rfl : (Try.prog.info? 22).map (·.size) = some 1)
  | 23, n, h => by cases h
  | 24, n, h => by obtain rfl : 2 = n := Option.some.inj h; exact (by kernel_rfl : (Try.prog.info? 24).map (·.size) = some 2)
  | 25, n, h => by obtain rfl : 1 = n := Option.some.inj h; exact (by kernel_rfl : (Try.prog.info? 25).map (·.size) = some 1)
  | 26, n, h => by obtain rfl : 1 = n := Option.some.inj h; exact (by kernel_rfl : (Try.prog.info? 26).map (·.size) = some 1)
  | 27, n, h => by obtain rfl : 1 = n := Option.some.inj h; exact (by kernel_rfl : (Try.prog.info? 27).map (·.size) = some 1)
  | 28, n, h => by obtain rfl : 1 = n := Option.some.inj h; exact (by kernel_rfl : (Try.prog.info? 28).map (·.size) = some 1)
  | 29, n, h => by obtain rfl : 1 = n := Option.some.inj h; exact (by kernel_rfl : (Try.prog.info? 29).map (·.size) = some 1)
  | 30, n, h => by obtain rfl : 1 = n := Option.some.inj h; exact (by kernel_rfl : (Try.prog.info? 30).map (·.size) = some 1)
  | 31, n, h => by obtain rfl : 1 = n := Option.some.inj h; exact (by kernel_rfl : (Try.prog.info? 31).map (·.size) = some 1)
  | 32, n, h => by obtain rfl : 20 = n := Option.some.inj h; exact (by kernel_rfl : (Try.prog.info? 32).map (·.size) = some 20)
  | 33, n, h => by obtain rfl : 20 = n := Option.some.inj h; exact (by kernel_rfl : (Try.prog.info? 33).map (·.size) = some 20)
  | 34, n, h => by obtain rfl : 1 = n := Option.some.inj h; exact (by kernel_rfl : (Try.prog.info? 34).map (·.size) = some 1)
  | 35, n, h => by obtain rfl : 4 = n := Option.some.inj h; exact (by kernel_rfl : (Try.prog.info? 35).map (·.size) = some 4)
  | 36, n, h => by obtain rfl : 4 = n := Option.some.inj h; exact (by kernel_rfl : (Try.prog.info? 36).map (·.size) = some 4)
  | 37, n, h => by cases h
  | 38, n, h => by obtain rfl : 25 = n := Option.some.inj h; exact (by kernel_rfl : (Try.prog.info? 38).map (·.size) = some 25)
  | 39, n, h => by obtain rfl : 1 = n := Option.some.inj h; exact (by kernel_rfl : (Try.prog.info? 39).map (·.size) = some 1)
  | 40, n, h => by obtain rfl : 1 = n := Option.some.inj h; exact (by kernel_rfl : (Try.prog.info? 40).map (·.size) = some 1)
  | 41, n, h => by obtain rfl : 1 = n := Option.some.inj h; exact (by kernel_rfl : (Try.prog.info? 41).map (·.size) = some 1)
  | 42, n, h => by obtain rfl : 1 = n := Option.some.inj h; exact (by kernel_rfl : (Try.prog.info? 42).map (·.size) = some 1)
  | 43, n, h => by obtain rfl : 1 = n := Option.some.inj h; exact (by kernel_rfl : (Try.prog.info? 43).map (·.size) = some 1)
  | 44, n, h => by obtain rfl : 1 = n := Option.some.inj h; exact (by kernel_rfl : (Try.prog.info? 44).map (·.size) = some 1)
  | 45, n, h => by obtain rfl : 1 = n := Option.some.inj h; exact (by kernel_rfl : (Try.prog.info? 45).map (·.size) = some 1)
  | 46, n, h => by obtain rfl : 0 = n := Option.some.inj h; exact (by kernel_rfl : (Try.prog.info? 46).map (·.size) = some 0)
  | 47, n, h => by obtain rfl : 1 = n := Option.some.inj h; exact (by kernel_rfl : (Try.prog.info? 47).map (·.size) = some 1)
  | 48, n, h => by obtain rfl : 1 = n := Option.some.inj h; exact (by kernel_rfl : (Try.prog.info? 48).map (·.size) = some 1)
  | 49, n, h => by obtain rfl : 1 = n := Option.some.inj h; exact (by kernel_rfl : (Try.prog.info? 49).map (·.size) = some 1)
  | 50, n, h => by obtain rfl : 1 = n := Option.some.inj h; exact (by kernel_rfl : (Try.prog.info? 50).map (·.size) = some 1)
  | 51, n, h => by obtain rfl : 1 = n := Option.some.inj h; exact (by kernel_rfl : (Try.prog.info? 51).map (·.size) = some 1)
  | 52, n, h => by obtain rfl : 1 = n := Option.some.inj h; exact (by kernel_rfl : (Try.prog.info? 52).map (·.size) = some 1)
  | 53, n, h => by obtain rfl : 1 = n := Option.some.inj h; exact (by kernel_rfl : (Try.prog.info? 53).map (·.size) = some 1)
  | 54, n, h => by obtain rfl : 1 = n := Option.some.inj h; exact (by kernel_rfl : (Try.prog.info? 54).map (·.size) = some 1)
  | 55, n, h => by obtain rfl : 1 = n := Option.some.inj h; exact (by kernel_rfl : (Try.prog.info? 55).map (·.size) = some 1)
  | 56, n, h => by obtain rfl : 1 = n := Option.some.inj h; exact (by kernel_rfl : (Try.prog.info? 56).map (·.size) = some 1)
  | 57, n, h => by obtain rfl : 1 = n := Option.some.inj h; exact (by kernel_rfl : (Try.prog.info? 57).map (·.size) = some 1)
  | 58, n, h => by obtain rfl : 1 = n := Option.some.inj h; exact (by kernel_rfl : (Try.prog.info? 58).map (·.size) = some 1)
  | 59, n, h => by obtain rfl : 1 = n := Option.some.inj h; exact (by kernel_rfl : (Try.prog.info? 59).map (·.size) = some 1)
  | 60, n, h => by obtain rfl : 1 = n := Option.some.inj h; exact (by kernel_rfl : (Try.prog.info? 60).map (·.size) = some 1)
  | 61, n, h => by obtain rfl : 1 = n := Option.some.inj h; exact (by kernel_rfl : (Try.prog.info? 61).map (·.size) = some 1)
  | 62, n, h => by obtain rfl : 1 = n := Option.some.inj h; exact (by kernel_rfl : (Try.prog.info? 62).map (·.size) = some 1)
  | 63, n, h => by cases h
  | 64, n, h => by obtain rfl : 1 = n := Option.some.inj h; exact (by kernel_rfl : (Try.prog.info? 64).map (·.size) = some 1)
  | 65, n, h => by obtain rfl : 1 = n := Option.some.inj h; exact (by kernel_rfl : (Try.prog.info? 65).map (·.size) = some 1)
  | 66, n, h => by obtain rfl : 1 = n := Option.some.inj h; exact (by kernel_rfl : (Try.prog.info? 66).map (·.size) = some 1)
  | 67, n, h => by obtain rfl : 1 = n := Option.some.inj h; exact (by kernel_rfl : (Try.prog.info? 67).map (·.size) = some 1)
  | 68, n, h => by obtain rfl : 1 = n := Option.some.inj h; exact (by kernel_rfl : (Try.prog.info? 68).map (·.size) = some 1)
  | 69, n, h => by obtain rfl : 1 = n := Option.some.inj h; exact (by kernel_rfl : (Try.prog.info? 69).map (·.size) = some 1)
  | 70, n, h => by cases h
  | 71, n, h => by obtain rfl : 1 = n := Option.some.inj h; exact (by kernel_rfl : (Try.prog.info? 71).map (·.size) = some 1)
  | 72, n, h => by obtain rfl : 1 = n := Option.some.inj h; exact (by kernel_rfl : (Try.prog.info? 72).map (·.size) = some 1)
  | 73, n, h => by obtain rfl : 1 = n := Option.some.inj h; exact (by kernel_rfl : (Try.prog.info? 73).map (·.size) = some 1)
  | 74, n, h => by cases h
  | 75, n, h => by obtain rfl : 1 = n := Option.some.inj h; exact (by kernel_rfl : (Try.prog.info? 75).map (·.size) = some 1)
  | 76, n, h => by obtain rfl : 1 = n := Option.some.inj h; exact (by kernel_rfl : (Try.prog.info? 76).map (·.size) = some 1)
  | 77, n, h => by obtain rfl : 1 = n := Option.some.inj h; exact (by kernel_rfl : (Try.prog.info? 77).map (·.size) = some 1)
  | 78, n, h => by cases h
  | 79, n, h => by obtain rfl : 1 = n := Option.some.inj h; exact (by kernel_rfl : (Try.prog.info? 79).map (·.size) = some 1)
  | 80, n, h => by obtain rfl : 1 = n := Option.some.inj h; exact (by kernel_rfl : (Try.prog.info? 80).map (·.size) = some 1)
  | 81, n, h => by obtain rfl : 1 = n := Option.some.inj h; exact (by kernel_rfl : (Try.prog.info? 81).map (·.size) = some 1)
  | 82, n, h => by obtain rfl : 1 = n := Option.some.inj h; exact (by kernel_rfl : (Try.prog.info? 82).map (·.size) = some 1)
  | 83, n, h => by cases h
  | 84, n, h => by obtain rfl : 1 = n := Option.some.inj h; exact (by kernel_rfl : (Try.prog.info? 84).map (·.size) = some 1)
  | 85, n, h => by obtain rfl : 1 = n := Option.some.inj h; exact (by kernel_rfl : (Try.prog.info? 85).map (·.size) = some 1)
  | 86, n, h => by obtain rfl : 1 = n := Option.some.inj h; exact (by kernel_rfl : (Try.prog.info? 86).map (·.size) = some 1)
  | 87, n, h => by obtain rfl : 1 = n := Option.some.inj h; exact (by kernel_rfl : (Try.prog.info? 87).map (·.size) = some 1)
  | 88, n, h => by obtain rfl : 1 = n := Option.some.inj h; exact (by kernel_rfl : (Try.prog.info? 88).map (·.size) = some 1)
  | 89, n, h => by obtain rfl : 1 = n := Option.some.inj h; exact (by kernel_rfl : (Try.prog.info? 89).map (·.size) = some 1)
  | 90, n, h => by obtain rfl : 1 = n := Option.some.inj h; exact (by kernel_rfl : (Try.prog.info? 90).map (·.size) = some 1)
  | 91, n, h => by obtain rfl : 1 = n := Option.some.inj h; exact (by kernel_rfl : (Try.prog.info? 91).map (·.size) = some 1)
  | 92, n, h => by cases h
  | 93, n, h => by obtain rfl : 1 = n := Option.some.inj h; exact (by kernel_rfl : (Try.prog.info? 93).map (·.size) = some 1)
  | 94, n, h => by obtain rfl : 1 = n := Option.some.inj h; exact (by kernel_rfl : (Try.prog.info? 94).map (·.size) = some 1)
  | 95, n, h => by cases h
  | 96, n, h => by cases h
  | 97, n, h => by obtain rfl : 0 = n := Option.some.inj h; exact (by kernel_rfl : (Try.prog.info? 97).map (·.size) = some 0)
  | 98, n, h => by cases h
  | 99, n, h => by cases h
  | 100, n, h => by obtain rfl : 1 = n := Option.some.inj h; exact (by kernel_rfl : (Try.prog.info? 100).map (·.size) = some 1)
  | 101, n, h => by obtain rfl : 1 = n := Option.some.inj h; exact (by kernel_rfl : (Try.prog.info? 101).map (·.size) = some 1)
  | 102, n, h => by obtain rfl : 1 = n := Option.some.inj h; exact (by kernel_rfl : (Try.prog.info? 102).map (·.size) = some 1)
  | 103, n, h => by obtain rfl : 1 = n := Option.some.inj h; exact (by kernel_rfl : (Try.prog.info? 103).map (·.size) = some 1)
  | 104, n, h => by obtain rfl : 1 = n := Option.some.inj h; exact (by kernel_rfl : (Try.prog.info? 104).map (·.size) = some 1)
  | 105, n, h => by obtain rfl : 1 = n := Option.some.inj h; exact (by kernel_rfl : (Try.prog.info? 105).map (·.size) = some 1)
  | 106, n, h => by obtain rfl : 1 = n := Option.some.inj h; exact (by kernel_rfl : (Try.prog.info? 106).map (·.size) = some 1)
  | 107, n, h => by cases h
  | 108, n, h => by cases h
  | 109, n, h => by cases h
  | _ + 110, n, h => by cases h
theorem zcT_ok : ∀ t c, zcT t = some c → ∃ i z, Try.prog.info? t = some i ∧ i.zero = some z ∧ z.cells = (cc c).toArray
  | 0, c, h => by cases h
  | 1, c, h => by obtain rfl : _ = c := Option.some.inj h; exact zc_mk (by kernel_rfl)
  | 2, c, h => by obtain rfl : _ = c := Option.some.inj h; exact zc_mk (by kernel_rfl)
  | 3, c, h => by obtain rfl : _ = c := Option.some.inj h; exact zc_mk (by kernel_rfl)
  | 4, c, h => by obtain rfl : _ = c := Option.some.inj h; exact zc_mk (by kernel_rfl)
  | 5, c, h => by obtain rfl : _ = c := Option.some.inj h; exact zc_mk (by kernel_rfl)
  | 6, c, h => by obtain rfl : _ = c := Option.some.inj h; exact zc_mk (by kernel_rfl)
  | 7, c, h => by cases h
  | 8, c, h => by cases h
  | 9, c, h => by obtain rfl : _ = c := Option.some.inj h; exact zc_mk (by kernel_rfl)
  | 10, c, h => by obtain rfl : _ = c := Option.some.inj h; exact zc_mk (by kernel_rfl)
  | 11, c, h => by obtain rfl : _ = c := Option.some.inj h; exact zc_mk (by kernel_rfl)
  | 12, c, h => by obtain rfl : _ = c := Option.some.inj h; exact zc_mk (by kernel_rfl)
  | 13, c, h => by cases h
  | 14, c, h => by cases h
  | 15, c, h => by obtain rfl : _ = c := Option.some.inj h; exact zc_mk (by kernel_rfl)
  | 16, c, h => by obtain rfl : _ = c := Option.some.inj h; exact zc_mk (by kernel_rfl)
  | 17, c, h => by obtain rfl : _ = c := Option.some.inj h; exact zc_mk (by kernel_rfl)
  | 18, c, h => by cases h
  | 19, c, h => by cases h
  | 20, c, h => by obtain rfl : _ = c := Option.some.inj h; exact zc_mk (by kernel_rfl)
  | 21, c, h => by obtain rfl : _ = c := Option.some.inj h; exact zc_mk (by kernel_rfl)
  | 22, c, h => by obtain rfl : _ = c := Option.some.inj h; exact zc_mk (by kernel_rfl)
  | 23, c, h => by cases h
  | 24, c, h => by obtain rfl : _ = c := Option.some.inj h; exact zc_mk (by kernel_rfl)
  | 25, c, h => by obtain rfl : _ = c := Option.some.inj h; exact zc_mk (by kernel_rfl)
  | 26, c, h => by obtain rfl : _ = c := Option.some.inj h; exact zc_mk (by kernel_rfl)
  | 27, c, h => by obtain rfl : _ = c := Option.some.inj h; exact zc_mk (by kernel_rfl)
  | 28, c, h => by obtain rfl : _ = c := Option.some.inj h; exact zc_mk (by kernel_rfl)
  | 29, c, h => by obtain rfl : _ = c := Option.some.inj h; exact zc_mk (by kernel_rfl)
  | 30, c, h => by obtain rfl : _ = c := Option.some.inj h; exact zc_mk (by kernel_rfl)
  | 31, c, h => by obtain rfl : _ = c := Option.some.inj h; exact zc_mk (by kernel_rfl)
  | 32, c, h => by obtain rfl : _ = c := Option.some.inj h; exact zc_mk (by kernel_rfl)
  | 33, c, h => by obtain rfl : _ = c := Option.some.inj h; exact zc_mk (by kernel_rfl)
  | 34, c, h => by obtain rfl : _ = c := Option.some.inj h; exact zc_mk (by kernel_rfl)
  | 35, c, h => by obtain rfl : _ = c := Option.some.inj h; exact zc_mk (by kernel_rfl)
  | 36, c, h => by obtain rfl : _ = c := Option.some.inj h; exact zc_mk (by kernel_rfl)
  | 37, c, h => by cases h
  | 38, c, h => by obtain rfl : _ = c := Option.some.inj h; exact zc_mk (by kernel_rfl)
  | 39, c, h => by obtain rfl : _ = c := Option.some.inj h; exact zc_mk (by kernel_rfl)
  | 40, c, h => by obtain rfl : _ = c := Option.some.inj h; exact zc_mk (by kernel_rfl)
  | 41, c, h => by obtain rfl : _ = c := Option.some.inj h; exact zc_mk (by kernel_rfl)
  | 42, c, h => by obtain rfl : _ = c := Option.some.inj h; exact zc_mk (by kernel_rfl)
  | 43, c, h => by obtain rfl : _ = c := Option.some.inj h; exact zc_mk (by kernel_rfl)
  | 44, c, h => by obtain rfl : _ = c := Option.some.inj h; exact zc_mk (by kernel_rfl)
  | 45, c, h => by obtain rfl : _ = c := Option.some.inj h; exact zc_mk (by kernel_rfl)
  | 46, c, h => by obtain rfl : _ = c := Option.some.inj h; exact zc_mk (by kernel_rfl)
  | 47, c, h => by obtain rfl : _ = c := Option.some.inj h; exact zc_mk (by kernel_rfl)
  | 48, c, h => by obtain rfl : _ = c := Option.some.inj h; exact zc_mk (by kernel_rfl)
  | 49, c, h => by obtain rfl : _ = c := Option.some.inj h; exact zc_mk (by kernel_rfl)
  | 50, c, h => by obtain rfl : _ = c := Option.some.inj h; exact zc_mk (by kernel_rfl)
  | 51, c, h => by obtain rfl : _ = c := Option.some.inj h; exact zc_mk (by kernel_rfl)
  | 52, c, h => by obtain rfl : _ = c := Option.some.inj h; exact zc_mk (by kernel_rfl)
  | 53, c, h => by obtain rfl : _ = c := Option.some.inj h; exact zc_mk (by kernel_rfl)
  | 54, c, h => by obtain rfl : _ = c := Option.some.inj h; exact zc_mk (by kernel_rfl)
  | 55, c, h => by obtain rfl : _ = c := Option.some.inj h; exact zc_mk (by kernel_rfl)
  | 56, c, h => by obtain rfl : _ = c := Option.some.inj h; exact zc_mk (by kernel_rfl)
  | 57, c, h => by obtain rfl : _ = c := Option.some.inj h; exact zc_mk (by kernel_rfl)
  | 58, c, h => by obtain rfl : _ = c := Option.some.inj h; exact zc_mk (by kernel_rfl)
  | 59, c, h => by obtain rfl : _ = c := Option.some.inj h; exact zc_mk (by kernel_rfl)
  | 60, c, h => by obtain rfl : _ = c := Option.some.inj h; exact zc_mk (by kernel_rfl)
  | 61, c, h => by obtain rfl : _ = c := Option.some.inj h; exact zc_mk (by kernel_rfl)
  | 62, c, h => by obtain rfl : _ = c := Option.some.inj h; exact zc_mk (by kernel_rfl)
  | 63, c, h => by cases h
  | 64, c, h => by obtain rfl : _ = c := Option.some.inj h; exact zc_mk (by kernel_rfl)
  | 65, c, h => by obtain rfl : _ = c := Option.some.inj h; exact zc_mk (by kernel_rfl)
  | 66, c, h => by obtain rfl : _ = c := Option.some.inj h; exact zc_mk (by kernel_rfl)
  | 67, c, h => by obtain rfl : _ = c := Option.some.inj h; exact zc_mk (by kernel_rfl)
  | 68, c, h => by obtain rfl : _ = c := Option.some.inj h; exact zc_mk (by kernel_rfl)
  | 69, c, h => by obtain rfl : _ = c := Option.some.inj h; exact zc_mk (by kernel_rfl)
  | 70, c, h => by cases h
  | 71, c, h => by obtain rfl : _ = c := Option.some.inj h; exact zc_mk (by kernel_rfl)
  | 72, c, h => by obtain rfl : _ = c := Option.some.inj h; exact zc_mk (by kernel_rfl)
  | 73, c, h => by obtain rfl : _ = c := Option.some.inj h; exact zc_mk (by kernel_rfl)
  | 74, c, h => by cases h
  | 75, c, h => by obtain rfl : _ = c := Option.some.inj h; exact zc_mk (by kernel_rfl)
  | 76, c, h => by obtain rfl : _ = c := Option.some.inj h; exact zc_mk (by kernel_rfl)
  | 77, c, h => by obtain rfl : _ = c := Option.some.inj h; exact zc_mk (by kernel_rfl)
  | 78, c, h => by cases h
  | 79, c, h => by obtain rfl : _ = c := Option.some.inj h; exact zc_mk (by kernel_rfl)
  | 80, c, h => by obtain rfl : _ = c := Option.some.inj h; exact zc_mk (by kernel_rfl)
  | 81, c, h => by obtain rfl : _ = c := Option.some.inj h; exact zc_mk (by kernel_rfl)
  | 82, c, h => by obtain rfl : _ = c := Option.some.inj h; exact zc_mk (by kernel_rfl)
  | 83, c, h => by cases h
  | 84, c, h => by obtain rfl : _ = c := Option.some.inj h; exact zc_mk (by kernel_rfl)
  | 85, c, h => by obtain rfl : _ = c := Option.some.inj h; exact zc_mk (by kernel_rfl)
  | 86, c, h => by obtain rfl : _ = c := Option.some.inj h; exact zc_mk (by kernel_rfl)
  | 87, c, h => by obtain rfl : _ = c := Option.some.inj h; exact zc_mk (by kernel_rfl)
  | 88, c, h => by obtain rfl : _ = c := Option.some.inj h; exact zc_mk (by kernel_rfl)
  | 89, c, h => by obtain rfl : _ = c := Option.some.inj h; exact zc_mk (by kernel_rfl)
  | 90, c, h => by obtain rfl : _ = c := Option.some.inj h; exact zc_mk (by kernel_rfl)
  | 91, c, h => by obtain rfl : _ = c := Option.some.inj h; exact zc_mk (by kernel_rfl)
  | 92, c, h => by cases h
  | 93, c, h => by obtain rfl : _ = c := Option.some.inj h; exact zc_mk (by kernel_rfl)
  | 94, c, h => by obtain rfl : _ = c := Option.some.inj h; exact zc_mk (by kernel_rfl)
  | 95, c, h => by cases h
  | 96, c, h => by cases h
  | 97, c, h => by cases h
  | 98, c, h => by cases h
  | 99, c, h => by cases h
  | 100, c, h => by obtain rfl : _ = c := Option.some.inj h; exact zc_mk (by kernel_rfl)
  | 101, c, h => by obtain rfl : _ = c := Option.some.inj h; exact zc_mk (by kernel_rfl)
  | 102, c, h => by obtain rfl : _ = c := Option.some.inj h; exact zc_mk (by kernel_rfl)
  | 103, c, h => by obtain rfl : _ = c := Option.some.inj h; exact zc_mk (by kernel_rfl)
  | 104, c, h => by obtain rfl : _ = c := Option.some.inj h; exact zc_mk (by kernel_rfl)
  | 105, c, h => by obtain rfl : _ = c := Option.some.inj h; exact zc_mk (by kernel_rfl)
  | 106, c, h => by obtain rfl : _ = c := Option.some.inj h; exact zc_mk (by kernel_rfl)
  | 107, c, h => by cases h
  | 108, c, h => by cases h
  | 109, c, h => by cases h
  | _ + 110, c, h => by cases h
theorem zrT_ok : ∀ t, zrT t ≠ [] → ∃ i z, Try.prog.info? t = some i ∧ i.zero = some z ∧ z.cells = (cvs (zrT t)).toArray
  | 0, h => absurd rfl h
  | 1, h => absurd rfl h
  | 2, h => absurd rfl h
  | 3, h => absurd rfl h
  | 4, h => absurd rfl h
  | 5, h => absurd rfl h
  | 6, h => absurd rfl h
  | 7, h => absurd rfl h
  | 8, h => absurd rfl h
  | 9, h => absurd rfl h
  | 10, h => absurd rfl h
  | 11, h => absurd rfl h
  | 12, h => absurd rfl h
  | 13, h => absurd rfl h
  | 14, h => absurd rfl h
  | 15, h => absurd rfl h
  | 16, h => absurd rfl h
  | 17, h => absurd rfl h
  | 18, h => absurd rfl h
  | 19, h => absurd rfl h
  | 20, h => absurd rfl h
  | 21, h => absurd rfl h
  | 22, h => absurd rfl h
  | 23, h => absurd rfl h
  | 24, _ => zr_mk (by kernel_rfl)
  | 25, h => absurd rfl h
  | 26, h => absurd rfl h
  | 27, h => absurd rfl h
  | 28, h => absurd rfl h
  | 29, h => absurd rfl h
  | 30, h => absurd rfl h
  | 31, h => absurd rfl h
  | 32, _ => zr_mk (by kernel_rfl)
  | 33, _ => zr_mk (by kernel_rfl)
  | 34, h => absurd rfl h
  | 35, _ => zr_mk (by kernel_rfl)
  | 36, _ => zr_mk (by kernel_rfl)
  | 37, h => absurd rfl h
  | 38, _ => zr_mk (by kernel_rfl)
  | 39, h => absurd rfl h
  | 40, h => absurd rfl h
  | 41, h => absurd rfl h
  | 42, h => absurd rfl h
  | 43, h => absurd rfl h
  | 44, h => absurd rfl h
  | 45, h => absurd rfl h
  | 46, h => absurd rfl h
  | 47, h => absurd rfl h
  | 48, h => absurd rfl h
  | 49, h => absurd rfl h
  | 50, h => absurd rfl h
  | 51, h => absurd rfl h
  | 52, h => absurd rfl h
  | 53, h => absurd rfl h
  | 54, h => absurd rfl h
  | 55, h => absurd rfl h
  | 56, h => absurd rfl h
  | 57, h => absurd rfl h
  | 58, h => absurd rfl h
  | 59, h => absurd rfl h
  | 60, h => absurd rfl h
  | 61, h => absurd rfl h
  | 62, h => absurd rfl h
  | 63, h => absurd rfl h
  | 64, h => absurd rfl h
  | 65, h => absurd rfl h
  | 66, h => absurd rfl h
  | 67, h => absurd rfl h
  | 68, h => absurd rfl h
  | 69, h => absurd rfl h
  | 70, h => absurd rfl h
  | 71, h => absurd rfl h
  | 72, h => absurd rfl h
  | 73, h => absurd rfl h
  | 74, h => absurd rfl h
  | 75, h => absurd rfl h
  | 76, h => absurd rfl h
  | 77, h => absurd rfl h
  | 78, h => absurd rfl h
  | 79, h => absurd rfl h
  | 80, h => absurd rfl h
  | 81, h => absurd rfl h
  | 82, h => absurd rfl h
  | 83, h => absurd rfl h
  | 84, h => absurd rfl h
  | 85, h => absurd rfl h
  | 86, h => absurd rfl h
  | 87, h => absurd rfl h
  | 88, h => absurd rfl h
  | 89, h => absurd rfl h
  | 90, h => absurd rfl h
  | 91, h => absurd rfl h
  | 92, h => absurd rfl h
  | 93, h => absurd rfl h
  | 94, h => absurd rfl h
  | 95, h => absurd rfl h
  | 96, h => absurd rfl h
  | 97, h => absurd rfl h
  | 98, h => absurd rfl h
  | 99, h => absurd rfl h
  | 100, h => absurd rfl h
  | 101, h => absurd rfl h
  | 102, h => absurd rfl h
  | 103, h => absurd rfl h
  | 104, h => absurd rfl h
  | 105, h => absurd rfl h
  | 106, h => absurd rfl h
  | 107, h => absurd rfl h
  | 108, h => absurd rfl h
  | 109, h => absurd rfl h
  | _ + 110, h => absurd rfl h
theorem b8T_ok : ∀ e, tyT e = .int .u8 → ∃ i, Try.prog.info? e = some i ∧ i.zero = some (.int .u8 0) ∧ i.size = 1 ∧ i.bytes = 1
  | 0, h => by cases h
  | 1, h => by cases h
  | 2, h => by cases h
  | 3, h => by cases h
  | 4, h => by cases h
  | 5, _ => b8_mk (by kernel_rfl)
  | 6, _ => b8_mk (by kernel_rfl)
  | 7, h => by cases h
  | 8, h => by cases h
  | 9, h => by cases h
  | 10, h => by cases h
  | 11, h => by cases h
  | 12, h => by cases h
  | 13, h => by cases h
  | 14, h => by cases h
  | 15, h => by cases h
  | 16, h => by cases h
  | 17, h => by cases h
  | 18, h => by cases h
  | 19, h => by cases h
  | 20, h => by cases h
  | 21, h => by cases h
  | 22, h => by cases h
  | 23, h => by cases h
  | 24, h => by cases h
  | 25, h => by cases h
  | 26, h => by cases h
  | 27, h => by cases h
  | 28, h => by cases h
  | 29, h => by cases h
  | 30, h => by cases h
  | 31, h => by cases h
  | 32, h => by cases h
  | 33, h => by cases h
  | 34, h => by cases h
  | 35, h => by cases h
  | 36, h => by cases h
  | 37, h => by cases h
  | 38, h => by cases h
  | 39, h => by cases h
  | 40, h => by cases h
  | 41, h => by cases h
  | 42, h => by cases h
  | 43, h => by cases h
  | 44, h => by cases h
  | 45, h => by cases h
  | 46, h => by cases h
  | 47, h => by cases h
  | 48, h => by cases h
  | 49, h => by cases h
  | 50, h => by cases h
  | 51, h => by cases h
  | 52, h => by cases h
  | 53, h => by cases h
  | 54, h => by cases h
  | 55, h => by cases h
  | 56, h => by cases h
  | 57, h => by cases h
  | 58, h => by cases h
  | 59, h => by cases h
  | 60, h => by cases h
  | 61, h => by cases h
  | 62, h => by cases h
  | 63, h => by cases h
  | 64, h => by cases h
  | 65, h => by cases h
  | 66, h => by cases h
  | 67, h => by cases h
  | 68, h => by cases h
  | 69, h => by cases h
  | 70, h => by cases h
  | 71, h => by cases h
  | 72, h => by cases h
  | 73, h => by cases h
  | 74, h => by cases h
  | 75, h => by cases h
  | 76, h => by cases h
  | 77, h => by cases h
  | 78, h => by cases h
  | 79, h => by cases h
  | 80, h => by cases h
  | 81, h => by cases h
  | 82, h => by cases h
  | 83, h => by cases h
  | 84, h => by cases h
  | 85, h => by cases h
  | 86, h => by cases h
  | 87, h => by cases h
  | 88, h => by cases h
  | 89, h => by cases h
  | 90, h => by cases h
  | 91, h => by cases h
  | 92, h => by cases h
  | 93, h => by cases h
  | 94, h => by cases h
  | 95, h => by cases h
  | 96, h => by cases h
  | 97, h => by cases h
  | 98, h => by cases h
  | 99, h => by cases h
  | 100, h => by cases h
  | 101, _ => b8_mk (by kernel_rfl)
  | 102, _ => b8_mk (by kernel_rfl)
  | 103, h => by cases h
  | 104, h => by cases h
  | 105, h => by cases h
  | 106, h => by cases h
  | 107, h => by cases h
  | 108, h => by cases h
  | 109, h => by cases h
  | _ + 110, h => by cases h
theorem ty_3 : T0.ty 3 = .int .i64 := rfl
theorem zc_3 : T0.zc 3 = some (.ints .i64 [0]) := rfl
theorem ty_4 : T0.ty 4 = .bool := rfl
theorem zc_4 : T0.zc 4 = some (.cells [.bool false]) := rfl
theorem ty_5 : T0.ty 5 = .int .u8 := rfl
theorem zc_5 : T0.zc 5 = some (.ints .u8 [0]) := rfl
theorem ty_9 : T0.ty 9 = .str := rfl
theorem zc_9 : T0.zc 9 = some (.cells [.str []]) := rfl
theorem ty_22 : T0.ty 22 = .sl 38 25 56 := rfl
theorem zc_22 : T0.zc 22 = some (.cells [.nilsl]) := rfl
theorem ty_24 : T0.ty 24 = .struct 2 [(0, 1, 22), (1, 1, 22)] := rfl
theorem zc_24 : T0.zc 24 = some (.cells [.nilsl, .nilsl]) := rfl
theorem zr_24 : T0.zr 24 = [.nilsl, .nilsl] := rfl
theorem ty_25 : T0.ty 25 = .sl 24 2 48 := rfl
theorem zc_25 : T0.zc 25 = some (.cells [.nilsl]) := rfl
theorem ty_33 : T0.ty 33 = .arr 20 5 1 (some .u8) := rfl
theorem zc_33 : T0.zc 33 = some (.ints .u8 (List.replicate 20 0)) := rfl
theorem zr_33 : T0.zr 33 = [.int .u8 0, .int .u8 0, .int .u8 0, .int .u8 0, .int .u8 0, .int .u8 0, .int .u8 0, .int .u8 0, .int .u8 0, .int .u8 0, .int .u8 0, .int .u8 0, .int .u8 0, .int .u8 0, .int .u8 0, .int .u8 0, .int .u8 0, .int .u8 0, .int .u8 0, .int .u8 0] := rfl
theorem ty_34 : T0.ty 34 = .int .u64 := rfl
theorem zc_34 : T0.zc 34 = some (.ints .u64 [0]) := rfl
theorem ty_36 : T0.ty 36 = .word := rfl
theorem zc_36 : T0.zc 36 = some (.words [0]) := rfl
theorem zr_36 : T0.zr 36 = [.int .u64 0, .int .u64 0, .int .u64 0, .int .u64 0] := rfl
theorem ty_38 : T0.ty 38 = .struct 25 [(0, 20, 33), (20, 1, 4), (21, 4, 36)] := rfl
theorem zc_38 : T0.zc 38 = some (.cells [.int .u8 0, .int .u8 0, .int .u8 0, .int .u8 0, .int .u8 0, .int .u8 0, .int .u8 0, .int .u8 0, .int .u8 0, .int .u8 0, .int .u8 0, .int .u8 0, .int .u8 0, .int .u8 0, .int .u8 0, .int .u8 0, .int .u8 0, .int .u8 0, .int .u8 0, .int .u8 0, .bool false, .int .u64 0, .int .u64 0, .int .u64 0, .int .u64 0]) := rfl
theorem lv_38 : T0.lv 38 = some [.i .u8, .i .u8, .i .u8, .i .u8, .i .u8, .i .u8, .i .u8, .i .u8, .i .u8, .i .u8, .i .u8, .i .u8, .i .u8, .i .u8, .i .u8, .i .u8, .i .u8, .i .u8, .i .u8, .i .u8, .b, .i .u64, .i .u64, .i .u64, .i .u64] := rfl
theorem zr_38 : T0.zr 38 = [.int .u8 0, .int .u8 0, .int .u8 0, .int .u8 0, .int .u8 0, .int .u8 0, .int .u8 0, .int .u8 0, .int .u8 0, .int .u8 0, .int .u8 0, .int .u8 0, .int .u8 0, .int .u8 0, .int .u8 0, .int .u8 0, .int .u8 0, .int .u8 0, .int .u8 0, .int .u8 0, .bool false, .int .u64 0, .int .u64 0, .int .u64 0, .int .u64 0] := rfl
theorem ty_40 : T0.ty 40 = .map ck_38 (.agg []) := rfl
theorem zc_40 : T0.zc 40 = some (.cells [.raw (.map none)]) := rfl
theorem ty_46 : T0.ty 46 = .struct 0 [] := rfl
theorem zc_46 : T0.zc 46 = some (.cells []) := rfl
theorem zr_46 : T0.zr 46 = [] := rfl
theorem ty_49 : T0.ty 49 = .cell := rfl
theorem zc_49 : T0.zc 49 = some (.cells [.raw .nilFunc]) := rfl
theorem ty_51 : T0.ty 51 = .cell := rfl
theorem zc_51 : T0.zc 51 = some (.cells [.raw .nilFunc]) := rfl
theorem ty_53 : T0.ty 53 = .cell := rfl
theorem zc_53 : T0.zc 53 = some (.cells [.raw .nilFunc]) := rfl
theorem ty_58 : T0.ty 58 = .sl 5 1 1 := rfl
theorem zc_58 : T0.zc 58 = some (.cells [.nilsl]) := rfl
theorem ty_67 : T0.ty 67 = .int .u64 := rfl
theorem zc_67 : T0.zc 67 = some (.ints .u64 [0]) := rfl
theorem ty_68 : T0.ty 68 = .sl 3 1 8 := rfl
theorem zc_68 : T0.zc 68 = some (.cells [.nilsl]) := rfl
theorem ty_73 : T0.ty 73 = .int .i64 := rfl
theorem zc_73 : T0.zc 73 = some (.ints .i64 [0]) := rfl
theorem ty_81 : T0.ty 81 = .int .u32 := rfl
theorem zc_81 : T0.zc 81 = some (.ints .u32 [0]) := rfl
theorem ty_85 : T0.ty 85 = .int .u64 := rfl
theorem zc_85 : T0.zc 85 = some (.ints .u64 [0]) := rfl
theorem ty_89 : T0.ty 89 = .ptr 3 := rfl
theorem zc_89 : T0.zc 89 = some (.cells [.raw (.pointer none)]) := rfl
set_option linter.defProp false in
def tabs := And.intro @cc_38 <| And.intro @cs_38 <| And.intro @al8_38 <| And.intro @ty_3 <| And.intro @zc_3 <| And.intro @ty_4 <| And.intro @zc_4 <| And.intro @ty_5 <| And.intro @zc_5 <| And.intro @ty_9 <| And.intro @zc_9 <| And.intro @ty_22 <| And.intro @zc_22 <| And.intro @ty_24 <| And.intro @zc_24 <| And.intro @zr_24 <| And.intro @ty_25 <| And.intro @zc_25 <| And.intro @ty_33 <| And.intro @zc_33 <| And.intro @zr_33 <| And.intro @ty_34 <| And.intro @zc_34 <| And.intro @ty_36 <| And.intro @zc_36 <| And.intro @zr_36 <| And.intro @ty_38 <| And.intro @zc_38 <| And.intro @lv_38 <| And.intro @zr_38 <| And.intro @ty_40 <| And.intro @zc_40 <| And.intro @ty_46 <| And.intro @zc_46 <| And.intro @zr_46 <| And.intro @ty_49 <| And.intro @zc_49 <| And.intro @ty_51 <| And.intro @zc_51 <| And.intro @ty_53 <| And.intro @zc_53 <| And.intro @ty_58 <| And.intro @zc_58 <| And.intro @ty_67 <| And.intro @zc_67 <| And.intro @ty_68 <| And.intro @zc_68 <| And.intro @ty_73 <| And.intro @zc_73 <| And.intro @ty_81 <| And.intro @zc_81 <| And.intro @ty_85 <| And.intro @zc_85 <| And.intro @ty_89 <| @zc_89
theorem T0_ok : TabOk Try.prog T0 := { b8 := b8T_ok, sz := szT_ok, zc := zcT_ok, ty := tyT_ok, gl := glT_ok, zr := zrT_ok, lv := lvT_ok }
end Go.Proofs.Ytdanlclhnehieaa

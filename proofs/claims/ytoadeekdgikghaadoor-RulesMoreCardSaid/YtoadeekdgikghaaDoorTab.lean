/-
 The table of this translation's types.
-/
import Derived.Test.YtoadeekdgikghaaDoorRows
import Derived.Test.YtoadeekdgikghaaDoorEB
set_option maxRecDepth 20000
set_option linter.unusedVariables false
set_option linter.unusedSimpArgs false
namespace Go.Proofs.YtoadeekdgikghaaDoor
open Go.RowKit
def ck_24 : List CK := [.i .u8, .i .u8, .i .u8, .i .u8, .i .u8, .i .u8, .i .u8, .i .u8, .i .u8, .i .u8, .i .u8, .i .u8, .i .u8, .i .u8, .i .u8, .i .u8, .i .u8, .i .u8, .i .u8, .i .u8]
theorem ckOk_24 : KeyOk Tryd.prog 24 ck_24 := key_mk 2 (by decide) (Nat.le_of_ble_eq_true (by kernel_rfl : Nat.ble 2 (Tryd.prog.types.size + 1) = true)) (by kernel_rfl) (by kernel_rfl) (by kernel_rfl) (by kernel_rfl) (by kernel_rfl : leaves Tryd.prog 2 24 = some ck_24) (by kernel_rfl)
theorem cc_24 {x0 x1 x2 x3 x4 x5 x6 x7 x8 x9 x10 x11 x12 x13 x14 x15 x16 x17 x18 x19 : Int} : codeC ck_24 [.int .u8 x0, .int .u8 x1, .int .u8 x2, .int .u8 x3, .int .u8 x4, .int .u8 x5, .int .u8 x6, .int .u8 x7, .int .u8 x8, .int .u8 x9, .int .u8 x10, .int .u8 x11, .int .u8 x12, .int .u8 x13, .int .u8 x14, .int .u8 x15, .int .u8 x16, .int .u8 x17, .int .u8 x18, .int .u8 x19] = some [x0, x1, x2, x3, x4, x5, x6, x7, x8, x9, x10, x11, x12, x13, x14, x15, x16, x17, x18, x19] := Eq.trans rfl rfl
theorem cs_24 {x0 x1 x2 x3 x4 x5 x6 x7 x8 x9 x10 x11 x12 x13 x14 x15 x16 x17 x18 x19 : Int} : cellsS ck_24 [x0, x1, x2, x3, x4, x5, x6, x7, x8, x9, x10, x11, x12, x13, x14, x15, x16, x17, x18, x19] = [.int .u8 x0, .int .u8 x1, .int .u8 x2, .int .u8 x3, .int .u8 x4, .int .u8 x5, .int .u8 x6, .int .u8 x7, .int .u8 x8, .int .u8 x9, .int .u8 x10, .int .u8 x11, .int .u8 x12, .int .u8 x13, .int .u8 x14, .int .u8 x15, .int .u8 x16, .int .u8 x17, .int .u8 x18, .int .u8 x19] := Eq.trans rfl rfl
theorem al8_24 : allCk .u8 ck_24 = true := Eq.trans rfl rfl
def ck_83 : List CK := [.i .u8, .i .u8, .i .u8, .i .u8, .i .u8, .i .u8, .i .u8, .i .u8, .i .u8, .i .u8, .i .u8, .i .u8, .i .u8, .i .u8, .i .u8, .i .u8, .i .u8, .i .u8, .i .u8, .i .u8, .b, .i .u64, .i .u64, .i .u64, .i .u64]
theorem ckOk_83 : KeyOk Tryd.prog 83 ck_83 := key_mk 3 (by decide) (Nat.le_of_ble_eq_true (by kernel_rfl : Nat.ble 3 (Tryd.prog.types.size + 1) = true)) (by kernel_rfl) (by kernel_rfl) (by kernel_rfl) (by kernel_rfl) (by kernel_rfl : leaves Tryd.prog 3 83 = some ck_83) (by kernel_rfl)
theorem cc_83 {x0 x1 x2 x3 x4 x5 x6 x7 x8 x9 x10 x11 x12 x13 x14 x15 x16 x17 x18 x19 x21 x22 x23 x24 : Int} {v20 : Bool} : codeC ck_83 [.int .u8 x0, .int .u8 x1, .int .u8 x2, .int .u8 x3, .int .u8 x4, .int .u8 x5, .int .u8 x6, .int .u8 x7, .int .u8 x8, .int .u8 x9, .int .u8 x10, .int .u8 x11, .int .u8 x12, .int .u8 x13, .int .u8 x14, .int .u8 x15, .int .u8 x16, .int .u8 x17, .int .u8 x18, .int .u8 x19, .bool v20, .int .u64 x21, .int .u64 x22, .int .u64 x23, .int .u64 x24] = some [x0, x1, x2, x3, x4, x5, x6, x7, x8, x9, x10, x11, x12, x13, x14, x15, x16, x17, x18, x19, cond v20 1 0, x21, x22, x23, x24] := Eq.trans rfl rfl
theorem cs_83 {x0 x1 x2 x3 x4 x5 x6 x7 x8 x9 x10 x11 x12 x13 x14 x15 x16 x17 x18 x19 x20 x21 x22 x23 x24 : Int} : cellsS ck_83 [x0, x1, x2, x3, x4, x5, x6, x7, x8, x9, x10, x11, x12, x13, x14, x15, x16, x17, x18, x19, x20, x21, x22, x23, x24] = [.int .u8 x0, .int .u8 x1, .int .u8 x2, .int .u8 x3, .int .u8 x4, .int .u8 x5, .int .u8 x6, .int .u8 x7, .int .u8 x8, .int .u8 x9, .int .u8 x10, .int .u8 x11, .int .u8 x12, .int .u8 x13, .int .u8 x14, .int .u8 x15, .int .u8 x16, .int .u8 x17, .int .u8 x18, .int .u8 x19, .bool (decide (x20 = 1)), .int .u64 x21, .int .u64 x22, .int .u64 x23, .int .u64 x24] := Eq.trans rfl rfl
theorem al8_83 : allCk .u8 ck_83 = false := Eq.trans rfl rfl
def tyT : Nat → Ty
 | 1 => .cell
 | 2 => .int .i64
 | 3 => .int .i64
 | 4 => .bool
 | 5 => .int .u8
 | 9 => .str
 | 12 => .int .u64
 | 21 => .int .i32
 | 22 => .sl 70 27 112
 | 24 => .arr 20 5 1 (some .u8)
 | 25 => .int .u64
 | 27 => .word
 | 28 => .sl 5 1 1
 | 30 => .struct 83 [(0, 20, 24), (20, 4, 27), (24, 1, 4), (25, 20, 24), (45, 1, 28), (46, 1, 28), (47, 1, 25), (48, 1, 25), (49, 1, 25), (50, 4, 27), (54, 4, 27), (58, 1, 4), (59, 20, 24), (79, 1, 25), (80, 1, 25), (81, 1, 28), (82, 1, 28)]
 | 31 => .sl 47 32 136
 | 32 => .arr 4 4 1 none
 | 35 => .arr 4 31 1 none
 | 36 => .ptr 64
 | 38 => .sl 41 3 16
 | 41 => .struct 3 [(0, 1, 5), (1, 1, 5), (2, 1, 3)]
 | 44 => .int .u16
 | 45 => .int .u16
 | 47 => .struct 32 [(0, 1, 5), (1, 1, 3), (2, 20, 24), (22, 4, 27), (26, 4, 27), (30, 1, 28), (31, 1, 45)]
 | 52 => .map ck_83 (.agg [.int .u64 0, .int .u64 0, .int .u64 0, .int .u64 0, .int .u64 0, .str []])
 | 53 => .map ck_83 (.word 0)
 | 55 => .map ck_83 (.agg [])
 | 56 => .sl 161 22 72
 | 57 => .sl 163 37 160
 | 58 => .sl 165 2 16
 | 60 => .struct 2 [(0, 1, 57), (1, 1, 58)]
 | 62 => .struct 7 [(0, 1, 55), (1, 1, 53), (2, 1, 2), (3, 1, 56), (4, 1, 55), (5, 2, 60)]
 | 64 => .struct 10 [(0, 1, 52), (1, 1, 53), (2, 1, 3), (3, 7, 62)]
 | 65 => .map ck_24 (.int .i64 0)
 | 66 => .sl 86 8 64
 | 68 => .struct 7 [(0, 1, 25), (1, 4, 27), (5, 1, 28), (6, 1, 66)]
 | 70 => .struct 27 [(0, 20, 24), (20, 7, 68)]
 | 73 => .ptr 77
 | 74 => .sl 3 1 8
 | 75 => .cell
 | 77 => .struct 93 [(0, 1, 36), (1, 83, 30), (84, 1, 5), (85, 4, 32), (89, 1, 74), (90, 1, 74), (91, 1, 3), (92, 1, 75)]
 | 81 => .struct 6 [(0, 1, 25), (1, 4, 27), (5, 1, 9)]
 | 83 => .struct 25 [(0, 20, 24), (20, 1, 4), (21, 4, 27)]
 | 86 => .struct 8 [(0, 4, 27), (4, 4, 27)]
 | 93 => .struct 34 [(0, 32, 47), (32, 1, 73), (33, 1, 3)]
 | 97 => .cell
 | 99 => .cell
 | 101 => .sl 103 1 8
 | 103 => .cell
 | 128 => .int .u64
 | 131 => .arr 25 25 1 (some .u64)
 | 133 => .arr 136 5 1 (some .u8)
 | 135 => .ptr 131
 | 136 => .arr 32 5 1 (some .u8)
 | 137 => .arr 24 25 1 (some .u64)
 | 138 => .arr 5 25 1 (some .u64)
 | 140 => .arr 24 5 1 (some .u8)
 | 141 => .sl 25 1 8
 | 149 => .int .u32
 | 158 => .struct 0 []
 | 159 => .sl 27 4 32
 | 161 => .struct 22 [(0, 20, 24), (20, 1, 159), (21, 1, 28)]
 | 163 => .struct 37 [(0, 1, 3), (1, 25, 83), (26, 6, 81), (32, 4, 27), (36, 1, 2)]
 | 165 => .struct 2 [(0, 1, 3), (1, 1, 3)]
 | _ => .other
def zl_30 : List SV := ((.int .u8 0) :: (.int .u8 0) :: (.int .u8 0) :: (.int .u8 0) :: (.int .u8 0) :: (.int .u8 0) :: (.int .u8 0) :: (.int .u8 0) :: (.int .u8 0) :: (.int .u8 0) :: (.int .u8 0) :: (.int .u8 0) :: (.int .u8 0) :: (.int .u8 0) :: (.int .u8 0) :: (.int .u8 0) :: (.int .u8 0) :: (.int .u8 0) :: (.int .u8 0) :: (.int .u8 0) :: (.int .u64 0) :: (.int .u64 0) :: (.int .u64 0) :: (.int .u64 0) :: (.bool false) :: (.int .u8 0) :: (.int .u8 0) :: (.int .u8 0) :: (.int .u8 0) :: (.int .u8 0) :: (.int .u8 0) :: (.int .u8 0) :: (.int .u8 0) :: (.int .u8 0) :: (.int .u8 0) :: (.int .u8 0) :: (.int .u8 0) :: (.int .u8 0) :: (.int .u8 0) :: (.int .u8 0) :: (.int .u8 0) :: (.int .u8 0) :: (.int .u8 0) :: (.int .u8 0) :: (.int .u8 0) :: (.nilsl) :: (.nilsl) :: (.int .u64 0) :: (.int .u64 0) :: (.int .u64 0) :: (.int .u64 0) :: (.int .u64 0) :: (.int .u64 0) :: (.int .u64 0) :: (.int .u64 0) :: (.int .u64 0) :: (.int .u64 0) :: (.int .u64 0) :: (.bool false) :: (.int .u8 0) :: (.int .u8 0) :: (.int .u8 0) :: (.int .u8 0) :: (.int .u8 0) :: (.int .u8 0) :: (.int .u8 0) :: (.int .u8 0) :: (.int .u8 0) :: (.int .u8 0) :: (.int .u8 0) :: (.int .u8 0) :: (.int .u8 0) :: (.int .u8 0) :: (.int .u8 0) :: (.int .u8 0) :: (.int .u8 0) :: (.int .u8 0) :: (.int .u8 0) :: (.int .u8 0) :: (.int .u64 0) :: (.int .u64 0) :: (.nilsl) :: (.nilsl) :: [])
def zl_77 : List SV := ((.raw (.pointer none)) :: (.int .u8 0) :: (.int .u8 0) :: (.int .u8 0) :: (.int .u8 0) :: (.int .u8 0) :: (.int .u8 0) :: (.int .u8 0) :: (.int .u8 0) :: (.int .u8 0) :: (.int .u8 0) :: (.int .u8 0) :: (.int .u8 0) :: (.int .u8 0) :: (.int .u8 0) :: (.int .u8 0) :: (.int .u8 0) :: (.int .u8 0) :: (.int .u8 0) :: (.int .u8 0) :: (.int .u8 0) :: (.int .u64 0) :: (.int .u64 0) :: (.int .u64 0) :: (.int .u64 0) :: (.bool false) :: (.int .u8 0) :: (.int .u8 0) :: (.int .u8 0) :: (.int .u8 0) :: (.int .u8 0) :: (.int .u8 0) :: (.int .u8 0) :: (.int .u8 0) :: (.int .u8 0) :: (.int .u8 0) :: (.int .u8 0) :: (.int .u8 0) :: (.int .u8 0) :: (.int .u8 0) :: (.int .u8 0) :: (.int .u8 0) :: (.int .u8 0) :: (.int .u8 0) :: (.int .u8 0) :: (.int .u8 0) :: (.nilsl) :: (.nilsl) :: (.int .u64 0) :: (.int .u64 0) :: (.int .u64 0) :: (.int .u64 0) :: (.int .u64 0) :: (.int .u64 0) :: (.int .u64 0) :: (.int .u64 0) :: (.int .u64 0) :: (.int .u64 0) :: (.int .u64 0) :: (.bool false) :: (.int .u8 0) :: (.int .u8 0) :: (.int .u8 0) :: (.int .u8 0) :: (.int .u8 0) :: (.int .u8 0) :: (.int .u8 0) :: (.int .u8 0) :: (.int .u8 0) :: (.int .u8 0) :: (.int .u8 0) :: (.int .u8 0) :: (.int .u8 0) :: (.int .u8 0) :: (.int .u8 0) :: (.int .u8 0) :: (.int .u8 0) :: (.int .u8 0) :: (.int .u8 0) :: (.int .u8 0) :: (.int .u64 0) :: (.int .u64 0) :: (.nilsl) :: (.nilsl) :: (.int .u8 0) :: (.bool false) :: (.bool false) :: (.bool false) :: (.bool false) :: (.nilsl) :: (.nilsl) :: (.int .i64 0) :: (.raw .nilFunc) :: [])
def zcT : Nat → Option Con
 | 1 => some (.cells [.raw .nilFunc])
 | 2 => some (.ints .i64 [0])
 | 3 => some (.ints .i64 [0])
 | 4 => some (.cells [.bool false])
 | 5 => some (.ints .u8 [0])
 | 9 => some (.cells [.str []])
 | 12 => some (.ints .u64 [0])
 | 21 => some (.ints .i32 [0])
 | 22 => some (.cells [.nilsl])
 | 24 => some (.ints .u8 (List.replicate 20 0))
 | 25 => some (.ints .u64 [0])
 | 27 => some (.words [0])
 | 28 => some (.cells [.nilsl])
 | 30 => some (.cells zl_30)
 | 31 => some (.cells [.nilsl])
 | 36 => some (.cells [.raw (.pointer none)])
 | 38 => some (.cells [.nilsl])
 | 41 => some (.cells [.int .u8 0, .int .u8 0, .int .i64 0])
 | 44 => some (.ints .u16 [0])
 | 45 => some (.ints .u16 [0])
 | 47 => some (.cells [.int .u8 0, .int .i64 0, .int .u8 0, .int .u8 0, .int .u8 0, .int .u8 0, .int .u8 0, .int .u8 0, .int .u8 0, .int .u8 0, .int .u8 0, .int .u8 0, .int .u8 0, .int .u8 0, .int .u8 0, .int .u8 0, .int .u8 0, .int .u8 0, .int .u8 0, .int .u8 0, .int .u8 0, .int .u8 0, .int .u64 0, .int .u64 0, .int .u64 0, .int .u64 0, .int .u64 0, .int .u64 0, .int .u64 0, .int .u64 0, .nilsl, .int .u16 0])
 | 52 => some (.cells [.raw (.map none)])
 | 53 => some (.cells [.raw (.map none)])
 | 55 => some (.cells [.raw (.map none)])
 | 56 => some (.cells [.nilsl])
 | 57 => some (.cells [.nilsl])
 | 58 => some (.cells [.nilsl])
 | 60 => some (.cells [.nilsl, .nilsl])
 | 62 => some (.cells [.raw (.map none), .raw (.map none), .int .i64 0, .nilsl, .raw (.map none), .nilsl, .nilsl])
 | 64 => some (.cells [.raw (.map none), .raw (.map none), .int .i64 0, .raw (.map none), .raw (.map none), .int .i64 0, .nilsl, .raw (.map none), .nilsl, .nilsl])
 | 65 => some (.cells [.raw (.map none)])
 | 66 => some (.cells [.nilsl])
 | 68 => some (.cells [.int .u64 0, .int .u64 0, .int .u64 0, .int .u64 0, .int .u64 0, .nilsl, .nilsl])
 | 70 => some (.cells [.int .u8 0, .int .u8 0, .int .u8 0, .int .u8 0, .int .u8 0, .int .u8 0, .int .u8 0, .int .u8 0, .int .u8 0, .int .u8 0, .int .u8 0, .int .u8 0, .int .u8 0, .int .u8 0, .int .u8 0, .int .u8 0, .int .u8 0, .int .u8 0, .int .u8 0, .int .u8 0, .int .u64 0, .int .u64 0, .int .u64 0, .int .u64 0, .int .u64 0, .nilsl, .nilsl])
 | 73 => some (.cells [.raw (.pointer none)])
 | 74 => some (.cells [.nilsl])
 | 75 => some (.cells [.raw .nilFunc])
 | 77 => some (.cells zl_77)
 | 81 => some (.cells [.int .u64 0, .int .u64 0, .int .u64 0, .int .u64 0, .int .u64 0, .str []])
 | 83 => some (.cells [.int .u8 0, .int .u8 0, .int .u8 0, .int .u8 0, .int .u8 0, .int .u8 0, .int .u8 0, .int .u8 0, .int .u8 0, .int .u8 0, .int .u8 0, .int .u8 0, .int .u8 0, .int .u8 0, .int .u8 0, .int .u8 0, .int .u8 0, .int .u8 0, .int .u8 0, .int .u8 0, .bool false, .int .u64 0, .int .u64 0, .int .u64 0, .int .u64 0])
 | 86 => some (.cells [.int .u64 0, .int .u64 0, .int .u64 0, .int .u64 0, .int .u64 0, .int .u64 0, .int .u64 0, .int .u64 0])
 | 93 => some (.cells [.int .u8 0, .int .i64 0, .int .u8 0, .int .u8 0, .int .u8 0, .int .u8 0, .int .u8 0, .int .u8 0, .int .u8 0, .int .u8 0, .int .u8 0, .int .u8 0, .int .u8 0, .int .u8 0, .int .u8 0, .int .u8 0, .int .u8 0, .int .u8 0, .int .u8 0, .int .u8 0, .int .u8 0, .int .u8 0, .int .u64 0, .int .u64 0, .int .u64 0, .int .u64 0, .int .u64 0, .int .u64 0, .int .u64 0, .int .u64 0, .nilsl, .int .u16 0, .raw (.pointer none), .int .i64 0])
 | 97 => some (.cells [.raw .nilFunc])
 | 99 => some (.cells [.raw .nilFunc])
 | 101 => some (.cells [.nilsl])
 | 103 => some (.cells [.raw .nilFunc])
 | 128 => some (.ints .u64 [0])
 | 131 => some (.ints .u64 (List.replicate 25 0))
 | 133 => some (.ints .u8 (List.replicate 136 0))
 | 135 => some (.cells [.raw (.pointer none)])
 | 136 => some (.ints .u8 (List.replicate 32 0))
 | 137 => some (.ints .u64 (List.replicate 24 0))
 | 138 => some (.ints .u64 (List.replicate 5 0))
 | 140 => some (.ints .u8 (List.replicate 24 0))
 | 141 => some (.cells [.nilsl])
 | 149 => some (.ints .u32 [0])
 | 158 => some (.cells [])
 | 159 => some (.cells [.nilsl])
 | 161 => some (.cells [.int .u8 0, .int .u8 0, .int .u8 0, .int .u8 0, .int .u8 0, .int .u8 0, .int .u8 0, .int .u8 0, .int .u8 0, .int .u8 0, .int .u8 0, .int .u8 0, .int .u8 0, .int .u8 0, .int .u8 0, .int .u8 0, .int .u8 0, .int .u8 0, .int .u8 0, .int .u8 0, .nilsl, .nilsl])
 | 163 => some (.cells [.int .i64 0, .int .u8 0, .int .u8 0, .int .u8 0, .int .u8 0, .int .u8 0, .int .u8 0, .int .u8 0, .int .u8 0, .int .u8 0, .int .u8 0, .int .u8 0, .int .u8 0, .int .u8 0, .int .u8 0, .int .u8 0, .int .u8 0, .int .u8 0, .int .u8 0, .int .u8 0, .int .u8 0, .bool false, .int .u64 0, .int .u64 0, .int .u64 0, .int .u64 0, .int .u64 0, .int .u64 0, .int .u64 0, .int .u64 0, .int .u64 0, .str [], .int .u64 0, .int .u64 0, .int .u64 0, .int .u64 0, .int .i64 0])
 | 165 => some (.cells [.int .i64 0, .int .i64 0])
 | _ => none
def zrT : Nat → List SV
 | 24 => [.int .u8 0, .int .u8 0, .int .u8 0, .int .u8 0, .int .u8 0, .int .u8 0, .int .u8 0, .int .u8 0, .int .u8 0, .int .u8 0, .int .u8 0, .int .u8 0, .int .u8 0, .int .u8 0, .int .u8 0, .int .u8 0, .int .u8 0, .int .u8 0, .int .u8 0, .int .u8 0]
 | 27 => [.int .u64 0, .int .u64 0, .int .u64 0, .int .u64 0]
 | 30 => ((.int .u8 0) :: (.int .u8 0) :: (.int .u8 0) :: (.int .u8 0) :: (.int .u8 0) :: (.int .u8 0) :: (.int .u8 0) :: (.int .u8 0) :: (.int .u8 0) :: (.int .u8 0) :: (.int .u8 0) :: (.int .u8 0) :: (.int .u8 0) :: (.int .u8 0) :: (.int .u8 0) :: (.int .u8 0) :: (.int .u8 0) :: (.int .u8 0) :: (.int .u8 0) :: (.int .u8 0) :: (.int .u64 0) :: (.int .u64 0) :: (.int .u64 0) :: (.int .u64 0) :: (.bool false) :: (.int .u8 0) :: (.int .u8 0) :: (.int .u8 0) :: (.int .u8 0) :: (.int .u8 0) :: (.int .u8 0) :: (.int .u8 0) :: (.int .u8 0) :: (.int .u8 0) :: (.int .u8 0) :: (.int .u8 0) :: (.int .u8 0) :: (.int .u8 0) :: (.int .u8 0) :: (.int .u8 0) :: (.int .u8 0) :: (.int .u8 0) :: (.int .u8 0) :: (.int .u8 0) :: (.int .u8 0) :: (.nilsl) :: (.nilsl) :: (.int .u64 0) :: (.int .u64 0) :: (.int .u64 0) :: (.int .u64 0) :: (.int .u64 0) :: (.int .u64 0) :: (.int .u64 0) :: (.int .u64 0) :: (.int .u64 0) :: (.int .u64 0) :: (.int .u64 0) :: (.bool false) :: (.int .u8 0) :: (.int .u8 0) :: (.int .u8 0) :: (.int .u8 0) :: (.int .u8 0) :: (.int .u8 0) :: (.int .u8 0) :: (.int .u8 0) :: (.int .u8 0) :: (.int .u8 0) :: (.int .u8 0) :: (.int .u8 0) :: (.int .u8 0) :: (.int .u8 0) :: (.int .u8 0) :: (.int .u8 0) :: (.int .u8 0) :: (.int .u8 0) :: (.int .u8 0) :: (.int .u8 0) :: (.int .u64 0) :: (.int .u64 0) :: (.nilsl) :: (.nilsl) :: [])
 | 32 => [.bool false, .bool false, .bool false, .bool false]
 | 35 => [.nilsl, .nilsl, .nilsl, .nilsl]
 | 41 => [.int .u8 0, .int .u8 0, .int .i64 0]
 | 47 => [.int .u8 0, .int .i64 0, .int .u8 0, .int .u8 0, .int .u8 0, .int .u8 0, .int .u8 0, .int .u8 0, .int .u8 0, .int .u8 0, .int .u8 0, .int .u8 0, .int .u8 0, .int .u8 0, .int .u8 0, .int .u8 0, .int .u8 0, .int .u8 0, .int .u8 0, .int .u8 0, .int .u8 0, .int .u8 0, .int .u64 0, .int .u64 0, .int .u64 0, .int .u64 0, .int .u64 0, .int .u64 0, .int .u64 0, .int .u64 0, .nilsl, .int .u16 0]
 | 60 => [.nilsl, .nilsl]
 | 62 => [.raw (.map none), .raw (.map none), .int .i64 0, .nilsl, .raw (.map none), .nilsl, .nilsl]
 | 64 => [.raw (.map none), .raw (.map none), .int .i64 0, .raw (.map none), .raw (.map none), .int .i64 0, .nilsl, .raw (.map none), .nilsl, .nilsl]
 | 68 => [.int .u64 0, .int .u64 0, .int .u64 0, .int .u64 0, .int .u64 0, .nilsl, .nilsl]
 | 70 => [.int .u8 0, .int .u8 0, .int .u8 0, .int .u8 0, .int .u8 0, .int .u8 0, .int .u8 0, .int .u8 0, .int .u8 0, .int .u8 0, .int .u8 0, .int .u8 0, .int .u8 0, .int .u8 0, .int .u8 0, .int .u8 0, .int .u8 0, .int .u8 0, .int .u8 0, .int .u8 0, .int .u64 0, .int .u64 0, .int .u64 0, .int .u64 0, .int .u64 0, .nilsl, .nilsl]
 | 77 => ((.raw (.pointer none)) :: (.int .u8 0) :: (.int .u8 0) :: (.int .u8 0) :: (.int .u8 0) :: (.int .u8 0) :: (.int .u8 0) :: (.int .u8 0) :: (.int .u8 0) :: (.int .u8 0) :: (.int .u8 0) :: (.int .u8 0) :: (.int .u8 0) :: (.int .u8 0) :: (.int .u8 0) :: (.int .u8 0) :: (.int .u8 0) :: (.int .u8 0) :: (.int .u8 0) :: (.int .u8 0) :: (.int .u8 0) :: (.int .u64 0) :: (.int .u64 0) :: (.int .u64 0) :: (.int .u64 0) :: (.bool false) :: (.int .u8 0) :: (.int .u8 0) :: (.int .u8 0) :: (.int .u8 0) :: (.int .u8 0) :: (.int .u8 0) :: (.int .u8 0) :: (.int .u8 0) :: (.int .u8 0) :: (.int .u8 0) :: (.int .u8 0) :: (.int .u8 0) :: (.int .u8 0) :: (.int .u8 0) :: (.int .u8 0) :: (.int .u8 0) :: (.int .u8 0) :: (.int .u8 0) :: (.int .u8 0) :: (.int .u8 0) :: (.nilsl) :: (.nilsl) :: (.int .u64 0) :: (.int .u64 0) :: (.int .u64 0) :: (.int .u64 0) :: (.int .u64 0) :: (.int .u64 0) :: (.int .u64 0) :: (.int .u64 0) :: (.int .u64 0) :: (.int .u64 0) :: (.int .u64 0) :: (.bool false) :: (.int .u8 0) :: (.int .u8 0) :: (.int .u8 0) :: (.int .u8 0) :: (.int .u8 0) :: (.int .u8 0) :: (.int .u8 0) :: (.int .u8 0) :: (.int .u8 0) :: (.int .u8 0) :: (.int .u8 0) :: (.int .u8 0) :: (.int .u8 0) :: (.int .u8 0) :: (.int .u8 0) :: (.int .u8 0) :: (.int .u8 0) :: (.int .u8 0) :: (.int .u8 0) :: (.int .u8 0) :: (.int .u64 0) :: (.int .u64 0) :: (.nilsl) :: (.nilsl) :: (.int .u8 0) :: (.bool false) :: (.bool false) :: (.bool false) :: (.bool false) :: (.nilsl) :: (.nilsl) :: (.int .i64 0) :: (.raw .nilFunc) :: [])
 | 81 => [.int .u64 0, .int .u64 0, .int .u64 0, .int .u64 0, .int .u64 0, .str []]
 | 83 => [.int .u8 0, .int .u8 0, .int .u8 0, .int .u8 0, .int .u8 0, .int .u8 0, .int .u8 0, .int .u8 0, .int .u8 0, .int .u8 0, .int .u8 0, .int .u8 0, .int .u8 0, .int .u8 0, .int .u8 0, .int .u8 0, .int .u8 0, .int .u8 0, .int .u8 0, .int .u8 0, .bool false, .int .u64 0, .int .u64 0, .int .u64 0, .int .u64 0]
 | 86 => [.int .u64 0, .int .u64 0, .int .u64 0, .int .u64 0, .int .u64 0, .int .u64 0, .int .u64 0, .int .u64 0]
 | 93 => [.int .u8 0, .int .i64 0, .int .u8 0, .int .u8 0, .int .u8 0, .int .u8 0, .int .u8 0, .int .u8 0, .int .u8 0, .int .u8 0, .int .u8 0, .int .u8 0, .int .u8 0, .int .u8 0, .int .u8 0, .int .u8 0, .int .u8 0, .int .u8 0, .int .u8 0, .int .u8 0, .int .u8 0, .int .u8 0, .int .u64 0, .int .u64 0, .int .u64 0, .int .u64 0, .int .u64 0, .int .u64 0, .int .u64 0, .int .u64 0, .nilsl, .int .u16 0, .raw (.pointer none), .int .i64 0]
 | 131 => [.int .u64 0, .int .u64 0, .int .u64 0, .int .u64 0, .int .u64 0, .int .u64 0, .int .u64 0, .int .u64 0, .int .u64 0, .int .u64 0, .int .u64 0, .int .u64 0, .int .u64 0, .int .u64 0, .int .u64 0, .int .u64 0, .int .u64 0, .int .u64 0, .int .u64 0, .int .u64 0, .int .u64 0, .int .u64 0, .int .u64 0, .int .u64 0, .int .u64 0]
 | 136 => [.int .u8 0, .int .u8 0, .int .u8 0, .int .u8 0, .int .u8 0, .int .u8 0, .int .u8 0, .int .u8 0, .int .u8 0, .int .u8 0, .int .u8 0, .int .u8 0, .int .u8 0, .int .u8 0, .int .u8 0, .int .u8 0, .int .u8 0, .int .u8 0, .int .u8 0, .int .u8 0, .int .u8 0, .int .u8 0, .int .u8 0, .int .u8 0, .int .u8 0, .int .u8 0, .int .u8 0, .int .u8 0, .int .u8 0, .int .u8 0, .int .u8 0, .int .u8 0]
 | 137 => [.int .u64 0, .int .u64 0, .int .u64 0, .int .u64 0, .int .u64 0, .int .u64 0, .int .u64 0, .int .u64 0, .int .u64 0, .int .u64 0, .int .u64 0, .int .u64 0, .int .u64 0, .int .u64 0, .int .u64 0, .int .u64 0, .int .u64 0, .int .u64 0, .int .u64 0, .int .u64 0, .int .u64 0, .int .u64 0, .int .u64 0, .int .u64 0]
 | 138 => [.int .u64 0, .int .u64 0, .int .u64 0, .int .u64 0, .int .u64 0]
 | 140 => [.int .u8 0, .int .u8 0, .int .u8 0, .int .u8 0, .int .u8 0, .int .u8 0, .int .u8 0, .int .u8 0, .int .u8 0, .int .u8 0, .int .u8 0, .int .u8 0, .int .u8 0, .int .u8 0, .int .u8 0, .int .u8 0, .int .u8 0, .int .u8 0, .int .u8 0, .int .u8 0, .int .u8 0, .int .u8 0, .int .u8 0, .int .u8 0]
 | 161 => [.int .u8 0, .int .u8 0, .int .u8 0, .int .u8 0, .int .u8 0, .int .u8 0, .int .u8 0, .int .u8 0, .int .u8 0, .int .u8 0, .int .u8 0, .int .u8 0, .int .u8 0, .int .u8 0, .int .u8 0, .int .u8 0, .int .u8 0, .int .u8 0, .int .u8 0, .int .u8 0, .nilsl, .nilsl]
 | 163 => [.int .i64 0, .int .u8 0, .int .u8 0, .int .u8 0, .int .u8 0, .int .u8 0, .int .u8 0, .int .u8 0, .int .u8 0, .int .u8 0, .int .u8 0, .int .u8 0, .int .u8 0, .int .u8 0, .int .u8 0, .int .u8 0, .int .u8 0, .int .u8 0, .int .u8 0, .int .u8 0, .int .u8 0, .bool false, .int .u64 0, .int .u64 0, .int .u64 0, .int .u64 0, .int .u64 0, .int .u64 0, .int .u64 0, .int .u64 0, .int .u64 0, .str [], .int .u64 0, .int .u64 0, .int .u64 0, .int .u64 0, .int .i64 0]
 | 165 => [.int .i64 0, .int .i64 0]
 | _ => []
def glT : Nat → SV
 | 0 => .ptr 0 0 0 0 0 0
 | 1 => .ptr 1 1 0 0 0 0
 | g => .raw (.pointer (some ⟨g, 0, none⟩))
def lvT : Nat → Option (List CK)
 | 41 => some [.i .u8, .i .u8, .i .i64]
 | 81 => some [.i .u64, .i .u64, .i .u64, .i .u64, .i .u64, .s]
 | _ => none
def T0 : Tab := { ty := tyT, zr := zrT, zc := zcT, gl := glT, lv := lvT }
theorem lvT_ok : ∀ t ks, lvT t = some ks → EqOk Tryd.prog t ks
 | 0, ks, h => by cases h
 | 1, ks, h => by cases h
 | 2, ks, h => by cases h
 | 3, ks, h => by cases h
 | 4, ks, h => by cases h
 | 5, ks, h => by cases h
 | 6, ks, h => by cases h
 | 7, ks, h => by cases h
 | 8, ks, h => by cases h
 | 9, ks, h => by cases h
 | 10, ks, h => by cases h
 | 11, ks, h => by cases h
 | 12, ks, h => by cases h
 | 13, ks, h => by cases h
 | 14, ks, h => by cases h
 | 15, ks, h => by cases h
 | 16, ks, h => by cases h
 | 17, ks, h => by cases h
 | 18, ks, h => by cases h
 | 19, ks, h => by cases h
 | 20, ks, h => by cases h
 | 21, ks, h => by cases h
 | 22, ks, h => by cases h
 | 23, ks, h => by cases h
 | 24, ks, h => by cases h
 | 25, ks, h => by cases h
 | 26, ks, h => by cases h
 | 27, ks, h => by cases h
 | 28, ks, h => by cases h
 | 29, ks, h => by cases h
 | 30, ks, h => by cases h
 | 31, ks, h => by cases h
 | 32, ks, h => by cases h
 | 33, ks, h => by cases h
 | 34, ks, h => by cases h
 | 35, ks, h => by cases h
 | 36, ks, h => by cases h
 | 37, ks, h => by cases h
 | 38, ks, h => by cases h
 | 39, ks, h => by cases h
 | 40, ks, h => by cases h
 | 41, ks, h => by obtain rfl : [.i .u8, .i .u8, .i .i64] = ks := Option.some.inj h; exact eq_mk 2 (by decide) (Nat.le_of_ble_eq_true (by kernel_rfl : Nat.ble 2 (Tryd.prog.types.size + 1) = true)) (by kernel_rfl) (by kernel_rfl) (by kernel_rfl) (by kernel_rfl) (by kernel_rfl : leaves Tryd.prog 2 41 = some _) (by kernel_rfl) (by kernel_rfl)
 | 42, ks, h => by cases h
 | 43, ks, h => by cases h
 | 44, ks, h => by cases h
 | 45, ks, h => by cases h
 | 46, ks, h => by cases h
 | 47, ks, h => by cases h
 | 48, ks, h => by cases h
 | 49, ks, h => by cases h
 | 50, ks, h => by cases h
 | 51, ks, h => by cases h
 | 52, ks, h => by cases h
 | 53, ks, h => by cases h
 | 54, ks, h => by cases h
 | 55, ks, h => by cases h
 | 56, ks, h => by cases h
 | 57, ks, h => by cases h
 | 58, ks, h => by cases h
 | 59, ks, h => by cases h
 | 60, ks, h => by cases h
 | 61, ks, h => by cases h
 | 62, ks, h => by cases h
 | 63, ks, h => by cases h
 | 64, ks, h => by cases h
 | 65, ks, h => by cases h
 | 66, ks, h => by cases h
 | 67, ks, h => by cases h
 | 68, ks, h => by cases h
 | 69, ks, h => by cases h
 | 70, ks, h => by cases h
 | 71, ks, h => by cases h
 | 72, ks, h => by cases h
 | 73, ks, h => by cases h
 | 74, ks, h => by cases h
 | 75, ks, h => by cases h
 | 76, ks, h => by cases h
 | 77, ks, h => by cases h
 | 78, ks, h => by cases h
 | 79, ks, h => by cases h
 | 80, ks, h => by cases h
 | 81, ks, h => by obtain rfl : [.i .u64, .i .u64, .i .u64, .i .u64, .i .u64, .s] = ks := Option.some.inj h; exact eq_mk 3 (by decide) (Nat.le_of_ble_eq_true (by kernel_rfl : Nat.ble 3 (Tryd.prog.types.size + 1) = true)) (by kernel_rfl) (by kernel_rfl) (by kernel_rfl) (by kernel_rfl) (by kernel_rfl : leaves Tryd.prog 3 81 = some _) (by kernel_rfl) (by kernel_rfl)
 | _ + 82, ks, h => by cases h
theorem glT_ok : ∀ g, cv (T0.gl g) = .pointer (some ⟨g, 0, none⟩) := by
 intro g
 show cv (glT g) = _
 unfold glT
 first | (split <;> rfl) | rfl
theorem tyOk1 : TyOk1 Tryd.prog 1 (.cell) := fun w => by kernel_rfl
theorem tyOk2 : TyOk1 Tryd.prog 2 (.int .i64) := (by kernel_rfl : Tryd.prog.underlying 2 = some (.int .i64))
theorem tyOk3 : TyOk1 Tryd.prog 3 (.int .i64) := (by kernel_rfl : Tryd.prog.underlying 3 = some (.int .i64))
theorem tyOk4 : TyOk1 Tryd.prog 4 (.bool) := (by kernel_rfl : Tryd.prog.underlying 4 = some (.bool))
theorem tyOk5 : TyOk1 Tryd.prog 5 (.int .u8) := (by kernel_rfl : Tryd.prog.underlying 5 = some (.int .u8))
theorem tyOk9 : TyOk1 Tryd.prog 9 (.str) := (by kernel_rfl : Tryd.prog.underlying 9 = some (.string))
theorem tyOk12 : TyOk1 Tryd.prog 12 (.int .u64) := (by kernel_rfl : Tryd.prog.underlying 12 = some (.int .u64))
theorem tyOk21 : TyOk1 Tryd.prog 21 (.int .i32) := (by kernel_rfl : Tryd.prog.underlying 21 = some (.int .i32))
theorem tyOk22 : TyOk1 Tryd.prog 22 (.sl 70 27 112) := sl_mk (by kernel_rfl : Tryd.prog.underlying 22 = some (.slice 70)) (by decide) (by kernel_rfl : (Tryd.prog.info? 70).map (·.size) = some 27) (by kernel_rfl : (Tryd.prog.info? 70).map (·.bytes) = some 112) (by kernel_rfl : ((Tryd.prog.info? 70).bind (·.zero)).map (·.cells.size) = some 27)
theorem tyOk24 : TyOk1 Tryd.prog 24 (.arr 20 5 1 (some .u8)) := ⟨(by kernel_rfl : Tryd.prog.underlying 24 = some (.array 20 5)), (by kernel_rfl : (Tryd.prog.info? 5).map (·.size) = some 1), (by kernel_rfl : (Tryd.prog.info? 24).map (·.size) = some 20), (by kernel_rfl : Tryd.prog.eqGuardType Tryd.prog.depth 24 = false), fun k h => by cases h; exact (by kernel_rfl : Tryd.prog.underlying 5 = some (.int .u8))⟩
theorem tyOk25 : TyOk1 Tryd.prog 25 (.int .u64) := (by kernel_rfl : Tryd.prog.underlying 25 = some (.int .u64))
theorem tyOk27 : TyOk1 Tryd.prog 27 (.word) := ⟨25, (by kernel_rfl : Tryd.prog.underlying 27 = some (.array 4 25)), (by kernel_rfl : Tryd.prog.underlying 25 = some (.int .u64)), (by kernel_rfl : (Tryd.prog.info? 25).map (·.size) = some 1), (by kernel_rfl : (Tryd.prog.info? 27).map (·.size) = some 4), (by kernel_rfl : Tryd.prog.eqGuardType Tryd.prog.depth 27 = false)⟩
theorem tyOk28 : TyOk1 Tryd.prog 28 (.sl 5 1 1) := sl_mk (by kernel_rfl : Tryd.prog.underlying 28 = some (.slice 5)) (by decide) (by kernel_rfl : (Tryd.prog.info? 5).map (·.size) = some 1) (by kernel_rfl : (Tryd.prog.info? 5).map (·.bytes) = some 1) (by kernel_rfl : ((Tryd.prog.info? 5).bind (·.zero)).map (·.cells.size) = some 1)
theorem tyOk30 : TyOk1 Tryd.prog 30 (.struct 83 [(0, 20, 24), (20, 4, 27), (24, 1, 4), (25, 20, 24), (45, 1, 28), (46, 1, 28), (47, 1, 25), (48, 1, 25), (49, 1, 25), (50, 4, 27), (54, 4, 27), (58, 1, 4), (59, 20, 24), (79, 1, 25), (80, 1, 25), (81, 1, 28), (82, 1, 28)]) := st_mk (by kernel_rfl) (by kernel_rfl : (Tryd.prog.info? 30).map (·.size) = some 83)
theorem tyOk31 : TyOk1 Tryd.prog 31 (.sl 47 32 136) := sl_mk (by kernel_rfl : Tryd.prog.underlying 31 = some (.slice 47)) (by decide) (by kernel_rfl : (Tryd.prog.info? 47).map (·.size) = some 32) (by kernel_rfl : (Tryd.prog.info? 47).map (·.bytes) = some 136) (by kernel_rfl : ((Tryd.prog.info? 47).bind (·.zero)).map (·.cells.size) = some 32)
theorem tyOk32 : TyOk1 Tryd.prog 32 (.arr 4 4 1 none) := ⟨(by kernel_rfl : Tryd.prog.underlying 32 = some (.array 4 4)), (by kernel_rfl : (Tryd.prog.info? 4).map (·.size) = some 1), (by kernel_rfl : (Tryd.prog.info? 32).map (·.size) = some 4), (by kernel_rfl : Tryd.prog.eqGuardType Tryd.prog.depth 32 = false), fun k h => by cases h⟩
theorem tyOk35 : TyOk1 Tryd.prog 35 (.arr 4 31 1 none) := ⟨(by kernel_rfl : Tryd.prog.underlying 35 = some (.array 4 31)), (by kernel_rfl : (Tryd.prog.info? 31).map (·.size) = some 1), (by kernel_rfl : (Tryd.prog.info? 35).map (·.size) = some 4), (by kernel_rfl : Tryd.prog.eqGuardType Tryd.prog.depth 35 = false), fun k h => by cases h⟩
theorem tyOk36 : TyOk1 Tryd.prog 36 (.ptr 64) := (by kernel_rfl : Tryd.prog.underlying 36 = some (.pointer 64))
theorem tyOk38 : TyOk1 Tryd.prog 38 (.sl 41 3 16) := sl_mk (by kernel_rfl : Tryd.prog.underlying 38 = some (.slice 41)) (by decide) (by kernel_rfl : (Tryd.prog.info? 41).map (·.size) = some 3) (by kernel_rfl : (Tryd.prog.info? 41).map (·.bytes) = some 16) (by kernel_rfl : ((Tryd.prog.info? 41).bind (·.zero)).map (·.cells.size) = some 3)
theorem tyOk41 : TyOk1 Tryd.prog 41 (.struct 3 [(0, 1, 5), (1, 1, 5), (2, 1, 3)]) := st_mk (by kernel_rfl) (by kernel_rfl : (Tryd.prog.info? 41).map (·.size) = some 3)
theorem tyOk44 : TyOk1 Tryd.prog 44 (.int .u16) := (by kernel_rfl : Tryd.prog.underlying 44 = some (.int .u16))
theorem tyOk45 : TyOk1 Tryd.prog 45 (.int .u16) := (by kernel_rfl : Tryd.prog.underlying 45 = some (.int .u16))
theorem tyOk47 : TyOk1 Tryd.prog 47 (.struct 32 [(0, 1, 5), (1, 1, 3), (2, 20, 24), (22, 4, 27), (26, 4, 27), (30, 1, 28), (31, 1, 45)]) := st_mk (by kernel_rfl) (by kernel_rfl : (Tryd.prog.info? 47).map (·.size) = some 32)
theorem tyOk52 : TyOk1 Tryd.prog 52 (.map ck_83 (.agg [.int .u64 0, .int .u64 0, .int .u64 0, .int .u64 0, .int .u64 0, .str []])) := ⟨83, 81, (by kernel_rfl : Tryd.prog.underlying 52 = some (.map 83 81)), ckOk_83, zv_mk (by kernel_rfl : ((Tryd.prog.info? 81).bind (·.zero)) = some (cv (.agg [.int .u64 0, .int .u64 0, .int .u64 0, .int .u64 0, .int .u64 0, .str []])))⟩
theorem tyOk53 : TyOk1 Tryd.prog 53 (.map ck_83 (.word 0)) := ⟨83, 27, (by kernel_rfl : Tryd.prog.underlying 53 = some (.map 83 27)), ckOk_83, zv_mk (by kernel_rfl : ((Tryd.prog.info? 27).bind (·.zero)) = some (cv (.word 0)))⟩
theorem tyOk55 : TyOk1 Tryd.prog 55 (.map ck_83 (.agg [])) := ⟨83, 158, (by kernel_rfl : Tryd.prog.underlying 55 = some (.map 83 158)), ckOk_83, zv_mk (by kernel_rfl : ((Tryd.prog.info? 158).bind (·.zero)) = some (cv (.agg [])))⟩
theorem tyOk56 : TyOk1 Tryd.prog 56 (.sl 161 22 72) := sl_mk (by kernel_rfl : Tryd.prog.underlying 56 = some (.slice 161)) (by decide) (by kernel_rfl : (Tryd.prog.info? 161).map (·.size) = some 22) (by kernel_rfl : (Tryd.prog.info? 161).map (·.bytes) = some 72) (by kernel_rfl : ((Tryd.prog.info? 161).bind (·.zero)).map (·.cells.size) = some 22)
theorem tyOk57 : TyOk1 Tryd.prog 57 (.sl 163 37 160) := sl_mk (by kernel_rfl : Tryd.prog.underlying 57 = some (.slice 163)) (by decide) (by kernel_rfl : (Tryd.prog.info? 163).map (·.size) = some 37) (by kernel_rfl : (Tryd.prog.info? 163).map (·.bytes) = some 160) (by kernel_rfl : ((Tryd.prog.info? 163).bind (·.zero)).map (·.cells.size) = some 37)
theorem tyOk58 : TyOk1 Tryd.prog 58 (.sl 165 2 16) := sl_mk (by kernel_rfl : Tryd.prog.underlying 58 = some (.slice 165)) (by decide) (by kernel_rfl : (Tryd.prog.info? 165).map (·.size) = some 2) (by kernel_rfl : (Tryd.prog.info? 165).map (·.bytes) = some 16) (by kernel_rfl : ((Tryd.prog.info? 165).bind (·.zero)).map (·.cells.size) = some 2)
theorem tyOk60 : TyOk1 Tryd.prog 60 (.struct 2 [(0, 1, 57), (1, 1, 58)]) := st_mk (by kernel_rfl) (by kernel_rfl : (Tryd.prog.info? 60).map (·.size) = some 2)
theorem tyOk62 : TyOk1 Tryd.prog 62 (.struct 7 [(0, 1, 55), (1, 1, 53), (2, 1, 2), (3, 1, 56), (4, 1, 55), (5, 2, 60)]) := st_mk (by kernel_rfl) (by kernel_rfl : (Tryd.prog.info? 62).map (·.size) = some 7)
theorem tyOk64 : TyOk1 Tryd.prog 64 (.struct 10 [(0, 1, 52), (1, 1, 53), (2, 1, 3), (3, 7, 62)]) := st_mk (by kernel_rfl) (by kernel_rfl : (Tryd.prog.info? 64).map (·.size) = some 10)
theorem tyOk65 : TyOk1 Tryd.prog 65 (.map ck_24 (.int .i64 0)) := ⟨24, 3, (by kernel_rfl : Tryd.prog.underlying 65 = some (.map 24 3)), ckOk_24, zv_mk (by kernel_rfl : ((Tryd.prog.info? 3).bind (·.zero)) = some (cv (.int .i64 0)))⟩
theorem tyOk66 : TyOk1 Tryd.prog 66 (.sl 86 8 64) := sl_mk (by kernel_rfl : Tryd.prog.underlying 66 = some (.slice 86)) (by decide) (by kernel_rfl : (Tryd.prog.info? 86).map (·.size) = some 8) (by kernel_rfl : (Tryd.prog.info? 86).map (·.bytes) = some 64) (by kernel_rfl : ((Tryd.prog.info? 86).bind (·.zero)).map (·.cells.size) = some 8)
theorem tyOk68 : TyOk1 Tryd.prog 68 (.struct 7 [(0, 1, 25), (1, 4, 27), (5, 1, 28), (6, 1, 66)]) := st_mk (by kernel_rfl) (by kernel_rfl : (Tryd.prog.info? 68).map (·.size) = some 7)
theorem tyOk70 : TyOk1 Tryd.prog 70 (.struct 27 [(0, 20, 24), (20, 7, 68)]) := st_mk (by kernel_rfl) (by kernel_rfl : (Tryd.prog.info? 70).map (·.size) = some 27)
theorem tyOk73 : TyOk1 Tryd.prog 73 (.ptr 77) := (by kernel_rfl : Tryd.prog.underlying 73 = some (.pointer 77))
theorem tyOk74 : TyOk1 Tryd.prog 74 (.sl 3 1 8) := sl_mk (by kernel_rfl : Tryd.prog.underlying 74 = some (.slice 3)) (by decide) (by kernel_rfl : (Tryd.prog.info? 3).map (·.size) = some 1) (by kernel_rfl : (Tryd.prog.info? 3).map (·.bytes) = some 8) (by kernel_rfl : ((Tryd.prog.info? 3).bind (·.zero)).map (·.cells.size) = some 1)
theorem tyOk75 : TyOk1 Tryd.prog 75 (.cell) := fun w => by kernel_rfl
theorem tyOk77 : TyOk1 Tryd.prog 77 (.struct 93 [(0, 1, 36), (1, 83, 30), (84, 1, 5), (85, 4, 32), (89, 1, 74), (90, 1, 74), (91, 1, 3), (92, 1, 75)]) := st_mk (by kernel_rfl) (by kernel_rfl : (Tryd.prog.info? 77).map (·.size) = some 93)
theorem tyOk81 : TyOk1 Tryd.prog 81 (.struct 6 [(0, 1, 25), (1, 4, 27), (5, 1, 9)]) := st_mk (by kernel_rfl) (by kernel_rfl : (Tryd.prog.info? 81).map (·.size) = some 6)
theorem tyOk83 : TyOk1 Tryd.prog 83 (.struct 25 [(0, 20, 24), (20, 1, 4), (21, 4, 27)]) := st_mk (by kernel_rfl) (by kernel_rfl : (Tryd.prog.info? 83).map (·.size) = some 25)
theorem tyOk86 : TyOk1 Tryd.prog 86 (.struct 8 [(0, 4, 27), (4, 4, 27)]) := st_mk (by kernel_rfl) (by kernel_rfl : (Tryd.prog.info? 86).map (·.size) = some 8)
theorem tyOk93 : TyOk1 Tryd.prog 93 (.struct 34 [(0, 32, 47), (32, 1, 73), (33, 1, 3)]) := st_mk (by kernel_rfl) (by kernel_rfl : (Tryd.prog.info? 93).map (·.size) = some 34)
theorem tyOk97 : TyOk1 Tryd.prog 97 (.cell) := fun w => by kernel_rfl
theorem tyOk99 : TyOk1 Tryd.prog 99 (.cell) := fun w => by kernel_rfl
theorem tyOk101 : TyOk1 Tryd.prog 101 (.sl 103 1 8) := sl_mk (by kernel_rfl : Tryd.prog.underlying 101 = some (.slice 103)) (by decide) (by kernel_rfl : (Tryd.prog.info? 103).map (·.size) = some 1) (by kernel_rfl : (Tryd.prog.info? 103).map (·.bytes) = some 8) (by kernel_rfl : ((Tryd.prog.info? 103).bind (·.zero)).map (·.cells.size) = some 1)
theorem tyOk103 : TyOk1 Tryd.prog 103 (.cell) := fun w => by kernel_rfl
theorem tyOk128 : TyOk1 Tryd.prog 128 (.int .u64) := (by kernel_rfl : Tryd.prog.underlying 128 = some (.int .u64))
theorem tyOk131 : TyOk1 Tryd.prog 131 (.arr 25 25 1 (some .u64)) := ⟨(by kernel_rfl : Tryd.prog.underlying 131 = some (.array 25 25)), (by kernel_rfl : (Tryd.prog.info? 25).map (·.size) = some 1), (by kernel_rfl : (Tryd.prog.info? 131).map (·.size) = some 25), (by kernel_rfl : Tryd.prog.eqGuardType Tryd.prog.depth 131 = false), fun k h => by cases h; exact (by kernel_rfl : Tryd.prog.underlying 25 = some (.int .u64))⟩
theorem tyOk133 : TyOk1 Tryd.prog 133 (.arr 136 5 1 (some .u8)) := ⟨(by kernel_rfl : Tryd.prog.underlying 133 = some (.array 136 5)), (by kernel_rfl : (Tryd.prog.info? 5).map (·.size) = some 1), (by kernel_rfl : (Tryd.prog.info? 133).map (·.size) = some 136), (by kernel_rfl : Tryd.prog.eqGuardType Tryd.prog.depth 133 = false), fun k h => by cases h; exact (by kernel_rfl : Tryd.prog.underlying 5 = some (.int .u8))⟩
theorem tyOk135 : TyOk1 Tryd.prog 135 (.ptr 131) := (by kernel_rfl : Tryd.prog.underlying 135 = some (.pointer 131))
theorem tyOk136 : TyOk1 Tryd.prog 136 (.arr 32 5 1 (some .u8)) := ⟨(by kernel_rfl : Tryd.prog.underlying 136 = some (.array 32 5)), (by kernel_rfl : (Tryd.prog.info? 5).map (·.size) = some 1), (by kernel_rfl : (Tryd.prog.info? 136).map (·.size) = some 32), (by kernel_rfl : Tryd.prog.eqGuardType Tryd.prog.depth 136 = false), fun k h => by cases h; exact (by kernel_rfl : Tryd.prog.underlying 5 = some (.int .u8))⟩
theorem tyOk137 : TyOk1 Tryd.prog 137 (.arr 24 25 1 (some .u64)) := ⟨(by kernel_rfl : Tryd.prog.underlying 137 = some (.array 24 25)), (by kernel_rfl : (Tryd.prog.info? 25).map (·.size) = some 1), (by kernel_rfl : (Tryd.prog.info? 137).map (·.size) = some 24), (by kernel_rfl : Tryd.prog.eqGuardType Tryd.prog.depth 137 = false), fun k h => by cases h; exact (by kernel_rfl : Tryd.prog.underlying 25 = some (.int .u64))⟩
theorem tyOk138 : TyOk1 Tryd.prog 138 (.arr 5 25 1 (some .u64)) := ⟨(by kernel_rfl : Tryd.prog.underlying 138 = some (.array 5 25)), (by kernel_rfl : (Tryd.prog.info? 25).map (·.size) = some 1), (by kernel_rfl : (Tryd.prog.info? 138).map (·.size) = some 5), (by kernel_rfl : Tryd.prog.eqGuardType Tryd.prog.depth 138 = false), fun k h => by cases h; exact (by kernel_rfl : Tryd.prog.underlying 25 = some (.int .u64))⟩
theorem tyOk140 : TyOk1 Tryd.prog 140 (.arr 24 5 1 (some .u8)) := ⟨(by kernel_rfl : Tryd.prog.underlying 140 = some (.array 24 5)), (by kernel_rfl : (Tryd.prog.info? 5).map (·.size) = some 1), (by kernel_rfl : (Tryd.prog.info? 140).map (·.size) = some 24), (by kernel_rfl : Tryd.prog.eqGuardType Tryd.prog.depth 140 = false), fun k h => by cases h; exact (by kernel_rfl : Tryd.prog.underlying 5 = some (.int .u8))⟩
theorem tyOk141 : TyOk1 Tryd.prog 141 (.sl 25 1 8) := sl_mk (by kernel_rfl : Tryd.prog.underlying 141 = some (.slice 25)) (by decide) (by kernel_rfl : (Tryd.prog.info? 25).map (·.size) = some 1) (by kernel_rfl : (Tryd.prog.info? 25).map (·.bytes) = some 8) (by kernel_rfl : ((Tryd.prog.info? 25).bind (·.zero)).map (·.cells.size) = some 1)
theorem tyOk149 : TyOk1 Tryd.prog 149 (.int .u32) := (by kernel_rfl : Tryd.prog.underlying 149 = some (.int .u32))
theorem tyOk158 : TyOk1 Tryd.prog 158 (.struct 0 []) := st_mk (by kernel_rfl) (by kernel_rfl : (Tryd.prog.info? 158).map (·.size) = some 0)
theorem tyOk159 : TyOk1 Tryd.prog 159 (.sl 27 4 32) := sl_mk (by kernel_rfl : Tryd.prog.underlying 159 = some (.slice 27)) (by decide) (by kernel_rfl : (Tryd.prog.info? 27).map (·.size) = some 4) (by kernel_rfl : (Tryd.prog.info? 27).map (·.bytes) = some 32) (by kernel_rfl : ((Tryd.prog.info? 27).bind (·.zero)).map (·.cells.size) = some 4)
theorem tyOk161 : TyOk1 Tryd.prog 161 (.struct 22 [(0, 20, 24), (20, 1, 159), (21, 1, 28)]) := st_mk (by kernel_rfl) (by kernel_rfl : (Tryd.prog.info? 161).map (·.size) = some 22)
theorem tyOk163 : TyOk1 Tryd.prog 163 (.struct 37 [(0, 1, 3), (1, 25, 83), (26, 6, 81), (32, 4, 27), (36, 1, 2)]) := st_mk (by kernel_rfl) (by kernel_rfl : (Tryd.prog.info? 163).map (·.size) = some 37)
theorem tyOk165 : TyOk1 Tryd.prog 165 (.struct 2 [(0, 1, 3), (1, 1, 3)]) := st_mk (by kernel_rfl) (by kernel_rfl : (Tryd.prog.info? 165).map (·.size) = some 2)
theorem tyT_ok : ∀ t, TyOk1 Tryd.prog t (tyT t)
 | 0 => trivial
 | 1 => tyOk1
 | 2 => tyOk2
 | 3 => tyOk3
 | 4 => tyOk4
 | 5 => tyOk5
 | 6 => trivial
 | 7 => trivial
 | 8 => trivial
 | 9 => tyOk9
 | 10 => trivial
 | 11 => trivial
 | 12 => tyOk12
 | 13 => trivial
 | 14 => trivial
 | 15 => trivial
 | 16 => trivial
 | 17 => trivial
 | 18 => trivial
 | 19 => trivial
 | 20 => trivial
 | 21 => tyOk21
 | 22 => tyOk22
 | 23 => trivial
 | 24 => tyOk24
 | 25 => tyOk25
 | 26 => trivial
 | 27 => tyOk27
 | 28 => tyOk28
 | 29 => trivial
 | 30 => tyOk30
 | 31 => tyOk31
 | 32 => tyOk32
 | 33 => trivial
 | 34 => trivial
 | 35 => tyOk35
 | 36 => tyOk36
 | 37 => trivial
 | 38 => tyOk38
 | 39 => trivial
 | 40 => trivial
 | 41 => tyOk41
 | 42 => trivial
 | 43 => trivial
 | 44 => tyOk44
 | 45 => tyOk45
 | 46 => trivial
 | 47 => tyOk47
 | 48 => trivial
 | 49 => trivial
 | 50 => trivial
 | 51 => trivial
 | 52 => tyOk52
 | 53 => tyOk53
 | 54 => trivial
 | 55 => tyOk55
 | 56 => tyOk56
 | 57 => tyOk57
 | 58 => tyOk58
 | 59 => trivial
 | 60 => tyOk60
 | 61 => trivial
 | 62 => tyOk62
 | 63 => trivial
 | 64 => tyOk64
 | 65 => tyOk65
 | 66 => tyOk66
 | 67 => trivial
 | 68 => tyOk68
 | 69 => trivial
 | 70 => tyOk70
 | 71 => trivial
 | 72 => trivial
 | 73 => tyOk73
 | 74 => tyOk74
 | 75 => tyOk75
 | 76 => trivial
 | 77 => tyOk77
 | 78 => trivial
 | 79 => trivial
 | 80 => trivial
 | 81 => tyOk81
 | 82 => trivial
 | 83 => tyOk83
 | 84 => trivial
 | 85 => trivial
 | 86 => tyOk86
 | 87 => trivial
 | 88 => trivial
 | 89 => trivial
 | 90 => trivial
 | 91 => trivial
 | 92 => trivial
 | 93 => tyOk93
 | 94 => trivial
 | 95 => trivial
 | 96 => trivial
 | 97 => tyOk97
 | 98 => trivial
 | 99 => tyOk99
 | 100 => trivial
 | 101 => tyOk101
 | 102 => trivial
 | 103 => tyOk103
 | 104 => trivial
 | 105 => trivial
 | 106 => trivial
 | 107 => trivial
 | 108 => trivial
 | 109 => trivial
 | 110 => trivial
 | 111 => trivial
 | 112 => trivial
 | 113 => trivial
 | 114 => trivial
 | 115 => trivial
 | 116 => trivial
 | 117 => trivial
 | 118 => trivial
 | 119 => trivial
 | 120 => trivial
 | 121 => trivial
 | 122 => trivial
 | 123 => trivial
 | 124 => trivial
 | 125 => trivial
 | 126 => trivial
 | 127 => trivial
 | 128 => tyOk128
 | 129 => trivial
 | 130 => trivial
 | 131 => tyOk131
 | 132 => trivial
 | 133 => tyOk133
 | 134 => trivial
 | 135 => tyOk135
 | 136 => tyOk136
 | 137 => tyOk137
 | 138 => tyOk138
 | 139 => trivial
 | 140 => tyOk140
 | 141 => tyOk141
 | 142 => trivial
 | 143 => trivial
 | 144 => trivial
 | 145 => trivial
 | 146 => trivial
 | 147 => trivial
 | 148 => trivial
 | 149 => tyOk149
 | 150 => trivial
 | 151 => trivial
 | 152 => trivial
 | 153 => trivial
 | 154 => trivial
 | 155 => trivial
 | 156 => trivial
 | 157 => trivial
 | 158 => tyOk158
 | 159 => tyOk159
 | 160 => trivial
 | 161 => tyOk161
 | 162 => trivial
 | 163 => tyOk163
 | 164 => trivial
 | 165 => tyOk165
 | 166 => trivial
 | 167 => trivial
 | _ + 168 => trivial
theorem szT_ok : ∀ t n, tsz (tyT t) = some n → Sz Tryd.prog t n
 | 0, n, h => by cases h
 | 1, n, h => by obtain rfl : 1 = n := Option.some.inj h; exact (by kernel_rfl : (Tryd.prog.info? 1).map (·.size) = some 1)
 | 2, n, h => by obtain rfl : 1 = n := Option.some.inj h; exact (by kernel_rfl : (Tryd.prog.info? 2).map (·.size) = some 1)
 | 3, n, h => by obtain rfl : 1 = n := Option.some.inj h; exact (by kernel_rfl : (Tryd.prog.info? 3).map (·.size) = some 1)
 | 4, n, h => by obtain rfl : 1 = n := Option.some.inj h; exact (by kernel_rfl : (Tryd.prog.info? 4).map (·.size) = some 1)
 | 5, n, h => by obtain rfl : 1 = n := Option.some.inj h; exact (by kernel_rfl : (Tryd.prog.info? 5).map (·.size) = some 1)
 | 6, n, h => by cases h
 | 7, n, h => by cases h
 | 8, n, h => by cases h
 | 9, n, h => by obtain rfl : 1 = n := Option.some.inj h; exact (by kernel_rfl : (Tryd.prog.info? 9).map (·.size) = some 1)
 | 10, n, h => by cases h
 | 11, n, h => by cases h
 | 12, n, h => by obtain rfl : 1 = n := Option.some.inj h; exact (by kernel_rfl : (Tryd.prog.info? 12).map (·.size) = some 1)
 | 13, n, h => by cases h
 | 14, n, h => by cases h
 | 15, n, h => by cases h
 | 16, n, h => by cases h
 | 17, n, h => by cases h
 | 18, n, h => by cases h
 | 19, n, h => by cases h
 | 20, n, h => by cases h
 | 21, n, h => by obtain rfl : 1 = n := Option.some.inj h; exact (by kernel_rfl : (Tryd.prog.info? 21).map (·.size) = some 1)
 | 22, n, h => by obtain rfl : 1 = n := Option.some.inj h; exact (by kernel_rfl : (Tryd.prog.info? 22).map (·.size) = some 1)
 | 23, n, h => by cases h
 | 24, n, h => by obtain rfl : 20 = n := Option.some.inj h; exact (by kernel_rfl : (Tryd.prog.info? 24).map (·.size) = some 20)
 | 25, n, h => by obtain rfl : 1 = n := Option.some.inj h; exact (by kernel_rfl : (Tryd.prog.info? 25).map (·.size) = some 1)
 | 26, n, h => by cases h
 | 27, n, h => by obtain rfl : 4 = n := Option.some.inj h; exact (by kernel_rfl : (Tryd.prog.info? 27).map (·.size) = some 4)
 | 28, n, h => by obtain rfl : 1 = n := Option.some.inj h; exact (by kernel_rfl : (Tryd.prog.info? 28).map (·.size) = some 1)
 | 29, n, h => by cases h
 | 30, n, h => by obtain rfl : 83 = n := Option.some.inj h; exact (by kernel_rfl : (Tryd.prog.info? 30).map (·.size) = some 83)
 | 31, n, h => by obtain rfl : 1 = n := Option.some.inj h; exact (by kernel_rfl : (Tryd.prog.info? 31).map (·.size) = some 1)
 | 32, n, h => by obtain rfl : 4 = n := Option.some.inj h; exact (by kernel_rfl : (Tryd.prog.info? 32).map (·.size) = some 4)
 | 33, n, h => by cases h
 | 34, n, h => by cases h
 | 35, n, h => by obtain rfl : 4 = n := Option.some.inj h; exact (by kernel_rfl : (Tryd.prog.info? 35).map (·.size) = some 4)
 | 36, n, h => by obtain rfl : 1 = n := Option.some.inj h; exact (by kernel_rfl : (Tryd.prog.info? 36).map (·.size) = some 1)
 | 37, n, h => by cases h
 | 38, n, h => by obtain rfl : 1 = n := Option.some.inj h; exact (by kernel_rfl : (Tryd.prog.info? 38).map (·.size) = some 1)
 | 39, n, h => by cases h
 | 40, n, h => by cases h
 | 41, n, h => by obtain rfl : 3 = n := Option.some.inj h; exact (by kernel_rfl : (Tryd.prog.info? 41).map (·.size) = some 3)
 | 42, n, h => by cases h
 | 43, n, h => by cases h
 | 44, n, h => by obtain rfl : 1 = n := Option.some.inj h; exact (by kernel_rfl : (Tryd.prog.info? 44).map (·.size) = some 1)
 | 45, n, h => by obtain rfl : 1 = n := Option.some.inj h; exact (by kernel_rfl : (Tryd.prog.info? 45).map (·.size) = some 1)
 | 46, n, h => by cases h
 | 47, n, h => by obtain rfl : 32 = n := Option.some.inj h; exact (by kernel_rfl : (Tryd.prog.info? 47).map (·.size) = some 32)
 | 48, n, h => by cases h
 | 49, n, h => by cases h
 | 50, n, h => by cases h
 | 51, n, h => by cases h
 | 52, n, h => by obtain rfl : 1 = n := Option.some.inj h; exact (by kernel_rfl : (Tryd.prog.info? 52).map (·.size) = some 1)
 | 53, n, h => by obtain rfl : 1 = n := Option.some.inj h; exact (by kernel_rfl : (Tryd.prog.info? 53).map (·.size) = some 1)
 | 54, n, h => by cases h
 | 55, n, h => by obtain rfl : 1 = n := Option.some.inj h; exact (by kernel_rfl : (Tryd.prog.info? 55).map (·.size) = some 1)
 | 56, n, h => by obtain rfl : 1 = n := Option.some.inj h; exact (by kernel_rfl : (Tryd.prog.info? 56).map (·.size) = some 1)
 | 57, n, h => by obtain rfl : 1 = n := Option.some.inj h; exact (by kernel_rfl : (Tryd.prog.info? 57).map (·.size) = some 1)
 | 58, n, h => by obtain rfl : 1 = n := Option.some.inj h; exact (by kernel_rfl : (Tryd.prog.info? 58).map (·.size) = some 1)
 | 59, n, h => by cases h
 | 60, n, h => by obtain rfl : 2 = n := Option.some.inj h; exact (by kernel_rfl : (Tryd.prog.info? 60).map (·.size) = some 2)
 | 61, n, h => by cases h
 | 62, n, h => by obtain rfl : 7 = n := Option.some.inj h; exact (by kernel_rfl : (Tryd.prog.info? 62).map (·.size) = some 7)
 | 63, n, h => by cases h
 | 64, n, h => by obtain rfl : 10 = n := Option.some.inj h; exact (by kernel_rfl : (Tryd.prog.info? 64).map (·.size) = some 10)
 | 65, n, h => by obtain rfl : 1 = n := Option.some.inj h; exact (by kernel_rfl : (Tryd.prog.info? 65).map (·.size) = some 1)
 | 66, n, h => by obtain rfl : 1 = n := Option.some.inj h; exact (by kernel_rfl : (Tryd.prog.info? 66).map (·.size) = some 1)
 | 67, n, h => by cases h
 | 68, n, h => by obtain rfl : 7 = n := Option.some.inj h; exact (by kernel_rfl : (Tryd.prog.info? 68).map (·.size) = some 7)
 | 69, n, h => by cases h
 | 70, n, h => by obtain rfl : 27 = n := Option.some.inj h; exact (by kernel_rfl : (Tryd.prog.info? 70).map (·.size) = some 27)
 | 71, n, h => by cases h
 | 72, n, h => by cases h
 | 73, n, h => by obtain rfl : 1 = n := Option.some.inj h; exact (by kernel_rfl : (Tryd.prog.info? 73).map (·.size) = some 1)
 | 74, n, h => by obtain rfl : 1 = n := Option.some.inj h; exact (by kernel_rfl : (Tryd.prog.info? 74).map (·.size) = some 1)
 | 75, n, h => by obtain rfl : 1 = n := Option.some.inj h; exact (by kernel_rfl : (Tryd.prog.info? 75).map (·.size) = some 1)
 | 76, n, h => by cases h
 | 77, n, h => by obtain rfl : 93 = n := Option.some.inj h; exact (by kernel_rfl : (Tryd.prog.info? 77).map (·.size) = some 93)
 | 78, n, h => by cases h
 | 79, n, h => by cases h
 | 80, n, h => by cases h
 | 81, n, h => by obtain rfl : 6 = n := Option.some.inj h; exact (by kernel_rfl : (Tryd.prog.info? 81).map (·.size) = some 6)
 | 82, n, h => by cases h
 | 83, n, h => by obtain rfl : 25 = n := Option.some.inj h; exact (by kernel_rfl : (Tryd.prog.info? 83).map (·.size) = some 25)
 | 84, n, h => by cases h
 | 85, n, h => by cases h
 | 86, n, h => by obtain rfl : 8 = n := Option.some.inj h; exact (by kernel_rfl : (Tryd.prog.info? 86).map (·.size) = some 8)
 | 87, n, h => by cases h
 | 88, n, h => by cases h
 | 89, n, h => by cases h
 | 90, n, h => by cases h
 | 91, n, h => by cases h
 | 92, n, h => by cases h
 | 93, n, h => by obtain rfl : 34 = n := Option.some.inj h; exact (by kernel_rfl : (Tryd.prog.info? 93).map (·.size) = some 34)
 | 94, n, h => by cases h
 | 95, n, h => by cases h
 | 96, n, h => by cases h
 | 97, n, h => by obtain rfl : 1 = n := Option.some.inj h; exact (by kernel_rfl : (Tryd.prog.info? 97).map (·.size) = some 1)
 | 98, n, h => by cases h
 | 99, n, h => by obtain rfl : 1 = n := Option.some.inj h; exact (by kernel_rfl : (Tryd.prog.info? 99).map (·.size) = some 1)
 | 100, n, h => by cases h
 | 101, n, h => by obtain rfl : 1 = n := Option.some.inj h; exact (by kernel_rfl : (Tryd.prog.info? 101).map (·.size) = some 1)
 | 102, n, h => by cases h
 | 103, n, h => by obtain rfl : 1 = n := Option.some.inj h; exact (by kernel_rfl : (Tryd.prog.info? 103).map (·.size) = some 1)
 | 104, n, h => by cases h
 | 105, n, h => by cases h
 | 106, n, h => by cases h
 | 107, n, h => by cases h
 | 108, n, h => by cases h
 | 109, n, h => by cases h
 | 110, n, h => by cases h
 | 111, n, h => by cases h
 | 112, n, h => by cases h
 | 113, n, h => by cases h
 | 114, n, h => by cases h
 | 115, n, h => by cases h
 | 116, n, h => by cases h
 | 117, n, h => by cases h
 | 118, n, h => by cases h
 | 119, n, h => by cases h
 | 120, n, h => by cases h
 | 121, n, h => by cases h
 | 122, n, h => by cases h
 | 123, n, h => by cases h
 | 124, n, h => by cases h
 | 125, n, h => by cases h
 | 126, n, h => by cases h
 | 127, n, h => by cases h
 | 128, n, h => by obtain rfl : 1 = n := Option.some.inj h; exact (by kernel_rfl : (Tryd.prog.info? 128).map (·.size) = some 1)
 | 129, n, h => by cases h
 | 130, n, h => by cases h
 | 131, n, h => by obtain rfl : 25 = n := Option.some.inj h; exact (by kernel_rfl : (Tryd.prog.info? 131).map (·.size) = some 25)
 | 132, n, h => by cases h
 | 133, n, h => by obtain rfl : 136 = n := Option.some.inj h; exact (by kernel_rfl : (Tryd.prog.info? 133).map (·.size) = some 136)
 | 134, n, h => by cases h
 | 135, n, h => by obtain rfl : 1 = n := Option.some.inj h; exact (by kernel_rfl : (Tryd.prog.info? 135).map (·.size) = some 1)
 | 136, n, h => by obtain rfl : 32 = n := Option.some.inj h; exact (by kernel_rfl : (Tryd.prog.info? 136).map (·.size) = some 32)
 | 137, n, h => by obtain rfl : 24 = n := Option.some.inj h; exact (by kernel_rfl : (Tryd.prog.info? 137).map (·.size) = some 24)
 | 138, n, h => by obtain rfl : 5 = n := Option.some.inj h; exact (by kernel_rfl : (Tryd.prog.info? 138).map (·.size) = some 5)
 | 139, n, h => by cases h
 | 140, n, h => by obtain rfl : 24 = n := Option.some.inj h; exact (by kernel_rfl : (Tryd.prog.info? 140).map (·.size) = some 24)
 | 141, n, h => by obtain rfl : 1 = n := Option.some.inj h; exact (by kernel_rfl : (Tryd.prog.info? 141).map (·.size) = some 1)
 | 142, n, h => by cases h
 | 143, n, h => by cases h
 | 144, n, h => by cases h
 | 145, n, h => by cases h
 | 146, n, h => by cases h
 | 147, n, h => by cases h
 | 148, n, h => by cases h
 | 149, n, h => by obtain rfl : 1 = n := Option.some.inj h; exact (by kernel_rfl : (Tryd.prog.info? 149).map (·.size) = some 1)
 | 150, n, h => by cases h
 | 151, n, h => by cases h
 | 152, n, h => by cases h
 | 153, n, h => by cases h
 | 154, n, h => by cases h
 | 155, n, h => by cases h
 | 156, n, h => by cases h
 | 157, n, h => by cases h
 | 158, n, h => by obtain rfl : 0 = n := Option.some.inj h; exact (by kernel_rfl : (Tryd.prog.info? 158).map (·.size) = some 0)
 | 159, n, h => by obtain rfl : 1 = n := Option.some.inj h; exact (by kernel_rfl : (Tryd.prog.info? 159).map (·.size) = some 1)
 | 160, n, h => by cases h
 | 161, n, h => by obtain rfl : 22 = n := Option.some.inj h; exact (by kernel_rfl : (Tryd.prog.info? 161).map (·.size) = some 22)
 | 162, n, h => by cases h
 | 163, n, h => by obtain rfl : 37 = n := Option.some.inj h; exact (by kernel_rfl : (Tryd.prog.info? 163).map (·.size) = some 37)
 | 164, n, h => by cases h
 | 165, n, h => by obtain rfl : 2 = n := Option.some.inj h; exact (by kernel_rfl : (Tryd.prog.info? 165).map (·.size) = some 2)
 | 166, n, h => by cases h
 | 167, n, h => by cases h
 | _ + 168, n, h => by cases h
theorem zcT_ok : ∀ t c, zcT t = some c → ∃ i z, Tryd.prog.info? t = some i ∧ i.zero = some z ∧ z.cells = (cc c).toArray
 | 0, c, h => by cases h
 | 1, c, h => by obtain rfl : _ = c := Option.some.inj h; exact zc_mk (by kernel_rfl)
 | 2, c, h => by obtain rfl : _ = c := Option.some.inj h; exact zc_mk (by kernel_rfl)
 | 3, c, h => by obtain rfl : _ = c := Option.some.inj h; exact zc_mk (by kernel_rfl)
 | 4, c, h => by obtain rfl : _ = c := Option.some.inj h; exact zc_mk (by kernel_rfl)
 | 5, c, h => by obtain rfl : _ = c := Option.some.inj h; exact zc_mk (by kernel_rfl)
 | 6, c, h => by cases h
 | 7, c, h => by cases h
 | 8, c, h => by cases h
 | 9, c, h => by obtain rfl : _ = c := Option.some.inj h; exact zc_mk (by kernel_rfl)
 | 10, c, h => by cases h
 | 11, c, h => by cases h
 | 12, c, h => by obtain rfl : _ = c := Option.some.inj h; exact zc_mk (by kernel_rfl)
 | 13, c, h => by cases h
 | 14, c, h => by cases h
 | 15, c, h => by cases h
 | 16, c, h => by cases h
 | 17, c, h => by cases h
 | 18, c, h => by cases h
 | 19, c, h => by cases h
 | 20, c, h => by cases h
 | 21, c, h => by obtain rfl : _ = c := Option.some.inj h; exact zc_mk (by kernel_rfl)
 | 22, c, h => by obtain rfl : _ = c := Option.some.inj h; exact zc_mk (by kernel_rfl)
 | 23, c, h => by cases h
 | 24, c, h => by obtain rfl : _ = c := Option.some.inj h; exact zc_mk (by kernel_rfl)
 | 25, c, h => by obtain rfl : _ = c := Option.some.inj h; exact zc_mk (by kernel_rfl)
 | 26, c, h => by cases h
 | 27, c, h => by obtain rfl : _ = c := Option.some.inj h; exact zc_mk (by kernel_rfl)
 | 28, c, h => by obtain rfl : _ = c := Option.some.inj h; exact zc_mk (by kernel_rfl)
 | 29, c, h => by cases h
 | 30, c, h => by obtain rfl : _ = c := Option.some.inj h; exact zc_mk (by kernel_rfl)
 | 31, c, h => by obtain rfl : _ = c := Option.some.inj h; exact zc_mk (by kernel_rfl)
 | 32, c, h => by cases h
 | 33, c, h => by cases h
 | 34, c, h => by cases h
 | 35, c, h => by cases h
 | 36, c, h => by obtain rfl : _ = c := Option.some.inj h; exact zc_mk (by kernel_rfl)
 | 37, c, h => by cases h
 | 38, c, h => by obtain rfl : _ = c := Option.some.inj h; exact zc_mk (by kernel_rfl)
 | 39, c, h => by cases h
 | 40, c, h => by cases h
 | 41, c, h => by obtain rfl : _ = c := Option.some.inj h; exact zc_mk (by kernel_rfl)
 | 42, c, h => by cases h
 | 43, c, h => by cases h
 | 44, c, h => by obtain rfl : _ = c := Option.some.inj h; exact zc_mk (by kernel_rfl)
 | 45, c, h => by obtain rfl : _ = c := Option.some.inj h; exact zc_mk (by kernel_rfl)
 | 46, c, h => by cases h
 | 47, c, h => by obtain rfl : _ = c := Option.some.inj h; exact zc_mk (by kernel_rfl)
 | 48, c, h => by cases h
 | 49, c, h => by cases h
 | 50, c, h => by cases h
 | 51, c, h => by cases h
 | 52, c, h => by obtain rfl : _ = c := Option.some.inj h; exact zc_mk (by kernel_rfl)
 | 53, c, h => by obtain rfl : _ = c := Option.some.inj h; exact zc_mk (by kernel_rfl)
 | 54, c, h => by cases h
 | 55, c, h => by obtain rfl : _ = c := Option.some.inj h; exact zc_mk (by kernel_rfl)
 | 56, c, h => by obtain rfl : _ = c := Option.some.inj h; exact zc_mk (by kernel_rfl)
 | 57, c, h => by obtain rfl : _ = c := Option.some.inj h; exact zc_mk (by kernel_rfl)
 | 58, c, h => by obtain rfl : _ = c := Option.some.inj h; exact zc_mk (by kernel_rfl)
 | 59, c, h => by cases h
 | 60, c, h => by obtain rfl : _ = c := Option.some.inj h; exact zc_mk (by kernel_rfl)
 | 61, c, h => by cases h
 | 62, c, h => by obtain rfl : _ = c := Option.some.inj h; exact zc_mk (by kernel_rfl)
 | 63, c, h => by cases h
 | 64, c, h => by obtain rfl : _ = c := Option.some.inj h; exact zc_mk (by kernel_rfl)
 | 65, c, h => by obtain rfl : _ = c := Option.some.inj h; exact zc_mk (by kernel_rfl)
 | 66, c, h => by obtain rfl : _ = c := Option.some.inj h; exact zc_mk (by kernel_rfl)
 | 67, c, h => by cases h
 | 68, c, h => by obtain rfl : _ = c := Option.some.inj h; exact zc_mk (by kernel_rfl)
 | 69, c, h => by cases h
 | 70, c, h => by obtain rfl : _ = c := Option.some.inj h; exact zc_mk (by kernel_rfl)
 | 71, c, h => by cases h
 | 72, c, h => by cases h
 | 73, c, h => by obtain rfl : _ = c := Option.some.inj h; exact zc_mk (by kernel_rfl)
 | 74, c, h => by obtain rfl : _ = c := Option.some.inj h; exact zc_mk (by kernel_rfl)
 | 75, c, h => by obtain rfl : _ = c := Option.some.inj h; exact zc_mk (by kernel_rfl)
 | 76, c, h => by cases h
 | 77, c, h => by obtain rfl : _ = c := Option.some.inj h; exact zc_mk (by kernel_rfl)
 | 78, c, h => by cases h
 | 79, c, h => by cases h
 | 80, c, h => by cases h
 | 81, c, h => by obtain rfl : _ = c := Option.some.inj h; exact zc_mk (by kernel_rfl)
 | 82, c, h => by cases h
 | 83, c, h => by obtain rfl : _ = c := Option.some.inj h; exact zc_mk (by kernel_rfl)
 | 84, c, h => by cases h
 | 85, c, h => by cases h
 | 86, c, h => by obtain rfl : _ = c := Option.some.inj h; exact zc_mk (by kernel_rfl)
 | 87, c, h => by cases h
 | 88, c, h => by cases h
 | 89, c, h => by cases h
 | 90, c, h => by cases h
 | 91, c, h => by cases h
 | 92, c, h => by cases h
 | 93, c, h => by obtain rfl : _ = c := Option.some.inj h; exact zc_mk (by kernel_rfl)
 | 94, c, h => by cases h
 | 95, c, h => by cases h
 | 96, c, h => by cases h
 | 97, c, h => by obtain rfl : _ = c := Option.some.inj h; exact zc_mk (by kernel_rfl)
 | 98, c, h => by cases h
 | 99, c, h => by obtain rfl : _ = c := Option.some.inj h; exact zc_mk (by kernel_rfl)
 | 100, c, h => by cases h
 | 101, c, h => by obtain rfl : _ = c := Option.some.inj h; exact zc_mk (by kernel_rfl)
 | 102, c, h => by cases h
 | 103, c, h => by obtain rfl : _ = c := Option.some.inj h; exact zc_mk (by kernel_rfl)
 | 104, c, h => by cases h
 | 105, c, h => by cases h
 | 106, c, h => by cases h
 | 107, c, h => by cases h
 | 108, c, h => by cases h
 | 109, c, h => by cases h
 | 110, c, h => by cases h
 | 111, c, h => by cases h
 | 112, c, h => by cases h
 | 113, c, h => by cases h
 | 114, c, h => by cases h
 | 115, c, h => by cases h
 | 116, c, h => by cases h
 | 117, c, h => by cases h
 | 118, c, h => by cases h
 | 119, c, h => by cases h
 | 120, c, h => by cases h
 | 121, c, h => by cases h
 | 122, c, h => by cases h
 | 123, c, h => by cases h
 | 124, c, h => by cases h
 | 125, c, h => by cases h
 | 126, c, h => by cases h
 | 127, c, h => by cases h
 | 128, c, h => by obtain rfl : _ = c := Option.some.inj h; exact zc_mk (by kernel_rfl)
 | 129, c, h => by cases h
 | 130, c, h => by cases h
 | 131, c, h => by obtain rfl : _ = c := Option.some.inj h; exact zc_mk (by kernel_rfl)
 | 132, c, h => by cases h
 | 133, c, h => by obtain rfl : _ = c := Option.some.inj h; exact zc_mk (by kernel_rfl)
 | 134, c, h => by cases h
 | 135, c, h => by obtain rfl : _ = c := Option.some.inj h; exact zc_mk (by kernel_rfl)
 | 136, c, h => by obtain rfl : _ = c := Option.some.inj h; exact zc_mk (by kernel_rfl)
 | 137, c, h => by obtain rfl : _ = c := Option.some.inj h; exact zc_mk (by kernel_rfl)
 | 138, c, h => by obtain rfl : _ = c := Option.some.inj h; exact zc_mk (by kernel_rfl)
 | 139, c, h => by cases h
 | 140, c, h => by obtain rfl : _ = c := Option.some.inj h; exact zc_mk (by kernel_rfl)
 | 141, c, h => by obtain rfl : _ = c := Option.some.inj h; exact zc_mk (by kernel_rfl)
 | 142, c, h => by cases h
 | 143, c, h => by cases h
 | 144, c, h => by cases h
 | 145, c, h => by cases h
 | 146, c, h => by cases h
 | 147, c, h => by cases h
 | 148, c, h => by cases h
 | 149, c, h => by obtain rfl : _ = c := Option.some.inj h; exact zc_mk (by kernel_rfl)
 | 150, c, h => by cases h
 | 151, c, h => by cases h
 | 152, c, h => by cases h
 | 153, c, h => by cases h
 | 154, c, h => by cases h
 | 155, c, h => by cases h
 | 156, c, h => by cases h
 | 157, c, h => by cases h
 | 158, c, h => by obtain rfl : _ = c := Option.some.inj h; exact zc_mk (by kernel_rfl)
 | 159, c, h => by obtain rfl : _ = c := Option.some.inj h; exact zc_mk (by kernel_rfl)
 | 160, c, h => by cases h
 | 161, c, h => by obtain rfl : _ = c := Option.some.inj h; exact zc_mk (by kernel_rfl)
 | 162, c, h => by cases h
 | 163, c, h => by obtain rfl : _ = c := Option.some.inj h; exact zc_mk (by kernel_rfl)
 | 164, c, h => by cases h
 | 165, c, h => by obtain rfl : _ = c := Option.some.inj h; exact zc_mk (by kernel_rfl)
 | 166, c, h => by cases h
 | 167, c, h => by cases h
 | _ + 168, c, h => by cases h
theorem zrT_ok : ∀ t, zrT t ≠ [] → ∃ i z, Tryd.prog.info? t = some i ∧ i.zero = some z ∧ z.cells = (cvs (zrT t)).toArray
 | 0, h => absurd rfl h
 | 1, h => absurd rfl h
 | 2, h => absurd rfl h
 | 3, h => absurd rfl h
 | 4, h => absurd rfl h
 | 5, h => absurd rfl h
 | 6, h => absurd rfl h
 | 7, h => absurd rfl h
 | 8, h => absurd rfl h
 | 9, h => absurd rfl h
 | 10, h => absurd rfl h
 | 11, h => absurd rfl h
 | 12, h => absurd rfl h
 | 13, h => absurd rfl h
 | 14, h => absurd rfl h
 | 15, h => absurd rfl h
 | 16, h => absurd rfl h
 | 17, h => absurd rfl h
 | 18, h => absurd rfl h
 | 19, h => absurd rfl h
 | 20, h => absurd rfl h
 | 21, h => absurd rfl h
 | 22, h => absurd rfl h
 | 23, h => absurd rfl h
 | 24, _ => zr_mk (by kernel_rfl)
 | 25, h => absurd rfl h
 | 26, h => absurd rfl h
 | 27, _ => zr_mk (by kernel_rfl)
 | 28, h => absurd rfl h
 | 29, h => absurd rfl h
 | 30, _ => zr_mk (by kernel_rfl)
 | 31, h => absurd rfl h
 | 32, _ => zr_mk (by kernel_rfl)
 | 33, h => absurd rfl h
 | 34, h => absurd rfl h
 | 35, _ => zr_mk (by kernel_rfl)
 | 36, h => absurd rfl h
 | 37, h => absurd rfl h
 | 38, h => absurd rfl h
 | 39, h => absurd rfl h
 | 40, h => absurd rfl h
 | 41, _ => zr_mk (by kernel_rfl)
 | 42, h => absurd rfl h
 | 43, h => absurd rfl h
 | 44, h => absurd rfl h
 | 45, h => absurd rfl h
 | 46, h => absurd rfl h
 | 47, _ => zr_mk (by kernel_rfl)
 | 48, h => absurd rfl h
 | 49, h => absurd rfl h
 | 50, h => absurd rfl h
 | 51, h => absurd rfl h
 | 52, h => absurd rfl h
 | 53, h => absurd rfl h
 | 54, h => absurd rfl h
 | 55, h => absurd rfl h
 | 56, h => absurd rfl h
 | 57, h => absurd rfl h
 | 58, h => absurd rfl h
 | 59, h => absurd rfl h
 | 60, _ => zr_mk (by kernel_rfl)
 | 61, h => absurd rfl h
 | 62, _ => zr_mk (by kernel_rfl)
 | 63, h => absurd rfl h
 | 64, _ => zr_mk (by kernel_rfl)
 | 65, h => absurd rfl h
 | 66, h => absurd rfl h
 | 67, h => absurd rfl h
 | 68, _ => zr_mk (by kernel_rfl)
 | 69, h => absurd rfl h
 | 70, _ => zr_mk (by kernel_rfl)
 | 71, h => absurd rfl h
 | 72, h => absurd rfl h
 | 73, h => absurd rfl h
 | 74, h => absurd rfl h
 | 75, h => absurd rfl h
 | 76, h => absurd rfl h
 | 77, _ => zr_mk (by kernel_rfl)
 | 78, h => absurd rfl h
 | 79, h => absurd rfl h
 | 80, h => absurd rfl h
 | 81, _ => zr_mk (by kernel_rfl)
 | 82, h => absurd rfl h
 | 83, _ => zr_mk (by kernel_rfl)
 | 84, h => absurd rfl h
 | 85, h => absurd rfl h
 | 86, _ => zr_mk (by kernel_rfl)
 | 87, h => absurd rfl h
 | 88, h => absurd rfl h
 | 89, h => absurd rfl h
 | 90, h => absurd rfl h
 | 91, h => absurd rfl h
 | 92, h => absurd rfl h
 | 93, _ => zr_mk (by kernel_rfl)
 | 94, h => absurd rfl h
 | 95, h => absurd rfl h
 | 96, h => absurd rfl h
 | 97, h => absurd rfl h
 | 98, h => absurd rfl h
 | 99, h => absurd rfl h
 | 100, h => absurd rfl h
 | 101, h => absurd rfl h
 | 102, h => absurd rfl h
 | 103, h => absurd rfl h
 | 104, h => absurd rfl h
 | 105, h => absurd rfl h
 | 106, h => absurd rfl h
 | 107, h => absurd rfl h
 | 108, h => absurd rfl h
 | 109, h => absurd rfl h
 | 110, h => absurd rfl h
 | 111, h => absurd rfl h
 | 112, h => absurd rfl h
 | 113, h => absurd rfl h
 | 114, h => absurd rfl h
 | 115, h => absurd rfl h
 | 116, h => absurd rfl h
 | 117, h => absurd rfl h
 | 118, h => absurd rfl h
 | 119, h => absurd rfl h
 | 120, h => absurd rfl h
 | 121, h => absurd rfl h
 | 122, h => absurd rfl h
 | 123, h => absurd rfl h
 | 124, h => absurd rfl h
 | 125, h => absurd rfl h
 | 126, h => absurd rfl h
 | 127, h => absurd rfl h
 | 128, h => absurd rfl h
 | 129, h => absurd rfl h
 | 130, h => absurd rfl h
 | 131, _ => zr_mk (by kernel_rfl)
 | 132, h => absurd rfl h
 | 133, h => absurd rfl h
 | 134, h => absurd rfl h
 | 135, h => absurd rfl h
 | 136, _ => zr_mk (by kernel_rfl)
 | 137, _ => zr_mk (by kernel_rfl)
 | 138, _ => zr_mk (by kernel_rfl)
 | 139, h => absurd rfl h
 | 140, _ => zr_mk (by kernel_rfl)
 | 141, h => absurd rfl h
 | 142, h => absurd rfl h
 | 143, h => absurd rfl h
 | 144, h => absurd rfl h
 | 145, h => absurd rfl h
 | 146, h => absurd rfl h
 | 147, h => absurd rfl h
 | 148, h => absurd rfl h
 | 149, h => absurd rfl h
 | 150, h => absurd rfl h
 | 151, h => absurd rfl h
 | 152, h => absurd rfl h
 | 153, h => absurd rfl h
 | 154, h => absurd rfl h
 | 155, h => absurd rfl h
 | 156, h => absurd rfl h
 | 157, h => absurd rfl h
 | 158, h => absurd rfl h
 | 159, h => absurd rfl h
 | 160, h => absurd rfl h
 | 161, _ => zr_mk (by kernel_rfl)
 | 162, h => absurd rfl h
 | 163, _ => zr_mk (by kernel_rfl)
 | 164, h => absurd rfl h
 | 165, _ => zr_mk (by kernel_rfl)
 | 166, h => absurd rfl h
 | 167, h => absurd rfl h
 | _ + 168, h => absurd rfl h
theorem b8T_ok : ∀ e, tyT e = .int .u8 → ∃ i, Tryd.prog.info? e = some i ∧ i.zero = some (.int .u8 0) ∧ i.size = 1 ∧ i.bytes = 1
 | 0, h => by cases h
 | 1, h => by cases h
 | 2, h => by cases h
 | 3, h => by cases h
 | 4, h => by cases h
 | 5, _ => b8_mk (by kernel_rfl)
 | 6, h => by cases h
 | 7, h => by cases h
 | 8, h => by cases h
 | 9, h => by cases h
 | 10, h => by cases h
 | 11, h => by cases h
 | 12, h => by cases h
 | 13, h => by cases h
 | 14, h => by cases h
 | 15, h => by cases h
 | 16, h => by cases h
 | 17, h => by cases h
 | 18, h => by cases h
 | 19, h => by cases h
 | 20, h => by cases h
 | 21, h => by cases h
 | 22, h => by cases h
 | 23, h => by cases h
 | 24, h => by cases h
 | 25, h => by cases h
 | 26, h => by cases h
 | 27, h => by cases h
 | 28, h => by cases h
 | 29, h => by cases h
 | 30, h => by cases h
 | 31, h => by cases h
 | 32, h => by cases h
 | 33, h => by cases h
 | 34, h => by cases h
 | 35, h => by cases h
 | 36, h => by cases h
 | 37, h => by cases h
 | 38, h => by cases h
 | 39, h => by cases h
 | 40, h => by cases h
 | 41, h => by cases h
 | 42, h => by cases h
 | 43, h => by cases h
 | 44, h => by cases h
 | 45, h => by cases h
 | 46, h => by cases h
 | 47, h => by cases h
 | 48, h => by cases h
 | 49, h => by cases h
 | 50, h => by cases h
 | 51, h => by cases h
 | 52, h => by cases h
 | 53, h => by cases h
 | 54, h => by cases h
 | 55, h => by cases h
 | 56, h => by cases h
 | 57, h => by cases h
 | 58, h => by cases h
 | 59, h => by cases h
 | 60, h => by cases h
 | 61, h => by cases h
 | 62, h => by cases h
 | 63, h => by cases h
 | 64, h => by cases h
 | 65, h => by cases h
 | 66, h => by cases h
 | 67, h => by cases h
 | 68, h => by cases h
 | 69, h => by cases h
 | 70, h => by cases h
 | 71, h => by cases h
 | 72, h => by cases h
 | 73, h => by cases h
 | 74, h => by cases h
 | 75, h => by cases h
 | 76, h => by cases h
 | 77, h => by cases h
 | 78, h => by cases h
 | 79, h => by cases h
 | 80, h => by cases h
 | 81, h => by cases h
 | 82, h => by cases h
 | 83, h => by cases h
 | 84, h => by cases h
 | 85, h => by cases h
 | 86, h => by cases h
 | 87, h => by cases h
 | 88, h => by cases h
 | 89, h => by cases h
 | 90, h => by cases h
 | 91, h => by cases h
 | 92, h => by cases h
 | 93, h => by cases h
 | 94, h => by cases h
 | 95, h => by cases h
 | 96, h => by cases h
 | 97, h => by cases h
 | 98, h => by cases h
 | 99, h => by cases h
 | 100, h => by cases h
 | 101, h => by cases h
 | 102, h => by cases h
 | 103, h => by cases h
 | 104, h => by cases h
 | 105, h => by cases h
 | 106, h => by cases h
 | 107, h => by cases h
 | 108, h => by cases h
 | 109, h => by cases h
 | 110, h => by cases h
 | 111, h => by cases h
 | 112, h => by cases h
 | 113, h => by cases h
 | 114, h => by cases h
 | 115, h => by cases h
 | 116, h => by cases h
 | 117, h => by cases h
 | 118, h => by cases h
 | 119, h => by cases h
 | 120, h => by cases h
 | 121, h => by cases h
 | 122, h => by cases h
 | 123, h => by cases h
 | 124, h => by cases h
 | 125, h => by cases h
 | 126, h => by cases h
 | 127, h => by cases h
 | 128, h => by cases h
 | 129, h => by cases h
 | 130, h => by cases h
 | 131, h => by cases h
 | 132, h => by cases h
 | 133, h => by cases h
 | 134, h => by cases h
 | 135, h => by cases h
 | 136, h => by cases h
 | 137, h => by cases h
 | 138, h => by cases h
 | 139, h => by cases h
 | 140, h => by cases h
 | 141, h => by cases h
 | 142, h => by cases h
 | 143, h => by cases h
 | 144, h => by cases h
 | 145, h => by cases h
 | 146, h => by cases h
 | 147, h => by cases h
 | 148, h => by cases h
 | 149, h => by cases h
 | 150, h => by cases h
 | 151, h => by cases h
 | 152, h => by cases h
 | 153, h => by cases h
 | 154, h => by cases h
 | 155, h => by cases h
 | 156, h => by cases h
 | 157, h => by cases h
 | 158, h => by cases h
 | 159, h => by cases h
 | 160, h => by cases h
 | 161, h => by cases h
 | 162, h => by cases h
 | 163, h => by cases h
 | 164, h => by cases h
 | 165, h => by cases h
 | 166, h => by cases h
 | 167, h => by cases h
 | _ + 168, h => by cases h
theorem ty_3 : T0.ty 3 = .int .i64 := rfl
theorem zc_3 : T0.zc 3 = some (.ints .i64 [0]) := rfl
theorem ty_4 : T0.ty 4 = .bool := rfl
theorem zc_4 : T0.zc 4 = some (.cells [.bool false]) := rfl
theorem ty_5 : T0.ty 5 = .int .u8 := rfl
theorem zc_5 : T0.zc 5 = some (.ints .u8 [0]) := rfl
theorem ty_9 : T0.ty 9 = .str := rfl
theorem zc_9 : T0.zc 9 = some (.cells [.str []]) := rfl
theorem ty_22 : T0.ty 22 = .sl 70 27 112 := rfl
theorem zc_22 : T0.zc 22 = some (.cells [.nilsl]) := rfl
theorem ty_24 : T0.ty 24 = .arr 20 5 1 (some .u8) := rfl
theorem zc_24 : T0.zc 24 = some (.ints .u8 (List.replicate 20 0)) := rfl
theorem zr_24 : T0.zr 24 = [.int .u8 0, .int .u8 0, .int .u8 0, .int .u8 0, .int .u8 0, .int .u8 0, .int .u8 0, .int .u8 0, .int .u8 0, .int .u8 0, .int .u8 0, .int .u8 0, .int .u8 0, .int .u8 0, .int .u8 0, .int .u8 0, .int .u8 0, .int .u8 0, .int .u8 0, .int .u8 0] := rfl
theorem ty_25 : T0.ty 25 = .int .u64 := rfl
theorem zc_25 : T0.zc 25 = some (.ints .u64 [0]) := rfl
theorem ty_27 : T0.ty 27 = .word := rfl
theorem zc_27 : T0.zc 27 = some (.words [0]) := rfl
theorem zr_27 : T0.zr 27 = [.int .u64 0, .int .u64 0, .int .u64 0, .int .u64 0] := rfl
theorem ty_28 : T0.ty 28 = .sl 5 1 1 := rfl
theorem zc_28 : T0.zc 28 = some (.cells [.nilsl]) := rfl
theorem ty_30 : T0.ty 30 = .struct 83 [(0, 20, 24), (20, 4, 27), (24, 1, 4), (25, 20, 24), (45, 1, 28), (46, 1, 28), (47, 1, 25), (48, 1, 25), (49, 1, 25), (50, 4, 27), (54, 4, 27), (58, 1, 4), (59, 20, 24), (79, 1, 25), (80, 1, 25), (81, 1, 28), (82, 1, 28)] := rfl
theorem zc_30 : T0.zc 30 = some (.cells zl_30) := rfl
theorem zr_30 : T0.zr 30 = ((.int .u8 0) :: (.int .u8 0) :: (.int .u8 0) :: (.int .u8 0) :: (.int .u8 0) :: (.int .u8 0) :: (.int .u8 0) :: (.int .u8 0) :: (.int .u8 0) :: (.int .u8 0) :: (.int .u8 0) :: (.int .u8 0) :: (.int .u8 0) :: (.int .u8 0) :: (.int .u8 0) :: (.int .u8 0) :: (.int .u8 0) :: (.int .u8 0) :: (.int .u8 0) :: (.int .u8 0) :: (.int .u64 0) :: (.int .u64 0) :: (.int .u64 0) :: (.int .u64 0) :: (.bool false) :: (.int .u8 0) :: (.int .u8 0) :: (.int .u8 0) :: (.int .u8 0) :: (.int .u8 0) :: (.int .u8 0) :: (.int .u8 0) :: (.int .u8 0) :: (.int .u8 0) :: (.int .u8 0) :: (.int .u8 0) :: (.int .u8 0) :: (.int .u8 0) :: (.int .u8 0) :: (.int .u8 0) :: (.int .u8 0) :: (.int .u8 0) :: (.int .u8 0) :: (.int .u8 0) :: (.int .u8 0) :: (.nilsl) :: (.nilsl) :: (.int .u64 0) :: (.int .u64 0) :: (.int .u64 0) :: (.int .u64 0) :: (.int .u64 0) :: (.int .u64 0) :: (.int .u64 0) :: (.int .u64 0) :: (.int .u64 0) :: (.int .u64 0) :: (.int .u64 0) :: (.bool false) :: (.int .u8 0) :: (.int .u8 0) :: (.int .u8 0) :: (.int .u8 0) :: (.int .u8 0) :: (.int .u8 0) :: (.int .u8 0) :: (.int .u8 0) :: (.int .u8 0) :: (.int .u8 0) :: (.int .u8 0) :: (.int .u8 0) :: (.int .u8 0) :: (.int .u8 0) :: (.int .u8 0) :: (.int .u8 0) :: (.int .u8 0) :: (.int .u8 0) :: (.int .u8 0) :: (.int .u8 0) :: (.int .u64 0) :: (.int .u64 0) :: (.nilsl) :: (.nilsl) :: []) := rfl
theorem ty_31 : T0.ty 31 = .sl 47 32 136 := rfl
theorem zc_31 : T0.zc 31 = some (.cells [.nilsl]) := rfl
theorem ty_32 : T0.ty 32 = .arr 4 4 1 none := rfl
theorem zr_32 : T0.zr 32 = [.bool false, .bool false, .bool false, .bool false] := rfl
theorem ty_35 : T0.ty 35 = .arr 4 31 1 none := rfl
theorem zr_35 : T0.zr 35 = [.nilsl, .nilsl, .nilsl, .nilsl] := rfl
theorem ty_36 : T0.ty 36 = .ptr 64 := rfl
theorem zc_36 : T0.zc 36 = some (.cells [.raw (.pointer none)]) := rfl
theorem ty_38 : T0.ty 38 = .sl 41 3 16 := rfl
theorem zc_38 : T0.zc 38 = some (.cells [.nilsl]) := rfl
theorem ty_41 : T0.ty 41 = .struct 3 [(0, 1, 5), (1, 1, 5), (2, 1, 3)] := rfl
theorem zc_41 : T0.zc 41 = some (.cells [.int .u8 0, .int .u8 0, .int .i64 0]) := rfl
theorem lv_41 : T0.lv 41 = some [.i .u8, .i .u8, .i .i64] := rfl
theorem zr_41 : T0.zr 41 = [.int .u8 0, .int .u8 0, .int .i64 0] := rfl
theorem ty_45 : T0.ty 45 = .int .u16 := rfl
theorem zc_45 : T0.zc 45 = some (.ints .u16 [0]) := rfl
theorem ty_47 : T0.ty 47 = .struct 32 [(0, 1, 5), (1, 1, 3), (2, 20, 24), (22, 4, 27), (26, 4, 27), (30, 1, 28), (31, 1, 45)] := rfl
theorem zc_47 : T0.zc 47 = some (.cells [.int .u8 0, .int .i64 0, .int .u8 0, .int .u8 0, .int .u8 0, .int .u8 0, .int .u8 0, .int .u8 0, .int .u8 0, .int .u8 0, .int .u8 0, .int .u8 0, .int .u8 0, .int .u8 0, .int .u8 0, .int .u8 0, .int .u8 0, .int .u8 0, .int .u8 0, .int .u8 0, .int .u8 0, .int .u8 0, .int .u64 0, .int .u64 0, .int .u64 0, .int .u64 0, .int .u64 0, .int .u64 0, .int .u64 0, .int .u64 0, .nilsl, .int .u16 0]) := rfl
theorem zr_47 : T0.zr 47 = [.int .u8 0, .int .i64 0, .int .u8 0, .int .u8 0, .int .u8 0, .int .u8 0, .int .u8 0, .int .u8 0, .int .u8 0, .int .u8 0, .int .u8 0, .int .u8 0, .int .u8 0, .int .u8 0, .int .u8 0, .int .u8 0, .int .u8 0, .int .u8 0, .int .u8 0, .int .u8 0, .int .u8 0, .int .u8 0, .int .u64 0, .int .u64 0, .int .u64 0, .int .u64 0, .int .u64 0, .int .u64 0, .int .u64 0, .int .u64 0, .nilsl, .int .u16 0] := rfl
theorem ty_52 : T0.ty 52 = .map ck_83 (.agg [.int .u64 0, .int .u64 0, .int .u64 0, .int .u64 0, .int .u64 0, .str []]) := rfl
theorem zc_52 : T0.zc 52 = some (.cells [.raw (.map none)]) := rfl
theorem ty_53 : T0.ty 53 = .map ck_83 (.word 0) := rfl
theorem zc_53 : T0.zc 53 = some (.cells [.raw (.map none)]) := rfl
theorem ty_55 : T0.ty 55 = .map ck_83 (.agg []) := rfl
theorem zc_55 : T0.zc 55 = some (.cells [.raw (.map none)]) := rfl
theorem ty_62 : T0.ty 62 = .struct 7 [(0, 1, 55), (1, 1, 53), (2, 1, 2), (3, 1, 56), (4, 1, 55), (5, 2, 60)] := rfl
theorem zc_62 : T0.zc 62 = some (.cells [.raw (.map none), .raw (.map none), .int .i64 0, .nilsl, .raw (.map none), .nilsl, .nilsl]) := rfl
theorem zr_62 : T0.zr 62 = [.raw (.map none), .raw (.map none), .int .i64 0, .nilsl, .raw (.map none), .nilsl, .nilsl] := rfl
theorem ty_64 : T0.ty 64 = .struct 10 [(0, 1, 52), (1, 1, 53), (2, 1, 3), (3, 7, 62)] := rfl
theorem zc_64 : T0.zc 64 = some (.cells [.raw (.map none), .raw (.map none), .int .i64 0, .raw (.map none), .raw (.map none), .int .i64 0, .nilsl, .raw (.map none), .nilsl, .nilsl]) := rfl
theorem zr_64 : T0.zr 64 = [.raw (.map none), .raw (.map none), .int .i64 0, .raw (.map none), .raw (.map none), .int .i64 0, .nilsl, .raw (.map none), .nilsl, .nilsl] := rfl
theorem ty_65 : T0.ty 65 = .map ck_24 (.int .i64 0) := rfl
theorem zc_65 : T0.zc 65 = some (.cells [.raw (.map none)]) := rfl
theorem ty_66 : T0.ty 66 = .sl 86 8 64 := rfl
theorem zc_66 : T0.zc 66 = some (.cells [.nilsl]) := rfl
theorem ty_68 : T0.ty 68 = .struct 7 [(0, 1, 25), (1, 4, 27), (5, 1, 28), (6, 1, 66)] := rfl
theorem zc_68 : T0.zc 68 = some (.cells [.int .u64 0, .int .u64 0, .int .u64 0, .int .u64 0, .int .u64 0, .nilsl, .nilsl]) := rfl
theorem zr_68 : T0.zr 68 = [.int .u64 0, .int .u64 0, .int .u64 0, .int .u64 0, .int .u64 0, .nilsl, .nilsl] := rfl
theorem ty_70 : T0.ty 70 = .struct 27 [(0, 20, 24), (20, 7, 68)] := rfl
theorem zc_70 : T0.zc 70 = some (.cells [.int .u8 0, .int .u8 0, .int .u8 0, .int .u8 0, .int .u8 0, .int .u8 0, .int .u8 0, .int .u8 0, .int .u8 0, .int .u8 0, .int .u8 0, .int .u8 0, .int .u8 0, .int .u8 0, .int .u8 0, .int .u8 0, .int .u8 0, .int .u8 0, .int .u8 0, .int .u8 0, .int .u64 0, .int .u64 0, .int .u64 0, .int .u64 0, .int .u64 0, .nilsl, .nilsl]) := rfl
theorem zr_70 : T0.zr 70 = [.int .u8 0, .int .u8 0, .int .u8 0, .int .u8 0, .int .u8 0, .int .u8 0, .int .u8 0, .int .u8 0, .int .u8 0, .int .u8 0, .int .u8 0, .int .u8 0, .int .u8 0, .int .u8 0, .int .u8 0, .int .u8 0, .int .u8 0, .int .u8 0, .int .u8 0, .int .u8 0, .int .u64 0, .int .u64 0, .int .u64 0, .int .u64 0, .int .u64 0, .nilsl, .nilsl] := rfl
theorem ty_73 : T0.ty 73 = .ptr 77 := rfl
theorem zc_73 : T0.zc 73 = some (.cells [.raw (.pointer none)]) := rfl
theorem ty_74 : T0.ty 74 = .sl 3 1 8 := rfl
theorem zc_74 : T0.zc 74 = some (.cells [.nilsl]) := rfl
theorem ty_75 : T0.ty 75 = .cell := rfl
theorem zc_75 : T0.zc 75 = some (.cells [.raw .nilFunc]) := rfl
theorem ty_77 : T0.ty 77 = .struct 93 [(0, 1, 36), (1, 83, 30), (84, 1, 5), (85, 4, 32), (89, 1, 74), (90, 1, 74), (91, 1, 3), (92, 1, 75)] := rfl
theorem zc_77 : T0.zc 77 = some (.cells zl_77) := rfl
theorem zr_77 : T0.zr 77 = ((.raw (.pointer none)) :: (.int .u8 0) :: (.int .u8 0) :: (.int .u8 0) :: (.int .u8 0) :: (.int .u8 0) :: (.int .u8 0) :: (.int .u8 0) :: (.int .u8 0) :: (.int .u8 0) :: (.int .u8 0) :: (.int .u8 0) :: (.int .u8 0) :: (.int .u8 0) :: (.int .u8 0) :: (.int .u8 0) :: (.int .u8 0) :: (.int .u8 0) :: (.int .u8 0) :: (.int .u8 0) :: (.int .u8 0) :: (.int .u64 0) :: (.int .u64 0) :: (.int .u64 0) :: (.int .u64 0) :: (.bool false) :: (.int .u8 0) :: (.int .u8 0) :: (.int .u8 0) :: (.int .u8 0) :: (.int .u8 0) :: (.int .u8 0) :: (.int .u8 0) :: (.int .u8 0) :: (.int .u8 0) :: (.int .u8 0) :: (.int .u8 0) :: (.int .u8 0) :: (.int .u8 0) :: (.int .u8 0) :: (.int .u8 0) :: (.int .u8 0) :: (.int .u8 0) :: (.int .u8 0) :: (.int .u8 0) :: (.int .u8 0) :: (.nilsl) :: (.nilsl) :: (.int .u64 0) :: (.int .u64 0) :: (.int .u64 0) :: (.int .u64 0) :: (.int .u64 0) :: (.int .u64 0) :: (.int .u64 0) :: (.int .u64 0) :: (.int .u64 0) :: (.int .u64 0) :: (.int .u64 0) :: (.bool false) :: (.int .u8 0) :: (.int .u8 0) :: (.int .u8 0) :: (.int .u8 0) :: (.int .u8 0) :: (.int .u8 0) :: (.int .u8 0) :: (.int .u8 0) :: (.int .u8 0) :: (.int .u8 0) :: (.int .u8 0) :: (.int .u8 0) :: (.int .u8 0) :: (.int .u8 0) :: (.int .u8 0) :: (.int .u8 0) :: (.int .u8 0) :: (.int .u8 0) :: (.int .u8 0) :: (.int .u8 0) :: (.int .u64 0) :: (.int .u64 0) :: (.nilsl) :: (.nilsl) :: (.int .u8 0) :: (.bool false) :: (.bool false) :: (.bool false) :: (.bool false) :: (.nilsl) :: (.nilsl) :: (.int .i64 0) :: (.raw .nilFunc) :: []) := rfl
theorem ty_81 : T0.ty 81 = .struct 6 [(0, 1, 25), (1, 4, 27), (5, 1, 9)] := rfl
theorem zc_81 : T0.zc 81 = some (.cells [.int .u64 0, .int .u64 0, .int .u64 0, .int .u64 0, .int .u64 0, .str []]) := rfl
theorem lv_81 : T0.lv 81 = some [.i .u64, .i .u64, .i .u64, .i .u64, .i .u64, .s] := rfl
theorem zr_81 : T0.zr 81 = [.int .u64 0, .int .u64 0, .int .u64 0, .int .u64 0, .int .u64 0, .str []] := rfl
theorem ty_83 : T0.ty 83 = .struct 25 [(0, 20, 24), (20, 1, 4), (21, 4, 27)] := rfl
theorem zc_83 : T0.zc 83 = some (.cells [.int .u8 0, .int .u8 0, .int .u8 0, .int .u8 0, .int .u8 0, .int .u8 0, .int .u8 0, .int .u8 0, .int .u8 0, .int .u8 0, .int .u8 0, .int .u8 0, .int .u8 0, .int .u8 0, .int .u8 0, .int .u8 0, .int .u8 0, .int .u8 0, .int .u8 0, .int .u8 0, .bool false, .int .u64 0, .int .u64 0, .int .u64 0, .int .u64 0]) := rfl
theorem zr_83 : T0.zr 83 = [.int .u8 0, .int .u8 0, .int .u8 0, .int .u8 0, .int .u8 0, .int .u8 0, .int .u8 0, .int .u8 0, .int .u8 0, .int .u8 0, .int .u8 0, .int .u8 0, .int .u8 0, .int .u8 0, .int .u8 0, .int .u8 0, .int .u8 0, .int .u8 0, .int .u8 0, .int .u8 0, .bool false, .int .u64 0, .int .u64 0, .int .u64 0, .int .u64 0] := rfl
theorem ty_86 : T0.ty 86 = .struct 8 [(0, 4, 27), (4, 4, 27)] := rfl
theorem zc_86 : T0.zc 86 = some (.cells [.int .u64 0, .int .u64 0, .int .u64 0, .int .u64 0, .int .u64 0, .int .u64 0, .int .u64 0, .int .u64 0]) := rfl
theorem zr_86 : T0.zr 86 = [.int .u64 0, .int .u64 0, .int .u64 0, .int .u64 0, .int .u64 0, .int .u64 0, .int .u64 0, .int .u64 0] := rfl
theorem ty_93 : T0.ty 93 = .struct 34 [(0, 32, 47), (32, 1, 73), (33, 1, 3)] := rfl
theorem zc_93 : T0.zc 93 = some (.cells [.int .u8 0, .int .i64 0, .int .u8 0, .int .u8 0, .int .u8 0, .int .u8 0, .int .u8 0, .int .u8 0, .int .u8 0, .int .u8 0, .int .u8 0, .int .u8 0, .int .u8 0, .int .u8 0, .int .u8 0, .int .u8 0, .int .u8 0, .int .u8 0, .int .u8 0, .int .u8 0, .int .u8 0, .int .u8 0, .int .u64 0, .int .u64 0, .int .u64 0, .int .u64 0, .int .u64 0, .int .u64 0, .int .u64 0, .int .u64 0, .nilsl, .int .u16 0, .raw (.pointer none), .int .i64 0]) := rfl
theorem zr_93 : T0.zr 93 = [.int .u8 0, .int .i64 0, .int .u8 0, .int .u8 0, .int .u8 0, .int .u8 0, .int .u8 0, .int .u8 0, .int .u8 0, .int .u8 0, .int .u8 0, .int .u8 0, .int .u8 0, .int .u8 0, .int .u8 0, .int .u8 0, .int .u8 0, .int .u8 0, .int .u8 0, .int .u8 0, .int .u8 0, .int .u8 0, .int .u64 0, .int .u64 0, .int .u64 0, .int .u64 0, .int .u64 0, .int .u64 0, .int .u64 0, .int .u64 0, .nilsl, .int .u16 0, .raw (.pointer none), .int .i64 0] := rfl
theorem ty_97 : T0.ty 97 = .cell := rfl
theorem zc_97 : T0.zc 97 = some (.cells [.raw .nilFunc]) := rfl
theorem ty_99 : T0.ty 99 = .cell := rfl
theorem zc_99 : T0.zc 99 = some (.cells [.raw .nilFunc]) := rfl
theorem ty_101 : T0.ty 101 = .sl 103 1 8 := rfl
theorem zc_101 : T0.zc 101 = some (.cells [.nilsl]) := rfl
theorem ty_103 : T0.ty 103 = .cell := rfl
theorem zc_103 : T0.zc 103 = some (.cells [.raw .nilFunc]) := rfl
theorem ty_128 : T0.ty 128 = .int .u64 := rfl
theorem zc_128 : T0.zc 128 = some (.ints .u64 [0]) := rfl
theorem ty_131 : T0.ty 131 = .arr 25 25 1 (some .u64) := rfl
theorem zc_131 : T0.zc 131 = some (.ints .u64 (List.replicate 25 0)) := rfl
theorem zr_131 : T0.zr 131 = [.int .u64 0, .int .u64 0, .int .u64 0, .int .u64 0, .int .u64 0, .int .u64 0, .int .u64 0, .int .u64 0, .int .u64 0, .int .u64 0, .int .u64 0, .int .u64 0, .int .u64 0, .int .u64 0, .int .u64 0, .int .u64 0, .int .u64 0, .int .u64 0, .int .u64 0, .int .u64 0, .int .u64 0, .int .u64 0, .int .u64 0, .int .u64 0, .int .u64 0] := rfl
theorem ty_133 : T0.ty 133 = .arr 136 5 1 (some .u8) := rfl
theorem zc_133 : T0.zc 133 = some (.ints .u8 (List.replicate 136 0)) := rfl
theorem ty_135 : T0.ty 135 = .ptr 131 := rfl
theorem zc_135 : T0.zc 135 = some (.cells [.raw (.pointer none)]) := rfl
theorem ty_136 : T0.ty 136 = .arr 32 5 1 (some .u8) := rfl
theorem zc_136 : T0.zc 136 = some (.ints .u8 (List.replicate 32 0)) := rfl
theorem zr_136 : T0.zr 136 = [.int .u8 0, .int .u8 0, .int .u8 0, .int .u8 0, .int .u8 0, .int .u8 0, .int .u8 0, .int .u8 0, .int .u8 0, .int .u8 0, .int .u8 0, .int .u8 0, .int .u8 0, .int .u8 0, .int .u8 0, .int .u8 0, .int .u8 0, .int .u8 0, .int .u8 0, .int .u8 0, .int .u8 0, .int .u8 0, .int .u8 0, .int .u8 0, .int .u8 0, .int .u8 0, .int .u8 0, .int .u8 0, .int .u8 0, .int .u8 0, .int .u8 0, .int .u8 0] := rfl
theorem ty_137 : T0.ty 137 = .arr 24 25 1 (some .u64) := rfl
theorem zc_137 : T0.zc 137 = some (.ints .u64 (List.replicate 24 0)) := rfl
theorem zr_137 : T0.zr 137 = [.int .u64 0, .int .u64 0, .int .u64 0, .int .u64 0, .int .u64 0, .int .u64 0, .int .u64 0, .int .u64 0, .int .u64 0, .int .u64 0, .int .u64 0, .int .u64 0, .int .u64 0, .int .u64 0, .int .u64 0, .int .u64 0, .int .u64 0, .int .u64 0, .int .u64 0, .int .u64 0, .int .u64 0, .int .u64 0, .int .u64 0, .int .u64 0] := rfl
theorem ty_138 : T0.ty 138 = .arr 5 25 1 (some .u64) := rfl
theorem zc_138 : T0.zc 138 = some (.ints .u64 (List.replicate 5 0)) := rfl
theorem zr_138 : T0.zr 138 = [.int .u64 0, .int .u64 0, .int .u64 0, .int .u64 0, .int .u64 0] := rfl
theorem ty_140 : T0.ty 140 = .arr 24 5 1 (some .u8) := rfl
theorem zc_140 : T0.zc 140 = some (.ints .u8 (List.replicate 24 0)) := rfl
theorem zr_140 : T0.zr 140 = [.int .u8 0, .int .u8 0, .int .u8 0, .int .u8 0, .int .u8 0, .int .u8 0, .int .u8 0, .int .u8 0, .int .u8 0, .int .u8 0, .int .u8 0, .int .u8 0, .int .u8 0, .int .u8 0, .int .u8 0, .int .u8 0, .int .u8 0, .int .u8 0, .int .u8 0, .int .u8 0, .int .u8 0, .int .u8 0, .int .u8 0, .int .u8 0] := rfl
theorem ty_141 : T0.ty 141 = .sl 25 1 8 := rfl
theorem zc_141 : T0.zc 141 = some (.cells [.nilsl]) := rfl
theorem gl_0 : T0.gl 0 = .ptr 0 0 0 0 0 0 := rfl
theorem gl_1 : T0.gl 1 = .ptr 1 1 0 0 0 0 := rfl
theorem st_0 : strI ⟨#[100, 101, 112, 111, 115, 105, 116, 84, 111, 40, 97, 100, 100, 114, 101, 115, 115, 41]⟩ = [100, 101, 112, 111, 115, 105, 116, 84, 111, 40, 97, 100, 100, 114, 101, 115, 115, 41] := by kernel_rfl
set_option linter.defProp false in
def tabs := And.intro @cc_24 <| And.intro @cs_24 <| And.intro @al8_24 <| And.intro @cc_83 <| And.intro @cs_83 <| And.intro @al8_83 <| And.intro @ty_3 <| And.intro @zc_3 <| And.intro @ty_4 <| And.intro @zc_4 <| And.intro @ty_5 <| And.intro @zc_5 <| And.intro @ty_9 <| And.intro @zc_9 <| And.intro @ty_22 <| And.intro @zc_22 <| And.intro @ty_24 <| And.intro @zc_24 <| And.intro @zr_24 <| And.intro @ty_25 <| And.intro @zc_25 <| And.intro @ty_27 <| And.intro @zc_27 <| And.intro @zr_27 <| And.intro @ty_28 <| And.intro @zc_28 <| And.intro @ty_30 <| And.intro @zc_30 <| And.intro @zr_30 <| And.intro @ty_31 <| And.intro @zc_31 <| And.intro @ty_32 <| And.intro @zr_32 <| And.intro @ty_35 <| And.intro @zr_35 <| And.intro @ty_36 <| And.intro @zc_36 <| And.intro @ty_38 <| And.intro @zc_38 <| And.intro @ty_41 <| And.intro @zc_41 <| And.intro @lv_41 <| And.intro @zr_41 <| And.intro @ty_45 <| And.intro @zc_45 <| And.intro @ty_47 <| And.intro @zc_47 <| And.intro @zr_47 <| And.intro @ty_52 <| And.intro @zc_52 <| And.intro @ty_53 <| And.intro @zc_53 <| And.intro @ty_55 <| And.intro @zc_55 <| And.intro @ty_62 <| And.intro @zc_62 <| And.intro @zr_62 <| And.intro @ty_64 <| And.intro @zc_64 <| And.intro @zr_64 <| And.intro @ty_65 <| And.intro @zc_65 <| And.intro @ty_66 <| And.intro @zc_66 <| And.intro @ty_68 <| And.intro @zc_68 <| And.intro @zr_68 <| And.intro @ty_70 <| And.intro @zc_70 <| And.intro @zr_70 <| And.intro @ty_73 <| And.intro @zc_73 <| And.intro @ty_74 <| And.intro @zc_74 <| And.intro @ty_75 <| And.intro @zc_75 <| And.intro @ty_77 <| And.intro @zc_77 <| And.intro @zr_77 <| And.intro @ty_81 <| And.intro @zc_81 <| And.intro @lv_81 <| And.intro @zr_81 <| And.intro @ty_83 <| And.intro @zc_83 <| And.intro @zr_83 <| And.intro @ty_86 <| And.intro @zc_86 <| And.intro @zr_86 <| And.intro @ty_93 <| And.intro @zc_93 <| And.intro @zr_93 <| And.intro @ty_97 <| And.intro @zc_97 <| And.intro @ty_99 <| And.intro @zc_99 <| And.intro @ty_101 <| And.intro @zc_101 <| And.intro @ty_103 <| And.intro @zc_103 <| And.intro @ty_128 <| And.intro @zc_128 <| And.intro @ty_131 <| And.intro @zc_131 <| And.intro @zr_131 <| And.intro @ty_133 <| And.intro @zc_133 <| And.intro @ty_135 <| And.intro @zc_135 <| And.intro @ty_136 <| And.intro @zc_136 <| And.intro @zr_136 <| And.intro @ty_137 <| And.intro @zc_137 <| And.intro @zr_137 <| And.intro @ty_138 <| And.intro @zc_138 <| And.intro @zr_138 <| And.intro @ty_140 <| And.intro @zc_140 <| And.intro @zr_140 <| And.intro @ty_141 <| And.intro @zc_141 <| And.intro @gl_0 <| And.intro @gl_1 <| @st_0
theorem T0_ok : TabOk Tryd.prog T0 := { b8 := b8T_ok, sz := szT_ok, zc := zcT_ok, ty := tyT_ok, gl := glT_ok, zr := zrT_ok, lv := lvT_ok }
end Go.Proofs.YtoadeekdgikghaaDoor

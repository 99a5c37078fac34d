/-
 The table of this translation's types.
-/
import Derived.Test.YtpebhddacbdicaaRows
import Derived.Test.YtpebhddacbdicaaEB
set_option maxRecDepth 20000
set_option linter.unusedVariables false
set_option linter.unusedSimpArgs false
namespace Go.Proofs.Ytpebhddacbdicaa
open Go.RowKit
def ck_72 : List CK := [.i .u8, .i .u8, .i .u8, .i .u8, .i .u8, .i .u8, .i .u8, .i .u8, .i .u8, .i .u8, .i .u8, .i .u8, .i .u8, .i .u8, .i .u8, .i .u8, .i .u8, .i .u8, .i .u8, .i .u8, .b, .i .u64, .i .u64, .i .u64, .i .u64]
theorem ckOk_72 : KeyOk Try.prog 72 ck_72 := key_mk 3 (by decide) (Nat.le_of_ble_eq_true (by kernel_rfl : Nat.ble 3 (Try.prog.types.size + 1) = true)) (by kernel_rfl) (by kernel_rfl) (by kernel_rfl) (by kernel_rfl) (by kernel_rfl : leaves Try.prog 3 72 = some ck_72) (by kernel_rfl)
theorem cc_72 {x0 x1 x2 x3 x4 x5 x6 x7 x8 x9 x10 x11 x12 x13 x14 x15 x16 x17 x18 x19 x21 x22 x23 x24 : Int} {v20 : Bool} : codeC ck_72 [.int .u8 x0, .int .u8 x1, .int .u8 x2, .int .u8 x3, .int .u8 x4, .int .u8 x5, .int .u8 x6, .int .u8 x7, .int .u8 x8, .int .u8 x9, .int .u8 x10, .int .u8 x11, .int .u8 x12, .int .u8 x13, .int .u8 x14, .int .u8 x15, .int .u8 x16, .int .u8 x17, .int .u8 x18, .int .u8 x19, .bool v20, .int .u64 x21, .int .u64 x22, .int .u64 x23, .int .u64 x24] = some [x0, x1, x2, x3, x4, x5, x6, x7, x8, x9, x10, x11, x12, x13, x14, x15, x16, x17, x18, x19, cond v20 1 0, x21, x22, x23, x24] := Eq.trans rfl rfl
theorem cs_72 {x0 x1 x2 x3 x4 x5 x6 x7 x8 x9 x10 x11 x12 x13 x14 x15 x16 x17 x18 x19 x20 x21 x22 x23 x24 : Int} : cellsS ck_72 [x0, x1, x2, x3, x4, x5, x6, x7, x8, x9, x10, x11, x12, x13, x14, x15, x16, x17, x18, x19, x20, x21, x22, x23, x24] = [.int .u8 x0, .int .u8 x1, .int .u8 x2, .int .u8 x3, .int .u8 x4, .int .u8 x5, .int .u8 x6, .int .u8 x7, .int .u8 x8, .int .u8 x9, .int .u8 x10, .int .u8 x11, .int .u8 x12, .int .u8 x13, .int .u8 x14, .int .u8 x15, .int .u8 x16, .int .u8 x17, .int .u8 x18, .int .u8 x19, .bool (decide (x20 = 1)), .int .u64 x21, .int .u64 x22, .int .u64 x23, .int .u64 x24] := Eq.trans rfl rfl
theorem al8_72 : allCk .u8 ck_72 = false := Eq.trans rfl rfl
def tyT : Nat → Ty
 | 1 => .cell
 | 2 => .int .i64
 | 3 => .int .i64
 | 4 => .bool
 | 5 => .int .u8
 | 6 => .int .u8
 | 9 => .str
 | 10 => .str
 | 11 => .str
 | 12 => .int .u64
 | 15 => .ptr 124
 | 16 => .ptr 127
 | 17 => .ptr 136
 | 20 => .ifc
 | 21 => .int .i32
 | 22 => .sl 47 32 136
 | 23 => .arr 20 5 1 (some .u8)
 | 24 => .arr 20 5 1 (some .u8)
 | 25 => .int .u64
 | 26 => .arr 4 25 1 (some .u64)
 | 27 => .word
 | 28 => .cell
 | 29 => .cell
 | 30 => .cell
 | 31 => .cell
 | 32 => .sl 3 1 8
 | 33 => .cell
 | 34 => .cell
 | 35 => .cell
 | 36 => .sl 72 25 56
 | 38 => .struct 2 [(0, 1, 36), (1, 1, 36)]
 | 39 => .cell
 | 40 => .cell
 | 41 => .cell
 | 42 => .cell
 | 43 => .sl 5 1 1
 | 44 => .int .u16
 | 45 => .int .u16
 | 47 => .struct 32 [(0, 1, 5), (1, 1, 3), (2, 20, 24), (22, 4, 27), (26, 4, 27), (30, 1, 43), (31, 1, 45)]
 | 48 => .cell
 | 49 => .cell
 | 50 => .cell
 | 51 => .cell
 | 52 => .cell
 | 54 => .cell
 | 55 => .cell
 | 56 => .cell
 | 57 => .cell
 | 58 => .cell
 | 60 => .cell
 | 61 => .cell
 | 62 => .cell
 | 63 => .cell
 | 64 => .cell
 | 65 => .map ck_72 (.agg [])
 | 66 => .map ck_72 (.agg [])
 | 67 => .struct 2 [(0, 1, 66), (1, 1, 66)]
 | 68 => .struct 2 [(0, 1, 66), (1, 1, 66)]
 | 69 => .cell
 | 70 => .cell
 | 72 => .struct 25 [(0, 20, 24), (20, 1, 4), (21, 4, 27)]
 | 73 => .cell
 | 74 => .cell
 | 75 => .cell
 | 76 => .cell
 | 77 => .cell
 | 79 => .cell
 | 80 => .int .u64
 | 81 => .cell
 | 82 => .cell
 | 83 => .cell
 | 84 => .cell
 | 85 => .cell
 | 86 => .cell
 | 87 => .cell
 | 88 => .struct 0 []
 | 89 => .cell
 | 90 => .cell
 | 91 => .cell
 | 92 => .cell
 | 93 => .cell
 | 94 => .cell
 | 95 => .cell
 | 96 => .cell
 | 97 => .cell
 | 98 => .cell
 | 99 => .cell
 | 100 => .cell
 | 101 => .cell
 | 102 => .cell
 | 103 => .int .i64
 | 105 => .cell
 | 106 => .cell
 | 107 => .cell
 | 109 => .cell
 | 110 => .cell
 | 111 => .int .u32
 | 112 => .cell
 | 113 => .int .u64
 | 114 => .cell
 | 115 => .cell
 | 116 => .cell
 | 117 => .ptr 3
 | 118 => .cell
 | 119 => .ptr 113
 | 121 => .cell
 | 122 => .cell
 | 125 => .arr 0 16 1 none
 | 128 => .cell
 | 129 => .int .u8
 | 130 => .int .u8
 | 131 => .cell
 | 132 => .ptr 5
 | 133 => .int .i32
 | 134 => .int .i32
 | _ => .other
def zcT : Nat → Option Con
 | 1 => some (.cells [.raw .nilFunc])
 | 2 => some (.ints .i64 [0])
 | 3 => some (.ints .i64 [0])
 | 4 => some (.cells [.bool false])
 | 5 => some (.ints .u8 [0])
 | 6 => some (.ints .u8 [0])
 | 9 => some (.cells [.str []])
 | 10 => some (.cells [.str []])
 | 11 => some (.cells [.str []])
 | 12 => some (.ints .u64 [0])
 | 15 => some (.cells [.raw (.pointer none)])
 | 16 => some (.cells [.raw (.pointer none)])
 | 17 => some (.cells [.raw (.pointer none)])
 | 20 => some (.cells [.raw .nilIface])
 | 21 => some (.ints .i32 [0])
 | 22 => some (.cells [.nilsl])
 | 23 => some (.ints .u8 (List.replicate 20 0))
 | 24 => some (.ints .u8 (List.replicate 20 0))
 | 25 => some (.ints .u64 [0])
 | 26 => some (.ints .u64 (List.replicate 4 0))
 | 27 => some (.words [0])
 | 28 => some (.cells [.raw .nilFunc])
 | 29 => some (.cells [.raw .nilFunc])
 | 30 => some (.cells [.raw .nilFunc])
 | 31 => some (.cells [.raw .nilFunc])
 | 32 => some (.cells [.nilsl])
 | 33 => some (.cells [.raw .nilFunc])
 | 34 => some (.cells [.raw .nilFunc])
 | 35 => some (.cells [.raw .nilFunc])
 | 36 => some (.cells [.nilsl])
 | 38 => some (.cells [.nilsl, .nilsl])
 | 39 => some (.cells [.raw .nilFunc])
 | 40 => some (.cells [.raw .nilFunc])
 | 41 => some (.cells [.raw .nilFunc])
 | 42 => some (.cells [.raw .nilFunc])
 | 43 => some (.cells [.nilsl])
 | 44 => some (.ints .u16 [0])
 | 45 => some (.ints .u16 [0])
 | 47 => some (.cells [.int .u8 0, .int .i64 0, .int .u8 0, .int .u8 0, .int .u8 0, .int .u8 0, .int .u8 0, .int .u8 0, .int .u8 0, .int .u8 0, .int .u8 0, .int .u8 0, .int .u8 0, .int .u8 0, .int .u8 0, .int .u8 0, .int .u8 0, .int .u8 0, .int .u8 0, .int .u8 0, .int .u8 0, .int .u8 0, .int .u64 0, .int .u64 0, .int .u64 0, .int .u64 0, .int .u64 0, .int .u64 0, .int .u64 0, .int .u64 0, .nilsl, .int .u16 0])
 | 48 => some (.cells [.raw .nilFunc])
 | 49 => some (.cells [.raw .nilFunc])
 | 50 => some (.cells [.raw .nilFunc])
 | 51 => some (.cells [.raw .nilFunc])
 | 52 => some (.cells [.raw .nilFunc])
 | 54 => some (.cells [.raw .nilFunc])
 | 55 => some (.cells [.raw .nilFunc])
 | 56 => some (.cells [.raw .nilFunc])
 | 57 => some (.cells [.raw .nilFunc])
 | 58 => some (.cells [.raw .nilFunc])
 | 60 => some (.cells [.raw .nilFunc])
 | 61 => some (.cells [.raw .nilFunc])
 | 62 => some (.cells [.raw .nilFunc])
 | 63 => some (.cells [.raw .nilFunc])
 | 64 => some (.cells [.raw .nilFunc])
 | 65 => some (.cells [.raw (.map none)])
 | 66 => some (.cells [.raw (.map none)])
 | 67 => some (.cells [.raw (.map none), .raw (.map none)])
 | 68 => some (.cells [.raw (.map none), .raw (.map none)])
 | 69 => some (.cells [.raw .nilFunc])
 | 70 => some (.cells [.raw .nilFunc])
 | 72 => some (.cells [.int .u8 0, .int .u8 0, .int .u8 0, .int .u8 0, .int .u8 0, .int .u8 0, .int .u8 0, .int .u8 0, .int .u8 0, .int .u8 0, .int .u8 0, .int .u8 0, .int .u8 0, .int .u8 0, .int .u8 0, .int .u8 0, .int .u8 0, .int .u8 0, .int .u8 0, .int .u8 0, .bool false, .int .u64 0, .int .u64 0, .int .u64 0, .int .u64 0])
 | 73 => some (.cells [.raw .nilFunc])
 | 74 => some (.cells [.raw .nilFunc])
 | 75 => some (.cells [.raw .nilFunc])
 | 76 => some (.cells [.raw .nilFunc])
 | 77 => some (.cells [.raw .nilFunc])
 | 79 => some (.cells [.raw .nilFunc])
 | 80 => some (.ints .u64 [0])
 | 81 => some (.cells [.raw .nilFunc])
 | 82 => some (.cells [.raw .nilFunc])
 | 83 => some (.cells [.raw .nilFunc])
 | 84 => some (.cells [.raw .nilFunc])
 | 85 => some (.cells [.raw .nilFunc])
 | 86 => some (.cells [.raw .nilFunc])
 | 87 => some (.cells [.raw .nilFunc])
 | 88 => some (.cells [])
 | 89 => some (.cells [.raw .nilFunc])
 | 90 => some (.cells [.raw .nilFunc])
 | 91 => some (.cells [.raw .nilFunc])
 | 92 => some (.cells [.raw .nilFunc])
 | 93 => some (.cells [.raw .nilFunc])
 | 94 => some (.cells [.raw .nilFunc])
 | 95 => some (.cells [.raw .nilFunc])
 | 96 => some (.cells [.raw .nilFunc])
 | 97 => some (.cells [.raw .nilFunc])
 | 98 => some (.cells [.raw .nilFunc])
 | 99 => some (.cells [.raw .nilFunc])
 | 100 => some (.cells [.raw .nilFunc])
 | 101 => some (.cells [.raw .nilFunc])
 | 102 => some (.cells [.raw .nilFunc])
 | 103 => some (.ints .i64 [0])
 | 105 => some (.cells [.raw .nilFunc])
 | 106 => some (.cells [.raw .nilFunc])
 | 107 => some (.cells [.raw .nilFunc])
 | 109 => some (.cells [.raw .nilFunc])
 | 110 => some (.cells [.raw .nilFunc])
 | 111 => some (.ints .u32 [0])
 | 112 => some (.cells [.raw .nilFunc])
 | 113 => some (.ints .u64 [0])
 | 114 => some (.cells [.raw .nilFunc])
 | 115 => some (.cells [.raw .nilFunc])
 | 116 => some (.cells [.raw .nilFunc])
 | 117 => some (.cells [.raw (.pointer none)])
 | 118 => some (.cells [.raw .nilFunc])
 | 119 => some (.cells [.raw (.pointer none)])
 | 121 => some (.cells [.raw .nilFunc])
 | 122 => some (.cells [.raw .nilFunc])
 | 128 => some (.cells [.raw .nilFunc])
 | 129 => some (.ints .u8 [0])
 | 130 => some (.ints .u8 [0])
 | 131 => some (.cells [.raw .nilFunc])
 | 132 => some (.cells [.raw (.pointer none)])
 | 133 => some (.ints .i32 [0])
 | 134 => some (.ints .i32 [0])
 | _ => none
def zrT : Nat → List SV
 | 23 => [.int .u8 0, .int .u8 0, .int .u8 0, .int .u8 0, .int .u8 0, .int .u8 0, .int .u8 0, .int .u8 0, .int .u8 0, .int .u8 0, .int .u8 0, .int .u8 0, .int .u8 0, .int .u8 0, .int .u8 0, .int .u8 0, .int .u8 0, .int .u8 0, .int .u8 0, .int .u8 0]
 | 24 => [.int .u8 0, .int .u8 0, .int .u8 0, .int .u8 0, .int .u8 0, .int .u8 0, .int .u8 0, .int .u8 0, .int .u8 0, .int .u8 0, .int .u8 0, .int .u8 0, .int .u8 0, .int .u8 0, .int .u8 0, .int .u8 0, .int .u8 0, .int .u8 0, .int .u8 0, .int .u8 0]
 | 26 => [.int .u64 0, .int .u64 0, .int .u64 0, .int .u64 0]
 | 27 => [.int .u64 0, .int .u64 0, .int .u64 0, .int .u64 0]
 | 38 => [.nilsl, .nilsl]
 | 47 => [.int .u8 0, .int .i64 0, .int .u8 0, .int .u8 0, .int .u8 0, .int .u8 0, .int .u8 0, .int .u8 0, .int .u8 0, .int .u8 0, .int .u8 0, .int .u8 0, .int .u8 0, .int .u8 0, .int .u8 0, .int .u8 0, .int .u8 0, .int .u8 0, .int .u8 0, .int .u8 0, .int .u8 0, .int .u8 0, .int .u64 0, .int .u64 0, .int .u64 0, .int .u64 0, .int .u64 0, .int .u64 0, .int .u64 0, .int .u64 0, .nilsl, .int .u16 0]
 | 67 => [.raw (.map none), .raw (.map none)]
 | 68 => [.raw (.map none), .raw (.map none)]
 | 72 => [.int .u8 0, .int .u8 0, .int .u8 0, .int .u8 0, .int .u8 0, .int .u8 0, .int .u8 0, .int .u8 0, .int .u8 0, .int .u8 0, .int .u8 0, .int .u8 0, .int .u8 0, .int .u8 0, .int .u8 0, .int .u8 0, .int .u8 0, .int .u8 0, .int .u8 0, .int .u8 0, .bool false, .int .u64 0, .int .u64 0, .int .u64 0, .int .u64 0]
 | _ => []
def glT : Nat → SV
 | g => .raw (.pointer (some ⟨g, 0, none⟩))
def lvT : Nat → Option (List CK)
 | 72 => some [.i .u8, .i .u8, .i .u8, .i .u8, .i .u8, .i .u8, .i .u8, .i .u8, .i .u8, .i .u8, .i .u8, .i .u8, .i .u8, .i .u8, .i .u8, .i .u8, .i .u8, .i .u8, .i .u8, .i .u8, .b, .i .u64, .i .u64, .i .u64, .i .u64]
 | _ => none
def T0 : Tab := { ty := tyT, zr := zrT, zc := zcT, gl := glT, lv := lvT }
theorem lvT_ok : ∀ t ks, lvT t = some ks → EqOk Try.prog t ks
 | 0, ks, h => by cases h
 | 1, ks, h => by cases h
 | 2, ks, h => by cases h
 | 3, ks, h => by cases h
 | 4, ks, h => by cases h
 | 5, ks, h => by cases h
 | 6, ks, h => by cases h
 | 7, ks, h => by cases h
 | 8, ks, h => by cases h
 | 9, ks, h => by cases h
 | 10, ks, h => by cases h
 | 11, ks, h => by cases h
 | 12, ks, h => by cases h
 | 13, ks, h => by cases h
 | 14, ks, h => by cases h
 | 15, ks, h => by cases h
 | 16, ks, h => by cases h
 | 17, ks, h => by cases h
 | 18, ks, h => by cases h
 | 19, ks, h => by cases h
 | 20, ks, h => by cases h
 | 21, ks, h => by cases h
 | 22, ks, h => by cases h
 | 23, ks, h => by cases h
 | 24, ks, h => by cases h
 | 25, ks, h => by cases h
 | 26, ks, h => by cases h
 | 27, ks, h => by cases h
 | 28, ks, h => by cases h
 | 29, ks, h => by cases h
 | 30, ks, h => by cases h
 | 31, ks, h => by cases h
 | 32, ks, h => by cases h
 | 33, ks, h => by cases h
 | 34, ks, h => by cases h
 | 35, ks, h => by cases h
 | 36, ks, h => by cases h
 | 37, ks, h => by cases h
 | 38, ks, h => by cases h
 | 39, ks, h => by cases h
 | 40, ks, h => by cases h
 | 41, ks, h => by cases h
 | 42, ks, h => by cases h
 | 43, ks, h => by cases h
 | 44, ks, h => by cases h
 | 45, ks, h => by cases h
 | 46, ks, h => by cases h
 | 47, ks, h => by cases h
 | 48, ks, h => by cases h
 | 49, ks, h => by cases h
 | 50, ks, h => by cases h
 | 51, ks, h => by cases h
 | 52, ks, h => by cases h
 | 53, ks, h => by cases h
 | 54, ks, h => by cases h
 | 55, ks, h => by cases h
 | 56, ks, h => by cases h
 | 57, ks, h => by cases h
 | 58, ks, h => by cases h
 | 59, ks, h => by cases h
 | 60, ks, h => by cases h
 | 61, ks, h => by cases h
 | 62, ks, h => by cases h
 | 63, ks, h => by cases h
 | 64, ks, h => by cases h
 | 65, ks, h => by cases h
 | 66, ks, h => by cases h
 | 67, ks, h => by cases h
 | 68, ks, h => by cases h
 | 69, ks, h => by cases h
 | 70, ks, h => by cases h
 | 71, ks, h => by cases h
 | 72, ks, h => by obtain rfl : [.i .u8, .i .u8, .i .u8, .i .u8, .i .u8, .i .u8, .i .u8, .i .u8, .i .u8, .i .u8, .i .u8, .i .u8, .i .u8, .i .u8, .i .u8, .i .u8, .i .u8, .i .u8, .i .u8, .i .u8, .b, .i .u64, .i .u64, .i .u64, .i .u64] = ks := Option.some.inj h; exact eq_mk 3 (by decide) (Nat.le_of_ble_eq_true (by kernel_rfl : Nat.ble 3 (Try.prog.types.size + 1) = true)) (by kernel_rfl) (by kernel_rfl) (by kernel_rfl) (by kernel_rfl) (by kernel_rfl : leaves Try.prog 3 72 = some _) (by kernel_rfl) (by kernel_rfl)
 | _ + 73, ks, h => by cases h
theorem glT_ok : ∀ g, cv (T0.gl g) = .pointer (some ⟨g, 0, none⟩) := by
 intro g
 show cv (glT g) = _
 unfold glT
 first | (split <;> rfl) | rfl
theorem tyOk1 : TyOk1 Try.prog 1 (.cell) := fun w => by kernel_rfl
theorem tyOk2 : TyOk1 Try.prog 2 (.int .i64) := (by kernel_rfl : Try.prog.underlying 2 = some (.int .i64))
theorem tyOk3 : TyOk1 Try.prog 3 (.int .i64) := (by kernel_rfl : Try.prog.underlying 3 = some (.int .i64))
theorem tyOk4 : TyOk1 Try.prog 4 (.bool) := (by kernel_rfl : Try.prog.underlying 4 = some (.bool))
theorem tyOk5 : TyOk1 Try.prog 5 (.int .u8) := (by kernel_rfl : Try.prog.underlying 5 = some (.int .u8))
theorem tyOk6 : TyOk1 Try.prog 6 (.int .u8) := (by kernel_rfl : Try.prog.underlying 6 = some (.int .u8))
theorem tyOk9 : TyOk1 Try.prog 9 (.str) := (by kernel_rfl : Try.prog.underlying 9 = some (.string))
theorem tyOk10 : TyOk1 Try.prog 10 (.str) := (by kernel_rfl : Try.prog.underlying 10 = some (.string))
theorem tyOk11 : TyOk1 Try.prog 11 (.str) := (by kernel_rfl : Try.prog.underlying 11 = some (.string))
theorem tyOk12 : TyOk1 Try.prog 12 (.int .u64) := (by kernel_rfl : Try.prog.underlying 12 = some (.int .u64))
theorem tyOk15 : TyOk1 Try.prog 15 (.ptr 124) := (by kernel_rfl : Try.prog.underlying 15 = some (.pointer 124))
theorem tyOk16 : TyOk1 Try.prog 16 (.ptr 127) := (by kernel_rfl : Try.prog.underlying 16 = some (.pointer 127))
theorem tyOk17 : TyOk1 Try.prog 17 (.ptr 136) := (by kernel_rfl : Try.prog.underlying 17 = some (.pointer 136))
theorem tyOk20 : TyOk1 Try.prog 20 (.ifc) := ifc_mk (by kernel_rfl : isIfc (Try.prog.underlying 20) = true)
theorem tyOk21 : TyOk1 Try.prog 21 (.int .i32) := (by kernel_rfl : Try.prog.underlying 21 = some (.int .i32))
theorem tyOk22 : TyOk1 Try.prog 22 (.sl 47 32 136) := sl_mk (by kernel_rfl : Try.prog.underlying 22 = some (.slice 47)) (by decide) (by kernel_rfl : (Try.prog.info? 47).map (·.size) = some 32) (by kernel_rfl : (Try.prog.info? 47).map (·.bytes) = some 136) (by kernel_rfl : ((Try.prog.info? 47).bind (·.zero)).map (·.cells.size) = some 32)
theorem tyOk23 : TyOk1 Try.prog 23 (.arr 20 5 1 (some .u8)) := ⟨(by kernel_rfl : Try.prog.underlying 23 = some (.array 20 5)), (by kernel_rfl : (Try.prog.info? 5).map (·.size) = some 1), (by kernel_rfl : (Try.prog.info? 23).map (·.size) = some 20), (by kernel_rfl : Try.prog.eqGuardType Try.prog.depth 23 = false), fun k h => by cases h; exact (by kernel_rfl : Try.prog.underlying 5 = some (.int .u8))⟩
theorem tyOk24 : TyOk1 Try.prog 24 (.arr 20 5 1 (some .u8)) := ⟨(by kernel_rfl : Try.prog.underlying 24 = some (.array 20 5)), (by kernel_rfl : (Try.prog.info? 5).map (·.size) = some 1), (by kernel_rfl : (Try.prog.info? 24).map (·.size) = some 20), (by kernel_rfl : Try.prog.eqGuardType Try.prog.depth 24 = false), fun k h => by cases h; exact (by kernel_rfl : Try.prog.underlying 5 = some (.int .u8))⟩
theorem tyOk25 : TyOk1 Try.prog 25 (.int .u64) := (by kernel_rfl : Try.prog.underlying 25 = some (.int .u64))
theorem tyOk26 : TyOk1 Try.prog 26 (.arr 4 25 1 (some .u64)) := ⟨(by kernel_rfl : Try.prog.underlying 26 = some (.array 4 25)), (by kernel_rfl : (Try.prog.info? 25).map (·.size) = some 1), (by kernel_rfl : (Try.prog.info? 26).map (·.size) = some 4), (by kernel_rfl : Try.prog.eqGuardType Try.prog.depth 26 = false), fun k h => by cases h; exact (by kernel_rfl : Try.prog.underlying 25 = some (.int .u64))⟩
theorem tyOk27 : TyOk1 Try.prog 27 (.word) := ⟨25, (by kernel_rfl : Try.prog.underlying 27 = some (.array 4 25)), (by kernel_rfl : Try.prog.underlying 25 = some (.int .u64)), (by kernel_rfl : (Try.prog.info? 25).map (·.size) = some 1), (by kernel_rfl : (Try.prog.info? 27).map (·.size) = some 4), (by kernel_rfl : Try.prog.eqGuardType Try.prog.depth 27 = false)⟩
theorem tyOk28 : TyOk1 Try.prog 28 (.cell) := fun w => by kernel_rfl
theorem tyOk29 : TyOk1 Try.prog 29 (.cell) := fun w => by kernel_rfl
theorem tyOk30 : TyOk1 Try.prog 30 (.cell) := fun w => by kernel_rfl
theorem tyOk31 : TyOk1 Try.prog 31 (.cell) := fun w => by kernel_rfl
theorem tyOk32 : TyOk1 Try.prog 32 (.sl 3 1 8) := sl_mk (by kernel_rfl : Try.prog.underlying 32 = some (.slice 3)) (by decide) (by kernel_rfl : (Try.prog.info? 3).map (·.size) = some 1) (by kernel_rfl : (Try.prog.info? 3).map (·.bytes) = some 8) (by kernel_rfl : ((Try.prog.info? 3).bind (·.zero)).map (·.cells.size) = some 1)
theorem tyOk33 : TyOk1 Try.prog 33 (.cell) := fun w => by kernel_rfl
theorem tyOk34 : TyOk1 Try.prog 34 (.cell) := fun w => by kernel_rfl
theorem tyOk35 : TyOk1 Try.prog 35 (.cell) := fun w => by kernel_rfl
theorem tyOk36 : TyOk1 Try.prog 36 (.sl 72 25 56) := sl_mk (by kernel_rfl : Try.prog.underlying 36 = some (.slice 72)) (by decide) (by kernel_rfl : (Try.prog.info? 72).map (·.size) = some 25) (by kernel_rfl : (Try.prog.info? 72).map (·.bytes) = some 56) (by kernel_rfl : ((Try.prog.info? 72).bind (·.zero)).map (·.cells.size) = some 25)
theorem tyOk38 : TyOk1 Try.prog 38 (.struct 2 [(0, 1, 36), (1, 1, 36)]) := st_mk (by kernel_rfl) (by kernel_rfl : (Try.prog.info? 38).map (·.size) = some 2)
theorem tyOk39 : TyOk1 Try.prog 39 (.cell) := fun w => by kernel_rfl
theorem tyOk40 : TyOk1 Try.prog 40 (.cell) := fun w => by kernel_rfl
theorem tyOk41 : TyOk1 Try.prog 41 (.cell) := fun w => by kernel_rfl
theorem tyOk42 : TyOk1 Try.prog 42 (.cell) := fun w => by kernel_rfl
theorem tyOk43 : TyOk1 Try.prog 43 (.sl 5 1 1) := sl_mk (by kernel_rfl : Try.prog.underlying 43 = some (.slice 5)) (by decide) (by kernel_rfl : (Try.prog.info? 5).map (·.size) = some 1) (by kernel_rfl : (Try.prog.info? 5).map (·.bytes) = some 1) (by kernel_rfl : ((Try.prog.info? 5).bind (·.zero)).map (·.cells.size) = some 1)
theorem tyOk44 : TyOk1 Try.prog 44 (.int .u16) := (by kernel_rfl : Try.prog.underlying 44 = some (.int .u16))
theorem tyOk45 : TyOk1 Try.prog 45 (.int .u16) := (by kernel_rfl : Try.prog.underlying 45 = some (.int .u16))
theorem tyOk47 : TyOk1 Try.prog 47 (.struct 32 [(0, 1, 5), (1, 1, 3), (2, 20, 24), (22, 4, 27), (26, 4, 27), (30, 1, 43), (31, 1, 45)]) := st_mk (by kernel_rfl) (by kernel_rfl : (Try.prog.info? 47).map (·.size) = some 32)
theorem tyOk48 : TyOk1 Try.prog 48 (.cell) := fun w => by kernel_rfl
theorem tyOk49 : TyOk1 Try.prog 49 (.cell) := fun w => by kernel_rfl
theorem tyOk50 : TyOk1 Try.prog 50 (.cell) := fun w => by kernel_rfl
theorem tyOk51 : TyOk1 Try.prog 51 (.cell) := fun w => by kernel_rfl
theorem tyOk52 : TyOk1 Try.prog 52 (.cell) := fun w => by kernel_rfl
theorem tyOk54 : TyOk1 Try.prog 54 (.cell) := fun w => by kernel_rfl
theorem tyOk55 : TyOk1 Try.prog 55 (.cell) := fun w => by kernel_rfl
theorem tyOk56 : TyOk1 Try.prog 56 (.cell) := fun w => by kernel_rfl
theorem tyOk57 : TyOk1 Try.prog 57 (.cell) := fun w => by kernel_rfl
theorem tyOk58 : TyOk1 Try.prog 58 (.cell) := fun w => by kernel_rfl
theorem tyOk60 : TyOk1 Try.prog 60 (.cell) := fun w => by kernel_rfl
theorem tyOk61 : TyOk1 Try.prog 61 (.cell) := fun w => by kernel_rfl
theorem tyOk62 : TyOk1 Try.prog 62 (.cell) := fun w => by kernel_rfl
theorem tyOk63 : TyOk1 Try.prog 63 (.cell) := fun w => by kernel_rfl
theorem tyOk64 : TyOk1 Try.prog 64 (.cell) := fun w => by kernel_rfl
theorem tyOk65 : TyOk1 Try.prog 65 (.map ck_72 (.agg [])) := ⟨72, 88, (by kernel_rfl : Try.prog.underlying 65 = some (.map 72 88)), ckOk_72, zv_mk (by kernel_rfl : ((Try.prog.info? 88).bind (·.zero)) = some (cv (.agg [])))⟩
theorem tyOk66 : TyOk1 Try.prog 66 (.map ck_72 (.agg [])) := ⟨72, 88, (by kernel_rfl : Try.prog.underlying 66 = some (.map 72 88)), ckOk_72, zv_mk (by kernel_rfl : ((Try.prog.info? 88).bind (·.zero)) = some (cv (.agg [])))⟩
theorem tyOk67 : TyOk1 Try.prog 67 (.struct 2 [(0, 1, 66), (1, 1, 66)]) := st_mk (by kernel_rfl) (by kernel_rfl : (Try.prog.info? 67).map (·.size) = some 2)
theorem tyOk68 : TyOk1 Try.prog 68 (.struct 2 [(0, 1, 66), (1, 1, 66)]) := st_mk (by kernel_rfl) (by kernel_rfl : (Try.prog.info? 68).map (·.size) = some 2)
theorem tyOk69 : TyOk1 Try.prog 69 (.cell) := fun w => by kernel_rfl
theorem tyOk70 : TyOk1 Try.prog 70 (.cell) := fun w => by kernel_rfl
theorem tyOk72 : TyOk1 Try.prog 72 (.struct 25 [(0, 20, 24), (20, 1, 4), (21, 4, 27)]) := st_mk (by kernel_rfl) (by kernel_rfl : (Try.prog.info? 72).map (·.size) = some 25)
theorem tyOk73 : TyOk1 Try.prog 73 (.cell) := fun w => by kernel_rfl
theorem tyOk74 : TyOk1 Try.prog 74 (.cell) := fun w => by kernel_rfl
theorem tyOk75 : TyOk1 Try.prog 75 (.cell) := fun w => by kernel_rfl
theorem tyOk76 : TyOk1 Try.prog 76 (.cell) := fun w => by kernel_rfl
theorem tyOk77 : TyOk1 Try.prog 77 (.cell) := fun w => by kernel_rfl
theorem tyOk79 : TyOk1 Try.prog 79 (.cell) := fun w => by kernel_rfl
theorem tyOk80 : TyOk1 Try.prog 80 (.int .u64) := (by kernel_rfl : Try.prog.underlying 80 = some (.int .u64))
theorem tyOk81 : TyOk1 Try.prog 81 (.cell) := fun w => by kernel_rfl
theorem tyOk82 : TyOk1 Try.prog 82 (.cell) := fun w => by kernel_rfl
theorem tyOk83 : TyOk1 Try.prog 83 (.cell) := fun w => by kernel_rfl
theorem tyOk84 : TyOk1 Try.prog 84 (.cell) := fun w => by kernel_rfl
theorem tyOk85 : TyOk1 Try.prog 85 (.cell) := fun w => by kernel_rfl
theorem tyOk86 : TyOk1 Try.prog 86 (.cell) := fun w => by kernel_rfl
theorem tyOk87 : TyOk1 Try.prog 87 (.cell) := fun w => by kernel_rfl
theorem tyOk88 : TyOk1 Try.prog 88 (.struct 0 []) := st_mk (by kernel_rfl) (by kernel_rfl : (Try.prog.info? 88).map (·.size) = some 0)
theorem tyOk89 : TyOk1 Try.prog 89 (.cell) := fun w => by kernel_rfl
theorem tyOk90 : TyOk1 Try.prog 90 (.cell) := fun w => by kernel_rfl
theorem tyOk91 : TyOk1 Try.prog 91 (.cell) := fun w => by kernel_rfl
theorem tyOk92 : TyOk1 Try.prog 92 (.cell) := fun w => by kernel_rfl
theorem tyOk93 : TyOk1 Try.prog 93 (.cell) := fun w => by kernel_rfl
theorem tyOk94 : TyOk1 Try.prog 94 (.cell) := fun w => by kernel_rfl
theorem tyOk95 : TyOk1 Try.prog 95 (.cell) := fun w => by kernel_rfl
theorem tyOk96 : TyOk1 Try.prog 96 (.cell) := fun w => by kernel_rfl
theorem tyOk97 : TyOk1 Try.prog 97 (.cell) := fun w => by kernel_rfl
theorem tyOk98 : TyOk1 Try.prog 98 (.cell) := fun w => by kernel_rfl
theorem tyOk99 : TyOk1 Try.prog 99 (.cell) := fun w => by kernel_rfl
theorem tyOk100 : TyOk1 Try.prog 100 (.cell) := fun w => by kernel_rfl
theorem tyOk101 : TyOk1 Try.prog 101 (.cell) := fun w => by kernel_rfl
theorem tyOk102 : TyOk1 Try.prog 102 (.cell) := fun w => by kernel_rfl
theorem tyOk103 : TyOk1 Try.prog 103 (.int .i64) := (by kernel_rfl : Try.prog.underlying 103 = some (.int .i64))
theorem tyOk105 : TyOk1 Try.prog 105 (.cell) := fun w => by kernel_rfl
theorem tyOk106 : TyOk1 Try.prog 106 (.cell) := fun w => by kernel_rfl
theorem tyOk107 : TyOk1 Try.prog 107 (.cell) := fun w => by kernel_rfl
theorem tyOk109 : TyOk1 Try.prog 109 (.cell) := fun w => by kernel_rfl
theorem tyOk110 : TyOk1 Try.prog 110 (.cell) := fun w => by kernel_rfl
theorem tyOk111 : TyOk1 Try.prog 111 (.int .u32) := (by kernel_rfl : Try.prog.underlying 111 = some (.int .u32))
theorem tyOk112 : TyOk1 Try.prog 112 (.cell) := fun w => by kernel_rfl
theorem tyOk113 : TyOk1 Try.prog 113 (.int .u64) := (by kernel_rfl : Try.prog.underlying 113 = some (.int .u64))
theorem tyOk114 : TyOk1 Try.prog 114 (.cell) := fun w => by kernel_rfl
theorem tyOk115 : TyOk1 Try.prog 115 (.cell) := fun w => by kernel_rfl
theorem tyOk116 : TyOk1 Try.prog 116 (.cell) := fun w => by kernel_rfl
theorem tyOk117 : TyOk1 Try.prog 117 (.ptr 3) := (by kernel_rfl : Try.prog.underlying 117 = some (.pointer 3))
theorem tyOk118 : TyOk1 Try.prog 118 (.cell) := fun w => by kernel_rfl
theorem tyOk119 : TyOk1 Try.prog 119 (.ptr 113) := (by kernel_rfl : Try.prog.underlying 119 = some (.pointer 113))
theorem tyOk121 : TyOk1 Try.prog 121 (.cell) := fun w => by kernel_rfl
theorem tyOk122 : TyOk1 Try.prog 122 (.cell) := fun w => by kernel_rfl
theorem tyOk125 : TyOk1 Try.prog 125 (.arr 0 16 1 none) := ⟨(by kernel_rfl : Try.prog.underlying 125 = some (.array 0 16)), (by kernel_rfl : (Try.prog.info? 16).map (·.size) = some 1), (by kernel_rfl : (Try.prog.info? 125).map (·.size) = some 0), (by kernel_rfl : Try.prog.eqGuardType Try.prog.depth 125 = false), fun k h => by cases h⟩
theorem tyOk128 : TyOk1 Try.prog 128 (.cell) := fun w => by kernel_rfl
theorem tyOk129 : TyOk1 Try.prog 129 (.int .u8) := (by kernel_rfl : Try.prog.underlying 129 = some (.int .u8))
theorem tyOk130 : TyOk1 Try.prog 130 (.int .u8) := (by kernel_rfl : Try.prog.underlying 130 = some (.int .u8))
theorem tyOk131 : TyOk1 Try.prog 131 (.cell) := fun w => by kernel_rfl
theorem tyOk132 : TyOk1 Try.prog 132 (.ptr 5) := (by kernel_rfl : Try.prog.underlying 132 = some (.pointer 5))
theorem tyOk133 : TyOk1 Try.prog 133 (.int .i32) := (by kernel_rfl : Try.prog.underlying 133 = some (.int .i32))
theorem tyOk134 : TyOk1 Try.prog 134 (.int .i32) := (by kernel_rfl : Try.prog.underlying 134 = some (.int .i32))
theorem tyT_ok : ∀ t, TyOk1 Try.prog t (tyT t)
 | 0 => trivial
 | 1 => tyOk1
 | 2 => tyOk2
 | 3 => tyOk3
 | 4 => tyOk4
 | 5 => tyOk5
 | 6 => tyOk6
 | 7 => trivial
 | 8 => trivial
 | 9 => tyOk9
 | 10 => tyOk10
 | 11 => tyOk11
 | 12 => tyOk12
 | 13 => trivial
 | 14 => trivial
 | 15 => tyOk15
 | 16 => tyOk16
 | 17 => tyOk17
 | 18 => trivial
 | 19 => trivial
 | 20 => tyOk20
 | 21 => tyOk21
 | 22 => tyOk22
 | 23 => tyOk23
 | 24 => tyOk24
 | 25 => tyOk25
 | 26 => tyOk26
 | 27 => tyOk27
 | 28 => tyOk28
 | 29 => tyOk29
 | 30 => tyOk30
 | 31 => tyOk31
 | 32 => tyOk32
 | 33 => tyOk33
 | 34 => tyOk34
 | 35 => tyOk35
 | 36 => tyOk36
 | 37 => trivial
 | 38 => tyOk38
 | 39 => tyOk39
 | 40 => tyOk40
 | 41 => tyOk41
 | 42 => tyOk42
 | 43 => tyOk43
 | 44 => tyOk44
 | 45 => tyOk45
 | 46 => trivial
 | 47 => tyOk47
 | 48 => tyOk48
 | 49 => tyOk49
 | 50 => tyOk50
 | 51 => tyOk51
 | 52 => tyOk52
 | 53 => trivial
 | 54 => tyOk54
 | 55 => tyOk55
 | 56 => tyOk56
 | 57 => tyOk57
 | 58 => tyOk58
 | 59 => trivial
 | 60 => tyOk60
 | 61 => tyOk61
 | 62 => tyOk62
 | 63 => tyOk63
 | 64 => tyOk64
 | 65 => tyOk65
 | 66 => tyOk66
 | 67 => tyOk67
 | 68 => tyOk68
 | 69 => tyOk69
 | 70 => tyOk70
 | 71 => trivial
 | 72 => tyOk72
 | 73 => tyOk73
 | 74 => tyOk74
 | 75 => tyOk75
 | 76 => tyOk76
 | 77 => tyOk77
 | 78 => trivial
 | 79 => tyOk79
 | 80 => tyOk80
 | 81 => tyOk81
 | 82 => tyOk82
 | 83 => tyOk83
 | 84 => tyOk84
 | 85 => tyOk85
 | 86 => tyOk86
 | 87 => tyOk87
 | 88 => tyOk88
 | 89 => tyOk89
 | 90 => tyOk90
 | 91 => tyOk91
 | 92 => tyOk92
 | 93 => tyOk93
 | 94 => tyOk94
 | 95 => tyOk95
 | 96 => tyOk96
 | 97 => tyOk97
 | 98 => tyOk98
 | 99 => tyOk99
 | 100 => tyOk100
 | 101 => tyOk101
 | 102 => tyOk102
 | 103 => tyOk103
 | 104 => trivial
 | 105 => tyOk105
 | 106 => tyOk106
 | 107 => tyOk107
 | 108 => trivial
 | 109 => tyOk109
 | 110 => tyOk110
 | 111 => tyOk111
 | 112 => tyOk112
 | 113 => tyOk113
 | 114 => tyOk114
 | 115 => tyOk115
 | 116 => tyOk116
 | 117 => tyOk117
 | 118 => tyOk118
 | 119 => tyOk119
 | 120 => trivial
 | 121 => tyOk121
 | 122 => tyOk122
 | 123 => trivial
 | 124 => trivial
 | 125 => tyOk125
 | 126 => trivial
 | 127 => trivial
 | 128 => tyOk128
 | 129 => tyOk129
 | 130 => tyOk130
 | 131 => tyOk131
 | 132 => tyOk132
 | 133 => tyOk133
 | 134 => tyOk134
 | 135 => trivial
 | 136 => trivial
 | 137 => trivial
 | _ + 138 => trivial
theorem szT_ok : ∀ t n, tsz (tyT t) = some n → Sz Try.prog t n
 | 0, n, h => by cases h
 | 1, n, h => by obtain rfl : 1 = n := Option.some.inj h; exact (by kernel_rfl : (Try.prog.info? 1).map (·.size) = some 1)
 | 2, n, h => by obtain rfl : 1 = n := Option.some.inj h; exact (by kernel_rfl : (Try.prog.info? 2).map (·.size) = some 1)
 | 3, n, h => by obtain rfl : 1 = n := Option.some.inj h; exact (by kernel_rfl : (Try.prog.info? 3).map (·.size) = some 1)
 | 4, n, h => by obtain rfl : 1 = n := Option.some.inj h; exact (by kernel_rfl : (Try.prog.info? 4).map (·.size) = some 1)
 | 5, n, h => by obtain rfl : 1 = n := Option.some.inj h; exact (by kernel_rfl : (Try.prog.info? 5).map (·.size) = some 1)
 | 6, n, h => by obtain rfl : 1 = n := Option.some.inj h; exact (by kernel_rfl : (Try.prog.info? 6).map (·.size) = some 1)
 | 7, n, h => by cases h
 | 8, n, h => by cases h
 | 9, n, h => by obtain rfl : 1 = n := Option.some.inj h; exact (by kernel_rfl : (Try.prog.info? 9).map (·.size) = some 1)
 | 10, n, h => by obtain rfl : 1 = n := Option.some.inj h; exact (by kernel_rfl : (Try.prog.info? 10).map (·.size) = some 1)
 | 11, n, h => by obtain rfl : 1 = n := Option.some.inj h; exact (by kernel_rfl : (Try.prog.info? 11).map (·.size) = some 1)
 | 12, n, h => by obtain rfl : 1 = n := Option.some.inj h; exact (by kernel_rfl : (Try.prog.info? 12).map (·.size) = some 1)
 | 13, n, h => by cases h
 | 14, n, h => by cases h
 | 15, n, h => by obtain rfl : 1 = n := Option.some.inj h; exact (by kernel_rfl : (Try.prog.info? 15).map (·.size) = some 1)
 | 16, n, h => by obtain rfl : 1 = n := Option.some.inj h; exact (by kernel_rfl : (Try.prog.info? 16).map (·.size) = some 1)
 | 17, n, h => by obtain rfl : 1 = n := Option.some.inj h; exact (by kernel_rfl : (Try.prog.info? 17).map (·.size) = some 1)
 | 18, n, h => by cases h
 | 19, n, h => by cases h
 | 20, n, h => by obtain rfl : 1 = n := Option.some.inj h; exact (by kernel_rfl : (Try.prog.info? 20).map (·.size) = some 1)
 | 21, n, h => by obtain rfl : 1 = n := Option.some.inj h; exact (by kernel_rfl : (Try.prog.info? 21).map (·.size) = some 1)
 | 22, n, h => by obtain rfl : 1 = n := Option.some.inj h; exact (by kernel_rfl : (Try.prog.info? 22).map (·.size) = some 1)
 | 23, n, h => by obtain rfl : 20 = n := Option.some.inj h; exact (by kernel_rfl : (Try.prog.info? 23).map (·.size) = some 20)
 | 24, n, h => by obtain rfl : 20 = n := Option.some.inj h; exact (by kernel_rfl : (Try.prog.info? 24).map (·.size) = some 20)
 | 25, n, h => by obtain rfl : 1 = n := Option.some.inj h; exact (by kernel_rfl : (Try.prog.info? 25).map (·.size) = some 1)
 | 26, n, h => by obtain rfl : 4 = n := Option.some.inj h; exact (by kernel_rfl : (Try.prog.info? 26).map (·.size) = some 4)
 | 27, n, h => by obtain rfl : 4 = n := Option.some.inj h; exact (by kernel_rfl : (Try.prog.info? 27).map (·.size) = some 4)
 | 28, n, h => by obtain rfl : 1 = n := Option.some.inj h; exact (by kernel_rfl : (Try.prog.info? 28).map (·.size) = some 1)
 | 29, n, h => by obtain rfl : 1 = n := Option.some.inj h; exact (by kernel_rfl : (Try.prog.info? 29).map (·.size) = some 1)
 | 30, n, h => by obtain rfl : 1 = n := Option.some.inj h; exact (by kernel_rfl : (Try.prog.info? 30).map (·.size) = some 1)
 | 31, n, h => by obtain rfl : 1 = n := Option.some.inj h; exact (by kernel_rfl : (Try.prog.info? 31).map (·.size) = some 1)
 | 32, n, h => by obtain rfl : 1 = n := Option.some.inj h; exact (by kernel_rfl : (Try.prog.info? 32).map (·.size) = some 1)
 | 33, n, h => by obtain rfl : 1 = n := Option.some.inj h; exact (by kernel_rfl : (Try.prog.info? 33).map (·.size) = some 1)
 | 34, n, h => by obtain rfl : 1 = n := Option.some.inj h; exact (by kernel_rfl : (Try.prog.info? 34).map (·.size) = some 1)
 | 35, n, h => by obtain rfl : 1 = n := Option.some.inj h; exact (by kernel_rfl : (Try.prog.info? 35).map (·.size) = some 1)
 | 36, n, h => by obtain rfl : 1 = n := Option.some.inj h; exact (by kernel_rfl : (Try.prog.info? 36).map (·.size) = some 1)
 | 37, n, h => by cases h
 | 38, n, h => by obtain rfl : 2 = n := Option.some.inj h; exact (by kernel_rfl : (Try.prog.info? 38).map (·.size) = some 2)
 | 39, n, h => by obtain rfl : 1 = n := Option.some.inj h; exact (by kernel_rfl : (Try.prog.info? 39).map (·.size) = some 1)
 | 40, n, h => by obtain rfl : 1 = n := Option.some.inj h; exact (by kernel_rfl : (Try.prog.info? 40).map (·.size) = some 1)
 | 41, n, h => by obtain rfl : 1 = n := Option.some.inj h; exact (by kernel_rfl : (Try.prog.info? 41).map (·.size) = some 1)
 | 42, n, h => by obtain rfl : 1 = n := Option.some.inj h; exact (by kernel_rfl : (Try.prog.info? 42).map (·.size) = some 1)
 | 43, n, h => by obtain rfl : 1 = n := Option.some.inj h; exact (by kernel_rfl : (Try.prog.info? 43).map (·.size) = some 1)
 | 44, n, h => by obtain rfl : 1 = n := Option.some.inj h; exact (by kernel_rfl : (Try.prog.info? 44).map (·.size) = some 1)
 | 45, n, h => by obtain rfl : 1 = n := Option.some.inj h; exact (by kernel_rfl : (Try.prog.info? 45).map (·.size) = some 1)
 | 46, n, h => by cases h
 | 47, n, h => by obtain rfl : 32 = n := Option.some.inj h; exact (by kernel_rfl : (Try.prog.info? 47).map (·.size) = some 32)
 | 48, n, h => by obtain rfl : 1 = n := Option.some.inj h; exact (by kernel_rfl : (Try.prog.info? 48).map (·.size) = some 1)
 | 49, n, h => by obtain rfl : 1 = n := Option.some.inj h; exact (by kernel_rfl : (Try.prog.info? 49).map (·.size) = some 1)
 | 50, n, h => by obtain rfl : 1 = n := Option.some.inj h; exact (by kernel_rfl : (Try.prog.info? 50).map (·.size) = some 1)
 | 51, n, h => by obtain rfl : 1 = n := Option.some.inj h; exact (by kernel_rfl : (Try.prog.info? 51).map (·.size) = some 1)
 | 52, n, h => by obtain rfl : 1 = n := Option.some.inj h; exact (by kernel_rfl : (Try.prog.info? 52).map (·.size) = some 1)
 | 53, n, h => by cases h
 | 54, n, h => by obtain rfl : 1 = n := Option.some.inj h; exact (by kernel_rfl : (Try.prog.info? 54).map (·.size) = some 1)
 | 55, n, h => by obtain rfl : 1 = n := Option.some.inj h; exact (by kernel_rfl : (Try.prog.info? 55).map (·.size) = some 1)
 | 56, n, h => by obtain rfl : 1 = n := Option.some.inj h; exact (by kernel_rfl : (Try.prog.info? 56).map (·.size) = some 1)
 | 57, n, h => by obtain rfl : 1 = n := Option.some.inj h; exact (by kernel_rfl : (Try.prog.info? 57).map (·.size) = some 1)
 | 58, n, h => by obtain rfl : 1 = n := Option.some.inj h; exact (by kernel_rfl : (Try.prog.info? 58).map (·.size) = some 1)
 | 59, n, h => by cases h
 | 60, n, h => by obtain rfl : 1 = n := Option.some.inj h; exact (by kernel_rfl : (Try.prog.info? 60).map (·.size) = some 1)
 | 61, n, h => by obtain rfl : 1 = n := Option.some.inj h; exact (by kernel_rfl : (Try.prog.info? 61).map (·.size) = some 1)
 | 62, n, h => by obtain rfl : 1 = n := Option.some.inj h; exact (by kernel_rfl : (Try.prog.info? 62).map (·.size) = some 1)
 | 63, n, h => by obtain rfl : 1 = n := Option.some.inj h; exact (by kernel_rfl : (Try.prog.info? 63).map (·.size) = some 1)
 | 64, n, h => by obtain rfl : 1 = n := Option.some.inj h; exact (by kernel_rfl : (Try.prog.info? 64).map (·.size) = some 1)
 | 65, n, h => by obtain rfl : 1 = n := Option.some.inj h; exact (by kernel_rfl : (Try.prog.info? 65).map (·.size) = some 1)
 | 66, n, h => by obtain rfl : 1 = n := Option.some.inj h; exact (by kernel_rfl : (Try.prog.info? 66).map (·.size) = some 1)
 | 67, n, h => by obtain rfl : 2 = n := Option.some.inj h; exact (by kernel_rfl : (Try.prog.info? 67).map (·.size) = some 2)
 | 68, n, h => by obtain rfl : 2 = n := Option.some.inj h; exact (by kernel_rfl : (Try.prog.info? 68).map (·.size) = some 2)
 | 69, n, h => by obtain rfl : 1 = n := Option.some.inj h; exact (by kernel_rfl : (Try.prog.info? 69).map (·.size) = some 1)
 | 70, n, h => by obtain rfl : 1 = n := Option.some.inj h; exact (by kernel_rfl : (Try.prog.info? 70).map (·.size) = some 1)
 | 71, n, h => by cases h
 | 72, n, h => by obtain rfl : 25 = n := Option.some.inj h; exact (by kernel_rfl : (Try.prog.info? 72).map (·.size) = some 25)
 | 73, n, h => by obtain rfl : 1 = n := Option.some.inj h; exact (by kernel_rfl : (Try.prog.info? 73).map (·.size) = some 1)
 | 74, n, h => by obtain rfl : 1 = n := Option.some.inj h; exact (by kernel_rfl : (Try.prog.info? 74).map (·.size) = some 1)
 | 75, n, h => by obtain rfl : 1 = n := Option.some.inj h; exact (by kernel_rfl : (Try.prog.info? 75).map (·.size) = some 1)
 | 76, n, h => by obtain rfl : 1 = n := Option.some.inj h; exact (by kernel_rfl : (Try.prog.info? 76).map (·.size) = some 1)
 | 77, n, h => by obtain rfl : 1 = n := Option.some.inj h; exact (by kernel_rfl : (Try.prog.info? 77).map (·.size) = some 1)
 | 78, n, h => by cases h
 | 79, n, h => by obtain rfl : 1 = n := Option.some.inj h; exact (by kernel_rfl : (Try.prog.info? 79).map (·.size) = some 1)
 | 80, n, h => by obtain rfl : 1 = n := Option.some.inj h; exact (by kernel_rfl : (Try.prog.info? 80).map (·.size) = some 1)
 | 81, n, h => by obtain rfl : 1 = n := Option.some.inj h; exact (by kernel_rfl : (Try.prog.info? 81).map (·.size) = some 1)
 | 82, n, h => by obtain rfl : 1 = n := Option.some.inj h; exact (by kernel_rfl : (Try.prog.info? 82).map (·.size) = some 1)
 | 83, n, h => by obtain rfl : 1 = n := Option.some.inj h; exact (by kernel_rfl : (Try.prog.info? 83).map (·.size) = some 1)
 | 84, n, h => by obtain rfl : 1 = n := Option.some.inj h; exact (by kernel_rfl : (Try.prog.info? 84).map (·.size) = some 1)
 | 85, n, h => by obtain rfl : 1 = n := Option.some.inj h; exact (by kernel_rfl : (Try.prog.info? 85).map (·.size) = some 1)
 | 86, n, h => by obtain rfl : 1 = n := Option.some.inj h; exact (by kernel_rfl : (Try.prog.info? 86).map (·.size) = some 1)
 | 87, n, h => by obtain rfl : 1 = n := Option.some.inj h; exact (by kernel_rfl : (Try.prog.info? 87).map (·.size) = some 1)
 | 88, n, h => by obtain rfl : 0 = n := Option.some.inj h; exact (by kernel_rfl : (Try.prog.info? 88).map (·.size) = some 0)
 | 89, n, h => by obtain rfl : 1 = n := Option.some.inj h; exact (by kernel_rfl : (Try.prog.info? 89).map (·.size) = some 1)
 | 90, n, h => by obtain rfl : 1 = n := Option.some.inj h; exact (by kernel_rfl : (Try.prog.info? 90).map (·.size) = some 1)
 | 91, n, h => by obtain rfl : 1 = n := Option.some.inj h; exact (by kernel_rfl : (Try.prog.info? 91).map (·.size) = some 1)
 | 92, n, h => by obtain rfl : 1 = n := Option.some.inj h; exact (by kernel_rfl : (Try.prog.info? 92).map (·.size) = some 1)
 | 93, n, h => by obtain rfl : 1 = n := Option.some.inj h; exact (by kernel_rfl : (Try.prog.info? 93).map (·.size) = some 1)
 | 94, n, h => by obtain rfl : 1 = n := Option.some.inj h; exact (by kernel_rfl : (Try.prog.info? 94).map (·.size) = some 1)
 | 95, n, h => by obtain rfl : 1 = n := Option.some.inj h; exact (by kernel_rfl : (Try.prog.info? 95).map (·.size) = some 1)
 | 96, n, h => by obtain rfl : 1 = n := Option.some.inj h; exact (by kernel_rfl : (Try.prog.info? 96).map (·.size) = some 1)
 | 97, n, h => by obtain rfl : 1 = n := Option.some.inj h; exact (by kernel_rfl : (Try.prog.info? 97).map (·.size) = some 1)
 | 98, n, h => by obtain rfl : 1 = n := Option.some.inj h; exact (by kernel_rfl : (Try.prog.info? 98).map (·.size) = some 1)
 | 99, n, h => by obtain rfl : 1 = n := Option.some.inj h; exact (by kernel_rfl : (Try.prog.info? 99).map (·.size) = some 1)
 | 100, n, h => by obtain rfl : 1 = n := Option.some.inj h; exact (by kernel_rfl : (Try.prog.info? 100).map (·.size) = some 1)
 | 101, n, h => by obtain rfl : 1 = n := Option.some.inj h; exact (by kernel_rfl : (Try.prog.info? 101).map (·.size) = some 1)
 | 102, n, h => by obtain rfl : 1 = n := Option.some.inj h; exact (by kernel_rfl : (Try.prog.info? 102).map (·.size) = some 1)
 | 103, n, h => by obtain rfl : 1 = n := Option.some.inj h; exact (by kernel_rfl : (Try.prog.info? 103).map (·.size) = some 1)
 | 104, n, h => by cases h
 | 105, n, h => by obtain rfl : 1 = n := Option.some.inj h; exact (by kernel_rfl : (Try.prog.info? 105).map (·.size) = some 1)
 | 106, n, h => by obtain rfl : 1 = n := Option.some.inj h; exact (by kernel_rfl : (Try.prog.info? 106).map (·.size) = some 1)
 | 107, n, h => by obtain rfl : 1 = n := Option.some.inj h; exact (by kernel_rfl : (Try.prog.info? 107).map (·.size) = some 1)
 | 108, n, h => by cases h
 | 109, n, h => by obtain rfl : 1 = n := Option.some.inj h; exact (by kernel_rfl : (Try.prog.info? 109).map (·.size) = some 1)
 | 110, n, h => by obtain rfl : 1 = n := Option.some.inj h; exact (by kernel_rfl : (Try.prog.info? 110).map (·.size) = some 1)
 | 111, n, h => by obtain rfl : 1 = n := Option.some.inj h; exact (by kernel_rfl : (Try.prog.info? 111).map (·.size) = some 1)
 | 112, n, h => by obtain rfl : 1 = n := Option.some.inj h; exact (by kernel_rfl : (Try.prog.info? 112).map (·.size) = some 1)
 | 113, n, h => by obtain rfl : 1 = n := Option.some.inj h; exact (by kernel_rfl : (Try.prog.info? 113).map (·.size) = some 1)
 | 114, n, h => by obtain rfl : 1 = n := Option.some.inj h; exact (by kernel_rfl : (Try.prog.info? 114).map (·.size) = some 1)
 | 115, n, h => by obtain rfl : 1 = n := Option.some.inj h; exact (by kernel_rfl : (Try.prog.info? 115).map (·.size) = some 1)
 | 116, n, h => by obtain rfl : 1 = n := Option.some.inj h; exact (by kernel_rfl : (Try.prog.info? 116).map (·.size) = some 1)
 | 117, n, h => by obtain rfl : 1 = n := Option.some.inj h; exact (by kernel_rfl : (Try.prog.info? 117).map (·.size) = some 1)
 | 118, n, h => by obtain rfl : 1 = n := Option.some.inj h; exact (by kernel_rfl : (Try.prog.info? 118).map (·.size) = some 1)
 | 119, n, h => by obtain rfl : 1 = n := Option.some.inj h; exact (by kernel_rfl : (Try.prog.info? 119).map (·.size) = some 1)
 | 120, n, h => by cases h
 | 121, n, h => by obtain rfl : 1 = n := Option.some.inj h; exact (by kernel_rfl : (Try.prog.info? 121).map (·.size) = some 1)
 | 122, n, h => by obtain rfl : 1 = n := Option.some.inj h; exact (by kernel_rfl : (Try.prog.info? 122).map (·.size) = some 1)
 | 123, n, h => by cases h
 | 124, n, h => by cases h
 | 125, n, h => by obtain rfl : 0 = n := Option.some.inj h; exact (by kernel_rfl : (Try.prog.info? 125).map (·.size) = some 0)
 | 126, n, h => by cases h
 | 127, n, h => by cases h
 | 128, n, h => by obtain rfl : 1 = n := Option.some.inj h; exact (by kernel_rfl : (Try.prog.info? 128).map (·.size) = some 1)
 | 129, n, h => by obtain rfl : 1 = n := Option.some.inj h; exact (by kernel_rfl : (Try.prog.info? 129).map (·.size) = some 1)
 | 130, n, h => by obtain rfl : 1 = n := Option.some.inj h; exact (by kernel_rfl : (Try.prog.info? 130).map (·.size) = some 1)
 | 131, n, h => by obtain rfl : 1 = n := Option.some.inj h; exact (by kernel_rfl : (Try.prog.info? 131).map (·.size) = some 1)
 | 132, n, h => by obtain rfl : 1 = n := Option.some.inj h; exact (by kernel_rfl : (Try.prog.info? 132).map (·.size) = some 1)
 | 133, n, h => by obtain rfl : 1 = n := Option.some.inj h; exact (by kernel_rfl : (Try.prog.info? 133).map (·.size) = some 1)
 | 134, n, h => by obtain rfl : 1 = n := Option.some.inj h; exact (by kernel_rfl : (Try.prog.info? 134).map (·.size) = some 1)
 | 135, n, h => by cases h
 | 136, n, h => by cases h
 | 137, n, h => by cases h
 | _ + 138, n, h => by cases h
theorem zcT_ok : ∀ t c, zcT t = some c → ∃ i z, Try.prog.info? t = some i ∧ i.zero = some z ∧ z.cells = (cc c).toArray
 | 0, c, h => by cases h
 | 1, c, h => by obtain rfl : _ = c := Option.some.inj h; exact zc_mk (by kernel_rfl)
 | 2, c, h => by obtain rfl : _ = c := Option.some.inj h; exact zc_mk (by kernel_rfl)
 | 3, c, h => by obtain rfl : _ = c := Option.some.inj h; exact zc_mk (by kernel_rfl)
 | 4, c, h => by obtain rfl : _ = c := Option.some.inj h; exact zc_mk (by kernel_rfl)
 | 5, c, h => by obtain rfl : _ = c := Option.some.inj h; exact zc_mk (by kernel_rfl)
 | 6, c, h => by obtain rfl : _ = c := Option.some.inj h; exact zc_mk (by kernel_rfl)
 | 7, c, h => by cases h
 | 8, c, h => by cases h
 | 9, c, h => by obtain rfl : _ = c := Option.some.inj h; exact zc_mk (by kernel_rfl)
 | 10, c, h => by obtain rfl : _ = c := Option.some.inj h; exact zc_mk (by kernel_rfl)
 | 11, c, h => by obtain rfl : _ = c := Option.some.inj h; exact zc_mk (by kernel_rfl)
 | 12, c, h => by obtain rfl : _ = c := Option.some.inj h; exact zc_mk (by kernel_rfl)
 | 13, c, h => by cases h
 | 14, c, h => by cases h
 | 15, c, h => by obtain rfl : _ = c := Option.some.inj h; exact zc_mk (by kernel_rfl)
 | 16, c, h => by obtain rfl : _ = c := Option.some.inj h; exact zc_mk (by kernel_rfl)
 | 17, c, h => by obtain rfl : _ = c := Option.some.inj h; exact zc_mk (by kernel_rfl)
 | 18, c, h => by cases h
 | 19, c, h => by cases h
 | 20, c, h => by obtain rfl : _ = c := Option.some.inj h; exact zc_mk (by kernel_rfl)
 | 21, c, h => by obtain rfl : _ = c := Option.some.inj h; exact zc_mk (by kernel_rfl)
 | 22, c, h => by obtain rfl : _ = c := Option.some.inj h; exact zc_mk (by kernel_rfl)
 | 23, c, h => by obtain rfl : _ = c := Option.some.inj h; exact zc_mk (by kernel_rfl)
 | 24, c, h => by obtain rfl : _ = c := Option.some.inj h; exact zc_mk (by kernel_rfl)
 | 25, c, h => by obtain rfl : _ = c := Option.some.inj h; exact zc_mk (by kernel_rfl)
 | 26, c, h => by obtain rfl : _ = c := Option.some.inj h; exact zc_mk (by kernel_rfl)
 | 27, c, h => by obtain rfl : _ = c := Option.some.inj h; exact zc_mk (by kernel_rfl)
 | 28, c, h => by obtain rfl : _ = c := Option.some.inj h; exact zc_mk (by kernel_rfl)
 | 29, c, h => by obtain rfl : _ = c := Option.some.inj h; exact zc_mk (by kernel_rfl)
 | 30, c, h => by obtain rfl : _ = c := Option.some.inj h; exact zc_mk (by kernel_rfl)
 | 31, c, h => by obtain rfl : _ = c := Option.some.inj h; exact zc_mk (by kernel_rfl)
 | 32, c, h => by obtain rfl : _ = c := Option.some.inj h; exact zc_mk (by kernel_rfl)
 | 33, c, h => by obtain rfl : _ = c := Option.some.inj h; exact zc_mk (by kernel_rfl)
 | 34, c, h => by obtain rfl : _ = c := Option.some.inj h; exact zc_mk (by kernel_rfl)
 | 35, c, h => by obtain rfl : _ = c := Option.some.inj h; exact zc_mk (by kernel_rfl)
 | 36, c, h => by obtain rfl : _ = c := Option.some.inj h; exact zc_mk (by kernel_rfl)
 | 37, c, h => by cases h
 | 38, c, h => by obtain rfl : _ = c := Option.some.inj h; exact zc_mk (by kernel_rfl)
 | 39, c, h => by obtain rfl : _ = c := Option.some.inj h; exact zc_mk (by kernel_rfl)
 | 40, c, h => by obtain rfl : _ = c := Option.some.inj h; exact zc_mk (by kernel_rfl)
 | 41, c, h => by obtain rfl : _ = c := Option.some.inj h; exact zc_mk (by kernel_rfl)
 | 42, c, h => by obtain rfl : _ = c := Option.some.inj h; exact zc_mk (by kernel_rfl)
 | 43, c, h => by obtain rfl : _ = c := Option.some.inj h; exact zc_mk (by kernel_rfl)
 | 44, c, h => by obtain rfl : _ = c := Option.some.inj h; exact zc_mk (by kernel_rfl)
 | 45, c, h => by obtain rfl : _ = c := Option.some.inj h; exact zc_mk (by kernel_rfl)
 | 46, c, h => by cases h
 | 47, c, h => by obtain rfl : _ = c := Option.some.inj h; exact zc_mk (by kernel_rfl)
 | 48, c, h => by obtain rfl : _ = c := Option.some.inj h; exact zc_mk (by kernel_rfl)
 | 49, c, h => by obtain rfl : _ = c := Option.some.inj h; exact zc_mk (by kernel_rfl)
 | 50, c, h => by obtain rfl : _ = c := Option.some.inj h; exact zc_mk (by kernel_rfl)
 | 51, c, h => by obtain rfl : _ = c := Option.some.inj h; exact zc_mk (by kernel_rfl)
 | 52, c, h => by obtain rfl : _ = c := Option.some.inj h; exact zc_mk (by kernel_rfl)
 | 53, c, h => by cases h
 | 54, c, h => by obtain rfl : _ = c := Option.some.inj h; exact zc_mk (by kernel_rfl)
 | 55, c, h => by obtain rfl : _ = c := Option.some.inj h; exact zc_mk (by kernel_rfl)
 | 56, c, h => by obtain rfl : _ = c := Option.some.inj h; exact zc_mk (by kernel_rfl)
 | 57, c, h => by obtain rfl : _ = c := Option.some.inj h; exact zc_mk (by kernel_rfl)
 | 58, c, h => by obtain rfl : _ = c := Option.some.inj h; exact zc_mk (by kernel_rfl)
 | 59, c, h => by cases h
 | 60, c, h => by obtain rfl : _ = c := Option.some.inj h; exact zc_mk (by kernel_rfl)
 | 61, c, h => by obtain rfl : _ = c := Option.some.inj h; exact zc_mk (by kernel_rfl)
 | 62, c, h => by obtain rfl : _ = c := Option.some.inj h; exact zc_mk (by kernel_rfl)
 | 63, c, h => by obtain rfl : _ = c := Option.some.inj h; exact zc_mk (by kernel_rfl)
 | 64, c, h => by obtain rfl : _ = c := Option.some.inj h; exact zc_mk (by kernel_rfl)
 | 65, c, h => by obtain rfl : _ = c := Option.some.inj h; exact zc_mk (by kernel_rfl)
 | 66, c, h => by obtain rfl : _ = c := Option.some.inj h; exact zc_mk (by kernel_rfl)
 | 67, c, h => by obtain rfl : _ = c := Option.some.inj h; exact zc_mk (by kernel_rfl)
 | 68, c, h => by obtain rfl : _ = c := Option.some.inj h; exact zc_mk (by kernel_rfl)
 | 69, c, h => by obtain rfl : _ = c := Option.some.inj h; exact zc_mk (by kernel_rfl)
 | 70, c, h => by obtain rfl : _ = c := Option.some.inj h; exact zc_mk (by kernel_rfl)
 | 71, c, h => by cases h
 | 72, c, h => by obtain rfl : _ = c := Option.some.inj h; exact zc_mk (by kernel_rfl)
 | 73, c, h => by obtain rfl : _ = c := Option.some.inj h; exact zc_mk (by kernel_rfl)
 | 74, c, h => by obtain rfl : _ = c := Option.some.inj h; exact zc_mk (by kernel_rfl)
 | 75, c, h => by obtain rfl : _ = c := Option.some.inj h; exact zc_mk (by kernel_rfl)
 | 76, c, h => by obtain rfl : _ = c := Option.some.inj h; exact zc_mk (by kernel_rfl)
 | 77, c, h => by obtain rfl : _ = c := Option.some.inj h; exact zc_mk (by kernel_rfl)
 | 78, c, h => by cases h
 | 79, c, h => by obtain rfl : _ = c := Option.some.inj h; exact zc_mk (by kernel_rfl)
 | 80, c, h => by obtain rfl : _ = c := Option.some.inj h; exact zc_mk (by kernel_rfl)
 | 81, c, h => by obtain rfl : _ = c := Option.some.inj h; exact zc_mk (by kernel_rfl)
 | 82, c, h => by obtain rfl : _ = c := Option.some.inj h; exact zc_mk (by kernel_rfl)
 | 83, c, h => by obtain rfl : _ = c := Option.some.inj h; exact zc_mk (by kernel_rfl)
 | 84, c, h => by obtain rfl : _ = c := Option.some.inj h; exact zc_mk (by kernel_rfl)
 | 85, c, h => by obtain rfl : _ = c := Option.some.inj h; exact zc_mk (by kernel_rfl)
 | 86, c, h => by obtain rfl : _ = c := Option.some.inj h; exact zc_mk (by kernel_rfl)
 | 87, c, h => by obtain rfl : _ = c := Option.some.inj h; exact zc_mk (by kernel_rfl)
 | 88, c, h => by obtain rfl : _ = c := Option.some.inj h; exact zc_mk (by kernel_rfl)
 | 89, c, h => by obtain rfl : _ = c := Option.some.inj h; exact zc_mk (by kernel_rfl)
 | 90, c, h => by obtain rfl : _ = c := Option.some.inj h; exact zc_mk (by kernel_rfl)
 | 91, c, h => by obtain rfl : _ = c := Option.some.inj h; exact zc_mk (by kernel_rfl)
 | 92, c, h => by obtain rfl : _ = c := Option.some.inj h; exact zc_mk (by kernel_rfl)
 | 93, c, h => by obtain rfl : _ = c := Option.some.inj h; exact zc_mk (by kernel_rfl)
 | 94, c, h => by obtain rfl : _ = c := Option.some.inj h; exact zc_mk (by kernel_rfl)
 | 95, c, h => by obtain rfl : _ = c := Option.some.inj h; exact zc_mk (by kernel_rfl)
 | 96, c, h => by obtain rfl : _ = c := Option.some.inj h; exact zc_mk (by kernel_rfl)
 | 97, c, h => by obtain rfl : _ = c := Option.some.inj h; exact zc_mk (by kernel_rfl)
 | 98, c, h => by obtain rfl : _ = c := Option.some.inj h; exact zc_mk (by kernel_rfl)
 | 99, c, h => by obtain rfl : _ = c := Option.some.inj h; exact zc_mk (by kernel_rfl)
 | 100, c, h => by obtain rfl : _ = c := Option.some.inj h; exact zc_mk (by kernel_rfl)
 | 101, c, h => by obtain rfl : _ = c := Option.some.inj h; exact zc_mk (by kernel_rfl)
 | 102, c, h => by obtain rfl : _ = c := Option.some.inj h; exact zc_mk (by kernel_rfl)
 | 103, c, h => by obtain rfl : _ = c := Option.some.inj h; exact zc_mk (by kernel_rfl)
 | 104, c, h => by cases h
 | 105, c, h => by obtain rfl : _ = c := Option.some.inj h; exact zc_mk (by kernel_rfl)
 | 106, c, h => by obtain rfl : _ = c := Option.some.inj h; exact zc_mk (by kernel_rfl)
 | 107, c, h => by obtain rfl : _ = c := Option.some.inj h; exact zc_mk (by kernel_rfl)
 | 108, c, h => by cases h
 | 109, c, h => by obtain rfl : _ = c := Option.some.inj h; exact zc_mk (by kernel_rfl)
 | 110, c, h => by obtain rfl : _ = c := Option.some.inj h; exact zc_mk (by kernel_rfl)
 | 111, c, h => by obtain rfl : _ = c := Option.some.inj h; exact zc_mk (by kernel_rfl)
 | 112, c, h => by obtain rfl : _ = c := Option.some.inj h; exact zc_mk (by kernel_rfl)
 | 113, c, h => by obtain rfl : _ = c := Option.some.inj h; exact zc_mk (by kernel_rfl)
 | 114, c, h => by obtain rfl : _ = c := Option.some.inj h; exact zc_mk (by kernel_rfl)
 | 115, c, h => by obtain rfl : _ = c := Option.some.inj h; exact zc_mk (by kernel_rfl)
 | 116, c, h => by obtain rfl : _ = c := Option.some.inj h; exact zc_mk (by kernel_rfl)
 | 117, c, h => by obtain rfl : _ = c := Option.some.inj h; exact zc_mk (by kernel_rfl)
 | 118, c, h => by obtain rfl : _ = c := Option.some.inj h; exact zc_mk (by kernel_rfl)
 | 119, c, h => by obtain rfl : _ = c := Option.some.inj h; exact zc_mk (by kernel_rfl)
 | 120, c, h => by cases h
 | 121, c, h => by obtain rfl : _ = c := Option.some.inj h; exact zc_mk (by kernel_rfl)
 | 122, c, h => by obtain rfl : _ = c := Option.some.inj h; exact zc_mk (by kernel_rfl)
 | 123, c, h => by cases h
 | 124, c, h => by cases h
 | 125, c, h => by cases h
 | 126, c, h => by cases h
 | 127, c, h => by cases h
 | 128, c, h => by obtain rfl : _ = c := Option.some.inj h; exact zc_mk (by kernel_rfl)
 | 129, c, h => by obtain rfl : _ = c := Option.some.inj h; exact zc_mk (by kernel_rfl)
 | 130, c, h => by obtain rfl : _ = c := Option.some.inj h; exact zc_mk (by kernel_rfl)
 | 131, c, h => by obtain rfl : _ = c := Option.some.inj h; exact zc_mk (by kernel_rfl)
 | 132, c, h => by obtain rfl : _ = c := Option.some.inj h; exact zc_mk (by kernel_rfl)
 | 133, c, h => by obtain rfl : _ = c := Option.some.inj h; exact zc_mk (by kernel_rfl)
 | 134, c, h => by obtain rfl : _ = c := Option.some.inj h; exact zc_mk (by kernel_rfl)
 | 135, c, h => by cases h
 | 136, c, h => by cases h
 | 137, c, h => by cases h
 | _ + 138, c, h => by cases h
theorem zrT_ok : ∀ t, zrT t ≠ [] → ∃ i z, Try.prog.info? t = some i ∧ i.zero = some z ∧ z.cells = (cvs (zrT t)).toArray
 | 0, h => absurd rfl h
 | 1, h => absurd rfl h
 | 2, h => absurd rfl h
 | 3, h => absurd rfl h
 | 4, h => absurd rfl h
 | 5, h => absurd rfl h
 | 6, h => absurd rfl h
 | 7, h => absurd rfl h
 | 8, h => absurd rfl h
 | 9, h => absurd rfl h
 | 10, h => absurd rfl h
 | 11, h => absurd rfl h
 | 12, h => absurd rfl h
 | 13, h => absurd rfl h
 | 14, h => absurd rfl h
 | 15, h => absurd rfl h
 | 16, h => absurd rfl h
 | 17, h => absurd rfl h
 | 18, h => absurd rfl h
 | 19, h => absurd rfl h
 | 20, h => absurd rfl h
 | 21, h => absurd rfl h
 | 22, h => absurd rfl h
 | 23, _ => zr_mk (by kernel_rfl)
 | 24, _ => zr_mk (by kernel_rfl)
 | 25, h => absurd rfl h
 | 26, _ => zr_mk (by kernel_rfl)
 | 27, _ => zr_mk (by kernel_rfl)
 | 28, h => absurd rfl h
 | 29, h => absurd rfl h
 | 30, h => absurd rfl h
 | 31, h => absurd rfl h
 | 32, h => absurd rfl h
 | 33, h => absurd rfl h
 | 34, h => absurd rfl h
 | 35, h => absurd rfl h
 | 36, h => absurd rfl h
 | 37, h => absurd rfl h
 | 38, _ => zr_mk (by kernel_rfl)
 | 39, h => absurd rfl h
 | 40, h => absurd rfl h
 | 41, h => absurd rfl h
 | 42, h => absurd rfl h
 | 43, h => absurd rfl h
 | 44, h => absurd rfl h
 | 45, h => absurd rfl h
 | 46, h => absurd rfl h
 | 47, _ => zr_mk (by kernel_rfl)
 | 48, h => absurd rfl h
 | 49, h => absurd rfl h
 | 50, h => absurd rfl h
 | 51, h => absurd rfl h
 | 52, h => absurd rfl h
 | 53, h => absurd rfl h
 | 54, h => absurd rfl h
 | 55, h => absurd rfl h
 | 56, h => absurd rfl h
 | 57, h => absurd rfl h
 | 58, h => absurd rfl h
 | 59, h => absurd rfl h
 | 60, h => absurd rfl h
 | 61, h => absurd rfl h
 | 62, h => absurd rfl h
 | 63, h => absurd rfl h
 | 64, h => absurd rfl h
 | 65, h => absurd rfl h
 | 66, h => absurd rfl h
 | 67, _ => zr_mk (by kernel_rfl)
 | 68, _ => zr_mk (by kernel_rfl)
 | 69, h => absurd rfl h
 | 70, h => absurd rfl h
 | 71, h => absurd rfl h
 | 72, _ => zr_mk (by kernel_rfl)
 | 73, h => absurd rfl h
 | 74, h => absurd rfl h
 | 75, h => absurd rfl h
 | 76, h => absurd rfl h
 | 77, h => absurd rfl h
 | 78, h => absurd rfl h
 | 79, h => absurd rfl h
 | 80, h => absurd rfl h
 | 81, h => absurd rfl h
 | 82, h => absurd rfl h
 | 83, h => absurd rfl h
 | 84, h => absurd rfl h
 | 85, h => absurd rfl h
 | 86, h => absurd rfl h
 | 87, h => absurd rfl h
 | 88, h => absurd rfl h
 | 89, h => absurd rfl h
 | 90, h => absurd rfl h
 | 91, h => absurd rfl h
 | 92, h => absurd rfl h
 | 93, h => absurd rfl h
 | 94, h => absurd rfl h
 | 95, h => absurd rfl h
 | 96, h => absurd rfl h
 | 97, h => absurd rfl h
 | 98, h => absurd rfl h
 | 99, h => absurd rfl h
 | 100, h => absurd rfl h
 | 101, h => absurd rfl h
 | 102, h => absurd rfl h
 | 103, h => absurd rfl h
 | 104, h => absurd rfl h
 | 105, h => absurd rfl h
 | 106, h => absurd rfl h
 | 107, h => absurd rfl h
 | 108, h => absurd rfl h
 | 109, h => absurd rfl h
 | 110, h => absurd rfl h
 | 111, h => absurd rfl h
 | 112, h => absurd rfl h
 | 113, h => absurd rfl h
 | 114, h => absurd rfl h
 | 115, h => absurd rfl h
 | 116, h => absurd rfl h
 | 117, h => absurd rfl h
 | 118, h => absurd rfl h
 | 119, h => absurd rfl h
 | 120, h => absurd rfl h
 | 121, h => absurd rfl h
 | 122, h => absurd rfl h
 | 123, h => absurd rfl h
 | 124, h => absurd rfl h
 | 125, h => absurd rfl h
 | 126, h => absurd rfl h
 | 127, h => absurd rfl h
 | 128, h => absurd rfl h
 | 129, h => absurd rfl h
 | 130, h => absurd rfl h
 | 131, h => absurd rfl h
 | 132, h => absurd rfl h
 | 133, h => absurd rfl h
 | 134, h => absurd rfl h
 | 135, h => absurd rfl h
 | 136, h => absurd rfl h
 | 137, h => absurd rfl h
 | _ + 138, h => absurd rfl h
theorem b8T_ok : ∀ e, tyT e = .int .u8 → ∃ i, Try.prog.info? e = some i ∧ i.zero = some (.int .u8 0) ∧ i.size = 1 ∧ i.bytes = 1
 | 0, h => by cases h
 | 1, h => by cases h
 | 2, h => by cases h
 | 3, h => by cases h
 | 4, h => by cases h
 | 5, _ => b8_mk (by kernel_rfl)
 | 6, _ => b8_mk (by kernel_rfl)
 | 7, h => by cases h
 | 8, h => by cases h
 | 9, h => by cases h
 | 10, h => by cases h
 | 11, h => by cases h
 | 12, h => by cases h
 | 13, h => by cases h
 | 14, h => by cases h
 | 15, h => by cases h
 | 16, h => by cases h
 | 17, h => by cases h
 | 18, h => by cases h
 | 19, h => by cases h
 | 20, h => by cases h
 | 21, h => by cases h
 | 22, h => by cases h
 | 23, h => by cases h
 | 24, h => by cases h
 | 25, h => by cases h
 | 26, h => by cases h
 | 27, h => by cases h
 | 28, h => by cases h
 | 29, h => by cases h
 | 30, h => by cases h
 | 31, h => by cases h
 | 32, h => by cases h
 | 33, h => by cases h
 | 34, h => by cases h
 | 35, h => by cases h
 | 36, h => by cases h
 | 37, h => by cases h
 | 38, h => by cases h
 | 39, h => by cases h
 | 40, h => by cases h
 | 41, h => by cases h
 | 42, h => by cases h
 | 43, h => by cases h
 | 44, h => by cases h
 | 45, h => by cases h
 | 46, h => by cases h
 | 47, h => by cases h
 | 48, h => by cases h
 | 49, h => by cases h
 | 50, h => by cases h
 | 51, h => by cases h
 | 52, h => by cases h
 | 53, h => by cases h
 | 54, h => by cases h
 | 55, h => by cases h
 | 56, h => by cases h
 | 57, h => by cases h
 | 58, h => by cases h
 | 59, h => by cases h
 | 60, h => by cases h
 | 61, h => by cases h
 | 62, h => by cases h
 | 63, h => by cases h
 | 64, h => by cases h
 | 65, h => by cases h
 | 66, h => by cases h
 | 67, h => by cases h
 | 68, h => by cases h
 | 69, h => by cases h
 | 70, h => by cases h
 | 71, h => by cases h
 | 72, h => by cases h
 | 73, h => by cases h
 | 74, h => by cases h
 | 75, h => by cases h
 | 76, h => by cases h
 | 77, h => by cases h
 | 78, h => by cases h
 | 79, h => by cases h
 | 80, h => by cases h
 | 81, h => by cases h
 | 82, h => by cases h
 | 83, h => by cases h
 | 84, h => by cases h
 | 85, h => by cases h
 | 86, h => by cases h
 | 87, h => by cases h
 | 88, h => by cases h
 | 89, h => by cases h
 | 90, h => by cases h
 | 91, h => by cases h
 | 92, h => by cases h
 | 93, h => by cases h
 | 94, h => by cases h
 | 95, h => by cases h
 | 96, h => by cases h
 | 97, h => by cases h
 | 98, h => by cases h
 | 99, h => by cases h
 | 100, h => by cases h
 | 101, h => by cases h
 | 102, h => by cases h
 | 103, h => by cases h
 | 104, h => by cases h
 | 105, h => by cases h
 | 106, h => by cases h
 | 107, h => by cases h
 | 108, h => by cases h
 | 109, h => by cases h
 | 110, h => by cases h
 | 111, h => by cases h
 | 112, h => by cases h
 | 113, h => by cases h
 | 114, h => by cases h
 | 115, h => by cases h
 | 116, h => by cases h
 | 117, h => by cases h
 | 118, h => by cases h
 | 119, h => by cases h
 | 120, h => by cases h
 | 121, h => by cases h
 | 122, h => by cases h
 | 123, h => by cases h
 | 124, h => by cases h
 | 125, h => by cases h
 | 126, h => by cases h
 | 127, h => by cases h
 | 128, h => by cases h
 | 129, _ => b8_mk (by kernel_rfl)
 | 130, _ => b8_mk (by kernel_rfl)
 | 131, h => by cases h
 | 132, h => by cases h
 | 133, h => by cases h
 | 134, h => by cases h
 | 135, h => by cases h
 | 136, h => by cases h
 | 137, h => by cases h
 | _ + 138, h => by cases h
theorem ty_3 : T0.ty 3 = .int .i64 := rfl
theorem zc_3 : T0.zc 3 = some (.ints .i64 [0]) := rfl
theorem ty_4 : T0.ty 4 = .bool := rfl
theorem zc_4 : T0.zc 4 = some (.cells [.bool false]) := rfl
theorem ty_5 : T0.ty 5 = .int .u8 := rfl
theorem zc_5 : T0.zc 5 = some (.ints .u8 [0]) := rfl
theorem ty_9 : T0.ty 9 = .str := rfl
theorem zc_9 : T0.zc 9 = some (.cells [.str []]) := rfl
theorem ty_22 : T0.ty 22 = .sl 47 32 136 := rfl
theorem zc_22 : T0.zc 22 = some (.cells [.nilsl]) := rfl
theorem ty_24 : T0.ty 24 = .arr 20 5 1 (some .u8) := rfl
theorem zc_24 : T0.zc 24 = some (.ints .u8 (List.replicate 20 0)) := rfl
theorem zr_24 : T0.zr 24 = [.int .u8 0, .int .u8 0, .int .u8 0, .int .u8 0, .int .u8 0, .int .u8 0, .int .u8 0, .int .u8 0, .int .u8 0, .int .u8 0, .int .u8 0, .int .u8 0, .int .u8 0, .int .u8 0, .int .u8 0, .int .u8 0, .int .u8 0, .int .u8 0, .int .u8 0, .int .u8 0] := rfl
theorem ty_25 : T0.ty 25 = .int .u64 := rfl
theorem zc_25 : T0.zc 25 = some (.ints .u64 [0]) := rfl
theorem ty_27 : T0.ty 27 = .word := rfl
theorem zc_27 : T0.zc 27 = some (.words [0]) := rfl
theorem zr_27 : T0.zr 27 = [.int .u64 0, .int .u64 0, .int .u64 0, .int .u64 0] := rfl
theorem ty_32 : T0.ty 32 = .sl 3 1 8 := rfl
theorem zc_32 : T0.zc 32 = some (.cells [.nilsl]) := rfl
theorem ty_36 : T0.ty 36 = .sl 72 25 56 := rfl
theorem zc_36 : T0.zc 36 = some (.cells [.nilsl]) := rfl
theorem ty_38 : T0.ty 38 = .struct 2 [(0, 1, 36), (1, 1, 36)] := rfl
theorem zc_38 : T0.zc 38 = some (.cells [.nilsl, .nilsl]) := rfl
theorem zr_38 : T0.zr 38 = [.nilsl, .nilsl] := rfl
theorem ty_43 : T0.ty 43 = .sl 5 1 1 := rfl
theorem zc_43 : T0.zc 43 = some (.cells [.nilsl]) := rfl
theorem ty_45 : T0.ty 45 = .int .u16 := rfl
theorem zc_45 : T0.zc 45 = some (.ints .u16 [0]) := rfl
theorem ty_47 : T0.ty 47 = .struct 32 [(0, 1, 5), (1, 1, 3), (2, 20, 24), (22, 4, 27), (26, 4, 27), (30, 1, 43), (31, 1, 45)] := rfl
theorem zc_47 : T0.zc 47 = some (.cells [.int .u8 0, .int .i64 0, .int .u8 0, .int .u8 0, .int .u8 0, .int .u8 0, .int .u8 0, .int .u8 0, .int .u8 0, .int .u8 0, .int .u8 0, .int .u8 0, .int .u8 0, .int .u8 0, .int .u8 0, .int .u8 0, .int .u8 0, .int .u8 0, .int .u8 0, .int .u8 0, .int .u8 0, .int .u8 0, .int .u64 0, .int .u64 0, .int .u64 0, .int .u64 0, .int .u64 0, .int .u64 0, .int .u64 0, .int .u64 0, .nilsl, .int .u16 0]) := rfl
theorem zr_47 : T0.zr 47 = [.int .u8 0, .int .i64 0, .int .u8 0, .int .u8 0, .int .u8 0, .int .u8 0, .int .u8 0, .int .u8 0, .int .u8 0, .int .u8 0, .int .u8 0, .int .u8 0, .int .u8 0, .int .u8 0, .int .u8 0, .int .u8 0, .int .u8 0, .int .u8 0, .int .u8 0, .int .u8 0, .int .u8 0, .int .u8 0, .int .u64 0, .int .u64 0, .int .u64 0, .int .u64 0, .int .u64 0, .int .u64 0, .int .u64 0, .int .u64 0, .nilsl, .int .u16 0] := rfl
theorem ty_57 : T0.ty 57 = .cell := rfl
theorem zc_57 : T0.zc 57 = some (.cells [.raw .nilFunc]) := rfl
theorem ty_63 : T0.ty 63 = .cell := rfl
theorem zc_63 : T0.zc 63 = some (.cells [.raw .nilFunc]) := rfl
theorem ty_66 : T0.ty 66 = .map ck_72 (.agg []) := rfl
theorem zc_66 : T0.zc 66 = some (.cells [.raw (.map none)]) := rfl
theorem ty_68 : T0.ty 68 = .struct 2 [(0, 1, 66), (1, 1, 66)] := rfl
theorem zc_68 : T0.zc 68 = some (.cells [.raw (.map none), .raw (.map none)]) := rfl
theorem zr_68 : T0.zr 68 = [.raw (.map none), .raw (.map none)] := rfl
theorem ty_72 : T0.ty 72 = .struct 25 [(0, 20, 24), (20, 1, 4), (21, 4, 27)] := rfl
theorem zc_72 : T0.zc 72 = some (.cells [.int .u8 0, .int .u8 0, .int .u8 0, .int .u8 0, .int .u8 0, .int .u8 0, .int .u8 0, .int .u8 0, .int .u8 0, .int .u8 0, .int .u8 0, .int .u8 0, .int .u8 0, .int .u8 0, .int .u8 0, .int .u8 0, .int .u8 0, .int .u8 0, .int .u8 0, .int .u8 0, .bool false, .int .u64 0, .int .u64 0, .int .u64 0, .int .u64 0]) := rfl
theorem lv_72 : T0.lv 72 = some [.i .u8, .i .u8, .i .u8, .i .u8, .i .u8, .i .u8, .i .u8, .i .u8, .i .u8, .i .u8, .i .u8, .i .u8, .i .u8, .i .u8, .i .u8, .i .u8, .i .u8, .i .u8, .i .u8, .i .u8, .b, .i .u64, .i .u64, .i .u64, .i .u64] := rfl
theorem zr_72 : T0.zr 72 = [.int .u8 0, .int .u8 0, .int .u8 0, .int .u8 0, .int .u8 0, .int .u8 0, .int .u8 0, .int .u8 0, .int .u8 0, .int .u8 0, .int .u8 0, .int .u8 0, .int .u8 0, .int .u8 0, .int .u8 0, .int .u8 0, .int .u8 0, .int .u8 0, .int .u8 0, .int .u8 0, .bool false, .int .u64 0, .int .u64 0, .int .u64 0, .int .u64 0] := rfl
theorem ty_80 : T0.ty 80 = .int .u64 := rfl
theorem zc_80 : T0.zc 80 = some (.ints .u64 [0]) := rfl
theorem ty_86 : T0.ty 86 = .cell := rfl
theorem zc_86 : T0.zc 86 = some (.cells [.raw .nilFunc]) := rfl
theorem ty_88 : T0.ty 88 = .struct 0 [] := rfl
theorem zc_88 : T0.zc 88 = some (.cells []) := rfl
theorem zr_88 : T0.zr 88 = [] := rfl
theorem ty_89 : T0.ty 89 = .cell := rfl
theorem zc_89 : T0.zc 89 = some (.cells [.raw .nilFunc]) := rfl
theorem ty_103 : T0.ty 103 = .int .i64 := rfl
theorem zc_103 : T0.zc 103 = some (.ints .i64 [0]) := rfl
theorem ty_111 : T0.ty 111 = .int .u32 := rfl
theorem zc_111 : T0.zc 111 = some (.ints .u32 [0]) := rfl
theorem ty_113 : T0.ty 113 = .int .u64 := rfl
theorem zc_113 : T0.zc 113 = some (.ints .u64 [0]) := rfl
theorem ty_117 : T0.ty 117 = .ptr 3 := rfl
theorem zc_117 : T0.zc 117 = some (.cells [.raw (.pointer none)]) := rfl
set_option linter.defProp false in
def tabs := And.intro @cc_72 <| And.intro @cs_72 <| And.intro @al8_72 <| And.intro @ty_3 <| And.intro @zc_3 <| And.intro @ty_4 <| And.intro @zc_4 <| And.intro @ty_5 <| And.intro @zc_5 <| And.intro @ty_9 <| And.intro @zc_9 <| And.intro @ty_22 <| And.intro @zc_22 <| And.intro @ty_24 <| And.intro @zc_24 <| And.intro @zr_24 <| And.intro @ty_25 <| And.intro @zc_25 <| And.intro @ty_27 <| And.intro @zc_27 <| And.intro @zr_27 <| And.intro @ty_32 <| And.intro @zc_32 <| And.intro @ty_36 <| And.intro @zc_36 <| And.intro @ty_38 <| And.intro @zc_38 <| And.intro @zr_38 <| And.intro @ty_43 <| And.intro @zc_43 <| And.intro @ty_45 <| And.intro @zc_45 <| And.intro @ty_47 <| And.intro @zc_47 <| And.intro @zr_47 <| And.intro @ty_57 <| And.intro @zc_57 <| And.intro @ty_63 <| And.intro @zc_63 <| And.intro @ty_66 <| And.intro @zc_66 <| And.intro @ty_68 <| And.intro @zc_68 <| And.intro @zr_68 <| And.intro @ty_72 <| And.intro @zc_72 <| And.intro @lv_72 <| And.intro @zr_72 <| And.intro @ty_80 <| And.intro @zc_80 <| And.intro @ty_86 <| And.intro @zc_86 <| And.intro @ty_88 <| And.intro @zc_88 <| And.intro @zr_88 <| And.intro @ty_89 <| And.intro @zc_89 <| And.intro @ty_103 <| And.intro @zc_103 <| And.intro @ty_111 <| And.intro @zc_111 <| And.intro @ty_113 <| And.intro @zc_113 <| And.intro @ty_117 <| @zc_117
theorem T0_ok : TabOk Try.prog T0 := { b8 := b8T_ok, sz := szT_ok, zc := zcT_ok, ty := tyT_ok, gl := glT_ok, zr := zrT_ok, lv := lvT_ok }
end Go.Proofs.Ytpebhddacbdicaa

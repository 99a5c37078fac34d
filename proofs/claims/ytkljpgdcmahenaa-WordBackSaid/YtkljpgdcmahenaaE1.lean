/-
  A symbolic walk of my own: symbolic values, blocks of memory, and what an operation that leaves the world alone comes to.
-/
import Derived.WalkKit
import Derived.WalkSpells
import Derived.WalkLawsBesides
import Derived.BigQuiet
import Derived.Test.YtkljpgdcmahenaaNum
namespace Go.Proofs.Ytkljpgdcmahenaa
set_option linter.unusedSimpArgs false
set_option linter.unusedVariables false
open Go.RowKit

/-- How a type's values lie in memory, as far as the walk asks. -/
inductive Ty where
  | int (k : IntKind)
  | bool
  | str
  | word
  | arr (n : Nat) (e : TypeId) (es : Nat) (ek : Option IntKind)
  | struct (size : Nat) (fs : List (Nat × TypeId))
  | sl (e : TypeId) (es eb : Nat)
  | ptr (e : TypeId)
  | cell
  | other

/-- A symbolic value. -/
inductive SV where
  | int (k : IntKind) (n : Int)
  | bool (b : Bool)
  | str (s : ByteArray)
  | word (a : Nat)
  | ints (k : IntKind) (xs : List Int)
  | ptr (nm b base i sz j : Nat)
  | sl (nm : Nat) (a : Option Addr) (st st0 es len cap : Nat)
  | own (nm : Nat) (v : Value) (n : Nat)
  | nilsl
  | raw (v : Value)
  | agg (cs : List SV)
  | tup (vs : List SV)
  | fn (f : Fn) (first cap : List SV)
  | undef

def wcs (a : Nat) : List Value := [.int .u64 (lm a 0 : Nat), .int .u64 (lm a 1 : Nat), .int .u64 (lm a 2 : Nat), .int .u64 (lm a 3 : Nat)]
mutual
/-- What a symbolic value stands for. -/
def cv : SV → Value
  | .int k n => .int k n
  | .bool b => .bool b
  | .str s => .string s
  | .word a => .agg (wcs a).toArray
  | .ints k xs => .agg (xs.map (Value.int k)).toArray
  | .ptr _ b base i sz j => .pointer (some ⟨b, base + (i * sz + j), none⟩)
  | .sl _ a st st0 es len cap => .slice (a.map (·.add ((if cap = 0 then st0 else st) * es))) len cap
  | .own _ v _ => v
  | .nilsl => .slice none 0 0
  | .raw v => v
  | .agg cs => .agg (cvs cs).toArray
  | .tup vs => .tuple (cvs vs).toArray
  | .fn f a c => .func f (cvs a).toArray (cvs c).toArray
  | .undef => undef
def cvs : List SV → List Value
  | [] => []
  | x :: l => cv x :: cvs l
end
theorem cvs_eq (l : List SV) : cvs l = l.map cv := by induction l <;> simp_all [cvs]

/-- What lies in a block, from its head on. -/
inductive Con where
  | ints (k : IntKind) (xs : List Int)
  | words (xs : List Nat)
  | cells (l : List SV)
  | rows (n : Nat) (xs : List (List SV))
def cc : Con → List Value
  | .ints k xs => xs.map (Value.int k)
  | .words xs => xs.flatMap wcs
  | .cells l => cvs l
  | .rows _ xs => xs.flatMap cvs

/-- The tables: a type's shape, and its zero; what stands for a package's variable. -/
structure Tab where
  ty : TypeId → Ty
  zr : TypeId → List SV
  zc : TypeId → Option Con
  gl : Nat → SV
/-- A part of memory that is known. -/
inductive Blk where
  | blk (b : Nat) (t : TypeId) (con : Con)
  | own (v : Value) (n : Nat) (t : TypeId) (es : Nat) (con : Con)
  | ro (a : Option Addr) (con : Con)
  | gone
def Blk.num? : Blk → Option Nat
  | .blk b _ _ => some b
  | .own v _ _ _ _ => v.ownBlock
  | _ => none
def Blk.ok (w0 : World) (B : List Nat) (w : World) : Blk → Prop
  | .blk b t con => w.heap[b]? = some (.cells (cc con).toArray t (0, 0)) ∧ (w0.heap.size ≤ b ∨ b ∈ B)
  | .own v n t es con => w.ownsRow w0.heap.size t es v n (cc con)
  | .ro a con => ∀ j u, (cc con)[j]? = some u → ∃ b off, a = some ⟨b, off, none⟩ ∧ b < w0.heap.size ∧ b ∉ B ∧ w.cell? ⟨b, off + j, none⟩ = some u
  | .gone => True
/-- The world: as it was ahead of the call, but for new memory and for the blocks B; and what is known of the parts m. -/
structure MemOk (w0 : World) (B : List Nat) (m : List Blk) (w : World) : Prop where
  os : w.os = w0.os
  tape : w.tape = w0.tape
  output : w.output = w0.output
  size : w0.heap.size ≤ w.heap.size
  old : ∀ k, k < w0.heap.size → k ∉ B → w.heap[k]? = w0.heap[k]?
  each : ∀ e ∈ m, e.ok w0 B w
  nodup : (m.filterMap Blk.num?).Nodup

def sget : List SV → Nat → SV
  | [], _ => .undef
  | x :: _, 0 => x
  | _ :: l, n + 1 => sget l n
def sset : List SV → Nat → SV → List SV
  | [], _, _ => []
  | _ :: l, 0, v => v :: l
  | x :: l, n + 1, v => x :: sset l n v
def bget : List Blk → Nat → Blk
  | [], _ => .gone
  | x :: _, 0 => x
  | _ :: l, n + 1 => bget l n
def bset : List Blk → Nat → Blk → List Blk
  | [], _, _ => []
  | _ :: l, 0, v => v :: l
  | x :: l, n + 1, v => x :: bset l n v
theorem cvs_sget : ∀ (l : List SV) (n : Nat), (cvs l).toArray.getD n undef = cv (sget l n)
  | [], n => by simp [cvs, sget, cv]
  | x :: l, 0 => by simp [cvs, sget]
  | x :: l, n + 1 => by
    have h := cvs_sget l n
    simp [cvs, sget, Array.getD_eq_getD_getElem?] at h ⊢
    exact h
theorem cvs_sset : ∀ (l : List SV) (n : Nat) (v : SV), (cvs l).toArray.setIfInBounds n (cv v) = (cvs (sset l n v)).toArray
  | [], n, v => by simp [cvs, sset]
  | x :: l, 0, v => by simp [cvs, sset]
  | x :: l, n + 1, v => by
    have h := cvs_sset l n v
    simp [cvs, sset] at h ⊢
    exact h
theorem cvs_get? : ∀ (l : List SV) (n : Nat) (v : Value), (cvs l)[n]? = some v → cv (sget l n) = v
  | [], n, v, h => by simp [cvs] at h
  | x :: l, 0, v, h => by simpa [cvs, sget] using h
  | x :: l, n + 1, v, h => by simp [cvs] at h; simpa [sget] using cvs_get? l n v h
theorem bget_mem : ∀ {l : List Blk} {n : Nat} {e : Blk}, bget l n = e → e ≠ .gone → e ∈ l
  | [], _, _, h, hn => absurd h.symm hn
  | _ :: _, 0, _, h, _ => h ▸ List.mem_cons_self
  | _ :: _, _ + 1, _, h, hn => List.mem_cons_of_mem _ (bget_mem (l := _) h hn)

/-- A constant. -/
def ofV1 : Value → SV
  | .int k n => .int k n
  | .bool b => .bool b
  | .string s => .str s
  | v => .raw v
def ofV : Value → SV
  | .int k n => .int k n
  | .bool b => .bool b
  | .string s => .str s
  | .slice none 0 0 => .nilsl
  | .agg cs => .agg (cs.toList.map ofV1)
  | v => .raw v
theorem cv_ofV1 (v : Value) : cv (ofV1 v) = v := by cases v <;> rfl
theorem cv_ofV (v : Value) : cv (ofV v) = v := by
  unfold ofV
  split <;> first | rfl | skip
  rename_i cs
  simp only [cv, cvs_eq, List.map_map]
  have : (cv ∘ ofV1) = id := funext cv_ofV1
  rw [this]; simp
def ev (T : Tab) (env : List SV) : Operand → SV
  | .tmp t => sget env t
  | .const v => ofV v
  | .global g => T.gl g
  | .func f => .fn (.func f) [] []
def evs (T : Tab) (env : List SV) : List Operand → List SV
  | [] => []
  | x :: l => ev T env x :: evs T env l
/-- The frame of an act. -/
def Fr (env : List SV) (a : Act) : Prop := a.tmps = (cvs env).toArray
theorem Fr.ev {T : Tab} (hT : ∀ g, cv (T.gl g) = .pointer (some ⟨g, 0, none⟩)) {env : List SV} {a : Act} (h : Fr env a) (x : Operand) : a.eval x = cv (ev T env x) := by
  cases x with
  | tmp t => simp only [Act.eval, Go.Proofs.Ytkljpgdcmahenaa.ev]; rw [h, cvs_sget]
  | const v => simp only [Act.eval, Go.Proofs.Ytkljpgdcmahenaa.ev, cv_ofV]
  | global g => exact (hT g).symm
  | func f => rfl
theorem Fr.evs {T : Tab} (hT : ∀ g, cv (T.gl g) = .pointer (some ⟨g, 0, none⟩)) {env : List SV} {a : Act} (h : Fr env a) : ∀ (l : List Operand), l.map a.eval = cvs (evs T env l)
  | [] => rfl
  | x :: l => by simp [Go.Proofs.Ytkljpgdcmahenaa.evs, cvs, h.ev hT, Fr.evs hT h l]
def upd (env : List SV) (d : Option Tmp) (v : SV) : List SV := match d with | some t => sset env t v | none => env
theorem Fr.put {env : List SV} {a : Act} (h : Fr env a) (d : Option Tmp) (v : SV) : Fr (upd env d v) (a.put d (cv v)) := by
  cases d with
  | none => exact h
  | some t => unfold Fr at *; simp only [upd, Act.put]; rw [h, cvs_sset]

/-! ### Numbers -/
def inK : IntKind → Int → Prop
  | .i8, x => -128 ≤ x ∧ x ≤ 127
  | .i16, x => -32768 ≤ x ∧ x ≤ 32767
  | .i32, x => -2147483648 ≤ x ∧ x ≤ 2147483647
  | .i64, x => -9223372036854775808 ≤ x ∧ x ≤ 9223372036854775807
  | .u8, x => 0 ≤ x ∧ x ≤ 255
  | .u16, x => 0 ≤ x ∧ x ≤ 65535
  | .u32, x => 0 ≤ x ∧ x ≤ 4294967295
  | .u64, x => 0 ≤ x ∧ x ≤ 18446744073709551615
theorem wrap_inK {k : IntKind} {x : Int} (h : inK k x) : k.wrap x = x := by
  cases k <;> simp only [inK] at h <;> simp [IntKind.wrap, IntKind.bits, IntKind.signed] <;> omega
def sameK : IntKind → IntKind → Bool
  | .i8, .i8 => true | .i16, .i16 => true | .i32, .i32 => true | .i64, .i64 => true
  | .u8, .u8 => true | .u16, .u16 => true | .u32, .u32 => true | .u64, .u64 => true
  | _, _ => false
theorem sameK_eq {a b : IntKind} (h : sameK a b = true) : a = b := by cases a <;> cases b <;> first | rfl | exact Bool.noConfusion h
def arith (op : BinOp) (k : IntKind) (a b : Int) : Option (Prop × SV) :=
  match op with
  | .add => match k with | .i64 => some (inK .i64 (a + b), .int .i64 (a + b)) | k => some (True, .int k (k.wrap (a + b)))
  | .sub => match k with | .i64 => some (inK .i64 (a - b), .int .i64 (a - b)) | k => some (True, .int k (k.wrap (a - b)))
  | .mul => match k with | .i64 => some (inK .i64 (a * b), .int .i64 (a * b)) | k => some (True, .int k (k.wrap (a * b)))
  | .quo => some (0 ≤ a ∧ 0 < b ∧ inK k a, .int k (a / b))
  | .rem => some (0 ≤ a ∧ 0 < b, .int k (a % b))
  | .and => some (True, .int k (bits .and k a b))
  | .or => some (True, .int k (bits .or k a b))
  | .xor => some (True, .int k (bits .xor k a b))
  | .andNot => some (True, .int k (bits .andNot k a b))
  | .eql => some (True, .bool (decide (a = b)))
  | .neq => some (True, .bool (!decide (a = b)))
  | .lss => some (True, .bool (decide (a < b)))
  | .leq => some (True, .bool (decide (a ≤ b)))
  | .gtr => some (True, .bool (decide (b < a)))
  | .geq => some (True, .bool (decide (b ≤ a)))
  | _ => none
def shiftS (op : BinOp) (k : IntKind) (a b : Int) : Option (Prop × SV) :=
  match op with
  | .shl => some (0 ≤ b, .int k (k.wrap (a * 2 ^ min b.toNat k.bits)))
  | .shr => some (0 ≤ b, .int k (a / 2 ^ min b.toNat k.bits))
  | _ => none
/-- Are two words alike? -/
def eqW (a b : Nat) : Bool := decide (a % W = b % W)
theorem eqW_of {a b : Nat} (h : a = b) : eqW a b = true := by unfold eqW; rw [h]; exact decide_eq_true rfl
theorem eqW_no {a b : Nat} (ha : a < W) (hb : b < W) (h : a ≠ b) : eqW a b = false := by unfold eqW; rw [Nat.mod_eq_of_lt ha, Nat.mod_eq_of_lt hb]; exact decide_eq_false h
theorem eqW_dec {a b : Nat} (ha : a < W) (hb : b < W) : eqW a b = decide (a = b) := by unfold eqW; rw [Nat.mod_eq_of_lt ha, Nat.mod_eq_of_lt hb]
def bin (op : BinOp) (x y : SV) : Option (Prop × SV) :=
  match x, y with
  | .int k a, .int k' b =>
    match op with
    | .shl => shiftS .shl k a b
    | .shr => shiftS .shr k a b
    | op => match sameK k k' with | true => arith op k a b | false => none
  | .word a, .word b => match op with | .eql => some (True, .bool (eqW a b)) | .neq => some (True, .bool (!eqW a b)) | _ => none
  | .bool a, .bool b => match op with | .eql => some (True, .bool (a == b)) | .neq => some (True, .bool (!(a == b))) | _ => none
  | .str a, .str b => match op with | .eql => some (True, .bool (a.toList == b.toList)) | .neq => some (True, .bool (!(a.toList == b.toList))) | _ => none
  | .ints k xs, .ints k' ys =>
    match sameK k k' with
    | true => match op with
      | .eql => some (xs.length = ys.length, .bool (decide (xs = ys)))
      | .neq => some (xs.length = ys.length, .bool (!decide (xs = ys)))
      | _ => none
    | false => none
  | _, _ => none
def una (op : UnOp) (x : SV) : Option (Prop × SV) :=
  match op, x with
  | .not, .bool b => some (True, .bool (!b))
  | .neg, .int k n => match k with | .i64 => some (inK .i64 (0 - n), .int .i64 (0 - n)) | k => some (True, .int k (k.wrap (0 - n)))
  | .xor, .int k n => some (True, .int k (bits .xor k (if k.signed then -1 else k.max) n))
  | _, _ => none
end Go.Proofs.Ytkljpgdcmahenaa

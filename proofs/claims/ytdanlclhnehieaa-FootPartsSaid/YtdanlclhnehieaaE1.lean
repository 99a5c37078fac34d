/-
  A symbolic walk of my own: symbolic values, blocks of memory, and what an operation that leaves the world alone comes to.
-/
import Derived.WalkKit
import Derived.WalkSpells
import Derived.WalkLawsBesides
import Derived.BigQuiet
import Derived.Test.YtdanlclhnehieaaA1
import Derived.Laws.BytesString
import Derived.Laws.Tables
import Derived.Maps.AppendAt
import Derived.Lib.AppendStr
import Derived.Laws.Append
import Derived.Test.YtdanlclhnehieaaMK
namespace Go.Proofs.Ytdanlclhnehieaa
set_option linter.unusedSimpArgs false
set_option linter.unusedVariables false
open Go.RowKit

def bytesOf (xs : List Int) : ByteArray := xs.foldl (fun r n => r.push (UInt8.ofNat n.toNat)) ByteArray.empty
theorem bytesOf_app (xs : List Int) : ∀ s : ByteArray, (xs.foldl (fun r n => r.push (UInt8.ofNat n.toNat)) s).data.toList = s.data.toList ++ xs.map fun n => UInt8.ofNat n.toNat := by
  induction xs with
  | nil => intro s; simp
  | cons x xs ih => intro s; rw [List.foldl_cons, ih]; simp [ByteArray.push]
theorem bytesOf_data (xs : List Int) : (bytesOf xs).data.toList = xs.map fun n => UInt8.ofNat n.toNat := by
  unfold bytesOf; rw [bytesOf_app]; rfl
theorem ba_ext {a b : ByteArray} (h : a.data.toList = b.data.toList) : a = b := by
  cases a; cases b; simp at h; simp [h]
theorem bytesOf_size (xs : List Int) : (bytesOf xs).size = xs.length := by
  rw [← ByteArray.size_data, ← Array.length_toList, bytesOf_data, List.length_map]
theorem bytesOf_append (xs ys : List Int) : bytesOf xs ++ bytesOf ys = bytesOf (xs ++ ys) := by
  apply ba_ext
  rw [ByteArray.data_append, Array.toList_append, bytesOf_data, bytesOf_data, bytesOf_data, List.map_append]
theorem bytesOf_cut (xs : List Int) (l h : Nat) : (bytesOf xs).extract l h = bytesOf ((xs.drop l).take (h - l)) := by
  apply ba_ext
  rw [ByteArray.data_extract, Array.toList_extract, bytesOf_data, bytesOf_data]
  simp [List.extract_eq_take_drop, List.map_take, List.map_drop]
theorem bytesOf_get (xs : List Int) (n : Nat) (hn : n < xs.length) : (bytesOf xs)[n]? = some (UInt8.ofNat (xs.getD n 0).toNat) := by
  have h1 : n < (bytesOf xs).size := by rw [bytesOf_size]; exact hn
  rw [getElem?_pos (bytesOf xs) n h1]
  congr 1
  have h2 : (bytesOf xs).data.toList[n]? = some (UInt8.ofNat (xs.getD n 0).toNat) := by
    rw [bytesOf_data, List.getElem?_map, List.getElem?_eq_getElem hn, List.getD_eq_getElem?_getD, List.getElem?_eq_getElem hn]; rfl
  have h3 : (bytesOf xs).data.toList[n]? = some (bytesOf xs)[n] := by
    rw [ByteArray.getElem_eq_getElem_data]
    simp [Array.getElem?_toList]
  rw [h3] at h2
  exact Option.some.inj h2
def strI (s : ByteArray) : List Int := s.data.toList.map fun b => ((b.toNat : Nat) : Int)
theorem bytesOf_strI (s : ByteArray) : bytesOf (strI s) = s := by
  apply ba_ext
  rw [bytesOf_data]
  unfold strI
  rw [List.map_map]
  have : ((fun n : Int => UInt8.ofNat n.toNat) ∘ fun b : UInt8 => ((b.toNat : Nat) : Int)) = id := by
    funext b
    simp
  rw [this, List.map_id]
theorem byte_back {x : Int} (h : 0 ≤ x ∧ x ≤ 255) : (((UInt8.ofNat x.toNat).toNat : Nat) : Int) = x := by
  rw [UInt8.toNat_ofNat']; omega
theorem tl_loop (s : ByteArray) : ∀ (n i : Nat) (r : List UInt8), n = s.size - i → ByteArray.toList.loop s i r = r.reverse ++ s.data.toList.drop i := by
  intro n
  induction n with
  | zero =>
    intro i r h
    unfold ByteArray.toList.loop
    rw [if_neg (by omega), List.drop_of_length_le (by simp only [Array.length_toList]; show s.data.size ≤ i; have : s.size = s.data.size := rfl; omega)]
    simp
  | succ n ih =>
    intro i r h
    unfold ByteArray.toList.loop
    rw [if_pos (by omega), ih (i + 1) _ (by omega)]
    have hi : i < s.data.toList.length := by simp only [Array.length_toList]; have : s.size = s.data.size := rfl; omega
    rw [List.drop_eq_getElem_cons hi, List.reverse_cons, List.append_assoc]
    congr 1
    have : s.get! i = s.data.toList[i] := by
      cases s with | mk d => 
      simp only [ByteArray.get!]
      simp at hi
      simp [hi]
    rw [this]; rfl
theorem tl_data (s : ByteArray) : s.toList = s.data.toList := by
  unfold ByteArray.toList; rw [tl_loop s _ 0 [] rfl]; simp
theorem map_u8 : ∀ {xs ys : List Int}, allB xs → allB ys → (xs.map fun n => UInt8.ofNat n.toNat) = (ys.map fun n => UInt8.ofNat n.toNat) → xs = ys
  | [], [], _, _, _ => rfl
  | [], _ :: _, _, _, h => by simp at h
  | _ :: _, [], _, _, h => by simp at h
  | x :: xs, y :: ys, hx, hy, h => by
    simp only [List.map_cons, List.cons.injEq] at h
    have h1 := hx x List.mem_cons_self
    have h2 := hy y List.mem_cons_self
    have h3 := congrArg UInt8.toNat h.1
    simp only [UInt8.toNat_ofNat'] at h3
    have : x = y := by omega
    rw [this, map_u8 (fun z hz => hx z (List.mem_cons_of_mem _ hz)) (fun z hz => hy z (List.mem_cons_of_mem _ hz)) h.2]
theorem bytesOf_inj {xs ys : List Int} (hx : allB xs) (hy : allB ys) (h : (bytesOf xs).toList = (bytesOf ys).toList) : xs = ys := by
  rw [tl_data, tl_data, bytesOf_data, bytesOf_data] at h
  exact map_u8 hx hy h
theorem same_dec {xs ys : List Int} (hx : allB xs) (hy : allB ys) : ((bytesOf xs).toList == (bytesOf ys).toList) = decide (xs = ys) := by
  rw [Bool.eq_iff_iff, beq_iff_eq, decide_eq_true_iff]
  exact ⟨bytesOf_inj hx hy, fun h => by rw [h]⟩
theorem bytesOf_beq {xs ys : List Int} (hx : allB xs) (hy : allB ys) : ((bytesOf xs).toList == (bytesOf ys).toList) = decide (xs = ys) := same_dec hx hy
def blkO : Option Addr → Nat
  | some a => a.block
  | none => 0
def offO : Option Addr → Nat
  | some a => a.off
  | none => 0
mutual
inductive SV where
  | int (k : IntKind) (n : Int)
  | bool (b : Bool)
  | str (s : List Int)
  | word (a : Nat)
  | ints (k : IntKind) (xs : List Int)
  | ptr (nm b base i sz j : Nat)
  | sl (nm : Nat) (a : Option Addr) (st st0 es len cap : Nat)
  | own (nm : Nat) (v : Value) (n : Nat)
  | nilsl
  | raw (v : Value)
  | agg (cs : List SV)
  | tup (vs : List SV)
  | fn (f : Fn) (first cap : List SV)
  | undef
  | ifc (t : TypeId) (v : SV)
  | gh (a : Option Addr) (len cap : Nat) (con : Con)
  | gp (a : Option Addr) (con : Con) (i sz j : Nat)
  | mpv (nm b : Nat)
inductive Con where
  | ints (k : IntKind) (xs : List Int)
  | words (xs : List Nat)
  | cells (l : List SV)
  | rows (n : Nat) (xs : List (List SV))
end
inductive Ty where
  | int (k : IntKind)
  | bool
  | str
  | word
  | arr (n : Nat) (e : TypeId) (es : Nat) (ek : Option IntKind)
  | struct (size : Nat) (fs : List (Nat × Nat × TypeId))
  | sl (e : TypeId) (es eb : Nat)
  | ptr (e : TypeId)
  | ifc
  | cell
  | other
  | map (ks : List CK) (z : SV)
def slV : Value → Nat → Value
  | .slice a _ c, n => .slice a n c
  | _, n => .slice none n 0

def wcs (a : Nat) : List Value := [.int .u64 (lm a 0 : Nat), .int .u64 (lm a 1 : Nat), .int .u64 (lm a 2 : Nat), .int .u64 (lm a 3 : Nat)]
mutual
def cv : SV → Value
  | .int k n => .int k n
  | .bool b => .bool b
  | .str s => .string (bytesOf s)
  | .word a => .agg (wcs a).toArray
  | .ints k xs => .agg (xs.map (Value.int k)).toArray
  | .ptr _ b base i sz j => .pointer (some ⟨b, base + (i * sz + j), none⟩)
  | .sl _ a st st0 es len cap => .slice (a.map (·.add ((if cap = 0 then st0 else st) * es))) len cap
  | .own _ v n => slV v n
  | .nilsl => .slice none 0 0
  | .raw v => v
  | .agg cs => .agg (cvs cs).toArray
  | .tup vs => .tuple (cvs vs).toArray
  | .fn f a c => .func f (cvs a).toArray (cvs c).toArray
  | .undef => undef
  | .ifc t v => .iface t (cv v)
  | .gh a len cap _ => .slice a len cap
  | .gp a _ i sz j => .pointer (some ⟨blkO a, offO a + (i * sz + j), none⟩)
  | .mpv _ b => .map (some b)
def cvs : List SV → List Value
  | [] => []
  | x :: l => cv x :: cvs l
end
theorem cvs_eq (l : List SV) : cvs l = l.map cv := by induction l <;> simp_all [cvs]

def cc : Con → List Value
  | .ints k xs => xs.map (Value.int k)
  | .words xs => xs.flatMap wcs
  | .cells l => cvs l
  | .rows _ xs => xs.flatMap cvs

structure Tab where
  ty : TypeId → Ty
  zr : TypeId → List SV
  zc : TypeId → Option Con
  gl : Nat → SV
  lv : TypeId → Option (List CK)

structure Acc where
  n : Int
  b : Nat
  c : List Int
instance accDec : DecidableEq Acc := fun x y => decidable_of_iff (x.n = y.n ∧ x.b = y.b ∧ x.c = y.c) (by cases x; cases y; simp)
def acc0 : Acc := ⟨0, 0, []⟩
structure Stp where
  kind : Int
  pl : List Int
  acc : Acc
  slot : Nat
  ref : Int
structure Wst where
  acc : List Int → Acc
  slo : List Int → Nat
  tak : Int
  tou : List Int → Bool
  ori : List Int → Option Nat
  ref : Int
  dead : List Int → Bool
  steps : List Stp
  marks : List (Int × Int)
structure WTy where
  w : TypeId
  st : TypeId
  mr : TypeId
  ck : List CK
def accL (x : Acc) : List SV := [.int .u64 x.n, .int .u64 (lm x.b 0 : Nat), .int .u64 (lm x.b 1 : Nat), .int .u64 (lm x.b 2 : Nat), .int .u64 (lm x.b 3 : Nat), .str x.c]
def accF (f : List Int → Acc) : List Int → Option SV := fun c => if f c = acc0 then none else some (.agg (accL (f c)))
def sloF (f : List Int → Nat) : List Int → Option SV := fun c => if f c = 0 then none else some (.word (f c))
def setF (f : List Int → Bool) : List Int → Option SV := fun c => if f c = true then some (.agg []) else none
def oriF (f : List Int → Option Nat) : List Int → Option SV := fun c => (f c).map SV.word
def plL : List Int → List SV
  | [x0, x1, x2, x3, x4, x5, x6, x7, x8, x9, x10, x11, x12, x13, x14, x15, x16, x17, x18, x19, b, k0, k1, k2, k3] =>
    [.int .u8 x0, .int .u8 x1, .int .u8 x2, .int .u8 x3, .int .u8 x4, .int .u8 x5, .int .u8 x6, .int .u8 x7, .int .u8 x8, .int .u8 x9, .int .u8 x10, .int .u8 x11, .int .u8 x12, .int .u8 x13, .int .u8 x14, .int .u8 x15, .int .u8 x16, .int .u8 x17, .int .u8 x18, .int .u8 x19,
     .bool (decide (b = 1)), .int .u64 k0, .int .u64 k1, .int .u64 k2, .int .u64 k3]
  | _ => List.replicate 25 (.int .u8 0)
def stpRow (s : Stp) : List SV := .int .i64 s.kind :: (plL s.pl ++ (accL s.acc ++ [.int .u64 (lm s.slot 0 : Nat), .int .u64 (lm s.slot 1 : Nat), .int .u64 (lm s.slot 2 : Nat), .int .u64 (lm s.slot 3 : Nat), .int .i64 s.ref]))
def mrkRow (x : Int × Int) : List SV := [.int .i64 x.1, .int .i64 x.2]
def wdCells (S : Wst) (a s t o d : Nat) (vs vm : Value) : List SV :=
  [.mpv 1 a, .mpv 2 s, .int .i64 S.tak, .mpv 3 t, .mpv 4 o, .int .i64 S.ref, .nilsl, .mpv 5 d, .own 6 vs S.steps.length, .own 7 vm S.marks.length]
def WdOk (w : World) (τ : WTy) (p : Nat) (S : Wst) (l : List Nat) : Prop := ∃ a s t o d vs vm,
  l = [p] ++ ([a] ++ ([s] ++ ([t] ++ ([o] ++ ([d] ++ (vs.ownBlock.toList ++ (vm.ownBlock.toList ++ []))))))) ∧ w.heap[p]? = some (.cells (cvs (wdCells S a s t o d vs vm)).toArray τ.w (0, 0)) ∧
  MapIs w a τ.ck (fun c => (accF S.acc c).map cv) ∧ MapIs w s τ.ck (fun c => (sloF S.slo c).map cv) ∧ MapIs w t τ.ck (fun c => (setF S.tou c).map cv) ∧ MapIs w o τ.ck (fun c => (oriF S.ori c).map cv) ∧ MapIs w d τ.ck (fun c => (setF S.dead c).map cv) ∧
  w.ownsRow 0 τ.st 37 vs S.steps.length (cc (.rows 37 (S.steps.map stpRow))) ∧ w.ownsRow 0 τ.mr 2 vm S.marks.length (cc (.rows 2 (S.marks.map mrkRow)))
inductive Blk where
  | blk (b : Nat) (t : TypeId) (con : Con)
  | own (v : Value) (n : Nat) (t : TypeId) (es : Nat) (con : Con)
  | ro (a : Option Addr) (con : Con)
  | heap (l : List (Nat × Obj))
  | old (h : Nat → Option Obj)
  | mp (b : Nat) (ks : List CK) (f : List Int → Option SV)
  | rg (b r : Nat) (ks : List CK) (f : List Int → Option SV) (left : List Int → Bool) (cnt : Nat) (last : Option (List Int × SV))
  | wd (τ : WTy) (p : Nat) (S : Wst) (l : List Nat)
  | mo (b : Nat) (ks : List CK) (f : List Int → Option SV)
  | gone
def Blk.nums : Blk → List Nat
  | .blk b _ _ => [b]
  | .own v _ _ _ _ => v.ownBlock.toList
  | .heap l => l.map (·.1)
  | .mp b _ _ => [b]
  | .rg b r _ _ _ _ _ => [b, r]
  | .wd _ _ _ l => l
  | _ => []
def Blk.ok (w0 : World) (B : List Nat) (w : World) : Blk → Prop
  | .blk b t con => w.heap[b]? = some (.cells (cc con).toArray t (0, 0)) ∧ (w0.heap.size ≤ b ∨ b ∈ B)
  | .own v n t es con => w.ownsRow 0 t es v n (cc con) ∧ ∀ b, v.ownBlock = some b → w0.heap.size ≤ b ∨ b ∈ B
  | .ro a con => ∀ j u, (cc con)[j]? = some u → ∃ b off, a = some ⟨b, off, none⟩ ∧ b < w0.heap.size ∧ b ∉ B ∧ w.cell? ⟨b, off + j, none⟩ = some u
  | .heap l => ∀ p ∈ l, w.heap[p.1]? = some p.2 ∧ (w0.heap.size ≤ p.1 ∨ p.1 ∈ B)
  | .old h => ∀ b o, h b = some o → w.heap[b]? = some o ∧ b < w0.heap.size ∧ b ∉ B
  | .mp b ks f => MapIs w b ks (fun c => (f c).map cv) ∧ (w0.heap.size ≤ b ∨ b ∈ B)
  | .rg b r ks f left cnt last => RngIs w b r ks (fun c => (f c).map cv) left cnt (last.map fun p => (p.1, cv p.2)) ∧ (w0.heap.size ≤ b ∨ b ∈ B) ∧ (w0.heap.size ≤ r ∨ r ∈ B)
  | .wd τ p S l => WdOk w τ p S l ∧ ∀ b ∈ l, w0.heap.size ≤ b ∨ b ∈ B
  | .mo b ks f => MapIs w b ks (fun c => (f c).map cv) ∧ b < w0.heap.size ∧ b ∉ B
  | .gone => True
structure MemOk (w0 : World) (B : List Nat) (m : List Blk) (w : World) : Prop where
  os : w.os = w0.os
  tape : w.tape = w0.tape
  output : w.output = w0.output
  size : w0.heap.size ≤ w.heap.size
  old : ∀ k, k < w0.heap.size → k ∉ B → w.heap[k]? = w0.heap[k]?
  each : ∀ e ∈ m, e.ok w0 B w
  nodup : (m.flatMap Blk.nums).Nodup

def sget : List SV → Nat → SV
  | [], _ => .undef
  | x :: _, 0 => x
  | _ :: l, n + 1 => sget l n
def sset : List SV → Nat → SV → List SV
  | [], _, _ => []
  | _ :: l, 0, v => v :: l
  | x :: l, n + 1, v => x :: sset l n v
def bget : List Blk → Nat → Blk
  | [], _ => .gone
  | x :: _, 0 => x
  | _ :: l, n + 1 => bget l n
def bset : List Blk → Nat → Blk → List Blk
  | [], _, _ => []
  | _ :: l, 0, v => v :: l
  | x :: l, n + 1, v => x :: bset l n v
theorem cvs_sget : ∀ (l : List SV) (n : Nat), (cvs l).toArray.getD n undef = cv (sget l n)
  | [], n => by simp [cvs, sget, cv]
  | x :: l, 0 => by simp [cvs, sget]
  | x :: l, n + 1 => by
    have h := cvs_sget l n
    simp [cvs, sget, Array.getD_eq_getD_getElem?] at h ⊢
    exact h
theorem cvs_sset : ∀ (l : List SV) (n : Nat) (v : SV), (cvs l).toArray.setIfInBounds n (cv v) = (cvs (sset l n v)).toArray
  | [], n, v => by simp [cvs, sset]
  | x :: l, 0, v => by simp [cvs, sset]
  | x :: l, n + 1, v => by
    have h := cvs_sset l n v
    simp [cvs, sset] at h ⊢
    exact h
theorem cvs_get? : ∀ (l : List SV) (n : Nat) (v : Value), (cvs l)[n]? = some v → cv (sget l n) = v
  | [], n, v, h => by simp [cvs] at h
  | x :: l, 0, v, h => by simpa [cvs, sget] using h
  | x :: l, n + 1, v, h => by simp [cvs] at h; simpa [sget] using cvs_get? l n v h
theorem bget_mem : ∀ {l : List Blk} {n : Nat} {e : Blk}, bget l n = e → e ≠ .gone → e ∈ l
  | [], _, _, h, hn => absurd h.symm hn
  | _ :: _, 0, _, h, _ => h ▸ List.mem_cons_self
  | _ :: _, _ + 1, _, h, hn => List.mem_cons_of_mem _ (bget_mem (l := _) h hn)

def ofV1 : Value → SV
  | .int k n => .int k n
  | .bool b => .bool b
  | .string s => .str (strI s)
  | v => .raw v
def ofV : Value → SV
  | .int k n => .int k n
  | .bool b => .bool b
  | .string s => .str (strI s)
  | .slice none 0 0 => .nilsl
  | .agg cs => .agg (cs.toList.map ofV1)
  | v => .raw v
theorem cv_ofV1 (v : Value) : cv (ofV1 v) = v := by cases v <;> first | rfl | exact congrArg Value.string (bytesOf_strI _)
theorem cv_ofV (v : Value) : cv (ofV v) = v := by
  unfold ofV
  split <;> first | rfl | exact congrArg Value.string (bytesOf_strI _) | skip
  rename_i cs
  simp only [cv, cvs_eq, List.map_map]
  have : (cv ∘ ofV1) = id := funext cv_ofV1
  rw [this]; simp
def ev (T : Tab) (env : List SV) : Operand → SV
  | .tmp t => sget env t
  | .const v => ofV v
  | .global g => T.gl g
  | .func f => .fn (.func f) [] []
def evs (T : Tab) (env : List SV) : List Operand → List SV
  | [] => []
  | x :: l => ev T env x :: evs T env l
def Fr (env : List SV) (a : Act) : Prop := a.tmps = (cvs env).toArray
theorem Fr.ev {T : Tab} (hT : ∀ g, cv (T.gl g) = .pointer (some ⟨g, 0, none⟩)) {env : List SV} {a : Act} (h : Fr env a) (x : Operand) : a.eval x = cv (ev T env x) := by
  cases x with
  | tmp t => simp only [Act.eval, Go.Proofs.Ytdanlclhnehieaa.ev]; rw [h, cvs_sget]
  | const v => simp only [Act.eval, Go.Proofs.Ytdanlclhnehieaa.ev, cv_ofV]
  | global g => exact (hT g).symm
  | func f => rfl
theorem Fr.evs {T : Tab} (hT : ∀ g, cv (T.gl g) = .pointer (some ⟨g, 0, none⟩)) {env : List SV} {a : Act} (h : Fr env a) : ∀ (l : List Operand), l.map a.eval = cvs (evs T env l)
  | [] => rfl
  | x :: l => by simp [Go.Proofs.Ytdanlclhnehieaa.evs, cvs, h.ev hT, Fr.evs hT h l]
def upd (env : List SV) (d : Option Tmp) (v : SV) : List SV := match d with | some t => sset env t v | none => env
theorem Fr.put {env : List SV} {a : Act} (h : Fr env a) (d : Option Tmp) (v : SV) : Fr (upd env d v) (a.put d (cv v)) := by
  cases d with
  | none => exact h
  | some t => unfold Fr at *; simp only [upd, Act.put]; rw [h, cvs_sset]

def inK : IntKind → Int → Prop
  | .i8, x => -128 ≤ x ∧ x ≤ 127
  | .i16, x => -32768 ≤ x ∧ x ≤ 32767
  | .i32, x => -2147483648 ≤ x ∧ x ≤ 2147483647
  | .i64, x => -9223372036854775808 ≤ x ∧ x ≤ 9223372036854775807
  | .u8, x => 0 ≤ x ∧ x ≤ 255
  | .u16, x => 0 ≤ x ∧ x ≤ 65535
  | .u32, x => 0 ≤ x ∧ x ≤ 4294967295
  | .u64, x => 0 ≤ x ∧ x ≤ 18446744073709551615
theorem wrap_inK {k : IntKind} {x : Int} (h : inK k x) : k.wrap x = x := by
  cases k <;> simp only [inK] at h <;> simp [IntKind.wrap, IntKind.bits, IntKind.signed] <;> omega
def sameK : IntKind → IntKind → Bool
  | .i8, .i8 => true | .i16, .i16 => true | .i32, .i32 => true | .i64, .i64 => true
  | .u8, .u8 => true | .u16, .u16 => true | .u32, .u32 => true | .u64, .u64 => true
  | _, _ => false
theorem sameK_eq {a b : IntKind} (h : sameK a b = true) : a = b := by cases a <;> cases b <;> first | rfl | exact Bool.noConfusion h
def arith (op : BinOp) (k : IntKind) (a b : Int) : Option (Prop × SV) :=
  match op with
  | .add => match k with | .i64 => some (inK .i64 (a + b), .int .i64 (a + b)) | k => some (True, .int k (k.wrap (a + b)))
  | .sub => match k with | .i64 => some (inK .i64 (a - b), .int .i64 (a - b)) | k => some (True, .int k (k.wrap (a - b)))
  | .mul => match k with | .i64 => some (inK .i64 (a * b), .int .i64 (a * b)) | k => some (True, .int k (k.wrap (a * b)))
  | .quo => some (0 ≤ a ∧ 0 < b ∧ inK k a, .int k (a / b))
  | .rem => some (0 ≤ a ∧ 0 < b, .int k (a % b))
  | .and => some (True, .int k (bits .and k a b))
  | .or => some (True, .int k (bits .or k a b))
  | .xor => some (True, .int k (bits .xor k a b))
  | .andNot => some (True, .int k (bits .andNot k a b))
  | .eql => some (True, .bool (decide (a = b)))
  | .neq => some (True, .bool (!decide (a = b)))
  | .lss => some (True, .bool (decide (a < b)))
  | .leq => some (True, .bool (decide (a ≤ b)))
  | .gtr => some (True, .bool (decide (b < a)))
  | .geq => some (True, .bool (decide (b ≤ a)))
  | _ => none
def shiftS (op : BinOp) (k : IntKind) (a b : Int) : Option (Prop × SV) :=
  match op with
  | .shl => some (0 ≤ b, .int k (k.wrap (a * 2 ^ min b.toNat k.bits)))
  | .shr => some (0 ≤ b, .int k (a / 2 ^ min b.toNat k.bits))
  | _ => none
def eqW (a b : Nat) : Bool := decide (a % W = b % W)
def bin (op : BinOp) (x y : SV) : Option (Prop × SV) :=
  match x, y with
  | .int k a, .int k' b =>
    match op with
    | .shl => shiftS .shl k a b
    | .shr => shiftS .shr k a b
    | op => match sameK k k' with | true => arith op k a b | false => none
  | .word a, .word b => match op with | .eql => some (True, .bool (eqW a b)) | .neq => some (True, .bool (!eqW a b)) | _ => none
  | .bool a, .bool b => match op with | .eql => some (True, .bool (a == b)) | .neq => some (True, .bool (!(a == b))) | _ => none
  | .str a, .str b => match op with | .eql => some (allB a ∧ allB b, .bool (decide (a = b))) | .neq => some (allB a ∧ allB b, .bool (!decide (a = b))) | .add => some (a.length + b.length ≤ 9223372036854775807, .str (a ++ b)) | _ => none
  | .ints k xs, .ints k' ys =>
    match sameK k k' with
    | true => match op with
      | .eql => some (xs.length = ys.length, .bool (decide (xs = ys)))
      | .neq => some (xs.length = ys.length, .bool (!decide (xs = ys)))
      | _ => none
    | false => none
  | _, _ => none
def una (op : UnOp) (x : SV) : Option (Prop × SV) :=
  match op, x with
  | .not, .bool b => some (True, .bool (!b))
  | .neg, .int k n => match k with | .i64 => some (inK .i64 (0 - n), .int .i64 (0 - n)) | k => some (True, .int k (k.wrap (0 - n)))
  | .xor, .int k n => some (True, .int k (bits .xor k (if k.signed then -1 else k.max) n))
  | _, _ => none
end Go.Proofs.Ytdanlclhnehieaa

/-
  A symbolic walk of my own: what is asked of a table of types; operations that leave the world alone.
-/
namespace Go.Proofs.Ytdanlclhnehieaa
set_option linter.unusedSimpArgs false
set_option linter.unusedVariables false
open Go.RowKit

def Sz (P : Program) (t : TypeId) (n : Nat) : Prop := (P.info? t).map (·.size) = some n
theorem Sz.run {P : Program} {t : TypeId} {n : Nat} (h : Sz P t n) (w : World) : (sizeOf t).run P w = .ok n w := by
  unfold Sz at h
  unfold sizeOf typeInfo
  cases hi : P.info? t with
  | none => rw [hi] at h; cases h
  | some i => rw [hi] at h; simp at h; simp [hi, h]
def TyOk1 (P : Program) (t : TypeId) : Ty → Prop
  | .int k => P.underlying t = some (.int k)
  | .bool => P.underlying t = some .bool
  | .str => P.underlying t = some .string
  | .word => ∃ u, P.underlying t = some (.array 4 u) ∧ P.underlying u = some (.int .u64) ∧ Sz P u 1 ∧ Sz P t 4 ∧ P.eqGuardType P.depth t = false
  | .arr n e es ek => P.underlying t = some (.array n e) ∧ Sz P e es ∧ Sz P t (n * es) ∧ P.eqGuardType P.depth t = false ∧ ∀ k, ek = some k → P.underlying e = some (.int k)
  | .struct size fs => ∃ fields, P.underlying t = some (.struct fields) ∧ Sz P t size ∧ (fields.toList.mapM fun f => (P.info? f.type).map fun i => (f.offset, i.size)) = some (fs.map fun x => (x.1, x.2.1)) ∧ fields.toList.map (·.type) = fs.map (·.2.2)
  | .sl e es eb => P.underlying t = some (.slice e) ∧ 0 < es ∧ ∃ i z, P.info? e = some i ∧ i.zero = some z ∧ i.size = es ∧ i.bytes = eb ∧ z.cells.size = es
  | .ptr e => P.underlying t = some (.pointer e)
  | .ifc => ∃ ms, P.underlying t = some (.interface ms)
  | .cell => ∀ w, (isAgg t).run P w = .ok false w
  | .map ks z => ∃ k e, P.underlying t = some (.map k e) ∧ KeyOk P k ks ∧ ∀ w, (zeroValue e).run P w = .ok (cv z) w
  | .other => True
def tsz : Ty → Option Nat
  | .word => some 4
  | .arr n _ es _ => some (n * es)
  | .struct s _ => some s
  | .other => none
  | _ => some 1
structure TabOk (P : Program) (T : Tab) : Prop where
  sz : ∀ t n, tsz (T.ty t) = some n → Sz P t n
  b8 : ∀ e, T.ty e = .int .u8 → ∃ i, P.info? e = some i ∧ i.zero = some (.int .u8 0) ∧ i.size = 1 ∧ i.bytes = 1
  zc : ∀ t c, T.zc t = some c → ∃ i z, P.info? t = some i ∧ i.zero = some z ∧ z.cells = (cc c).toArray
  ty : ∀ t, TyOk1 P t (T.ty t)
  gl : ∀ g, cv (T.gl g) = .pointer (some ⟨g, 0, none⟩)
  lv : ∀ t ks, T.lv t = some ks → EqOk P t ks
  zr : ∀ t, T.zr t ≠ [] → ∃ i z, P.info? t = some i ∧ i.zero = some z ∧ z.cells = (cvs (T.zr t)).toArray
def aggN : Ty → Option (Option Nat)
  | .word => some (some 4)
  | .arr n _ es _ => some (some (n * es))
  | .struct s _ => some (some s)
  | .other => none
  | _ => some none
theorem isAgg_one {P : Program} {t : TypeId} {y : Ty} (h : TyOk1 P t y) (ha : aggN y = some none) (w : World) : (isAgg t).run P w = .ok false w := by
  have key : ∀ d, P.underlying t = some d → (∀ fs, d ≠ .struct fs) → (∀ n e, d ≠ .array n e) → (isAgg t).run P w = .ok false w := by
    intro d hd h1 h2
    unfold isAgg
    simp only [Sem.run_bind, run_underlying hd, Result.andThen_ok]
    cases d <;> first | rfl | exact absurd rfl (h1 _) | exact absurd rfl (h2 _ _)
  cases y <;> first | (cases ha; done) | skip
  · exact key _ h (by simp) (by simp)
  · exact key _ h (by simp) (by simp)
  · exact key _ h (by simp) (by simp)
  · exact key _ h.1 (by simp) (by simp)
  · exact key _ h (by simp) (by simp)
  · obtain ⟨ms, h⟩ := h
    exact key _ h (by simp) (by simp)
  · exact h w
  · obtain ⟨k, e, h, _⟩ := h
    exact key _ h (by simp) (by simp)
theorem isAgg_many {P : Program} {t : TypeId} {y : Ty} {n : Nat} (h : TyOk1 P t y) (ha : aggN y = some (some n)) : (∀ w, (isAgg t).run P w = .ok true w) ∧ Sz P t n := by
  cases y <;> simp only [aggN, Option.some.injEq, reduceCtorEq] at ha
  · obtain ⟨u, h1, h2, h3, h4, h5⟩ := h
    subst ha
    exact ⟨fun w => by unfold isAgg; simp [run_underlying h1], h4⟩
  · obtain ⟨h1, h2, h3, h4⟩ := h
    subst ha
    exact ⟨fun w => by unfold isAgg; simp [run_underlying h1], h3⟩
  · obtain ⟨fields, h1, h2, h3, _⟩ := h
    subst ha
    exact ⟨fun w => by unfold isAgg; simp [run_underlying h1], h2⟩

def adr (a : Option Addr) (len cap : Nat) : Prop := a = some ⟨blkO a, offO a, none⟩ ∨ (a = a ∧ len = 0 ∧ cap = 0)
theorem adr_some {b o len cap : Nat} : adr (some ⟨b, o, none⟩) len cap = True := eq_true (.inl rfl)
theorem adr_nil : adr none 0 0 = True := eq_true (.inr ⟨rfl, rfl, rfl⟩)
theorem adr_pos {a : Option Addr} {len cap : Nat} (h : adr a len cap) (hl : 0 < len) : a = some ⟨blkO a, offO a, none⟩ := h.elim id fun h => absurd h.2.1 (Nat.ne_of_gt hl)
def blkOf : Value → Nat
  | .slice a _ _ => blkO a
  | _ => 0
def addp (p : Prop) : Option (Prop × SV) → Option (Prop × SV)
  | some (q, v) => some (p ∧ q, v)
  | none => none
theorem addp_some {p q : Prop} {r : Option (Prop × SV)} {v : SV} (h : addp p r = some (q, v)) : ∃ q', r = some (q', v) ∧ (q → p ∧ q') := by
  cases r with
  | none => cases h
  | some x => obtain ⟨q', u⟩ := x; simp only [addp, Option.some.injEq, Prod.mk.injEq] at h; obtain ⟨rfl, rfl⟩ := h; exact ⟨q', rfl, id⟩
def nth? : List SV → Nat → Option SV
  | [], _ => none
  | x :: _, 0 => some x
  | _ :: l, n + 1 => nth? l n
theorem nth?_some : ∀ {l : List SV} {n : Nat} {v : SV}, nth? l n = some v → (cvs l)[n]? = some (cv v)
  | x :: l, 0, v, h => by simp [nth?] at h; subst h; simp [cvs]
  | x :: l, n + 1, v, h => by simp [nth?] at h; simp [cvs]; exact nth?_some h
def takeN : List SV → Nat → Nat → Option (List SV)
  | _, 0, 0 => some []
  | [], _, _ => none
  | x :: l, 0, n + 1 => match takeN l 0 n with | some r => some (x :: r) | none => none
  | _ :: l, j + 1, n => takeN l j n
theorem takeN_some : ∀ {l : List SV} {j n : Nat} {r : List SV}, takeN l j n = some r → r.length = n ∧ ∀ i u, (cvs r)[i]? = some u → (cvs l)[j + i]? = some u
  | [], 0, 0, r, h => by simp [takeN] at h; subst h; simp [cvs]
  | x :: l, 0, 0, r, h => by simp [takeN] at h; subst h; simp [cvs]
  | x :: l, 0, n + 1, r, h => by
    simp only [takeN] at h
    cases ht : takeN l 0 n with
    | none => rw [ht] at h; cases h
    | some q =>
      rw [ht] at h
      simp at h
      subst h
      obtain ⟨h1, h2⟩ := takeN_some ht
      refine ⟨by simp [h1], fun i u hu => ?_⟩
      cases i with
      | zero => simpa [cvs] using hu
      | succ i =>
        simp only [cvs, List.getElem?_cons_succ] at hu
        have := h2 i u hu
        simp only [Nat.zero_add] at this ⊢
        simpa [cvs] using this
  | x :: l, j + 1, n, r, h => by
    simp only [takeN] at h
    obtain ⟨h1, h2⟩ := takeN_some h
    refine ⟨h1, fun i u hu => ?_⟩
    have := h2 i u hu
    rw [show j + 1 + i = (j + i) + 1 by omega]
    simpa [cvs] using this
  | [], 0, _ + 1, r, h => by simp [takeN] at h
  | [], _ + 1, _, r, h => by simp [takeN] at h

def numI : List Int → Nat
  | [x0, x1, x2, x3] => num x0.toNat x1.toNat x2.toNat x3.toNat
  | _ => 0
def allU : List Int → Prop
  | [] => True
  | x :: l => (0 ≤ x ∧ x ≤ 18446744073709551615) ∧ allU l
theorem numI_cells {xs : List Int} (hl : xs.length = 4) (h : allU xs) : wcs (numI xs) = xs.map (Value.int .u64) := by
  match xs, hl with
  | [x0, x1, x2, x3], _ =>
    obtain ⟨h0, h1, h2, h3, _⟩ := h
    unfold wcs numI
    rw [lm0_num (by omega), lm1_num (by omega) (by omega), lm2_num (by omega) (by omega) (by omega), lm3_num (by omega) (by omega) (by omega) (by omega)]
    simp only [List.map, Int.toNat_of_nonneg h0.1, Int.toNat_of_nonneg h1.1, Int.toNat_of_nonneg h2.1, Int.toNat_of_nonneg h3.1]

def toW : List SV → Option (List Int)
  | [.int .u64 x0, .int .u64 x1, .int .u64 x2, .int .u64 x3] => some [x0, x1, x2, x3]
  | _ => none
def toU8 : List SV → Option (List Int)
  | [] => some []
  | .int .u8 x :: l => match toU8 l with | some xs => some (x :: xs) | none => none
  | _ => none
def toU64 : List SV → Option (List Int)
  | [] => some []
  | .int .u64 x :: l => match toU64 l with | some xs => some (x :: xs) | none => none
  | _ => none
def toU32 : List SV → Option (List Int)
  | [] => some []
  | .int .u32 x :: l => match toU32 l with | some xs => some (x :: xs) | none => none
  | _ => none
def toI : IntKind → List SV → Option (List Int)
  | .u8, l => toU8 l
  | .u64, l => toU64 l
  | .u32, l => toU32 l
  | _, _ => none
theorem toU8_some : ∀ {l : List SV} {xs : List Int}, toU8 l = some xs → cvs l = xs.map (Value.int .u8)
  | [], xs, h => by unfold toU8 at h; obtain rfl := Option.some.inj h; rfl
  | x :: l, xs, h => by
    unfold toU8 at h
    split at h
    · rename_i heq; cases heq
    · rename_i y l' heq
      obtain ⟨rfl, rfl⟩ := List.cons.inj heq
      split at h
      · rename_i ys hys
        obtain rfl := Option.some.inj h
        rw [cvs, toU8_some hys]; rfl
      · cases h
    · cases h
theorem toU64_some : ∀ {l : List SV} {xs : List Int}, toU64 l = some xs → cvs l = xs.map (Value.int .u64)
  | [], xs, h => by unfold toU64 at h; obtain rfl := Option.some.inj h; rfl
  | x :: l, xs, h => by
    unfold toU64 at h
    split at h
    · rename_i heq; cases heq
    · rename_i y l' heq
      obtain ⟨rfl, rfl⟩ := List.cons.inj heq
      split at h
      · rename_i ys hys
        obtain rfl := Option.some.inj h
        rw [cvs, toU64_some hys]; rfl
      · cases h
    · cases h
theorem toU32_some : ∀ {l : List SV} {xs : List Int}, toU32 l = some xs → cvs l = xs.map (Value.int .u32)
  | [], xs, h => by unfold toU32 at h; obtain rfl := Option.some.inj h; rfl
  | x :: l, xs, h => by
    unfold toU32 at h
    split at h
    · rename_i heq; cases heq
    · rename_i y l' heq
      obtain ⟨rfl, rfl⟩ := List.cons.inj heq
      split at h
      · rename_i ys hys
        obtain rfl := Option.some.inj h
        rw [cvs, toU32_some hys]; rfl
      · cases h
    · cases h
theorem toI_some {k : IntKind} {l : List SV} {xs : List Int} (h : toI k l = some xs) : cvs l = xs.map (Value.int k) := by
  unfold toI at h
  split at h
  · exact toU8_some h
  · exact toU64_some h
  · exact toU32_some h
  · cases h
def arrV (ek : Option IntKind) (l : List SV) : SV :=
  match ek with
  | some k => match toI k l with | some xs => .ints k xs | none => .agg l
  | none => .agg l
theorem cv_arrV (ek : Option IntKind) (l : List SV) : cv (arrV ek l) = .agg (cvs l).toArray := by
  unfold arrV
  split
  · split
    · rename_i h; rw [cv, toI_some h]
    · rfl
  · rfl
theorem toW_some {l : List SV} {xs : List Int} (h : toW l = some xs) : xs.length = 4 ∧ cvs l = xs.map (Value.int .u64) := by
  unfold toW at h
  split at h
  · simp at h; subst h; simp [cvs, cv]
  · cases h
def aggV (y : Ty) (l : List SV) : Option (Prop × SV) :=
  match y with
  | .word => match toW l with | some xs => some (allU xs, .word (numI xs)) | none => some (True, .agg l)
  | .arr _ _ _ ek => some (True, arrV ek l)
  | _ => some (True, .agg l)
theorem aggV_some {y : Ty} {l : List SV} {p : Prop} {v : SV} (h : aggV y l = some (p, v)) (hp : p) : cv v = .agg (cvs l).toArray := by
  unfold aggV at h
  split at h
  · split at h
    · rename_i xs hxs
      simp only [Option.some.injEq, Prod.mk.injEq] at h
      obtain ⟨rfl, rfl⟩ := h
      obtain ⟨g1, g2⟩ := toW_some hxs
      rw [cv, numI_cells g1 hp, g2]
    · simp only [Option.some.injEq, Prod.mk.injEq] at h
      obtain ⟨rfl, rfl⟩ := h
      rfl
  · simp only [Option.some.injEq, Prod.mk.injEq] at h
    obtain ⟨rfl, rfl⟩ := h
    exact cv_arrV _ _
  · simp only [Option.some.injEq, Prod.mk.injEq] at h
    obtain ⟨rfl, rfl⟩ := h
    rfl
def conOne (con : Con) (i sz j : Nat) : Option (Prop × SV) :=
  match con with
  | .ints k xs => match sz with | 0 => some (j < xs.length, .int k (xs.getD j 0)) | _ => none
  | .words xs => match sz with
    | 0 => some (0 < xs.length ∧ j < 4, .int .u64 (lm (xs.getD 0 0) j : Nat))
    | 4 => some (i < xs.length ∧ j < 4, .int .u64 (lm (xs.getD i 0) j : Nat))
    | _ => none
  | .cells l => match nth? l (i * sz + j) with | some v => some (True, v) | none => none
  | .rows n xs => match n == sz with
    | true => match nth? (xs.getD i []) j with | some v => some (i < xs.length ∧ j < n ∧ ∀ r ∈ xs, r.length = n, v) | none => none
    | false => none
def conMany (y : Ty) (n : Nat) (con : Con) (i sz j : Nat) : Option (Prop × SV) :=
  match con with
  | .ints k xs => match sz with
    | 0 => match y with
      | .word => match k with | .u64 => some (j = 0 ∧ xs.length = 4 ∧ allU xs, .word (numI xs)) | _ => none
      | .arr _ _ _ _ => match j with | 0 => some (xs.length = n, .ints k xs) | j => some (j + n ≤ xs.length, .ints k ((xs.drop j).take n))
      | _ => none
    | 1 => match y with
      | .arr _ _ _ _ => some (j = 0 ∧ i + n ≤ xs.length, .ints k ((xs.drop i).take n))
      | _ => none
    | _ => none
  | .words xs => match y with
    | .word => match sz with
      | 0 => some (0 < xs.length ∧ j = 0, .word (xs.getD 0 0))
      | 4 => some (i < xs.length ∧ j = 0, .word (xs.getD i 0))
      | _ => none
    | _ => none
  | .cells l => match takeN l (i * sz + j) n with | some r => aggV y r | none => none
  | .rows m xs => match m == sz with
    | true => match takeN (xs.getD i []) j n with | some r => (match aggV y r with | some (q, v) => some (q ∧ i < xs.length ∧ j + n ≤ m ∧ ∀ r ∈ xs, r.length = m, v) | none => none) | none => (match m == n, j with | true, 0 => some (i < xs.length ∧ ∀ r ∈ xs, r.length = m, .agg (xs.getD i [])) | _, _ => none)
    | _ => none
theorem flat_get {α : Type} (f : α → List Value) (n : Nat) : ∀ (xs : List α) (i j : Nat) (x : α), (∀ r ∈ xs, (f r).length = n) → xs[i]? = some x → j < n → (xs.flatMap f)[i * n + j]? = (f x)[j]?
  | [], i, j, x, _, h, _ => by simp at h
  | y :: xs, 0, j, x, hl, h, hj => by
    simp at h; subst h
    have := hl y List.mem_cons_self
    rw [List.flatMap_cons, List.getElem?_append_left (by omega)]
    simp
  | y :: xs, i + 1, j, x, hl, h, hj => by
    have h1 := hl y List.mem_cons_self
    rw [List.flatMap_cons, List.getElem?_append_right (by rw [h1, Nat.add_mul]; omega), h1]
    rw [show (i + 1) * n + j - n = i * n + j by rw [Nat.add_mul]; omega]
    exact flat_get f n xs i j x (fun r hr => hl r (List.mem_cons_of_mem _ hr)) (by simpa using h) hj
theorem wcs_len (a : Nat) : (wcs a).length = 4 := rfl
theorem wcs_get (a j : Nat) (h : j < 4) : (wcs a)[j]? = some (.int .u64 (lm a j : Nat)) := by
  have : j = 0 ∨ j = 1 ∨ j = 2 ∨ j = 3 := by omega
  rcases this with rfl | rfl | rfl | rfl <;> rfl
theorem getD_get {α : Type} {xs : List α} {i : Nat} (d : α) (h : i < xs.length) : xs[i]? = some (xs.getD i d) := by
  rw [List.getD_eq_getElem?_getD, List.getElem?_eq_getElem h]; rfl
theorem cvs_len (l : List SV) : (cvs l).length = l.length := by rw [cvs_eq, List.length_map]
theorem words_get {xs : List Nat} {i j : Nat} (hi : i < xs.length) (hj : j < 4) : (cc (.words xs))[i * 4 + j]? = some (.int .u64 (lm (xs.getD i 0) j : Nat)) := by
  unfold cc
  rw [flat_get wcs 4 xs i j _ (fun r _ => wcs_len r) (getD_get 0 hi) hj, wcs_get _ _ hj]
theorem conOne_sound {con : Con} {i sz j : Nat} {p : Prop} {v : SV} (h : conOne con i sz j = some (p, v)) (hp : p) : (cc con)[i * sz + j]? = some (cv v) := by
  cases con with
  | ints k xs =>
    simp only [conOne] at h
    split at h
    · simp only [Option.some.injEq, Prod.mk.injEq] at h
      obtain ⟨rfl, rfl⟩ := h
      rw [Nat.mul_zero, Nat.zero_add]
      unfold cc
      rw [List.getElem?_map, getD_get 0 hp]
      rfl
    · cases h
  | words xs =>
    simp only [conOne] at h
    split at h
    · simp only [Option.some.injEq, Prod.mk.injEq] at h
      obtain ⟨rfl, rfl⟩ := h
      have := words_get hp.1 hp.2
      simpa [cv] using this
    · simp only [Option.some.injEq, Prod.mk.injEq] at h
      obtain ⟨rfl, rfl⟩ := h
      exact words_get hp.1 hp.2
    · cases h
  | cells l =>
    simp only [conOne] at h
    split at h
    · rename_i u hu
      simp only [Option.some.injEq, Prod.mk.injEq] at h
      obtain ⟨rfl, rfl⟩ := h
      exact nth?_some hu
    · cases h
  | rows n xs =>
    simp only [conOne] at h
    split at h
    · rename_i hn
      split at h
      · rename_i u hu
        simp only [Option.some.injEq, Prod.mk.injEq] at h
        obtain ⟨rfl, rfl⟩ := h
        obtain ⟨h1, h2, h3⟩ := hp
        have hn' : n = sz := by simpa using hn
        subst hn'
        unfold cc
        rw [flat_get cvs n xs i j _ (fun r hr => by rw [cvs_len]; exact h3 r hr) (getD_get [] h1) h2]
        exact nth?_some hu
      · cases h
    · cases h
theorem conMany_sound {y : Ty} {n : Nat} {con : Con} {i sz j : Nat} {p : Prop} {v : SV} (hy : aggN y = some (some n)) 
    (h : conMany y n con i sz j = some (p, v)) (hp : p) : ∃ cs : List Value, cv v = .agg cs.toArray ∧ cs.length = n ∧ ∀ r u, cs[r]? = some u → (cc con)[i * sz + j + r]? = some u := by
  cases con with
  | ints k xs =>
    simp only [conMany] at h
    split at h
    · split at h
      · split at h
        · simp only [Option.some.injEq, Prod.mk.injEq] at h
          obtain ⟨rfl, rfl⟩ := h
          obtain ⟨rfl, h2, h3⟩ := hp
          simp only [aggN, Option.some.injEq] at hy
          refine ⟨wcs (numI xs), rfl, by rw [wcs_len]; exact hy, fun r u hu => ?_⟩
          rw [numI_cells h2 h3] at hu
          simpa [cc] using hu
        · cases h
      · split at h
        · simp only [Option.some.injEq, Prod.mk.injEq] at h
          obtain ⟨rfl, rfl⟩ := h
          exact ⟨xs.map (Value.int k), rfl, by simpa using hp, fun r u hu => by simpa [cc] using hu⟩
        · simp only [Option.some.injEq, Prod.mk.injEq] at h
          obtain ⟨rfl, rfl⟩ := h
          refine ⟨((xs.drop j).take n).map (Value.int k), rfl, by simp; omega, fun r u hu => ?_⟩
          simp only [List.getElem?_map, List.getElem?_take, List.getElem?_drop, Option.map_eq_some_iff] at hu
          obtain ⟨x, hx, rfl⟩ := hu
          split at hx
          · simp [cc, hx]
          · cases hx
      · cases h
    · split at h
      · simp only [Option.some.injEq, Prod.mk.injEq] at h
        obtain ⟨rfl, rfl⟩ := h
        obtain ⟨rfl, h2⟩ := hp
        refine ⟨((xs.drop i).take n).map (Value.int k), rfl, by simp; omega, fun r u hu => ?_⟩
        simp only [List.getElem?_map, List.getElem?_take, List.getElem?_drop, Option.map_eq_some_iff] at hu
        obtain ⟨x, hx, rfl⟩ := hu
        split at hx
        · simp [cc, hx]
        · cases hx
      · cases h
    · cases h
  | words xs =>
    simp only [conMany] at h
    split at h
    · simp only [aggN, Option.some.injEq] at hy
      split at h
      · simp only [Option.some.injEq, Prod.mk.injEq] at h
        obtain ⟨rfl, rfl⟩ := h
        obtain ⟨h1, rfl⟩ := hp
        refine ⟨wcs (xs.getD 0 0), rfl, by rw [wcs_len]; exact hy, fun r u hu => ?_⟩
        have hr : r < 4 := by
          have := (List.getElem?_eq_some_iff.1 hu).1; rwa [wcs_len] at this
        have h5 := words_get h1 hr
        rw [wcs_get _ _ hr] at hu
        rw [Nat.zero_mul, Nat.zero_add] at h5
        rw [Nat.mul_zero, Nat.add_zero, Nat.zero_add, h5]; exact hu
      · simp only [Option.some.injEq, Prod.mk.injEq] at h
        obtain ⟨rfl, rfl⟩ := h
        obtain ⟨h1, rfl⟩ := hp
        refine ⟨wcs (xs.getD i 0), rfl, by rw [wcs_len]; exact hy, fun r u hu => ?_⟩
        have hr : r < 4 := by
          have := (List.getElem?_eq_some_iff.1 hu).1; rwa [wcs_len] at this
        have := words_get h1 hr
        rw [wcs_get _ _ hr] at hu
        rw [Nat.add_zero, this]; exact hu
      · cases h
    · cases h
  | cells l =>
    simp only [conMany] at h
    split at h
    · rename_i q hq
      obtain ⟨h1, h2⟩ := takeN_some hq
      exact ⟨cvs q, aggV_some h hp, by rw [cvs_len]; exact h1, fun r u hu => h2 r u hu⟩
    · cases h
  | rows m xs =>
    simp only [conMany] at h
    split at h
    · rename_i hm
      have hm' : m = sz := by simpa using hm
      subst hm'
      split at h
      · rename_i q hq
        obtain ⟨t1, t2⟩ := takeN_some hq
        split at h
        · rename_i q' v' hv
          simp only [Option.some.injEq, Prod.mk.injEq] at h
          obtain ⟨rfl, rfl⟩ := h
          obtain ⟨hq', h1, h2, h3⟩ := hp
          refine ⟨cvs q, aggV_some hv hq', by rw [cvs_len]; exact t1, fun r u hu => ?_⟩
          have hr : r < n := by
            have := (List.getElem?_eq_some_iff.1 hu).1; rwa [cvs_len, t1] at this
          unfold cc
          rw [Nat.add_assoc, flat_get cvs m xs i (j + r) _ (fun r hr => by rw [cvs_len]; exact h3 r hr) (getD_get [] h1) (by omega)]
          exact t2 r u hu
        · cases h
      · split at h
        · rename_i hn _
          simp only [Option.some.injEq, Prod.mk.injEq] at h
          obtain ⟨rfl, rfl⟩ := h
          obtain ⟨h1, h3⟩ := hp
          have hn' : m = n := by simpa using hn
          subst hn'
          have hmem : xs.getD i [] ∈ xs := List.mem_of_getElem? (getD_get [] h1)
          refine ⟨cvs (xs.getD i []), rfl, by rw [cvs_len]; exact h3 _ hmem, fun r u hu => ?_⟩
          have hr : r < m := by
            have := (List.getElem?_eq_some_iff.1 hu).1; rwa [cvs_len, h3 _ hmem] at this
          unfold cc
          rw [Nat.add_zero, flat_get cvs m xs i r _ (fun r hr => by rw [cvs_len]; exact h3 r hr) (getD_get [] h1) hr]
          exact hu
        · cases h
    · cases h
end Go.Proofs.Ytdanlclhnehieaa

/-
  A symbolic walk of my own: loads, places, pieces of slices; the step of an operation that leaves the world alone, and that it is right.
-/
namespace Go.Proofs.Ytdanlclhnehieaa
set_option linter.unusedSimpArgs false
set_option linter.unusedVariables false
open Go.RowKit

def blkAt (b base : Nat) : Blk → Option (Prop × Con)
  | .blk b' _ con => some (b = b' ∧ base = 0, con)
  | .own v _ _ _ con => some (b = blkOf v ∧ base = 0, con)
  | .ro a con => some (b = blkO a ∧ base = offO a, con)
  | _ => none
theorem own_cell {w : World} {base : Nat} {t : TypeId} {es n : Nat} {v : Value} {xs : List Value} (h : w.ownsRow base t es v n xs) {j : Nat} {u : Value} (hj : xs[j]? = some u) :
    ∃ g cap, v = .slice (some ⟨g, 0, none⟩) n cap ∧ w.cell? ⟨g, j, none⟩ = some u := by
  obtain ⟨hl, h⟩ := h
  have hjl := (List.getElem?_eq_some_iff.1 hj).1
  rcases h with ⟨_, rfl⟩ | ⟨g, cap, cur, rfl, _, hg, _, _, _, hx⟩
  · rw [Nat.zero_mul] at hl; omega
  · refine ⟨g, cap, rfl, ?_⟩
    rw [← hx] at hj
    simp only [List.getElem?_take] at hj
    split at hj
    · simp only [World.cell?, hg]; simpa using hj
    · cases hj
theorem MemOk.cell {w0 : World} {B : List Nat} {m : List Blk} {w : World} (h : MemOk w0 B m w) {nm b base : Nat} {q : Prop} {con : Con} (hb : blkAt b base (bget m nm) = some (q, con)) (hq : q)
    {j : Nat} {u : Value} (hj : (cc con)[j]? = some u) : w.cell? ⟨b, base + j, none⟩ = some u := by
  cases he : bget m nm with
  | gone => rw [he] at hb; cases hb
  | heap l => rw [he] at hb; cases hb
  | old h => rw [he] at hb; cases hb
  | mp b ks f => rw [he] at hb; cases hb
  | rg b r ks f left cnt last => rw [he] at hb; cases hb
  | wd τ p S l => rw [he] at hb; cases hb
  | mo b ks f => rw [he] at hb; cases hb
  | blk b' t con' =>
    have h1 := h.each _ (bget_mem he (by simp))
    rw [he] at hb
    simp only [blkAt, Option.some.injEq, Prod.mk.injEq] at hb
    obtain ⟨rfl, rfl⟩ := hb
    obtain ⟨rfl, rfl⟩ := hq
    simp only [World.cell?, h1.1]
    simpa using hj
  | own v n t es con' =>
    have h1 := h.each _ (bget_mem he (by simp))
    rw [he] at hb
    simp only [blkAt, Option.some.injEq, Prod.mk.injEq] at hb
    obtain ⟨rfl, rfl⟩ := hb
    obtain ⟨rfl, rfl⟩ := hq
    obtain ⟨g, cap, rfl, h2⟩ := own_cell h1.1 hj
    simpa [blkOf, blkO] using h2
  | ro a con' =>
    have h1 := h.each _ (bget_mem he (by simp))
    rw [he] at hb
    simp only [blkAt, Option.some.injEq, Prod.mk.injEq] at hb
    obtain ⟨rfl, rfl⟩ := hb
    obtain ⟨rfl, rfl⟩ := hq
    obtain ⟨b, off, rfl, _, _, h2⟩ := h1 j u hj
    exact h2
def Hof : Blk → Nat → Obj → Prop
  | .blk b t con, b', o => b' = b ∧ o = .cells (cc con).toArray t (0, 0)
  | .heap l, b, o => (b, o) ∈ l
  | .old h, b, o => h b = some o
  | _, _, _ => False
def HM (m : List Blk) (b : Nat) (o : Obj) : Prop := ∃ e ∈ m, Hof e b o
theorem MemOk.hm {w0 : World} {B : List Nat} {m : List Blk} {w : World} (h : MemOk w0 B m w) {b : Nat} {o : Obj} (ho : HM m b o) : w.heap[b]? = some o := by
  obtain ⟨e, he, hf⟩ := ho
  have h1 := h.each e he
  cases e with
  | blk b' t con => obtain ⟨rfl, rfl⟩ := hf; exact h1.1
  | heap l => exact (h1 _ hf).1
  | old h => exact (h1 _ _ hf).1
  | _ => exact hf.elim
def LiesH (H : Nat → Obj → Prop) (a : Option Addr) (cs : List Value) : Prop :=
  cs = [] ∨ ∃ b off arr t fr, a = some ⟨b, off, none⟩ ∧ H b (.cells arr t fr) ∧ ∀ j u, cs[j]? = some u → arr[off + j]? = some u
theorem LiesH.mono {H H' : Nat → Obj → Prop} (hh : ∀ b o, H b o → H' b o) {a : Option Addr} {cs : List Value} (h : LiesH H a cs) : LiesH H' a cs :=
  h.imp id fun ⟨b, off, arr, t, fr, h1, h2, h3⟩ => ⟨b, off, arr, t, fr, h1, hh _ _ h2, h3⟩
theorem lies_cell {w0 : World} {B : List Nat} {m : List Blk} {w : World} (hm : MemOk w0 B m w) {a : Option Addr} {cs : List Value} (h : LiesH (HM m) a cs) {j : Nat} {u : Value} (hj : cs[j]? = some u) :
    ∃ b off, a = some ⟨b, off, none⟩ ∧ w.cell? ⟨b, off + j, none⟩ = some u := by
  rcases h with h | ⟨b, off, arr, t, fr, rfl, h2, h3⟩
  · rw [h] at hj; cases hj
  · refine ⟨b, off, rfl, ?_⟩
    have := hm.hm h2
    simp only [World.cell?, this]
    simpa using h3 j u hj
def loadS (y : Ty) (x : SV) (m : List Blk) : Option (Prop × SV) :=
  match x with
  | .gp a con i sz j => addp (LiesH (HM m) a (cc con)) (match aggN y with | some none => conOne con i sz j | some (some n) => conMany y n con i sz j | none => none)
  | .ptr nm b base i sz j =>
    match blkAt b base (bget m nm) with
    | some (q, con) => addp q (match aggN y with | some none => conOne con i sz j | some (some n) => conMany y n con i sz j | none => none)
    | none => none
  | _ => none
theorem loadS_sound {P : Program} {t : TypeId} {y : Ty} (hy : TyOk1 P t y) {x : SV} {m : List Blk} {p : Prop} {v : SV} (h : loadS y x m = some (p, v)) (hp : p)
    {w0 : World} {B : List Nat} {w : World} (hm : MemOk w0 B m w) : (Instr.loadAt t (cv x)).run P w = .ok (cv v) w := by
  unfold loadS at h
  split at h
  · rename_i a con i sz j
    obtain ⟨p', h', hpp⟩ := addp_some h
    obtain ⟨hq1, hp'⟩ := hpp hp
    simp only [cv, Instr.loadAt, Instr.sureAddr, loadVar, Sem.run_bind, Sem.run_pure, Result.andThen_ok]
    cases ha : aggN y with
    | none => rw [ha] at h'; cases h'
    | some o =>
      rw [ha] at h'
      cases o with
      | none =>
        obtain ⟨b, off, rfl, h1⟩ := lies_cell hm hq1 (conOne_sound h' hp')
        simp only [blkO, offO, isAgg_one hy ha, Result.andThen_ok, Bool.false_eq_true, if_false, run_load, h1]
      | some n =>
        obtain ⟨cs, hcs, hl, hc⟩ := conMany_sound ha h' hp'
        obtain ⟨g1, g2⟩ := isAgg_many hy ha
        have h2 := run_loadCells_list (P := P) w ⟨blkO a, offO a + (i * sz + j), none⟩ cs (fun r u hu => by
          obtain ⟨b, off, rfl, h3⟩ := lies_cell hm hq1 (hc r u hu)
          have e : (⟨blkO (some ⟨b, off, none⟩), offO (some ⟨b, off, none⟩) + (i * sz + j), none⟩ : Addr).add r = ⟨b, off + (i * sz + j + r), none⟩ := by
            unfold Addr.add; split
            · rename_i h0; subst h0; rfl
            · simp only [blkO, offO, Addr.mk.injEq, and_true, true_and]; omega
          rw [e]; exact h3)
        rw [hl] at h2
        simp only [g1, Result.andThen_ok, if_true, Sem.run_bind, g2.run, h2, Sem.run_pure, hcs]
  · rename_i nm b base i sz j
    split at h
    · rename_i q con hq
      obtain ⟨p', h', hpp⟩ := addp_some h
      obtain ⟨hq1, hp'⟩ := hpp hp
      simp only [cv, Instr.loadAt, Instr.sureAddr, loadVar, Sem.run_bind, Sem.run_pure, Result.andThen_ok]
      cases ha : aggN y with
      | none => rw [ha] at h'; cases h'
      | some o =>
        rw [ha] at h'
        cases o with
        | none =>
          have h1 := hm.cell hq hq1 (conOne_sound h' hp')
          simp only [isAgg_one hy ha, Result.andThen_ok, Bool.false_eq_true, if_false, run_load, h1]
        | some n =>
          obtain ⟨cs, hcs, hl, hc⟩ := conMany_sound ha h' hp'
          obtain ⟨g1, g2⟩ := isAgg_many hy ha
          have h2 := run_loadCells_list (P := P) w ⟨b, base + (i * sz + j), none⟩ cs (fun r u hu => by
            have h3 := hm.cell hq hq1 (hc r u hu)
            have e : (⟨b, base + (i * sz + j), none⟩ : Addr).add r = ⟨b, base + (i * sz + j + r), none⟩ := by
              unfold Addr.add; split
              · rename_i h0; subst h0; rfl
              · simp only [Addr.mk.injEq, and_true, true_and]; omega
            rw [e]; exact h3)
          rw [hl] at h2
          simp only [g1, Result.andThen_ok, if_true, Sem.run_bind, g2.run, h2, Sem.run_pure, hcs]
    · cases h
  · cases h

def addIx : Nat → Nat → Nat
  | 0, n => n
  | k, n => k + n
theorem addIx_eq (a b : Nat) : addIx a b = a + b := by unfold addIx; split <;> simp
def conEs : Con → Nat
  | .ints _ _ => 1
  | .words _ => 4
  | .cells _ => 1
  | .rows n _ => n
def conN : Con → Nat
  | .ints _ xs => xs.length
  | .words xs => xs.length
  | .cells l => l.length
  | .rows _ xs => xs.length
def idxS (y : Ty) (x i : SV) (m : List Blk) : Option (Prop × SV) :=
  match x, i with
  | .ptr nm b base i0 sz j0, .int _ n =>
    match y with
    | .word => some (0 ≤ n ∧ n < 4, .ptr nm b base i0 sz (addIx j0 n.toNat))
    | .arr N _ es _ => match es with
      | 1 => some (0 ≤ n ∧ n < (N : Int), .ptr nm b base i0 sz (addIx j0 n.toNat))
      | es => match i0, sz, j0 with
        | 0, 0, 0 => some (0 ≤ n ∧ n < (N : Int), .ptr nm b base n.toNat es 0)
        | i0, sz, j0 => some (0 ≤ n ∧ n < (N : Int), .ptr nm b base i0 sz (j0 + n.toNat * es))
    | _ => none
  | .sl nm a st _ es len cap, .int _ n =>
    match y with
    | .sl _ es' _ => match es == es' with
      | true => match es with
        | 1 => some (0 ≤ n ∧ n < (len : Int) ∧ len ≤ cap ∧ adr a len cap, .ptr nm (blkO a) (offO a) 0 0 (addIx st n.toNat))
        | es => some (0 ≤ n ∧ n < (len : Int) ∧ len ≤ cap ∧ adr a len cap, .ptr nm (blkO a) (offO a) (addIx st n.toNat) es 0)
      | false => none
    | _ => none
  | .own nm v len, .int _ n =>
    match y, bget m nm with
    | .sl _ es _, .own v' len' _ es' _ => match es == es' with
      | true => match es with
        | 1 => some (0 ≤ n ∧ n < (len : Int) ∧ v = v' ∧ len = len', .ptr nm (blkOf v) 0 0 0 n.toNat)
        | es => some (0 ≤ n ∧ n < (len : Int) ∧ v = v' ∧ len = len', .ptr nm (blkOf v) 0 n.toNat es 0)
      | false => none
    | _, _ => none
  | .gh a len cap con, .int _ n =>
    match y with
    | .sl _ es' _ => match conEs con == es' with
      | true => match es' with
        | 1 => some (0 ≤ n ∧ n < (len : Int) ∧ len ≤ cap ∧ adr a len cap, .gp a con 0 0 n.toNat)
        | es => some (0 ≤ n ∧ n < (len : Int) ∧ len ≤ cap ∧ adr a len cap, .gp a con n.toNat es 0)
      | false => none
    | _ => none
  | .gp a con i0 sz j0, .int _ n =>
    match y with
    | .arr N _ es _ => match es with
      | 1 => some (0 ≤ n ∧ n < (N : Int), .gp a con i0 sz (addIx j0 n.toNat))
      | es => match i0, sz, j0 with
        | 0, 0, 0 => some (0 ≤ n ∧ n < (N : Int), .gp a con n.toNat es 0)
        | i0, sz, j0 => some (0 ≤ n ∧ n < (N : Int), .gp a con i0 sz (j0 + n.toNat * es))
    | _ => none
  | _, _ => none
theorem own_pos {w : World} {base : Nat} {t : TypeId} {es n : Nat} {v : Value} {xs : List Value} (h : w.ownsRow base t es v n xs) (hn : 0 < n) :
    ∃ g cap, v = .slice (some ⟨g, 0, none⟩) n cap := by
  obtain ⟨hl, h⟩ := h
  rcases h with ⟨_, rfl⟩ | ⟨g, cap, cur, rfl, _⟩
  · omega
  · exact ⟨g, cap, rfl⟩
theorem addr_add (b o n : Nat) : (⟨b, o, none⟩ : Addr).add n = ⟨b, o + n, none⟩ := by
  unfold Addr.add; split
  · rename_i h0; subst h0; rfl
  · rfl
theorem run_idx_arr {P : Program} {t e : TypeId} {N es b o : Nat} {k : IntKind} {n : Int} (h1 : P.underlying t = some (.array N e)) (h2 : Sz P e es) (h0 : 0 ≤ n) (hn : n < (N : Int)) (w : World) :
    (Instr.indexAt t (.pointer (some ⟨b, o, none⟩)) (.int k n)).run P w = .ok (.pointer (some ⟨b, o + n.toNat * es, none⟩)) w := by
  unfold Instr.indexAt
  simp only [asIntOf, Sem.run_bind, Sem.run_pure, Result.andThen_ok, run_underlying h1, Instr.sureAddr]
  simp only [h0, hn, and_self, if_true, Sem.run_bind, h2.run, Result.andThen_ok, Sem.run_pure, addr_add]
theorem run_idx_sl {P : Program} {t e : TypeId} {es len cap : Nat} {a : Addr} {k : IntKind} {n : Int} (h1 : P.underlying t = some (.slice e)) (h2 : Sz P e es) (h0 : 0 ≤ n) (hn : n < (len : Int)) (w : World) :
    (Instr.indexAt t (.slice (some a) len cap) (.int k n)).run P w = .ok (.pointer (some (a.add (n.toNat * es)))) w := by
  unfold Instr.indexAt
  simp only [asIntOf, Sem.run_bind, Sem.run_pure, Result.andThen_ok, run_underlying h1]
  simp only [h0, hn, and_self, if_true, Sem.run_bind, h2.run, Result.andThen_ok, Sem.run_pure]
theorem sl_sz {P : Program} {t e : TypeId} {es eb : Nat} (h : TyOk1 P t (.sl e es eb)) : P.underlying t = some (.slice e) ∧ Sz P e es := by
  obtain ⟨h1, _, i, z, hi, _, hs, _⟩ := h
  exact ⟨h1, by unfold Sz; rw [hi]; simp [hs]⟩
theorem none_of {α : Type} {x : α} {q : Prop} (h : (none : Option α) = some x) : q := by cases h
theorem idxS_sound {P : Program} {t : TypeId} {y : Ty} (hy : TyOk1 P t y) {x i : SV} {m : List Blk} {p : Prop} {v : SV} (h : idxS y x i m = some (p, v)) (hp : p)
    {w0 : World} {B : List Nat} {w : World} (hm : MemOk w0 B m w) : (Instr.indexAt t (cv x) (cv i)).run P w = .ok (cv v) w := by
  unfold idxS at h
  split at h
  · split at h
    · simp only [Option.some.injEq, Prod.mk.injEq] at h
      obtain ⟨rfl, rfl⟩ := h
      obtain ⟨u, h1, _, h3, _⟩ := hy
      simp only [cv]
      rw [run_idx_arr h1 h3 hp.1 hp.2, addIx_eq]
      simp only [Nat.mul_one, Result.ok.injEq, Value.pointer.injEq, Option.some.injEq, Addr.mk.injEq, and_true, true_and]; omega
    · rename_i N e es ek
      obtain ⟨h1, h2, _⟩ := hy
      split at h
      · simp only [Option.some.injEq, Prod.mk.injEq] at h
        obtain ⟨rfl, rfl⟩ := h
        simp only [cv]
        rw [run_idx_arr h1 h2 hp.1 hp.2, addIx_eq]
        simp only [Nat.mul_one, Result.ok.injEq, Value.pointer.injEq, Option.some.injEq, Addr.mk.injEq, and_true, true_and]; omega
      · split at h
        · simp only [Option.some.injEq, Prod.mk.injEq] at h
          obtain ⟨rfl, rfl⟩ := h
          simp only [cv]
          rw [run_idx_arr h1 h2 hp.1 hp.2]
          simp only [Result.ok.injEq, Value.pointer.injEq, Option.some.injEq, Addr.mk.injEq, and_true, true_and]; omega
        · simp only [Option.some.injEq, Prod.mk.injEq] at h
          obtain ⟨rfl, rfl⟩ := h
          simp only [cv]
          rw [run_idx_arr h1 h2 hp.1 hp.2]
          simp only [Result.ok.injEq, Value.pointer.injEq, Option.some.injEq, Addr.mk.injEq, and_true, true_and]; omega
    · exact none_of h
  · rename_i nm a st st0 es len cap k n
    split at h
    · rename_i e es' eb
      split at h
      · rename_i he
        have he' : es = es' := by simpa using he
        subst he'
        obtain ⟨h1, h2⟩ := sl_sz hy
        have key : ∀ (u : Value), 0 ≤ n ∧ n < (len : Int) ∧ len ≤ cap ∧ adr a len cap → u = .pointer (some ⟨blkO a, offO a + (st + n.toNat) * es, none⟩) →
            (Instr.indexAt t (.slice (a.map (·.add ((if cap = 0 then st0 else st) * es))) len cap) (.int k n)).run P w = .ok u w := by
          intro u ⟨q1, q2, q3, q4'⟩ hu
          have q4 := adr_pos q4' (by omega)
          clear q4'
          rw [hu, if_neg (by omega)]
          generalize blkO a = b at *
          generalize offO a = o at *
          subst q4
          simp only [Option.map_some]
          rw [run_idx_sl h1 h2 q1 q2, addr_add, addr_add]
          simp only [Result.ok.injEq, Value.pointer.injEq, Option.some.injEq, Addr.mk.injEq, and_true, true_and, Nat.add_mul]; omega
        split at h
        · simp only [Option.some.injEq, Prod.mk.injEq] at h
          obtain ⟨rfl, rfl⟩ := h
          simp only [cv]
          exact key _ hp (by rw [addIx_eq]; simp)
        · simp only [Option.some.injEq, Prod.mk.injEq] at h
          obtain ⟨rfl, rfl⟩ := h
          simp only [cv]
          exact key _ hp (by rw [addIx_eq]; simp)
      · exact none_of h
    · exact none_of h
  · rename_i nm u len k n
    split at h
    · rename_i e es eb v' len' t' es' con hbg
      split at h
      · rename_i he
        have he' : es = es' := by simpa using he
        subst he'
        obtain ⟨h1, h2⟩ := sl_sz hy
        have h3 := hm.each _ (bget_mem hbg (by simp))
        have key : 0 ≤ n ∧ n < (len : Int) ∧ u = v' ∧ len = len' → (Instr.indexAt t (slV u len) (.int k n)).run P w = .ok (.pointer (some ⟨blkOf u, 0 + n.toNat * es, none⟩)) w := by
          intro ⟨q1, q2, q3, q4⟩
          subst q3; subst q4
          obtain ⟨g, cap, rfl⟩ := own_pos h3.1 (by omega)
          simp only [slV]
          rw [run_idx_sl h1 h2 q1 q2, addr_add]
          rfl
        split at h
        · simp only [Option.some.injEq, Prod.mk.injEq] at h
          obtain ⟨rfl, rfl⟩ := h
          simp only [cv]
          rw [key hp]; simp
        · simp only [Option.some.injEq, Prod.mk.injEq] at h
          obtain ⟨rfl, rfl⟩ := h
          simp only [cv]
          rw [key hp]; simp
      · exact none_of h
    · exact none_of h
  · rename_i a len cap con k n
    split at h
    · rename_i e es' eb
      split at h
      · rename_i he
        have he' : conEs con = es' := by simpa using he
        obtain ⟨h1, h2⟩ := sl_sz hy
        have key : ∀ (u : Value), 0 ≤ n ∧ n < (len : Int) ∧ len ≤ cap ∧ adr a len cap → u = .pointer (some ⟨blkO a, offO a + n.toNat * es', none⟩) →
            (Instr.indexAt t (.slice a len cap) (.int k n)).run P w = .ok u w := by
          intro u ⟨q1, q2, q3, q4'⟩ hu
          have q4 := adr_pos q4' (by omega)
          clear q4'
          rw [hu]
          generalize blkO a = b at *
          generalize offO a = o at *
          subst q4
          rw [run_idx_sl h1 h2 q1 q2, addr_add]
        split at h
        · simp only [Option.some.injEq, Prod.mk.injEq] at h
          obtain ⟨rfl, rfl⟩ := h
          simp only [cv]
          exact key _ hp (by simp)
        · simp only [Option.some.injEq, Prod.mk.injEq] at h
          obtain ⟨rfl, rfl⟩ := h
          simp only [cv]
          exact key _ hp (by simp)
      · exact none_of h
    · exact none_of h
  · rename_i a con i0 sz j0 k n
    split at h
    · rename_i N e es ek
      obtain ⟨h1, h2, _⟩ := hy
      split at h
      · simp only [Option.some.injEq, Prod.mk.injEq] at h
        obtain ⟨rfl, rfl⟩ := h
        simp only [cv]
        rw [run_idx_arr h1 h2 hp.1 hp.2, addIx_eq]
        simp only [Nat.mul_one, Result.ok.injEq, Value.pointer.injEq, Option.some.injEq, Addr.mk.injEq, and_true, true_and]; omega
      · split at h
        · simp only [Option.some.injEq, Prod.mk.injEq] at h
          obtain ⟨rfl, rfl⟩ := h
          simp only [cv]
          rw [run_idx_arr h1 h2 hp.1 hp.2]
          simp only [Result.ok.injEq, Value.pointer.injEq, Option.some.injEq, Addr.mk.injEq, and_true, true_and]; omega
        · simp only [Option.some.injEq, Prod.mk.injEq] at h
          obtain ⟨rfl, rfl⟩ := h
          simp only [cv]
          rw [run_idx_arr h1 h2 hp.1 hp.2]
          simp only [Result.ok.injEq, Value.pointer.injEq, Option.some.injEq, Addr.mk.injEq, and_true, true_and]; omega
    · exact none_of h
  · exact none_of h
end Go.Proofs.Ytdanlclhnehieaa

/-
  A symbolic walk of my own: pieces of slices, builtins that only read, values put together; the step of an operation that leaves the world alone.
-/
namespace Go.Proofs.Ytdanlclhnehieaa
set_option linter.unusedSimpArgs false
set_option linter.unusedVariables false
open Go.RowKit

def bnd (d : Int) : Option SV → Option Int
  | none => some d
  | some (.int _ n) => some n
  | _ => none
def curSt (cap st0 st : Nat) : Nat := if cap = 0 then st0 else st
def capOf : Value → Nat
  | .slice _ _ c => c
  | _ => 0
def sliceP (l h : Int) (lo : Nat) (cap : Nat) (f : Nat → Nat → Nat → SV) : Option (Prop × SV) :=
  some (0 ≤ l ∧ l ≤ h ∧ h ≤ (cap : Int) ∧ lo ≤ cap, f l.toNat (h.toNat - l.toNat) (cap - l.toNat))
def conSub (con : Con) (st len : Nat) : Con :=
  match con with
  | .ints k xs => .ints k ((xs.drop st).take len)
  | .words xs => .words ((xs.drop st).take len)
  | .cells l => .cells ((l.drop st).take len)
  | .rows n xs => .rows n ((xs.drop st).take len)
def shA (a : Option Addr) (cap l es : Nat) : Option Addr := if cap = l then a else a.map (·.add (l * es))
def sliceS (y : Ty) (x : SV) (lo hi : Option SV) (m : List Blk) : Option (Prop × SV) :=
  match x with
  | .gh a len cap con =>
    match y with
    | .sl _ es' _ => match conEs con == es', bnd 0 lo, bnd len hi with
      | true, some l, some h => some (0 ≤ l ∧ l ≤ h ∧ h ≤ (len : Int) ∧ len ≤ cap, .gh (shA a cap l.toNat es') (h.toNat - l.toNat) (cap - l.toNat) (conSub con l.toNat (h.toNat - l.toNat)))
      | _, _, _ => none
    | _ => none
  | .ptr nm b base i sz j =>
    match y with
    | .word => match sz, bnd 0 lo, bnd 4 hi with
      | 0, some l, some h => sliceP l h 0 4 fun l n c => .sl nm (some ⟨b, base, none⟩) (addIx j l) j 1 n c
      | _, _, _ => none
    | .arr N _ es _ => match es with
      | 1 => match sz, bnd 0 lo, bnd N hi with
        | 0, some l, some h => sliceP l h 0 N fun l n c => .sl nm (some ⟨b, base, none⟩) (addIx j l) j 1 n c
        | _, _, _ => none
      | es => match i, sz, j, bnd 0 lo, bnd N hi with
        | 0, 0, 0, some l, some h => sliceP l h 0 N fun l n c => .sl nm (some ⟨b, base, none⟩) l 0 es n c
        | _, _, _, _, _ => none
    | _ => none
  | .sl nm a st st0 es len cap =>
    match y with
    | .sl _ es' _ => match es == es', bnd 0 lo, bnd len hi with
      | true, some l, some h => sliceP l h len cap fun l n c => .sl nm a (addIx st l) (curSt cap st0 st) es n c
      | _, _, _ => none
    | _ => none
  | .own nm v n =>
    match y, bget m nm with
    | .sl _ es' _, .own v' n' _ es _ => match es == es', bnd 0 lo, bnd n hi with
      | true, some l, some h => addp (v = v' ∧ n = n' ∧ 0 < n ∧ h ≤ (n : Int)) (sliceP l h n (max n (capOf v)) fun l n c => .sl nm (some ⟨blkOf v, 0, none⟩) l 0 es n c)
      | _, _, _ => none
    | _, _ => none
  | .str xs =>
    match y with
    | .str => match bnd 0 lo, bnd xs.length hi with
      | some l, some h => some (0 ≤ l ∧ l ≤ h ∧ h ≤ (xs.length : Int), .str ((xs.drop l.toNat).take (h.toNat - l.toNat)))
      | _, _ => none
    | _ => none
  | _ => none
theorem run_sliceBounds {P : Program} {w : World} {isS : Bool} {len cap : Nat} {lo hi : Option SV} {l h : Int} (hl : bnd 0 lo = some l) (hh : bnd len hi = some h)
    (h0 : 0 ≤ l) (h1 : l ≤ h) (h2 : h ≤ (cap : Int)) (_hle : len ≤ cap) :
    (Instr.sliceBounds isS len cap (lo.map cv) (hi.map cv) none).run P w = .ok (l.toNat, h.toNat, cap) w := by
  have hb : ∀ (k : IntKind) (i : Int) (y : Nat) (c : BoundsCode), 0 ≤ i → i ≤ (y : Int) → (Instr.sliceBound (.int k i) y c).run P w = .ok i.toNat w := fun k i y c a b => run_sliceBound w k i y c a b
  unfold Instr.sliceBounds
  cases hi with
  | none =>
    simp [bnd] at hh; subst hh
    cases lo with
    | none => simp [bnd] at hl; subst hl; simp
    | some x => cases x <;> simp [bnd] at hl; subst hl; simp [cv, hb _ _ _ _ h0 h1]
  | some y =>
    cases y <;> simp [bnd] at hh
    rename_i ky ny
    subst hh
    cases lo with
    | none =>
      simp [bnd] at hl; subst hl
      cases isS <;> simp [cv, hb _ _ _ _ h1 h2]
    | some x =>
      cases x <;> simp [bnd] at hl
      rename_i kx nx
      subst hl
      have h5 : nx ≤ ((ny.toNat : Nat) : Int) := by omega
      cases isS <;> simp [cv, hb _ _ _ _ (show 0 ≤ ny by omega) h2, hb _ _ _ _ h0 h5]
theorem sliceP_some {l h : Int} {lo cap : Nat} {f : Nat → Nat → Nat → SV} {p : Prop} {v : SV} (e : sliceP l h lo cap f = some (p, v)) :
    (p → 0 ≤ l ∧ l ≤ h ∧ h ≤ (cap : Int) ∧ lo ≤ cap) ∧ v = f l.toNat (h.toNat - l.toNat) (cap - l.toNat) := by
  simp only [sliceP, Option.some.injEq, Prod.mk.injEq] at e
  obtain ⟨rfl, rfl⟩ := e
  exact ⟨id, rfl⟩
theorem run_slice_arr {P : Program} {t e : TypeId} {N es b o : Nat} {lo hi : Option SV} {l h : Int} (h1 : P.underlying t = some (.array N e)) (h2 : Sz P e es)
    (hl : bnd 0 lo = some l) (hh : bnd N hi = some h) (h0 : 0 ≤ l) (h3 : l ≤ h) (h4 : h ≤ (N : Int)) (w : World) :
    (Instr.sliceAt t (.pointer (some ⟨b, o, none⟩)) (lo.map cv) (hi.map cv) none).run P w =
      .ok (.slice (some ⟨b, o + (if N - l.toNat = 0 then 0 else l.toNat) * es, none⟩) (h.toNat - l.toNat) (N - l.toNat)) w := by
  unfold Instr.sliceAt
  simp only [Sem.run_bind, run_underlying h1, Result.andThen_ok, Instr.sureAddr, Sem.run_pure, run_sliceBounds hl hh h0 h3 h4 (Nat.le_refl _), h2.run]
  simp only [Result.ok.injEq, Value.slice.injEq, Option.some.injEq, and_true]
  by_cases hc : N = l.toNat
  · rw [if_pos hc, if_pos (by omega)]; simp
  · rw [if_neg hc, if_neg (by omega), addr_add]
theorem run_slice_sl {P : Program} {t e : TypeId} {es len cap : Nat} {a : Option Addr} {lo hi : Option SV} {l h : Int} (h1 : P.underlying t = some (.slice e)) (h2 : Sz P e es)
    (hl : bnd 0 lo = some l) (hh : bnd len hi = some h) (h0 : 0 ≤ l) (h3 : l ≤ h) (h4 : h ≤ (cap : Int)) (hle : len ≤ cap) (w : World) :
    (Instr.sliceAt t (.slice a len cap) (lo.map cv) (hi.map cv) none).run P w =
      .ok (.slice (if cap = l.toNat then a else a.map (·.add (l.toNat * es))) (h.toNat - l.toNat) (cap - l.toNat)) w := by
  unfold Instr.sliceAt
  simp only [Sem.run_bind, run_underlying h1, Result.andThen_ok]
  unfold Instr.slice
  simp only [Sem.run_bind, run_underlying h1, Result.andThen_ok, run_sliceBounds hl hh h0 h3 h4 hle, h2.run, Sem.run_pure]
theorem map_add_add (a : Option Addr) (n k : Nat) : (a.map (·.add n)).map (·.add k) = a.map (·.add (n + k)) := by
  cases a with
  | none => rfl
  | some a =>
    simp only [Option.map_some, Option.some.injEq]
    unfold Addr.add
    obtain ⟨b, o, s⟩ := a
    by_cases hn : n = 0 <;> by_cases hk : k = 0 <;> simp [hn, hk]
    omega
theorem sliceS_sound {P : Program} {t : TypeId} {y : Ty} (hy : TyOk1 P t y) {x : SV} {lo hi : Option SV} {m : List Blk} {p : Prop} {v : SV} (h : sliceS y x lo hi m = some (p, v)) (hp : p)
    {w0 : World} {B : List Nat} {w : World} (hm : MemOk w0 B m w) : (Instr.sliceAt t (cv x) (lo.map cv) (hi.map cv) none).run P w = .ok (cv v) w := by
  unfold sliceS at h
  split at h
  · rename_i a len cap con
    split at h
    · split at h
      · rename_i l h' he hl hh
        simp only [Option.some.injEq, Prod.mk.injEq] at h
        obtain ⟨rfl, rfl⟩ := h
        obtain ⟨q1, q2, q3, q4⟩ := hp
        have he' := eq_of_beq he
        subst he'
        obtain ⟨h1, h2⟩ := sl_sz hy
        simp only [cv]
        rw [run_slice_sl h1 h2 hl hh q1 q2 (by omega) q4]
        rfl
      · exact none_of h
    · exact none_of h
  · rename_i nm b base i sz j
    split at h
    · split at h
      · rename_i l h' hl hh
        obtain ⟨q1, rfl⟩ := sliceP_some h
        obtain ⟨q1, q2, q3, _⟩ := q1 hp
        obtain ⟨u, h1, _, h3, _⟩ := hy
        simp only [cv]
        rw [run_slice_arr h1 h3 hl hh q1 q2 q3]
        simp only [Option.map_some, addr_add, addIx_eq, Result.ok.injEq, Value.slice.injEq, Option.some.injEq, Addr.mk.injEq, and_true, true_and]
        split <;> omega
      · exact none_of h
    · rename_i N e es ek
      obtain ⟨h1, h2, _⟩ := hy
      split at h
      · split at h
        · rename_i l h' hl hh
          obtain ⟨q1, rfl⟩ := sliceP_some h
          obtain ⟨q1, q2, q3, _⟩ := q1 hp
          simp only [cv]
          rw [run_slice_arr h1 h2 hl hh q1 q2 q3]
          simp only [Option.map_some, addr_add, addIx_eq, Result.ok.injEq, Value.slice.injEq, Option.some.injEq, Addr.mk.injEq, and_true, true_and]
          split <;> omega
        · exact none_of h
      · split at h
        · rename_i l h' hl hh
          obtain ⟨q1, rfl⟩ := sliceP_some h
          obtain ⟨q1, q2, q3, _⟩ := q1 hp
          simp only [cv]
          rw [run_slice_arr h1 h2 hl hh q1 q2 q3]
          simp only [Option.map_some, addr_add, Result.ok.injEq, Value.slice.injEq, Option.some.injEq, Addr.mk.injEq, and_true, true_and]
          split <;> omega
        · exact none_of h
    · exact none_of h
  · rename_i nm a st st0 es len cap
    split at h
    · split at h
      · rename_i l h' he hl hh
        have he' := eq_of_beq he
        subst he'
        obtain ⟨h1, h2⟩ := sl_sz hy
        obtain ⟨q1, rfl⟩ := sliceP_some h
        obtain ⟨q1, q2, q3, q4⟩ := q1 hp
        simp only [cv]
        rw [run_slice_sl h1 h2 hl hh q1 q2 q3 q4]
        simp only [Result.ok.injEq, Value.slice.injEq, and_true]
        unfold curSt
        by_cases hc : cap = l.toNat
        · rw [if_pos hc, if_pos (show cap - l.toNat = 0 by omega)]
        · rw [if_neg hc, if_neg (show ¬ cap - l.toNat = 0 by omega), if_neg (by omega), map_add_add, addIx_eq]
          simp only [Nat.add_mul]
      · exact none_of h
    · exact none_of h
  · rename_i nm u n
    split at h
    · rename_i e es' eb v' n' t' es con hbg
      split at h
      · rename_i l h' he hl hh
        obtain ⟨p', hs, hpp⟩ := addp_some h
        obtain ⟨⟨rfl, rfl, hn, hle⟩, hp'⟩ := hpp hp
        have he' := eq_of_beq he
        subst he'
        obtain ⟨h1, h2⟩ := sl_sz hy
        obtain ⟨q0, rfl⟩ := sliceP_some hs
        obtain ⟨q1, q2, q3, q4⟩ := q0 hp'
        clear q0
        have h3 := hm.each _ (bget_mem hbg (by simp))
        obtain ⟨g, cap, rfl⟩ := own_pos h3.1 hn
        have hcap : n ≤ cap := by
          obtain ⟨_, h | ⟨g', c', cur, h, _, _, h2, _⟩⟩ := h3.1
          · omega
          · cases h; exact h2
        have hmax : max n (capOf (.slice (some ⟨g, 0, none⟩) n cap)) = cap := Nat.max_eq_right hcap
        rw [hmax] at q3 q4 ⊢
        change (Instr.sliceAt t (.slice (some ⟨g, 0, none⟩) n cap) (lo.map cv) (hi.map cv) none).run P w = .ok (.slice (some ((⟨g, 0, none⟩ : Addr).add ((if cap - l.toNat = 0 then 0 else l.toNat) * es))) (h'.toNat - l.toNat) (cap - l.toNat)) w
        rw [run_slice_sl h1 h2 hl hh q1 q2 q3 q4]
        simp only [Option.map_some, addr_add, Result.ok.injEq, Value.slice.injEq, and_true]
        by_cases hc : cap = l.toNat
        · rw [if_pos hc, if_pos (show cap - l.toNat = 0 by omega)]; simp
        · rw [if_neg hc, if_neg (show ¬ cap - l.toNat = 0 by omega)]
      · exact none_of h
    · exact none_of h
  · rename_i xs
    split at h
    · split at h
      · rename_i l h' hl hh
        simp only [Option.some.injEq, Prod.mk.injEq] at h; obtain ⟨rfl, rfl⟩ := h
        obtain ⟨q1, q2, q3⟩ := hp
        have hb := run_sliceBounds (P := P) (w := w) (isS := false) (cap := xs.length) hl hh q1 q2 q3 (Nat.le_refl _)
        unfold Instr.sliceAt
        simp only [Sem.run_bind, run_underlying hy, Result.andThen_ok]
        unfold Instr.slice
        simp only [cv, Sem.run_bind, run_underlying hy, Result.andThen_ok, bytesOf_size, Option.isSome_none, Bool.false_eq_true, if_false, hb, Sem.run_pure, bytesOf_cut]
      · exact none_of h
    · exact none_of h
  · exact none_of h

def strIx (y : Ty) (x i : SV) : Option (Prop × SV) :=
  match y, x, i with
  | .str, .str xs, .int _ n => some (0 ≤ n ∧ n < (xs.length : Int) ∧ allB xs, .int .u8 (xs.getD n.toNat 0))
  | .word, .word a, .int _ n => some (0 ≤ n ∧ n < 4, .int .u64 (lm a n.toNat : Nat))
  | .arr N _ 1 (some k'), .ints k xs, .int _ n => match sameK k k' with | true => some (0 ≤ n ∧ n < (N : Int) ∧ xs.length = N, .int k (xs.getD n.toNat 0)) | false => none
  | _, _, _ => none
theorem part_one {P : Program} {e : TypeId} {k : IntKind} (he : P.underlying e = some (.int k)) {cs : Array Value} {off : Nat} {v : Value} (h : cs[off]? = some v) (w : World) : (part e cs off).run P w = .ok v w := by
  have h1 := isAgg_one (P := P) (t := e) (y := .int k) he rfl
  unfold part
  simp only [Sem.run_bind, h1, Result.andThen_ok, Bool.false_eq_true, if_false]
  simp [h]
theorem strIx_run {P : Program} {t : TypeId} {y : Ty} (hy : TyOk1 P t y) {x i : SV} {p : Prop} {v : SV} (h : strIx y x i = some (p, v)) (hp : p) (w : World) : (Instr.index t (cv x) (cv i)).run P w = .ok (cv v) w := by
  unfold strIx at h
  split at h
  · rename_i xs k n
    simp only [Option.some.injEq, Prod.mk.injEq] at h; obtain ⟨rfl, rfl⟩ := h
    obtain ⟨q1, q2, q3⟩ := hp
    have hn : n.toNat < xs.length := by omega
    have hb : 0 ≤ xs.getD n.toNat 0 ∧ xs.getD n.toNat 0 ≤ 255 := by
      rw [List.getD_eq_getElem?_getD, List.getElem?_eq_getElem hn]; exact q3 _ (List.getElem_mem _)
    unfold Instr.index
    simp only [cv, asIntOf, Sem.run_bind, Sem.run_pure, Result.andThen_ok, run_underlying hy, if_pos q1, bytesOf_get xs _ hn, byte_back hb]
  · rename_i a k n
    simp only [Option.some.injEq, Prod.mk.injEq] at h; obtain ⟨rfl, rfl⟩ := h
    obtain ⟨u, g1, g2, g3, _⟩ := hy
    have hw : (wcs a).toArray[n.toNat * 1]? = some (.int .u64 (lm a n.toNat : Nat)) := by
      rw [List.getElem?_toArray, Nat.mul_one, wcs_get _ _ (by omega)]
    unfold Instr.index
    simp only [cv, asIntOf, Sem.run_bind, Sem.run_pure, Result.andThen_ok, run_underlying g1, g3.run]
    rw [if_pos ⟨hp.1, by omega⟩]
    simp only [Sem.run_bind, g3.run, Result.andThen_ok]
    exact part_one g2 hw w
  · rename_i N e k' k xs k2 n
    split at h
    · rename_i hk
      simp only [Option.some.injEq, Prod.mk.injEq] at h; obtain ⟨rfl, rfl⟩ := h
      obtain rfl := sameK_eq hk
      obtain ⟨g1, g2, _, _, g4⟩ := hy
      obtain ⟨h1, h2, h3⟩ := hp
      have hw : (xs.map (Value.int k)).toArray[n.toNat * 1]? = some (.int k (xs.getD n.toNat 0)) := by
        rw [List.getElem?_toArray, Nat.mul_one, List.getElem?_map, getD_get 0 (by omega)]; rfl
      unfold Instr.index
      simp only [cv, asIntOf, Sem.run_bind, Sem.run_pure, Result.andThen_ok, run_underlying g1, g2.run]
      rw [if_pos ⟨h1, by omega⟩]
      simp only [Sem.run_bind, g2.run, Result.andThen_ok]
      exact part_one (g4 _ rfl) hw w
    · cases h
  · cases h
def pickS (c a b : SV) : Option (Prop × SV) :=
  match c, a, b with
  | .bool c, .bool p, .bool q => some (True, .bool (cond c p q))
  | .bool true, a, _ => some (True, a)
  | .bool false, _, b => some (True, b)
  | _, _, _ => none
def extS (x : SV) (i : Nat) : Option (Prop × SV) :=
  match x with
  | .tup vs => match nth? vs i with | some v => some (True, v) | none => none
  | _ => none
def convS (y : Ty) (x : SV) : Option (Prop × SV) :=
  match y, x with
  | .int k, .int _ n => some (True, .int k (k.wrap n))
  | _, _ => none
def nilS (x : SV) : Option (Prop × SV) :=
  match x with
  | .ptr nm b base i sz j => some (True, .ptr nm b base i sz j)
  | .gp a con i sz j => some (True, .gp a con i sz j)
  | .fn (.func f) a c => some (True, .fn (.func f) a c)
  | _ => none
def arrPS (y : Ty) (x : SV) : Option (Prop × SV) :=
  match x with
  | .sl nm a st _ es len cap =>
    match y with
    | .word => match es with | 1 => some (4 ≤ len ∧ len ≤ cap ∧ adr a len cap, .ptr nm (blkO a) (offO a) 0 0 st) | _ => none
    | .arr N _ es' _ => match es, es == es' with
      | 1, true => some (N ≤ len ∧ 0 < N ∧ len ≤ cap ∧ adr a len cap, .ptr nm (blkO a) (offO a) st 1 0)
      | _, _ => none
    | _ => none
  | _ => none
def mxI (a b : Int) : Int := if a < b then b else a
def bltS (b : Builtin) (ts : List Ty) (xs : List SV) : Option (Prop × SV) :=
  match b, ts, xs with
  | .len, [.sl _ _ _], [.sl _ _ _ _ _ len _] => some (True, .int .i64 len)
  | .len, [.sl _ _ _], [.nilsl] => some (True, .int .i64 0)
  | .len, [.sl _ _ _], [.gh _ len _ _] => some (True, .int .i64 len)
  | .len, [.sl _ _ _], [.own _ _ n] => some (True, .int .i64 n)
  | .len, [.str], [.str s] => some (True, .int .i64 s.length)
  | .cap, [.sl _ _ _], [.sl _ _ _ _ _ _ cap] => some (True, .int .i64 cap)
  | .min, _, [.int k a, .int _ b] => some (True, .int k (if b < a then b else a))
  | .max, _, [.int k a, .int _ b] => some (True, .int k (if a < b then b else a))
  | .max, _, [.int k a, .int _ b, .int _ c, .int _ d] => some (True, .int k (mxI (mxI (mxI a b) c) d))
  | _, _, _ => none
def intsL (k : IntKind) : List Int → List SV
  | [] => []
  | x :: l => .int k x :: intsL k l
theorem intsL_cv (k : IntKind) : ∀ xs, cvs (intsL k xs) = xs.map (Value.int k)
  | [] => rfl
  | x :: l => by simp [intsL, cvs, cv, intsL_cv k l]
theorem intsL_len (k : IntKind) : ∀ xs, (intsL k xs).length = xs.length
  | [] => rfl
  | x :: l => by simp [intsL, intsL_len k l]
def cellsOf : SV → Option (List SV)
  | .word a => some [.int .u64 (lm a 0 : Nat), .int .u64 (lm a 1 : Nat), .int .u64 (lm a 2 : Nat), .int .u64 (lm a 3 : Nat)]
  | .agg cs => some cs
  | .ints k xs => some (intsL k xs)
  | .int k n => some [.int k n]
  | .bool b => some [.bool b]
  | .str s => some [.str s]
  | .ptr nm b base i sz j => some [.ptr nm b base i sz j]
  | .sl nm a st st0 es len cap => some [.sl nm a st st0 es len cap]
  | .nilsl => some [.nilsl]
  | .fn f a c => some [.fn f a c]
  | .own nm v n => some [.own nm v n]
  | .ifc t v => some [.ifc t v]
  | .raw .nilIface => some [.raw .nilIface]
  | .raw (.map o) => some [.raw (.map o)]
  | .gh a len cap con => some [.gh a len cap con]
  | .gp a con i sz j => some [.gp a con i sz j]
  | .mpv nm b => some [.mpv nm b]
  | _ => none
theorem cellsOf_some {x : SV} {cs : List SV} (h : cellsOf x = some cs) : (cv x).cells = (cvs cs).toArray := by
  unfold cellsOf at h
  split at h <;> first | (cases h; done) | (simp only [Option.some.injEq] at h; subst h; first | rfl | (simp only [cv, intsL_cv, Value.cells]; done) | (rename_i v _; cases v <;> rfl))
def splice : List SV → Nat → List SV → Option (List SV)
  | l, 0, [] => some l
  | _ :: l, 0, y :: ys => match splice l 0 ys with | some r => some (y :: r) | none => none
  | x :: l, n + 1, ys => match splice l n ys with | some r => some (x :: r) | none => none
  | _, _, _ => none
theorem splice_some : ∀ {l : List SV} {n : Nat} {ys r : List SV}, splice l n ys = some r → n + ys.length ≤ l.length ∧ r = l.take n ++ ys ++ l.drop (n + ys.length)
  | l, 0, [], r, h => by cases l <;> simp [splice] at h <;> subst h <;> simp
  | x :: l, 0, y :: ys, r, h => by
    simp only [splice] at h
    cases hs : splice l 0 ys with
    | none => rw [hs] at h; cases h
    | some q =>
      rw [hs] at h; simp at h; subst h
      obtain ⟨h1, h2⟩ := splice_some hs
      refine ⟨by simp at h1 ⊢; omega, ?_⟩
      rw [h2]; simp
  | x :: l, n + 1, ys, r, h => by
    have h' : (match splice l n ys with | some r => some (x :: r) | none => none) = some r := by cases ys <;> simpa [splice] using h
    cases hs : splice l n ys with
    | none => rw [hs] at h'; cases h'
    | some q =>
      rw [hs] at h'; simp at h'; subst h'
      obtain ⟨h1, h2⟩ := splice_some hs
      refine ⟨by simp; omega, ?_⟩
      rw [h2]; simp [show n + 1 + ys.length = (n + ys.length) + 1 by omega]
  | [], n + 1, ys, r, h => by cases ys <;> simp [splice] at h
  | [], 0, y :: ys, r, h => by simp [splice] at h
def nthF : List (Nat × Nat × TypeId) → Nat → Option (Nat × Nat × TypeId)
  | [], _ => none
  | x :: _, 0 => some x
  | _ :: l, n + 1 => nthF l n
theorem nthF_some : ∀ {l : List (Nat × Nat × TypeId)} {n : Nat}, l[n]? = nthF l n
  | [], _ => by simp [nthF]
  | x :: l, 0 => by simp [nthF]
  | x :: l, n + 1 => by simp [nthF]; exact nthF_some
def placeOf (y : Ty) (i : Nat) : Option (Nat × Nat) :=
  match y with
  | .word => some (i, 1)
  | .arr _ _ es _ => some (i * es, es)
  | .struct _ fs => match nthF fs i with | some (o, s, _) => some (o, s) | none => none
  | _ => none
def fillS (y : Ty) (l : List SV) : List (Nat × SV) → Option (List SV)
  | [] => some l
  | (i, x) :: rest => match placeOf y i, cellsOf x with
    | some (off, size), some cs => match cs.length == size, splice l off cs with
      | true, some l' => fillS y l' rest
      | _, _ => none
    | _, _ => none
def buildS (y : Ty) (zr : List SV) (parts : List (Nat × SV)) : Option (Prop × SV) :=
  match zr with
  | [] => none
  | zr => match fillS y zr parts with
    | some l => match y with
      | .word => match toW l with | some xs => some (allU xs, .word (numI xs)) | none => none
      | .arr _ _ _ ek => some (True, arrV ek l)
      | .struct _ _ => some (True, .agg l)
      | _ => none
    | none => none
theorem set_splice : ∀ (vs l : List Value) (off k : Nat), off + k + vs.length ≤ l.length →
    (vs.zipIdx k).foldl (fun (a : List Value) (c : Value × Nat) => a.set (off + c.2) c.1) l = l.take (off + k) ++ vs ++ l.drop (off + k + vs.length)
  | [], l, off, k, h => by simp
  | v :: vs, l, off, k, h => by
    simp only [List.length_cons] at h
    rw [List.zipIdx_cons, List.foldl_cons, set_splice vs (l.set (off + k) v) off (k + 1) (by simp; omega)]
    apply List.ext_getElem?
    intro i
    simp only [List.getElem?_append, List.length_take, List.length_set, List.getElem?_take, List.getElem?_drop, List.getElem?_set, List.length_append, List.length_cons, List.getElem?_cons]
    have e1 : min (off + k) l.length = off + k := by omega
    have e2 : min (off + (k + 1)) l.length = off + k + 1 := by omega
    simp only [e1, e2]
    by_cases h1 : i < off + k
    · rw [if_pos (by omega), if_pos (by omega), if_pos (by omega), if_neg (by omega), if_pos (by omega), if_pos (by omega), if_pos h1]
    · by_cases h2 : i = off + k
      · subst h2
        rw [if_pos (by omega), if_pos (by omega), if_pos (by omega), if_pos rfl, if_pos (by omega), if_pos (by omega), if_neg (by omega), if_pos (by omega)]
      · by_cases h3 : i < off + k + 1 + vs.length
        · rw [if_pos (by omega), if_neg (by omega), if_pos (by omega), if_neg (by omega), if_neg (by omega)]
          congr 1 <;> omega
        · rw [if_neg (by omega), if_neg (by omega), if_neg (by omega)]
          congr 1 <;> omega
theorem arr_splice (vs l : List Value) (off : Nat) (h : off + vs.length ≤ l.length) :
    vs.toArray.zipIdx.foldl (fun (cs : Array Value) (c : Value × Nat) => cs.setIfInBounds (off + c.2) c.1) l.toArray = (l.take off ++ vs ++ l.drop (off + vs.length)).toArray := by
  have h1 := set_splice vs l off 0 (by omega)
  rw [Nat.add_zero] at h1
  rw [← h1]
  have key : ∀ (ps : List (Value × Nat)) (l : List Value), ps.foldl (fun (cs : Array Value) (c : Value × Nat) => cs.setIfInBounds (off + c.2) c.1) l.toArray = (ps.foldl (fun (a : List Value) (c : Value × Nat) => a.set (off + c.2) c.1) l).toArray := by
    intro ps
    induction ps with
    | nil => intro l; rfl
    | cons p ps ih => intro l; simp only [List.foldl_cons, List.setIfInBounds_toArray, ih]
  rw [← key]
  have e : vs.toArray.zipIdx = (vs.zipIdx).toArray := by simp
  rw [e]
  simp
theorem fillS_some {y : Ty} {place : Nat → Option (Nat × Nat)} (hp : ∀ i p, placeOf y i = some p → place i = some p) : ∀ {parts : List (Nat × SV)} {l r : List SV}, fillS y l parts = some r →
    Instr.fill place (cvs l).toArray (parts.map fun p => (p.1, cv p.2)) = some (cvs r).toArray
  | [], l, r, h => by simp [fillS] at h; subst h; rfl
  | (i, x) :: rest, l, r, h => by
    simp only [fillS] at h
    split at h
    · rename_i off size cs hpl hcs
      split at h
      · rename_i l' hl hs
        obtain ⟨h1, h2⟩ := splice_some hs
        have hl' : cs.length = size := by simpa using hl
        have hc := cellsOf_some hcs
        simp only [List.map_cons, Instr.fill, hp i _ hpl, hc]
        have e1 : (cvs cs).toArray.size = size := by simp [cvs_len, hl']
        rw [if_neg (by simp [e1, cvs_len]; omega)]
        rw [arr_splice (cvs cs) (cvs l) off (by simp [cvs_len]; omega)]
        have e2 : (cvs l).take off ++ cvs cs ++ (cvs l).drop (off + (cvs cs).length) = cvs l' := by
          rw [h2]; simp [cvs_eq]
        rw [e2]
        exact fillS_some hp h
      · exact none_of h
    · exact none_of h
theorem buildS_sound {P : Program} {T : Tab} (hT : TabOk P T) {t : TypeId} {parts : List (Nat × SV)} {p : Prop} {v : SV} (h : buildS (T.ty t) (T.zr t) parts = some (p, v)) (hp : p) (w : World) :
    (Instr.build t (parts.map fun p => (p.1, cv p.2)).toArray).run P w = .ok (cv v) w := by
  unfold buildS at h
  split at h
  · exact none_of h
  · rename_i zr hz
    obtain ⟨i, z, hi, hzz, hzc⟩ := hT.zr t (fun e => hz e)
    have hy := hT.ty t
    have z1 : ∀ w, (zeroValue t).run P w = .ok z w := fun w => by simp [zeroValue, typeInfo, hi, hzz]
    split at h
    · rename_i l hl
      unfold Instr.build
      simp only [Sem.run_bind, z1, Result.andThen_ok, hzc]
      split at h
      · rename_i hyw
        rw [hyw] at hy hl
        obtain ⟨u, h1, h2, h3, h4, h5⟩ := hy
        split at h
        · rename_i xs hxs
          simp only [Option.some.injEq, Prod.mk.injEq] at h
          obtain ⟨rfl, rfl⟩ := h
          obtain ⟨g1, g2⟩ := toW_some hxs
          have hf := fillS_some (place := fun i => some (i * 1, 1)) (fun i p hp => by simpa [placeOf] using hp) hl
          simp only [run_underlying h1, Sem.run_bind, Result.andThen_ok, h3.run]
          rw [hf]
          simp only [Sem.run_pure, cv]
          rw [numI_cells g1 hp, g2]
        · exact none_of h
      · rename_i n e es ek hya
        rw [hya] at hy hl
        obtain ⟨h1, h2, _⟩ := hy
        simp only [Option.some.injEq, Prod.mk.injEq] at h
        obtain ⟨rfl, rfl⟩ := h
        have hf := fillS_some (place := fun i => some (i * es, es)) (fun i p hp => by simpa [placeOf] using hp) hl
        simp only [run_underlying h1, Sem.run_bind, Result.andThen_ok, h2.run]
        rw [hf]
        simp only [Sem.run_pure, cv_arrV]
      · rename_i size fs hys
        rw [hys] at hy hl
        obtain ⟨fields, h1, h2, h3, h4⟩ := hy
        simp only [Option.some.injEq, Prod.mk.injEq] at h
        obtain ⟨rfl, rfl⟩ := h
        have hf := fillS_some (place := ((fs.map fun x => (x.1, x.2.1)).toArray[·]?)) (fun i p hp => by
          simp only [placeOf] at hp
          split at hp
          · rename_i o s q hq
            simp only [Option.some.injEq] at hp
            subst hp
            rw [← nthF_some] at hq
            simp [hq]
          · cases hp) hl
        have e : (fields.toList.mapM fun f => (do let a ← sizeOf f.type; pure (f.offset, a) : Sem (Nat × Nat))) = fields.toList.mapM fun f => Prod.mk f.offset <$> sizeOf f.type := by simp only [bind_pure_comp]
        simp only [run_underlying h1, Sem.run_bind, Result.andThen_ok, Array.mapM_eq_mapM_toList, Sem.run_map, e, run_places w _ _ h3, Sem.run_pure]
        rw [hf]
        simp only [Sem.run_pure, cv]
      · exact none_of h
    · exact none_of h
end Go.Proofs.Ytdanlclhnehieaa

/-
  A symbolic walk of my own: the step of an operation that leaves the world alone, and that it is right.
-/
namespace Go.Proofs.Ytdanlclhnehieaa
set_option linter.unusedSimpArgs false
set_option linter.unusedVariables false
open Go.RowKit

section
variable {P : Program}
theorem e_part {k : IntKind} {e : TypeId} (he : P.underlying e = some (.int k)) (w : World) (xs : List Int) (i : Nat) (h : i < xs.length) :
    (part e (xs.map (Value.int k)).toArray i).run P w = .ok (.int k xs[i]) w := by
  have ha : (isAgg e).run P w = .ok false w := by unfold isAgg; simp [run_underlying he, go_sem]
  unfold part
  simp [ha, go_sem, h]
theorem e_loop {k : IntKind} {e : TypeId} (he : P.underlying e = some (.int k)) (d : Nat) (w : World) (xs ys : List Int) :
    ∀ (n i : Nat), i + n ≤ xs.length → i + n ≤ ys.length →
    Sem.run P (forIn (List.range' i n) ((none : Option Bool), ()) fun i __s => do
        if !(← Op.equalIn (d + 1) e (← part e (xs.map (Value.int k)).toArray i) (← part e (ys.map (Value.int k)).toArray i)) then pure (ForInStep.done (some false, ())) else pure (ForInStep.yield (none, ()))) w =
      .ok (if (xs.drop i).take n == (ys.drop i).take n then (none, ()) else (some false, ())) w := by
  intro n
  induction n with
  | zero => intro i _ _; simp [go_sem]
  | succ n ih =>
    intro i hx hy
    have hx' : i < xs.length := by omega
    have hy' : i < ys.length := by omega
    rw [List.range'_succ, List.forIn_cons, List.drop_eq_getElem_cons hx', List.drop_eq_getElem_cons hy', List.take_succ_cons, List.take_succ_cons]
    simp only [Sem.run_bind, e_part he w xs i hx', e_part he w ys i hy', Result.andThen_ok, run_equalIn_int w d e k k _ _ he]
    by_cases hq : xs[i] = ys[i]
    · simp only [hq, beq_self_eq_true, Bool.not_true, Bool.false_eq_true, if_false, Sem.run_pure, Result.andThen_ok]
      rw [ih (i + 1) (by omega) (by omega)]
      simp
    · have hb : (xs[i] == ys[i]) = false := by simpa using hq
      simp [hb, go_sem]
theorem e_eqArr {k : IntKind} {t e : TypeId} (n : Nat) (ht : P.underlying t = some (.array n e)) (he : P.underlying e = some (.int k)) (hs : ∀ w, (sizeOf e).run P w = .ok 1 w)
    (w : World) (xs ys : List Int) (hx : xs.length = n) (hy : ys.length = n) :
    (Op.equal t (.agg (xs.map (Value.int k)).toArray) (.agg (ys.map (Value.int k)).toArray)).run P w = .ok (xs == ys) w := by
  unfold Op.equal
  rw [show Op.maxDepth = 9998 + 1 + 1 from rfl, Op.equalIn]
  simp only [Sem.run_bind, run_underlying ht, Result.andThen_ok, hs, Nat.mul_one]
  simp only [Std.Legacy.Range.forIn_eq_forIn_range', Std.Legacy.Range.size]
  rw [show (n - 0 + 1 - 1) / 1 = n by simp, e_loop he 9998 w xs ys n 0 (by omega) (by omega)]
  have e1 : List.take n (List.drop 0 xs) = xs := by rw [List.drop_zero, ← hx, List.take_length]
  have e2 : List.take n (List.drop 0 ys) = ys := by rw [List.drop_zero, ← hy, List.take_length]
  rw [e1, e2]
  cases hq : xs == ys <;> simp [go_sem]
theorem wcs_ints (a : Nat) : wcs a = [((lm a 0 : Nat) : Int), (lm a 1 : Nat), (lm a 2 : Nat), (lm a 3 : Nat)].map (Value.int .u64) := rfl
theorem wcs_beq (a b : Nat) : ([((lm a 0 : Nat) : Int), (lm a 1 : Nat), (lm a 2 : Nat), (lm a 3 : Nat)] == [((lm b 0 : Nat) : Int), (lm b 1 : Nat), (lm b 2 : Nat), (lm b 3 : Nat)]) = decide (a % W = b % W) := by
  rw [Bool.eq_iff_iff, beq_iff_eq, decide_eq_true_iff]
  constructor
  · intro h
    simp only [List.cons.injEq, and_true] at h
    obtain ⟨h0, h1, h2, h3⟩ := h
    refine eq_of_lm (Nat.mod_lt _ (by decide)) (Nat.mod_lt _ (by decide)) ?_ ?_ ?_ ?_ <;> rw [lm_mod _ _ (by decide), lm_mod _ _ (by decide)] <;> omega
  · intro h
    rw [WV_ext h 0 (by decide), WV_ext h 1 (by decide), WV_ext h 2 (by decide), WV_ext h 3 (by decide)]
end

def okS : List CK → List SV → Prop
  | [], [] => True
  | .i k :: ks, .int k' n :: l => (k = k' ∧ inK k n) ∧ okS ks l
  | .b :: ks, .bool _ :: l => okS ks l
  | .s :: ks, .str s :: l => (allB s ∧ s.length ≤ 9223372036854775807) ∧ okS ks l
  | _, _ => False
def eqL : List SV → List SV → Bool
  | [], [] => true
  | .int _ a :: l, .int _ b :: k => decide (a = b) && eqL l k
  | .bool a :: l, .bool b :: k => (a == b) && eqL l k
  | .str a :: l, .str b :: k => decide (a = b) && eqL l k
  | _, _ => false
theorem wf_inK {k : IntKind} {n : Int} (h : inK k n) : (Lit.int k n).wf = true := by
  cases k <;> simp only [inK] at h <;> simp [Lit.wf, IntKind.min, IntKind.max, IntKind.bits, IntKind.signed] <;> omega
theorem okS_ok : ∀ {ks : List CK} {l : List SV}, okS ks l → okCs ks (cvs l)
  | [], [], _ => trivial
  | .i k :: ks, .int k' n :: l, h => ⟨⟨h.1.1.symm, by rw [wf_inK h.1.2]⟩, okS_ok h.2⟩
  | .b :: ks, .bool _ :: l, h => ⟨trivial, okS_ok (ks := ks) h⟩
  | .s :: ks, .str s :: l, h => ⟨by show (bytesOf s).size ≤ maxLen; rw [bytesOf_size]; unfold maxLen; exact h.1.2, okS_ok h.2⟩
theorem str_inj {a b : List Int} (ha : allB a) (hb : allB b) : bytesOf a = bytesOf b ↔ a = b :=
  ⟨fun h => bytesOf_inj ha hb (by rw [h]), fun h => by rw [h]⟩
theorem eqL_iff : ∀ {ks : List CK} {l k : List SV}, okS ks l → okS ks k → (eqL l k = true ↔ cvs l = cvs k)
  | [], [], [], _, _ => by simp [eqL]
  | .i q :: ks, .int q1 n :: l, .int q2 m :: k, h, h' => by
    have e1 := h.1.1
    have e2 := h'.1.1
    subst e1; subst e2
    simp only [eqL, cvs, cv, Bool.and_eq_true, decide_eq_true_eq, List.cons.injEq, Value.int.injEq, true_and, eqL_iff h.2 h'.2]
  | .b :: ks, .bool a :: l, .bool b :: k, h, h' => by
    have := eqL_iff (ks := ks) (l := l) (k := k) h h'
    simp only [eqL, cvs, cv, Bool.and_eq_true, beq_iff_eq, List.cons.injEq, Value.bool.injEq, this]
  | .s :: ks, .str a :: l, .str b :: k, h, h' => by
    simp only [eqL, cvs, cv, Bool.and_eq_true, decide_eq_true_eq, List.cons.injEq, Value.string.injEq, str_inj h.1.1 h'.1.1, eqL_iff h.2 h'.2]
def eqA (T : Tab) (op : BinOp) (t : TypeId) (a b : SV) : Option (Prop × SV) :=
  match a, b with
  | .agg l, .agg k => match T.lv t with
    | some ks => match op with
      | .eql => some (okS ks l ∧ okS ks k, .bool (eqL l k))
      | .neq => some (okS ks l ∧ okS ks k, .bool (!eqL l k))
      | _ => none
    | none => none
  | _, _ => none
theorem eqA_run {P : Program} {T : Tab} (hT : TabOk P T) {t : TypeId} {op : BinOp} {ox oy : Operand} {a b : SV} {p : Prop} {v : SV} (h : eqA T op t a b = some (p, v)) (hp : p) (w : World) :
    (do eqGuard op t ox oy (cv a) (cv b); binOp op t (cv a) (cv b) : Sem Value).run P w = .ok (cv v) w := by
  unfold eqA at h
  split at h
  · rename_i l k
    split at h
    · rename_i ks hk
      obtain ⟨h1, h2⟩ := hT.lv _ _ hk
      have hg : ∀ o, (eqGuard o t ox oy (.agg (cvs l).toArray) (.agg (cvs k).toArray)).run P w = .ok () w := by
        intro o; cases o <;> simp [eqGuard, h2]
      split at h <;> first | exact none_of h | skip
      all_goals
        simp only [Option.some.injEq, Prod.mk.injEq] at h; obtain ⟨rfl, rfl⟩ := h
        obtain ⟨q1, q2⟩ := hp
        obtain ⟨r, h3, h4⟩ := h1 w _ _ (okS_ok q1) (okS_ok q2)
        have h5 := eqL_iff q1 q2
        have h6 : r = eqL l k := by rw [Bool.eq_iff_iff, h4, h5]
        subst h6
        simp only [cv, Sem.run_bind, hg, Result.andThen_ok]
        simp [binOp, h3]
    · exact none_of h
  · exact none_of h
def binT (op : BinOp) (y : Ty) (a b : SV) : Option (Prop × SV) :=
  match a, b with
  | .int k x, .int k' z => bin op (.int k x) (.int k' z)
  | .word x, .word z => match y with | .word => bin op (.word x) (.word z) | _ => none
  | .bool x, .bool z => match y with | .bool => bin op (.bool x) (.bool z) | _ => none
  | .str x, .str z => match y with | .str => bin op (.str x) (.str z) | _ => none
  | .ints k xs, .ints k' zs => match y with
    | .arr n _ 1 (some k'') => match sameK k k'' with | true => addp (xs.length = n) (bin op (.ints k xs) (.ints k' zs)) | false => none
    | _ => none
  | _, _ => none
theorem bin_run {P : Program} {t : TypeId} {y : Ty} (hy : TyOk1 P t y) {op : BinOp} {ox oy : Operand} {a b : SV} {p : Prop} {v : SV} (h : binT op y a b = some (p, v)) (hp : p) (w : World) :
    (do eqGuard op t ox oy (cv a) (cv b); binOp op t (cv a) (cv b) : Sem Value).run P w = .ok (cv v) w := by
  unfold binT at h
  split at h
  · rename_i k x k' z
    simp only [cv, eqGuard_at_int, Sem.run_bind, Sem.run_pure, Result.andThen_ok]
    simp only [bin] at h
    have sh : ∀ (o : BinOp) (p : Prop) (v : SV), shiftS o k x z = some (p, v) → p → (Op.shift o k x k' z).run P w = .ok (cv v) w := by
      intro o p v hh hp
      unfold shiftS at hh
      split at hh
      · simp only [Option.some.injEq, Prod.mk.injEq] at hh
        obtain ⟨rfl, rfl⟩ := hh
        rw [shift_shl_any _ _ _ _ hp]; rfl
      · simp only [Option.some.injEq, Prod.mk.injEq] at hh
        obtain ⟨rfl, rfl⟩ := hh
        unfold Op.shift
        rw [if_neg (by omega)]
        simp only [Sem.run_pure, cv]
        rw [Int.fdiv_eq_ediv_of_nonneg _ (Int.le_of_lt (Int.pow_pos (by decide)))]
      · exact none_of hh
    split at h
    · exact sh _ _ _ h hp
    · exact sh _ _ _ h hp
    · rename_i n1 n2
      split at h
      · rename_i hk
        have hk' := sameK_eq hk
        subst hk'
        have hq : ∀ (a b : Int) (k : IntKind), 0 ≤ a ∧ 0 < b ∧ inK k a → k.wrap (a.tdiv b) = a / b := by
          intro a b k ⟨h0, h1, h2⟩
          rw [Int.tdiv_eq_ediv_of_nonneg h0]
          apply wrap_inK
          have d0 : 0 ≤ a / b := Int.ediv_nonneg h0 (by omega)
          have d1 : a / b ≤ a := Int.ediv_le_self _ h0
          generalize a / b = q at *
          cases k <;> simp only [inK] at h2 ⊢ <;> omega
        unfold arith at h
        split at h
        · split at h <;> (simp only [Option.some.injEq, Prod.mk.injEq] at h; obtain ⟨rfl, rfl⟩ := h; simp only [binOp_add, Op.intArith, Sem.run_pure, cv])
          rw [wrap_inK hp]
        · split at h <;> (simp only [Option.some.injEq, Prod.mk.injEq] at h; obtain ⟨rfl, rfl⟩ := h; simp only [binOp_sub, Op.intArith, Sem.run_pure, cv])
          rw [wrap_inK hp]
        · split at h <;> (simp only [Option.some.injEq, Prod.mk.injEq] at h; obtain ⟨rfl, rfl⟩ := h; simp only [binOp_mul, Op.intArith, Sem.run_pure, cv])
          rw [wrap_inK hp]
        · simp only [Option.some.injEq, Prod.mk.injEq] at h; obtain ⟨rfl, rfl⟩ := h
          simp only [binOp_quo, Op.intDiv]
          rw [if_neg (by omega)]
          simp only [Sem.run_pure, cv, hq _ _ _ hp]
        · simp only [Option.some.injEq, Prod.mk.injEq] at h; obtain ⟨rfl, rfl⟩ := h
          simp only [binOp_rem, Op.intDiv]
          rw [if_neg (by omega)]
          simp only [Sem.run_pure, cv, Int.tmod_eq_emod_of_nonneg hp.1]
        · simp only [Option.some.injEq, Prod.mk.injEq] at h; obtain ⟨rfl, rfl⟩ := h
          simp only [binOp_and, intBits_and, Sem.run_pure, cv]
        · simp only [Option.some.injEq, Prod.mk.injEq] at h; obtain ⟨rfl, rfl⟩ := h
          simp only [binOp_or, intBits_or, Sem.run_pure, cv]
        · simp only [Option.some.injEq, Prod.mk.injEq] at h; obtain ⟨rfl, rfl⟩ := h
          simp only [binOp_xor, intBits_xor, Sem.run_pure, cv]
        · simp only [Option.some.injEq, Prod.mk.injEq] at h; obtain ⟨rfl, rfl⟩ := h
          simp only [binOp_andNot, intBits_andNot, Sem.run_pure, cv]
        · simp only [Option.some.injEq, Prod.mk.injEq] at h; obtain ⟨rfl, rfl⟩ := h
          simp only [binOp_eql, Sem.run_pure, cv]; rfl
        · simp only [Option.some.injEq, Prod.mk.injEq] at h; obtain ⟨rfl, rfl⟩ := h
          simp only [binOp_neq, Sem.run_pure, cv]; rfl
        · simp only [Option.some.injEq, Prod.mk.injEq] at h; obtain ⟨rfl, rfl⟩ := h
          simp only [binOp_lss, Sem.run_pure, cv]
        · simp only [Option.some.injEq, Prod.mk.injEq] at h; obtain ⟨rfl, rfl⟩ := h
          simp only [binOp_leq, Sem.run_pure, cv]
        · simp only [Option.some.injEq, Prod.mk.injEq] at h; obtain ⟨rfl, rfl⟩ := h
          simp only [binOp_gtr, Sem.run_pure, cv]
        · simp only [Option.some.injEq, Prod.mk.injEq] at h; obtain ⟨rfl, rfl⟩ := h
          simp only [binOp_geq, Sem.run_pure, cv]
        · exact none_of h
      · exact none_of h
  · rename_i x z
    split at h
    · obtain ⟨u, h1, h2, h3, h4, h5⟩ := hy
      have hg : ∀ o, (eqGuard o t ox oy (.agg (wcs x).toArray) (.agg (wcs z).toArray)).run P w = .ok () w := by
        intro o; cases o <;> simp [eqGuard, h5]
      have he : (Op.equal t (.agg (wcs x).toArray) (.agg (wcs z).toArray)).run P w = .ok (eqW x z) w := by
        rw [wcs_ints, wcs_ints, e_eqArr 4 h1 h2 h3.run w _ _ rfl rfl, wcs_beq]; rfl
      simp only [bin] at h
      split at h <;> first | exact none_of h | skip
      all_goals
        simp only [Option.some.injEq, Prod.mk.injEq] at h; obtain ⟨rfl, rfl⟩ := h
        simp only [cv, Sem.run_bind, hg, Result.andThen_ok]
        simp [binOp, he]
    · exact none_of h
  · rename_i x z
    split at h
    · have he : (Op.equal t (.bool x) (.bool z)).run P w = .ok (x == z) w := by
        unfold Op.equal
        rw [show Op.maxDepth = 9998 + 1 + 1 from rfl, Op.equalIn]
        simp [run_underlying hy]
      simp only [bin] at h
      split at h <;> first | exact none_of h | skip
      all_goals
        simp only [Option.some.injEq, Prod.mk.injEq] at h; obtain ⟨rfl, rfl⟩ := h
        simp only [cv, eqGuard_at_bool, Sem.run_bind, Sem.run_pure, Result.andThen_ok]
        simp [binOp, he]
    · exact none_of h
  · rename_i x z
    split at h
    · simp only [bin] at h
      split at h <;> first | exact none_of h | skip
      · simp only [Option.some.injEq, Prod.mk.injEq] at h; obtain ⟨rfl, rfl⟩ := h
        simp only [cv, eqGuard_at_string, Sem.run_bind, Sem.run_pure, Result.andThen_ok]
        simp [binOp, Op.stringOp, bytesOf_beq hp.1 hp.2]
      · simp only [Option.some.injEq, Prod.mk.injEq] at h; obtain ⟨rfl, rfl⟩ := h
        simp only [cv, eqGuard_at_string, Sem.run_bind, Sem.run_pure, Result.andThen_ok]
        simp [binOp, Op.stringOp, bytesOf_beq hp.1 hp.2]
      · simp only [Option.some.injEq, Prod.mk.injEq] at h; obtain ⟨rfl, rfl⟩ := h
        have hm : IntKind.i64.max = 9223372036854775807 := rfl
        simp only [cv, eqGuard_at_string, Sem.run_bind, Sem.run_pure, Result.andThen_ok]
        have hs : ¬ ((((bytesOf x).size + (bytesOf z).size : Nat) : Int) > IntKind.i64.max) := by rw [bytesOf_size, bytesOf_size, hm]; omega
        simp only [binOp, Op.stringOp, if_neg hs, bytesOf_append, Sem.run_pure]
    · exact none_of h
  · rename_i k xs k' zs
    split at h
    · rename_i n e k''
      split at h
      · rename_i hk
        obtain rfl := sameK_eq hk
        obtain ⟨p', h', hpp⟩ := addp_some h
        obtain ⟨hn, hp'⟩ := hpp hp
        obtain ⟨h1, h2, h3, h4, h5⟩ := hy
        have h6 := h5 _ rfl
        simp only [bin] at h'
        split at h'
        · rename_i hk2
          obtain rfl := sameK_eq hk2
          have hg : ∀ o, (eqGuard o t ox oy (.agg (xs.map (Value.int k)).toArray) (.agg (zs.map (Value.int k)).toArray)).run P w = .ok () w := by
            intro o; cases o <;> simp [eqGuard, h4]
          split at h' <;> first | exact none_of h' | skip
          all_goals
            simp only [Option.some.injEq, Prod.mk.injEq] at h'; obtain ⟨rfl, rfl⟩ := h'
            have he := e_eqArr n h1 h6 h2.run w xs zs hn (by omega)
            have hb : (xs == zs) = decide (xs = zs) := by rw [Bool.eq_iff_iff]; simp
            rw [hb] at he
            simp only [cv, Sem.run_bind, hg, Result.andThen_ok]
            simp [binOp, he]
        · exact none_of h'
      · exact none_of h
    · exact none_of h
  · exact none_of h
end Go.Proofs.Ytdanlclhnehieaa

/-
  A symbolic walk of my own: what a slice holds; a string of bytes.
-/
namespace Go.Proofs.Ytdanlclhnehieaa
set_option linter.unusedSimpArgs false
set_option linter.unusedVariables false
open Go.RowKit

def oneS : SV → Bool
  | .int _ _ => true | .bool _ => true | .str _ => true | .ptr _ _ _ _ _ _ => true | .sl _ _ _ _ _ _ _ => true | .nilsl => true | .fn _ _ _ => true | .own _ _ _ => true | .raw .nilIface => true | .raw (.map _) => true | .ifc _ _ => true | .gh _ _ _ _ => true | .gp _ _ _ _ _ => true | .mpv _ _ => true
  | _ => false
def allOne : List SV → Bool
  | [] => true
  | x :: l => match oneS x with | true => allOne l | false => false
theorem oneS_cell {x : SV} (h : oneS x = true) : (cv x).oneCell' = true := by
  unfold oneS at h
  split at h <;> first | rfl | exact Bool.noConfusion h | (rename_i v _; cases v <;> rfl)
theorem allOne_mem : ∀ {l : List SV}, allOne l = true → ∀ u ∈ cvs l, u.oneCell' = true
  | [], _, u, hu => by simp [cvs] at hu
  | x :: l, h, u, hu => by
    simp only [allOne] at h
    split at h
    · rename_i hx
      simp only [cvs, List.mem_cons] at hu
      rcases hu with rfl | hu
      · exact oneS_cell hx
      · exact allOne_mem h u hu
    · cases h
theorem int_one (k : IntKind) (xs : List Int) : ∀ u ∈ xs.map (Value.int k), u.oneCell' = true := by
  intro u hu; obtain ⟨x, _, rfl⟩ := List.mem_map.1 hu; rfl
theorem wcs_one (a : Nat) : ∀ u ∈ wcs a, u.oneCell' = true := by
  intro u hu; rw [wcs_ints] at hu; exact int_one _ _ u hu
def rowsOk (n : Nat) : List (List SV) → Bool
  | [] => true
  | r :: l => match Nat.beq r.length n, allOne r with | true, true => rowsOk n l | _, _ => false
theorem rowsOk_mem {n : Nat} : ∀ {l : List (List SV)}, rowsOk n l = true → ∀ r ∈ l, r.length = n ∧ allOne r = true
  | [], _, _, hr => absurd hr List.not_mem_nil
  | x :: l, h, r, hr => by
    simp only [rowsOk] at h
    split at h
    · rename_i h1 h2
      rcases List.mem_cons.1 hr with rfl | hr
      · exact ⟨Nat.eq_of_beq_eq_true h1, h2⟩
      · exact rowsOk_mem h r hr
    · cases h
def conCut (con : Con) (st len : Nat) : Option Con :=
  match con with
  | .ints k xs => some (.ints k ((xs.drop st).take len))
  | .words xs => some (.words ((xs.drop st).take len))
  | .cells l => match allOne l with | true => some (.cells ((l.drop st).take len)) | false => none
  | .rows n xs => match rowsOk n xs with | true => some (.rows n ((xs.drop st).take len)) | false => none
theorem allOne_sub {l l' : List SV} (h : allOne l = true) (hs : ∀ x ∈ l', x ∈ l) : ∀ u ∈ cvs l', u.oneCell' = true := by
  intro u hu
  rw [cvs_eq] at hu
  obtain ⟨x, hx, rfl⟩ := List.mem_map.1 hu
  exact allOne_mem h _ (by rw [cvs_eq]; exact List.mem_map_of_mem (hs x hx))
theorem flat_cut {α : Type} (f : α → List Value) (n : Nat) : ∀ (xs : List α) (st len j : Nat) (u : Value), (∀ r ∈ xs, (f r).length = n) → (((xs.drop st).take len).flatMap f)[j]? = some u →
    (xs.flatMap f)[st * n + j]? = some u
  | xs, 0, len, j, u, hl, h => by
    rw [List.drop_zero] at h
    rw [Nat.zero_mul, Nat.zero_add]
    have e : xs.flatMap f = (xs.take len).flatMap f ++ (xs.drop len).flatMap f := by rw [← List.flatMap_append, List.take_append_drop]
    rw [e, List.getElem?_append_left (List.getElem?_eq_some_iff.1 h).1]
    exact h
  | [], st + 1, len, j, u, hl, h => by simp at h
  | x :: xs, st + 1, len, j, u, hl, h => by
    have hx := hl x List.mem_cons_self
    rw [List.drop_succ_cons] at h
    rw [List.flatMap_cons, show (st + 1) * n + j = (f x).length + (st * n + j) by rw [Nat.add_mul, hx]; omega, List.getElem?_append_right (by omega), Nat.add_sub_cancel_left]
    exact flat_cut f n xs st len j u (fun r hr => hl r (List.mem_cons_of_mem _ hr)) h
theorem flat_len {α : Type} (f : α → List Value) (n : Nat) : ∀ (xs : List α), (∀ r ∈ xs, (f r).length = n) → (xs.flatMap f).length = xs.length * n
  | [], _ => by simp
  | x :: xs, h => by
    have h1 := h x List.mem_cons_self
    have h2 := flat_len f n xs (fun r hr => h r (List.mem_cons_of_mem _ hr))
    simp [h1, h2, Nat.add_mul]; omega
theorem conCut_sound {con c : Con} {st len : Nat} (h : conCut con st len = some c) (hl : st + len ≤ conN con) :
    (∀ j u, (cc c)[j]? = some u → (cc con)[st * conEs con + j]? = some u) ∧ (cc c).length = len * conEs con ∧ (∀ u ∈ cc c, u.oneCell' = true) := by
  unfold conCut at h
  split at h
  · rename_i k xs
    simp at h; subst h
    simp only [conN] at hl
    refine ⟨fun j u hj => ?_, ?_, int_one _ _⟩
    · simp only [cc, conEs, Nat.mul_one, List.getElem?_map, Option.map_eq_some_iff] at hj ⊢
      obtain ⟨x, hx, rfl⟩ := hj
      refine ⟨x, ?_, rfl⟩
      rw [List.getElem?_take] at hx
      split at hx
      · rw [List.getElem?_drop] at hx; exact hx
      · cases hx
    · simp [cc, conEs]; omega
  · rename_i xs
    simp at h; subst h
    simp only [conN] at hl
    refine ⟨fun j u hj => flat_cut wcs 4 xs st len j u (fun r _ => wcs_len r) hj, ?_, fun u hu => ?_⟩
    · simp only [cc, conEs]
      rw [flat_len wcs 4 _ (fun r _ => wcs_len r)]
      simp; omega
    · obtain ⟨x, _, hx⟩ := List.mem_flatMap.1 hu; exact wcs_one x u hx
  · rename_i l
    split at h
    · rename_i ha
      simp at h; subst h
      simp only [conN] at hl
      refine ⟨fun j u hj => ?_, ?_, allOne_sub ha (fun x hx => List.mem_of_mem_drop (List.mem_of_mem_take hx))⟩
      · simp only [cc, conEs, Nat.mul_one, cvs_eq, List.getElem?_map, Option.map_eq_some_iff] at hj ⊢
        obtain ⟨x, hx, rfl⟩ := hj
        refine ⟨x, ?_, rfl⟩
        rw [List.getElem?_take] at hx
        split at hx
        · rw [List.getElem?_drop] at hx; exact hx
        · cases hx
      · simp [cc, conEs, cvs_len]; omega
    · cases h
  · rename_i n xs
    split at h
    · rename_i ha
      simp at h; subst h
      simp only [conN] at hl
      have hr := rowsOk_mem ha
      have hl2 : ∀ r ∈ xs, (cvs r).length = n := fun r hm => by rw [cvs_len]; exact (hr r hm).1
      refine ⟨fun j u hj => flat_cut cvs n xs st len j u hl2 hj, ?_, fun u hu => ?_⟩
      · simp only [cc, conEs]
        rw [flat_len cvs n _ (fun r hm => hl2 r (List.mem_of_mem_drop (List.mem_of_mem_take hm))), List.length_take, List.length_drop, Nat.min_eq_left (by omega)]
      · obtain ⟨x, hx, hx2⟩ := List.mem_flatMap.1 hu
        exact allOne_mem (hr x (List.mem_of_mem_drop (List.mem_of_mem_take hx))).2 u hx2
    · cases h
def srcC (x : SV) (m : List Blk) : Option (Prop × Nat × Con) :=
  match x with
  | .sl nm a st _ es len cap =>
    match blkAt (blkO a) (offO a) (bget m nm) with
    | some (q, con) => match conCut con st len, conEs con == es with
      | some c, true => some (q ∧ adr a len cap ∧ st + len ≤ conN con ∧ len ≤ cap, len, c)
      | _, _ => none
    | none => none
  | .own nm v n =>
    match bget m nm with
    | .own v' n' _ es con => match conCut con 0 n, conEs con == es with
      | some c, true => some (v = v' ∧ n = n' ∧ n ≤ conN con, n, c)
      | _, _ => none
    | _ => none
  | .gh a len cap con =>
    match conCut con 0 len with
    | some c => some (LiesH (HM m) a (cc con) ∧ adr a len cap ∧ len ≤ conN con ∧ len ≤ cap, len, c)
    | none => none
  | _ => none
theorem srcC_sound {x : SV} {m : List Blk} {q : Prop} {k : Nat} {c : Con} (h : srcC x m = some (q, k, c)) (hq : q) {w0 : World} {B : List Nat} {w : World} (hm : MemOk w0 B m w) :
    (cc c).length = k * conEs c ∧ (∀ u ∈ cc c, u.oneCell' = true) ∧
    ((∃ a cp, cv x = .slice (some a) k cp ∧ ∀ j u, (cc c)[j]? = some u → w.cell? (a.add j) = some u) ∨ (cv x = .slice none 0 0 ∧ k = 0)) := by
  have hes : ∀ {con c : Con} {st len : Nat}, conCut con st len = some c → conEs c = conEs con := by
    intro con c st len h
    unfold conCut at h
    split at h
    · simp at h; subst h; rfl
    · simp at h; subst h; rfl
    · split at h
      · simp at h; subst h; rfl
      · cases h
    · split at h
      · simp at h; subst h; rfl
      · cases h
  unfold srcC at h
  split at h
  · rename_i nm a st st0 es len cap
    split at h
    · rename_i q' con hb
      split at h
      · rename_i c' hc he
        simp only [Option.some.injEq, Prod.mk.injEq] at h
        obtain ⟨rfl, rfl, rfl⟩ := h
        obtain ⟨h1, h2, h3, h4⟩ := hq
        have he' : conEs con = es := by simpa using he
        obtain ⟨g1, g2, g3⟩ := conCut_sound hc h3
        rw [hes hc]
        rcases h2 with h2 | ⟨_, rfl, rfl⟩
        rotate_left
        · refine ⟨g2, g3, ?_⟩
          cases a with
          | none => exact .inr ⟨rfl, rfl⟩
          | some a => exact .inl ⟨_, _, rfl, fun j u hj => by
              have := (List.getElem?_eq_some_iff.1 hj).1
              rw [g2, Nat.zero_mul] at this; omega⟩
        refine ⟨g2, g3, .inl ?_⟩
        generalize blkO a = b at *
        generalize offO a = o at *
        subst h2
        refine ⟨_, _, rfl, fun j u hj => ?_⟩
        have hjl := (List.getElem?_eq_some_iff.1 hj).1
        have hc0 : cap ≠ 0 := by
          rintro rfl
          have : len = 0 := by omega
          subst this
          rw [g2, Nat.zero_mul] at hjl
          omega
        dsimp only
        rw [if_neg hc0, addr_add, addr_add]
        have h5 := hm.cell hb h1 (g1 j u hj)
        rw [he'] at h5
        rw [Nat.add_assoc]; exact h5
      · cases h
    · cases h
  · rename_i nm v n
    split at h
    · rename_i v' n' t' es con hbg
      split at h
      · rename_i c' hc he
        simp only [Option.some.injEq, Prod.mk.injEq] at h
        obtain ⟨rfl, rfl, rfl⟩ := h
        obtain ⟨rfl, rfl, h3⟩ := hq
        have he' : conEs con = es := by simpa using he
        obtain ⟨g1, g2, g3⟩ := conCut_sound hc (by omega)
        rw [hes hc]
        refine ⟨g2, g3, ?_⟩
        have h4 := (hm.each _ (bget_mem hbg (by simp))).1
        rcases h4.2 with ⟨rfl, rfl⟩ | ⟨g, cap, cur, rfl, h5⟩
        · exact .inr ⟨rfl, rfl⟩
        · refine .inl ⟨⟨g, 0, none⟩, cap, rfl, fun j u hj => ?_⟩
          have h6 := g1 j u hj
          rw [Nat.zero_mul, Nat.zero_add] at h6
          obtain ⟨g', cap', e1, e2⟩ := own_cell h4 h6
          simp only [Value.slice.injEq, Option.some.injEq, Addr.mk.injEq, and_true, true_and] at e1
          rw [addr_add, Nat.zero_add, e1.1]; exact e2
      · cases h
    · cases h
  · rename_i a len cap con
    split at h
    · rename_i c' hc
      simp only [Option.some.injEq, Prod.mk.injEq] at h
      obtain ⟨rfl, rfl, rfl⟩ := h
      obtain ⟨h1, h2, h3, h4⟩ := hq
      obtain ⟨g1, g2, g3⟩ := conCut_sound hc (by omega)
      rw [hes hc]
      refine ⟨g2, g3, ?_⟩
      rcases h2 with h2 | ⟨_, rfl, rfl⟩
      rotate_left
      · cases a with
        | none => exact .inr ⟨rfl, rfl⟩
        | some a => exact .inl ⟨_, _, rfl, fun j u hj => by
            have := (List.getElem?_eq_some_iff.1 hj).1
            rw [g2, Nat.zero_mul] at this; omega⟩
      refine .inl ?_
      generalize hb : blkO a = b at *
      generalize ho : offO a = o at *
      subst h2
      refine ⟨_, _, rfl, fun j u hj => ?_⟩
      have h6 := g1 j u hj
      rw [Nat.zero_mul, Nat.zero_add] at h6
      obtain ⟨b', off', e1, e2⟩ := lies_cell hm h1 h6
      cases e1
      rw [addr_add]; exact e2
    · cases h
  · cases h
def convM (T : Tab) (a b : Ty) (x : SV) (m : List Blk) : Option (Prop × SV) :=
  match a, b with
  | .sl e _ _, .str => match T.ty e with
    | .int .u8 => match x with
      | .nilsl => some (True, .str [])
      | x => match srcC x m with
        | some (q, _, .ints .u8 xs) => some (q, .str xs)
        | _ => none
    | _ => none
  | _, _ => none
theorem convM_sound {P : Program} {T : Tab} (hT : TabOk P T) {s d : TypeId} {x : SV} {m : List Blk} {p : Prop} {v : SV} (h : convM T (T.ty s) (T.ty d) x m = some (p, v)) (hp : p)
    {w0 : World} {B : List Nat} {w : World} (hm : MemOk w0 B m w) : (convert s d (cv x)).run P w = .ok (cv v) w := by
  unfold convM at h
  split at h
  · rename_i e es eb hs hd
    split at h
    · rename_i he
      have h1 := hT.ty s
      rw [hs] at h1
      have h2 := hT.ty d
      rw [hd] at h2
      have h3 := hT.ty e
      rw [he] at h3
      split at h
      · simp only [Option.some.injEq, Prod.mk.injEq] at h; obtain ⟨rfl, rfl⟩ := h
        simp only [cv]
        rw [run_convert_bytes_string w s d e none 0 0 h1.1 h3 h2]
        rfl
      · split at h
        · rename_i q k xs hsrc
          simp only [Option.some.injEq, Prod.mk.injEq] at h; obtain ⟨rfl, rfl⟩ := h
          obtain ⟨g1, g2, g3⟩ := srcC_sound hsrc hp hm
          rcases g3 with ⟨a, cp, g4, g5⟩ | ⟨g4, g5⟩
          · rw [g4, run_convert_bytes_string w s d e (some a) k cp h1.1 h3 h2]
            refine run_bytesToString w a k cp xs ?_
            have h6 := run_loadCells_list (P := P) w a (xs.map (Value.int .u8)) (fun r u hu => g5 r u hu)
            have h7 : (xs.map (Value.int .u8)).length = k := by simpa [cc, conEs] using g1
            rw [h7] at h6
            exact h6
          · subst g5
            have h7 : xs = [] := by
              have : (xs.map (Value.int .u8)).length = 0 := by simpa [cc, conEs] using g1
              simpa using this
            subst h7
            rw [g4, run_convert_bytes_string w s d e none 0 0 h1.1 h3 h2]
            rfl
        · cases h
    · cases h
  · cases h
end Go.Proofs.Ytdanlclhnehieaa

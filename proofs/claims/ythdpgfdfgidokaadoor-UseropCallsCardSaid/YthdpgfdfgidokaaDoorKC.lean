/-
 Keccak-256: the contract of the code's Sum; the chapter's example by reckoning. No condition.
-/
import Derived.Test.YthdpgfdfgidokaaDoorK5
import Derived.Test.YthdpgfdfgidokaaDoorRE
import Derived.Test.YthdpgfdfgidokaaDoorTie
import Derived.Lib.LaidTab
import Derived.Test.YthdpgfdfgidokaaDoorEG
set_option maxRecDepth 10000
set_option maxHeartbeats 4000000
set_option linter.unusedVariables false
set_option linter.unusedSimpArgs false
namespace Go.Proofs.YthdpgfdfgidokaaDoor
open Go.RowKit
def kSt (xs : List Int) (n : Nat) : List Int := it (fun s k => kAbs s ((xs.drop (136 * k)).take 136)) n (List.replicate 25 0)
def kPad0 (ys : List Int) : List Int := (List.replicate 136 (0 : Int)).take 0 ++ ys ++ (List.replicate 136 (0 : Int)).drop ys.length
def kPad1 (ys : List Int) : List Int := (kPad0 ys).set ys.length 1
def kPad (ys : List Int) : List Int := (kPad1 ys).set 135 (bits .xor .u8 ((kPad1 ys).getD 135 0) 128)
def kSum (xs : List Int) : Nat := readN (kHs (kAbs (kSt xs (xs.length / 136)) (kPad (xs.drop (136 * (xs.length / 136))))) 32)
theorem kSt_s (xs : List Int) (k : Nat) : kSt xs (k + 1) = kAbs (kSt xs k) ((xs.drop (136 * k)).take 136) := it_s _ _ _
theorem kSt_len (xs : List Int) (k : Nat) : (kSt xs k).length = 25 := it_len (fun _ _ => kAbs_len _ _) _ _
theorem kPad0_len (ys : List Int) (h : ys.length ≤ 136) : (kPad0 ys).length = 136 := by
 unfold kPad0
 rw [List.length_append, List.length_append, List.take_zero, List.length_drop, List.length_replicate, List.length_nil]; omega
theorem kPad1_len (ys : List Int) (h : ys.length ≤ 136) : (kPad1 ys).length = 136 := by unfold kPad1; rw [List.length_set, kPad0_len ys h]
theorem kPad_len (ys : List Int) (h : ys.length ≤ 136) : (kPad ys).length = 136 := by unfold kPad; rw [List.length_set, kPad1_len ys h]
theorem xor8_rng (x : Int) (h : 0 ≤ x ∧ x ≤ 255) : 0 ≤ bits .xor .u8 x 128 ∧ bits .xor .u8 x 128 ≤ 255 := by
 have : ∀ n : Nat, n < 256 → 0 ≤ bits .xor .u8 (n : Int) 128 ∧ bits .xor .u8 (n : Int) 128 ≤ 255 := by decide +kernel
 have := this x.toNat (by omega)
 rwa [Int.toNat_of_nonneg h.1] at this
theorem allB_set {xs : List Int} (hx : allB xs) (k : Nat) {v : Int} (hv : 0 ≤ v ∧ v ≤ 255) : allB (xs.set k v) := fun y hy => by
 rcases List.mem_or_eq_of_mem_set hy with h | h
 ·exact hx y h
 ·rw [h]; exact hv
theorem allB_take {xs : List Int} (h : allB xs) (n : Nat) : allB (xs.take n) := fun x hx => h x (List.mem_of_mem_take hx)
theorem allB_rep (n : Nat) : allB (List.replicate n 0) := fun y hy => by rw [List.eq_of_mem_replicate hy]; decide
theorem kPad1_all {ys : List Int} (h : allB ys) : allB (kPad1 ys) := by
 refine allB_set (fun y hy => ?_) _ (by decide)
 rcases List.mem_append.1 hy with hy | hy
 ·rcases List.mem_append.1 hy with hy | hy
  ·exact allB_take (allB_rep 136) _ y hy
  ·exact h y hy
 ·exact allB_drop (allB_rep 136) _ y hy
theorem kPad_all {ys : List Int} (h : allB ys) : allB (kPad ys) := allB_set (kPad1_all h) _ (xor8_rng _ (by_rng (kPad1_all h) 135))
theorem ksum_vc (xs : List Int) (a : Option Addr) (n cp : Nat) (hn : xs.length = n) (hc : n ≤ cp) (hb0 : n ≤ 1000000) (hx : allB xs) (ha : adr a n cp) (w : World) (hm : MemOk w [] [.ro (some ⟨1, 0, none⟩) (.ints .u64 kKeys), .ro (some ⟨2, 0, none⟩) (.ints .u8 kPathI), .ro a (.ints .u8 xs)] w) :
  Calls Tryd.prog 100 (cvs [.sl 2 a 0 0 1 n cp]).toArray w (fun en w' => ∃ u, en = .returned u ∧ ∃ v m', u = cv v ∧ MemOk w [] m' w' ∧ v = .word (kSum xs)) := by
 refine Vc.calls T0_ok Tryd.func100 rfl rfl (args := [.sl 2 a 0 0 1 n cp]) (k := 26) rfl hm ?_; change Vc _ _ (c8 (.sl 2 a 0 0 1 n cp) .undef .undef .undef .undef .undef .undef .undef (c8 .undef .undef .undef .undef .undef .undef .undef .undef (c8 .undef .undef .undef .undef .undef .undef .undef .undef ([.undef, .undef, .undef])))) _ _
 ((repeat (first | (with_reducible first | refine Vc.seq fun N hN => ?_ | refine Vc.block ?_) | (with_reducible intro _) | ((first | ((with_reducible refine Vc.hold ?_); first | refine Vc.regiont T0_ok GK3_ok ?_)); (try simp only [v8Y, Nat.beq, Nat.ble, seval, -List.reduceReplicate, tabs, GK3_set])) | ((with_reducible refine hN _ _ ?_); clear hN N))))
 (revert N; intro N1 hN1)
 rename_i b0 b1
 refine Vc.loop 0 27 (fun x => [(0, .sl 2 a (136 * x.1) x.2 1 (n - 136 * x.1) (cp - 136 * x.1)), (2, .ptr 3 b0 0 0 0 0), (3, .ptr 4 b1 0 0 0 0)]) (fun x => [.ro (some ⟨1, 0, none⟩) (.ints .u64 kKeys), .ro (some ⟨2, 0, none⟩) (.ints .u8 kPathI), .ro a (.ints .u8 xs), .blk b0 26 (.words [0]), .blk b1 141 (.ints .u64 (kSt xs x.1))]) (fun x => 136 * x.1 ≤ n) (fun x => n - 136 * x.1) ((0 : Nat), (0 : Nat)) ⟨Nat.zero_le _, ?_, ?_⟩ (fun x junk hk => ?_)
 ·((try simp only [v8Y, Nat.beq, Nat.ble, seval, -List.reduceReplicate, tabs]); (repeat' with_reducible apply And.intro) <;> first | with_reducible exact True.intro | rfl | with_reducible rfl | (congr 1 <;> omega) | trivial)
 ·((try simp only [v8Y, Nat.beq, Nat.ble, seval, -List.reduceReplicate, tabs]); (repeat' with_reducible apply And.intro) <;> first | with_reducible exact True.intro | rfl | with_reducible rfl | (congr 1 <;> omega) | trivial)
 ·obtain ⟨k, s0⟩ := x
  simp only at hk ⊢
  have ad : adr a (n - 136 * k) (cp - 136 * k) := adr_cut (l := 136 * k) ha (by omega) rfl
  have h0 := kSt_len xs k
  have hs := kSt_s xs k
  generalize hsk : kSt xs k = s at *
  (simp only [v8Y, Nat.beq, Nat.ble, seval, -List.reduceReplicate, tabs])
  by_cases hlt : 136 * (k + 1) ≤ n
  ·have d1 : decide ((136 : Int) ≤ ((n - 136 * k : Nat) : Int)) = true := decide_eq_true (by omega)
   have hbl : ((xs.drop (136 * k)).take 136).length = 136 := by rw [List.length_take, List.length_drop]; omega
   have hba : allB ((xs.drop (136 * k)).take 136) := allB_take (allB_drop hx _) _
   have hal : (kAbs s ((xs.drop (136 * k)).take 136)).length = 25 := by rw [kAbs_len, h0]
   ((repeat (first | (with_reducible first | refine Vc.seq fun N hN => ?_ | refine Vc.block ?_) | ((first | with_reducible refine Vc.skip ?_); dsimp only [thenK, blockK, Nat.beq]; (first | (refine hN _ _ ?_; clear hN N))) | ((with_reducible refine And.intro ?_ ?_); exact sdB) | ((first | ((with_reducible refine Vc.hold ?_); first | refine Vc.regiont T0_ok GK3_ok ?_)); (try simp only [v8Y, Nat.beq, Nat.ble, seval, -List.reduceReplicate, tabs, GK3_set, d1])) | ((with_reducible refine hN _ _ ?_); clear hN N))))
   (refine Vc.cond T0_ok (t := true) (by rfl) (fun _ => ?_) (fun h => Bool.noConfusion h))
   ((repeat (first | (with_reducible first | refine Vc.seq fun N hN => ?_ | refine Vc.block ?_) | ((first | with_reducible refine Vc.skip ?_); dsimp only [thenK, blockK, Nat.beq]; (first | (refine hN _ _ ?_; clear hN N))) | ((with_reducible refine And.intro ?_ ?_); exact sdB) | ((first | ((with_reducible refine Vc.hold ?_); first | refine Vc.regiont T0_ok GK3_ok ?_)); (try simp only [v8Y, Nat.beq, Nat.ble, seval, -List.reduceReplicate, tabs, GK3_set, d1])) | ((with_reducible refine hN _ _ ?_); clear hN N))))
   refine ⟨(k + 1, if cp - 136 * k = 0 then s0 else 136 * k), by simp only; omega, ?_, ?_, by simp only; omega⟩
   ·((try simp only [v8Y, Nat.beq, Nat.ble, seval, -List.reduceReplicate, tabs]); (repeat' with_reducible apply And.intro) <;> first | with_reducible exact True.intro | (congr 1 <;> omega) | with_reducible rfl | (congr 1 <;> omega) | trivial)
   ·((try simp only [v8Y, Nat.beq, Nat.ble, seval, -List.reduceReplicate, tabs]); (repeat' with_reducible apply And.intro) <;> first | with_reducible exact True.intro | rw [hs] | with_reducible rfl | (congr 1 <;> omega) | trivial)
  ·have d1 : decide ((136 : Int) ≤ ((n - 136 * k : Nat) : Int)) = false := decide_eq_false (by omega)
   have hk2 : n / 136 = k := by omega
   have hsum : kSum xs = readN (kHs (kAbs s (kPad (xs.drop (136 * k)))) 32) := by unfold kSum; rw [hn, hk2, hsk]
   have hyl : (xs.drop (136 * k)).length = n - 136 * k := by rw [List.length_drop, hn]
   have hya := allB_drop hx (136 * k)
   ((repeat (first | (with_reducible first | refine Vc.seq fun N hN => ?_ | refine Vc.block ?_) | ((first | with_reducible refine Vc.skip ?_); dsimp only [thenK, blockK, Nat.beq]; (first | (refine hN _ _ ?_; clear hN N))) | ((with_reducible refine And.intro ?_ ?_); exact sdB) | ((first | ((with_reducible refine Vc.hold ?_); first | refine Vc.regiont T0_ok GK3_ok ?_)); (try simp only [v8Y, Nat.beq, Nat.ble, seval, -List.reduceReplicate, tabs, GK3_set, d1])) | ((with_reducible refine hN _ _ ?_); clear hN N))))
   (refine Vc.cond T0_ok (t := false) (by rfl) (fun h => Bool.noConfusion h) (fun _ => ?_))
   ((repeat (first | ((first | with_reducible refine Vc.exit ?_); dsimp only [thenK, blockK, Nat.beq]; (first | skip)))))
   (refine hN1 _ _ ?_; (try clear hN N); clear hN1 N1)
   generalize hys : xs.drop (136 * k) = ys at *
   have lr : (List.replicate 136 (0 : Int)).length = 136 := List.length_replicate
   have hr : n - 136 * k < 136 := by omega
   generalize hrr : n - 136 * k = r at *
   generalize hcr : cp - 136 * k = cr at *
   have f1 : min r 136 = r := by omega
   have f2 : ys.take r = ys := List.take_of_length_le (by omega)
   obtain ⟨q, hq⟩ : ∃ q, q = (List.replicate 136 (0 : Int)).take 0 ++ ys ++ (List.replicate 136 (0 : Int)).drop r := ⟨_, rfl⟩
   have hq' : q = kPad0 ys := by rw [hq, kPad0, hyl]
   obtain ⟨p1, hp1⟩ : ∃ p1, p1 = q.set r 1 := ⟨_, rfl⟩
   have hp1' : p1 = kPad1 ys := by rw [hp1, hq', kPad1, hyl]
   obtain ⟨p2, hp2⟩ : ∃ p2, p2 = p1.set 135 (bits .xor .u8 (p1.getD 135 0) 128) := ⟨_, rfl⟩
   have hp2' : p2 = kPad ys := by rw [hp2, hp1', kPad]
   have l0 : q.length = 136 := by rw [hq', kPad0_len ys (by omega)]
   have l1 : p1.length = 136 := by rw [hp1', kPad1_len ys (by omega)]
   have l2 : p2.length = 136 := by rw [hp2', kPad_len ys (by omega)]
   have a2 : allB p2 := by rw [hp2']; exact kPad_all hya
   have hal : (kAbs s p2).length = 25 := by rw [kAbs_len, h0]
   rw [← hp2'] at hsum
   clear hq' hp1' hp2'
   ((repeat (first | (with_reducible refine Vc.seq fun N hN => ?_) | (with_reducible intro _) | ((with_reducible refine And.intro ?_ ?_); exact sdB) | ((first | ((with_reducible refine Vc.fin ?_); dsimp only [thenK, blockK, retK, resS, resOne, resAll]) | ((with_reducible refine Vc.hold ?_); first | refine Vc.regiont T0_ok GK3_ok ?_)); (try simp only [v8Y, Nat.beq, Nat.ble, seval, -List.reduceReplicate, tabs, GK3_set, hys, f1, f2, ← hq, ← hp1, ← hp2])) | ((with_reducible refine hN _ _ ?_); clear hN N))); (try ((with_reducible refine Fin.of ?_); (try with_reducible exact True.intro))))
   exact ⟨⟨⟨trivial, trivial⟩, trivial, trivial⟩, by rw [hsum]⟩
end Go.Proofs.YthdpgfdfgidokaaDoor
namespace Go.Proofs.YthdpgfdfgidokaaDoor
open Go.ChangeShapes Go.WideShapes Go.ChangeAt Go.RowKit
def arrOf (P : Program) (g : Nat) (k : IntKind) : Bool :=
 match P.globals[g]? with
 | some v => match P.underlying v.type with
  | some (.array n e) => (match P.underlying e with | some (.int k') => decide (k' = k) | _ => false) && P.cellsOf e == 1 && P.cellsOf v.type == n
  | _ => false
 | none => false
theorem ro_of_laid {P : Program} {w : World} {name : String} {g : Nat} {k : IntKind} {zs : List Int} {t : TypeId} {cs : Array Value} {fuel : Nat} {p : List MemPlace} {H : Type} {enc : TypeId × Value → H} (hg : P.globalNamed name = some g) (ha : arrOf P g k = true)
  (h1 : ∃ g', P.globalNamed name = some g' ∧ (P.globals[g']?).map (·.type) = some t) (h3 : w.var? P name = some cs) (h4 : DataW.trod enc P w 0 (fun _ => true) false fuel t cs.toList = some (Lib.tabData k zs, p)) : RoOk w (some ⟨g, 0, none⟩) (.ints k zs) := by
 obtain ⟨g', h1, h2⟩ := h1
 rw [hg] at h1; cases h1
 unfold arrOf at ha
 split at ha
 ·rename_i v hv
  rw [hv] at h2
  cases h2
  split at ha
  ·rename_i n e hu
   simp only [Bool.and_eq_true, beq_iff_eq] at ha
   have he : P.underlying e = some (.int k) := by
    have h5 := ha.1.1
    split at h5
    ·rename_i k' hk
     rw [hk, of_decide_eq_true h5]
    ·cases h5
   have e1 := Lib.cells_of_tab hu he ha.1.2 ha.2 h4
   unfold World.var? at h3
   rw [hg] at h3
   simp only [Option.bind_some] at h3
   split at h3
   ·rename_i cs' a b hh
    cases h3
    intro j u hj
    refine ⟨g, 0, rfl, (Array.getElem?_eq_some_iff.1 hh).1, ?_⟩
    unfold World.cell?
    simp only [hh, Nat.zero_add]
    rw [← Array.getElem?_toList, e1]
    exact hj
   ·cases h3
  ·cases ha
 ·cases ha
theorem laid_two {P : Program} {w : World} {n1 n2 : String} {g1 g2 : Nat} {k1 k2 : IntKind} {z1 z2 : List Int} (h : laidMetH P [(n1, Lib.tabData k1 z1), (n2, Lib.tabData k2 z2)] w) (a1 : P.globalNamed n1 = some g1) (b1 : arrOf P g1 k1 = true) (a2 : P.globalNamed n2 = some g2) (b2 : arrOf P g2 k2 = true)
  (c1 : (Lib.tabData k1 z1 : DataW Unit).handleName? = none) (c2 : (Lib.tabData k2 z2 : DataW Unit).handleName? = none) : RoOk w (some ⟨g1, 0, none⟩) (.ints k1 z1) ∧ RoOk w (some ⟨g2, 0, none⟩) (.ints k2 z2) := by
 have h0 : laidMet P [(n1, Lib.tabData k1 z1), (n2, Lib.tabData k2 z2)] w := by
  unfold laidMetH at h
  simpa [c1, c2] using h
 obtain ⟨ps, hv, _⟩ := h0
 obtain ⟨g, t, cs, fuel, p, q, d1, d2, d3, d4, hv2, _⟩ := hv
 obtain ⟨g', t', cs', fuel', p', q', d1', d2', d3', d4', _, _⟩ := hv2
 exact ⟨ro_of_laid a1 b1 ⟨g, d1, d2⟩ d3 d4, ro_of_laid a2 b2 ⟨g', d1', d2'⟩ d3' d4'⟩
end Go.Proofs.YthdpgfdfgidokaaDoor
namespace Go.Proofs.YthdpgfdfgidokaaDoor
open Go.RowKit
theorem ro_front {w : World} {m : List Blk} {a : Option Addr} {c : Con} (h : MemOk w [] m w) (h1 : MemOk w [] [.ro a c] w) : MemOk w [] (.ro a c :: m) w :=
 ro_cons h fun j u hj => by
  obtain ⟨b, off, e1, e2, _, e3⟩ := h1.each _ List.mem_cons_self j u hj
  exact ⟨b, off, e1, e2, e3⟩
theorem ro_ro {w0 : World} {B : List Nat} {m : List Blk} {w : World} (hm : MemOk w0 B m w) {nr : Nat} {a : Option Addr} {c : Con} (hr : bget m nr = .ro a c) : MemOk w [] [.ro a c] w :=
 ro_cons (ro_nil w) fun j u hj => by
  obtain ⟨b, off, e1, e2, _, e3⟩ := hm.each _ (bget_mem hr (by simp)) j u hj
  exact ⟨b, off, e1, Nat.lt_of_lt_of_le e2 hm.size, e3⟩
theorem bget_set_ne : ∀ (m : List Blk) {i j : Nat} (e : Blk), i ≠ j → bget (bset m j e) i = bget m i
 | [], _, _, _, _ => rfl
 | _ :: _, 0, 0, _, h => absurd rfl h
 | _ :: _, i + 1, 0, _, _ => rfl
 | _ :: _, 0, j + 1, _, _ => rfl
 | _ :: m, i + 1, j + 1, e, h => bget_set_ne m e (by omega)
def Hl (l : List (Nat × Obj)) (b : Nat) (o : Obj) : Prop := (b, o) ∈ l
theorem Hl.hm {l L : List (Nat × Obj)} {m : List Blk} (hin : Blk.heap L ∈ m) (hs : ∀ p ∈ l, p ∈ L) : ∀ b o, Hl l b o → HM m b o := fun b o h => ⟨_, hin, hs _ h⟩
theorem MemOk.set {w0 : World} {B : List Nat} {m : List Blk} {w : World} (h : MemOk w0 B m w) {k : Nat} {e0 e : Blk} (hb : bget m k = e0) (hn : e0 ≠ .gone) (he : e.ok w0 B w) (hee : e.nums.Nodup)
  (hnum : ∀ b ∈ e.nums, b ∈ e0.nums ∨ b ∉ m.flatMap Blk.nums) : MemOk w0 B (bset m k e) w := by
 have hd := nodup_bset (e := e) hb hn h.nodup hee hnum
 exact ⟨h.os, h.tape, h.output, h.size, h.old, fun x hx => (hd.2 x hx).elim (fun g => g ▸ he) (fun g => h.each x g.1), hd.1⟩
theorem nums_nodup : ∀ {m : List Blk} {i : Nat}, (m.flatMap Blk.nums).Nodup → (bget m i).nums.Nodup
 | [], _, _ => List.nodup_nil
 | x :: m, 0, h => by rw [List.flatMap_cons, List.nodup_append] at h; exact h.1
 | x :: m, i + 1, h => by rw [List.flatMap_cons, List.nodup_append] at h; exact nums_nodup (m := m) (i := i) h.2.1
theorem freeze {w0 : World} {B : List Nat} {m : List Blk} {w : World} (hm : MemOk w0 B m w) {i k : Nat} {v : Value} {n : Nat} {t : TypeId} {es : Nat} {con : Con} {L : List (Nat × Obj)} (hb : bget m i = .own v n t es con) (hk : bget m k = .heap L) :
  ∃ (l : List (Nat × Obj)) (a : Option Addr) (c : Nat), v = .slice a n c ∧ adr a n c ∧ n ≤ c ∧ n ≤ maxLen ∧ (cc con).length = n * es ∧ LiesH (Hl l) a (cc con) ∧ MemOk w0 B (bset (bset m i .gone) k (.heap (L ++ l))) w := by
 have hik : k ≠ i := by rintro rfl; rw [hb] at hk; cases hk
 obtain ⟨⟨ho1, ho2⟩, ho3⟩ := hm.each _ (bget_mem hb (by simp))
 have hd1 := nodup_bset (e := .gone) hb (by simp) hm.nodup List.nodup_nil (fun b h => absurd h List.not_mem_nil)
 have h1 : MemOk w0 B (bset m i .gone) w := hm.set hb (by simp) trivial List.nodup_nil (fun b h => absurd h List.not_mem_nil)
 have hk1 : bget (bset m i .gone) k = .heap L := by rw [bget_set_ne _ _ hik]; exact hk
 have hLo := hm.each _ (bget_mem hk (by simp))
 rcases ho2 with ⟨rfl, rfl⟩ | ⟨g, cap, cur, rfl, _, h3, h4, h5, h6, h7⟩
 ·refine ⟨[], none, 0, rfl, .inr ⟨rfl, rfl, rfl⟩, Nat.le_refl _, Nat.zero_le _, ho1, .inl (List.length_eq_zero_iff.1 (by rw [ho1, Nat.zero_mul])), ?_⟩
  rw [List.append_nil]
  exact h1.set hk1 (by simp) hLo (by have := nums_nodup (i := k) hm.nodup; rwa [hk] at this) (fun b hb => .inl hb)
 ·have hgn : g ∈ (bget m i).nums := by rw [hb]; simp [Blk.nums, Value.ownBlock]
  have hgL := nums_sep hm.nodup (Ne.symm hik) hgn
  rw [hk] at hgL
  refine ⟨[(g, .cells cur t (0, 0))], some ⟨g, 0, none⟩, cap, rfl, .inl rfl, h4, Nat.le_trans h4 h5, ho1, .inr ⟨g, 0, cur, t, (0, 0), rfl, List.mem_singleton.2 rfl, fun j u hj => ?_⟩, ?_⟩
  ·rw [← h7] at hj
   rw [Nat.zero_add, ← Array.getElem?_toList]
   rw [List.getElem?_take] at hj
   split at hj
   ·exact hj
   ·cases hj
  ·refine h1.set hk1 (by simp) (fun p hp => ?_) ?_ (fun b hbn => ?_)
   ·rcases List.mem_append.1 hp with hp | hp
    ·exact hLo p hp
    ·rw [List.mem_singleton] at hp; subst hp
     exact ⟨h3, ho3 g rfl⟩
   ·simp only [Blk.nums, List.map_append, List.map_cons, List.map_nil]
    rw [List.nodup_append]
    refine ⟨by have := nums_nodup (i := k) hm.nodup; rwa [hk] at this, by simp, fun a ha b hb2 => ?_⟩
    rw [List.mem_singleton] at hb2; subst hb2
    rintro rfl
    exact hgL ha
   ·simp only [Blk.nums, List.map_append, List.map_cons, List.map_nil] at hbn
    rcases List.mem_append.1 hbn with hbn | hbn
    ·exact .inl hbn
    ·rw [List.mem_singleton] at hbn; subst hbn
     refine .inr fun hc => ?_
     obtain ⟨x, hx, hxb⟩ := List.mem_flatMap.1 hc
     rcases hd1.2 x hx with rfl | ⟨_, h9⟩
     ·exact absurd hxb List.not_mem_nil
     ·exact h9 b (by simp [Blk.nums, Value.ownBlock]) hxb
theorem MemOk.heap0 {w0 : World} {B : List Nat} {m : List Blk} {w : World} (h : MemOk w0 B m w) : MemOk w0 B (m ++ [.heap []]) w :=
 ⟨h.os, h.tape, h.output, h.size, h.old, fun e he => by
  rcases List.mem_append.1 he with he | he
  ·exact h.each e he
  ·rw [List.mem_singleton] at he; subst he
   exact fun p hp => absurd hp List.not_mem_nil, by
  rw [List.flatMap_append]; simpa [Blk.nums] using h.nodup⟩
theorem bget_lt : ∀ {m : List Blk} {i : Nat}, bget m i ≠ .gone → i < m.length
 | [], _, h => absurd rfl h
 | _ :: _, 0, _ => by simp
 | _ :: m, i + 1, h => by have := bget_lt (m := m) (i := i) h; simp; exact this
theorem bget_appL : ∀ {m : List Blk} {i : Nat} (x : List Blk), i < m.length → bget (m ++ x) i = bget m i
 | [], _, _, h => by simp at h
 | _ :: _, 0, _, _ => rfl
 | _ :: m, i + 1, x, h => bget_appL (m := m) x (by simpa using h)
theorem bget_appR : ∀ (m : List Blk) (x : Blk), bget (m ++ [x]) m.length = x
 | [], _ => rfl
 | _ :: m, x => bget_appR m x
theorem bset_appL : ∀ {m : List Blk} {i : Nat} (x : List Blk) (e : Blk), i < m.length → bset (m ++ x) i e = bset m i e ++ x
 | [], _, _, _, h => by simp at h
 | _ :: _, 0, _, _, _ => rfl
 | y :: m, i + 1, x, e, h => by simp only [List.cons_append, bset]; rw [bset_appL (m := m) x e (by simpa using h)]
theorem bset_appR : ∀ (m : List Blk) (x e : Blk), bset (m ++ [x]) m.length e = m ++ [e]
 | [], _, _ => rfl
 | y :: m, x, e => by simp only [List.cons_append, List.length_cons, bset]; rw [bset_appR m x e]
theorem bset_length : ∀ (m : List Blk) (i : Nat) (e : Blk), (bset m i e).length = m.length
 | [], _, _ => rfl
 | _ :: _, 0, _ => rfl
 | _ :: m, i + 1, e => by simp only [bset, List.length_cons]; rw [bset_length m i e]
theorem Vc.freeze {P : Program} {c : Code} {env : List SV} {m : List Blk} {K : Kont} (i : Nat) {v : Value} {n : Nat} {t : TypeId} {es : Nat} {con : Con} (hb : bget m i = .own v n t es con)
  (h : ∀ (a : Option Addr) (cp : Nat) (l : List (Nat × Obj)), v = .slice a n cp → adr a n cp → n ≤ cp → n ≤ maxLen → (cc con).length = n * es → LiesH (Hl l) a (cc con) → Vc P c env (bpush (bset m i .gone) (.heap l)) K) : Vc P c env m K := by
 intro w0 B ac w hf hd hm
 have hi : i < m.length := bget_lt (by rw [hb]; simp)
 obtain ⟨l, a, cp, h1, h2, h3, h4, h5, h6, h7⟩ := Go.Proofs.YthdpgfdfgidokaaDoor.freeze hm.heap0 (i := i) (k := m.length) (by rw [bget_appL _ hi]; exact hb) (bget_appR _ _)
 refine h a cp l h1 h2 h3 h4 h5 h6 w0 B ac w hf hd ?_
 rw [bset_appL _ _ hi, List.nil_append] at h7
 rw [bpush_eq]
 have := bset_appR (bset m i .gone) (.heap []) (.heap l)
 rw [bset_length] at this
 rwa [this] at h7
theorem lies_of_ro {w : World} {a : Option Addr} {con : Con} (h : MemOk w [] [.ro a con] w) : LiesH (H0 w) a (cc con) := by
 have h1 := h.each _ List.mem_cons_self
 cases hc : cc con with
 | nil => exact .inl rfl
 | cons u0 l =>
  rw [← hc]
  obtain ⟨b, off, rfl, h3, _, h4⟩ := h1 0 u0 (by rw [hc]; rfl)
  have hcell : ∃ arr t fr, w.heap[b]? = some (.cells arr t fr) := by
   cases ho : w.heap[b]? with
   | none => simp [World.cell?, ho] at h4
   | some o =>
    cases o with
    | cells arr t fr => exact ⟨arr, t, fr, rfl⟩
    | _ => simp [World.cell?, ho] at h4
  obtain ⟨arr, t, fr, ho⟩ := hcell
  refine .inr ⟨b, off, arr, t, fr, rfl, ho, fun j u hj => ?_⟩
  obtain ⟨b', off', e1, _, _, h5⟩ := h1 j u hj
  simp only [Option.some.injEq, Addr.mk.injEq, and_true] at e1
  obtain ⟨rfl, rfl⟩ := e1
  simpa [World.cell?, ho] using h5
end Go.Proofs.YthdpgfdfgidokaaDoor
namespace Go.Proofs.YthdpgfdfgidokaaDoor
open Go.RowKit
def g_kSum (args : List SV) (m : List Blk) : CR :=
 match args with
 | [.nilsl] => match bget m 0, bget m 1 with
  | .ro a0 c0, .ro a1 c1 => .pure (a0 = some ⟨1, 0, none⟩ ∧ c0 = .ints .u64 kKeys ∧ a1 = some ⟨2, 0, none⟩ ∧ c1 = .ints .u8 kPathI) (.word (kSum []))
  | _, _ => .none
 | [x] => match srcC x m, bget m 0, bget m 1 with
  | some (q, k, .ints .u8 xs), .ro a0 c0, .ro a1 c1 => .pure (q ∧ k ≤ 1000000 ∧ allB xs ∧ a0 = some ⟨1, 0, none⟩ ∧ c0 = .ints .u64 kKeys ∧ a1 = some ⟨2, 0, none⟩ ∧ c1 = .ints .u8 kPathI) (.word (kSum xs))
  | _, _, _ => .none
 | _ => .none
theorem g_kSum_ok (w0 : World) (B : List Nat) (args : List SV) (m : List Blk) : CROk Tryd.prog w0 B 100 args m (g_kSum args m) := by
 unfold g_kSum
 split
 ·split
  ·rename_i a0 c0 a1 c1 h0 h1
   intro ⟨r0, r1, r2, r3⟩ w hm
   subst r0 r1 r2 r3
   have hnil : MemOk w [] [.ro none (.ints .u8 [])] w := ro_cons (ro_nil w) (by intro j u hj; simp [cc] at hj)
   have e : cvs [SV.nilsl] = cvs [.sl 2 none 0 0 1 0 0] := rfl
   rw [e]
   exact calls_pure Tryd.func100 rfl rfl (ksum_vc [] none 0 0 rfl (Nat.le_refl _) (Nat.zero_le _) (by intro y hy; cases hy) (.inr ⟨rfl, rfl, rfl⟩) w (ro_front (ro_front hnil (ro_ro hm h1)) (ro_ro hm h0)))
  ·exact trivial
 ·rename_i x _
  split
  ·rename_i q k xs a0 c0 a1 c1 hs h0 h1
   intro ⟨hq, hk, hx, r0, r1, r2, r3⟩ w hm
   subst r0 r1 r2 r3
   obtain ⟨l1, a, cp, e1, b1, m1, d1⟩ := src_ro hs hq hm
   have hl : xs.length = k := by simpa [cc, conEs] using l1
   have e : cvs [x] = cvs [.sl 2 a 0 0 1 k cp] := by simp only [cvs]; rw [e1]; rfl
   rw [e]
   exact calls_pure Tryd.func100 rfl rfl (ksum_vc xs a k cp hl b1 hk hx d1 w (ro_front (ro_front m1 (ro_ro hm h1)) (ro_ro hm h0)))
  ·exact trivial
 ·exact trivial
end Go.Proofs.YthdpgfdfgidokaaDoor

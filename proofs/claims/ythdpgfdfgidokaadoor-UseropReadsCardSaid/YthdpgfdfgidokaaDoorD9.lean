/-
 ABI: decode walked; bytes.Clone walked, its contract. No condition.
-/
import Derived.Test.YthdpgfdfgidokaaDoorD4
import Derived.Test.YthdpgfdfgidokaaDoorW3
set_option maxRecDepth 10000
set_option maxHeartbeats 4000000
set_option linter.unusedVariables false
set_option linter.unusedSimpArgs false
namespace Go.Proofs.YthdpgfdfgidokaaDoor
open Go.RowKit
def z6 : List SV := [.bool false, .int .u64 0, .int .u64 0, .int .u64 0, .int .u64 0, .nilsl]
def pRow (a : Option Addr) (c : Nat) (xs : List Int) (d : Bool) (h : Nat) : Option (List SV) :=
 match d with
 | false => some [.bool false, .int .u64 (lm h 0 : Nat), .int .u64 (lm h 1 : Nat), .int .u64 (lm h 2 : Nat), .int .u64 (lm h 3 : Nat), .nilsl]
 | true => match tailO xs h with
  | none => none
  | some ys => some [.bool true, .int .u64 0, .int .u64 0, .int .u64 0, .int .u64 0, .gh (shA (shA a c (smN h) 1) (c - smN h) 32 1) ys.length (c - smN h - 32) (.ints .u8 ys)]
def hdW (xs : List Int) (i : Nat) : Nat := readN ((xs.drop (32 * i)).take 32)
def rowF (a : Option Addr) (c : Nat) (xs : List Int) (ds : List Bool) (i : Nat) : Option (List SV) := pRow a c xs (ds.getD i false) (hdW xs i)
def upR {α : Type} (f : Nat → Option α) : Nat → Option (List α)
 | 0 => some []
 | i + 1 => match upR f i with
  | none => none
  | some rs => match f i with | none => none | some r => some (rs ++ [r])
theorem upR_s {α : Type} {f : Nat → Option α} {i : Nat} {rs : List α} {r : α} (h : upR f i = some rs) (hr : f i = some r) : upR f (i + 1) = some (rs ++ [r]) := by simp only [upR, h, hr]
theorem upR_none {α : Type} {f : Nat → Option α} {i : Nat} (h : f i = none) : ∀ n, i < n → upR f n = none
 | 0, hn => by omega
 | n + 1, hn => by
  simp only [upR]
  by_cases hi : i = n
  ·subst hi; cases upR f i <;> simp only [h]
  ·rw [upR_none h n (by omega)]
theorem upR_len {α : Type} {f : Nat → Option α} : ∀ {n : Nat} {rs : List α}, upR f n = some rs → rs.length = n ∧ ∀ j r, rs[j]? = some r → f j = some r
 | 0, rs, h => by simp only [upR, Option.some.injEq] at h; subst h; simp
 | n + 1, rs, h => by
  simp only [upR] at h
  split at h
  ·cases h
  ·rename_i rs' h1
   split at h
   ·cases h
   ·rename_i r hr
    cases h
    obtain ⟨l1, l2⟩ := upR_len h1
    refine ⟨by simp [l1], fun j r' hj => ?_⟩
    by_cases hjn : j < n
    ·rw [List.getElem?_append_left (by omega)] at hj; exact l2 j r' hj
    ·have : j < (rs' ++ [r]).length := (List.getElem?_eq_some_iff.1 hj).1
     simp [l1] at this
     have e : j = n := by omega
     subst e
     rw [List.getElem?_append_right (by omega), l1] at hj
     simp at hj
     rw [← hj]; exact hr
def decR (a : Option Addr) (c : Nat) (xs : List Int) (ds : List Bool) : Option (List (List SV)) :=
 if xs.length / 32 < ds.length then none else upR (rowF a c xs ds) ds.length
theorem pRow_6 {a : Option Addr} {c : Nat} {xs : List Int} {d : Bool} {h : Nat} {r : List SV} (hr : pRow a c xs d h = some r) : r.length = 6 := by
 unfold pRow at hr
 cases d with
 | false => cases hr; rfl
 | true => dsimp only at hr; split at hr <;> cases hr; rfl
theorem set_mid {α : Type} {rs : List α} {i k : Nat} {z r : α} (h : rs.length = i) (hk : 0 < k) : (rs ++ List.replicate k z).set i r = (rs ++ [r]) ++ List.replicate (k - 1) z := by
 obtain ⟨k, rfl⟩ : ∃ k', k = k' + 1 := ⟨k - 1, by omega⟩
 rw [List.set_append_right _ _ (by omega), h, Nat.sub_self, List.replicate_succ, List.set_cons_zero]
 simp
theorem nth_bool {ds : List Bool} {i : Nat} {d : Bool} (h : ds[i]? = some d) : nth? (ds.map SV.bool) i = some (.bool d) := by
 induction ds generalizing i with
 | nil => simp at h
 | cons x ds ih => cases i with
  | zero => simp at h; subst h; rfl
  | succ i => simp at h; simp only [List.map_cons, nth?]; exact ih h
set_option maxRecDepth 20000 in
theorem dec_vc (a : Option Addr) (n c : Nat) (xs : List Int) (da : Option Addr) (dn dc : Nat) (ds : List Bool) (hl : xs.length = n) (hn : n ≤ c) (hx : allB xs) (ha : adr a n c) (hm : n ≤ 1000000) (hdl : ds.length = dn) (hdn : dn ≤ dc) (hda : adr da dn dc) (hdm : dn ≤ 1000000) (w : World) (hL : LiesH (H0 w) a (cc (.ints .u8 xs))) (hD : LiesH (H0 w) da (cc (.cells (ds.map .bool)))) :
  Calls Tryd.prog 84 (cvs [.gh da dn dc (.cells (ds.map .bool)), .gh a n c (.ints .u8 xs)]).toArray w (fun en w' => ∃ u, en = .returned u ∧ ∃ v' m', u = cv v' ∧ MemOk w [] m' w' ∧
   match decR a c xs ds with
   | none => ∃ i : Int, v' = .tup [.nilsl, .ifc 96 (.agg [.int .i64 i, .int .u16 50])]
   | some rs => ∃ k s, v' = .tup [.own k s dn, .raw .nilIface] ∧ bget m' k = .own s dn 59 6 (.rows 6 rs)) := by
 have hLx : ∀ m, allOld w ∈ m → LiesH (HM m) a (cc (.ints .u8 xs)) := fun m hin => hL.mono (H0.hm hin)
 have hLd : ∀ m, allOld w ∈ m → LiesH (HM m) da (cc (.cells (ds.map .bool))) := fun m hin => hD.mono (H0.hm hin)
 by_cases h0 : xs.length / 32 < ds.length
 ·have hno : decR a c xs ds = none := if_pos h0
  have d0 : decide (((n : Int) / 32) < (dn : Int)) = true := decide_eq_true (by omega)
  rw [hno]
  refine Vc.calls T0_ok Tryd.func84 rfl rfl (args := [.gh da dn dc (.cells (ds.map .bool)), .gh a n c (.ints .u8 xs)]) (k := 53) rfl (old_start w) ?_; change Vc _ _ (c8 (.gh da dn dc (.cells (ds.map .bool))) (.gh a n c (.ints .u8 xs)) .undef .undef .undef .undef .undef .undef (c8 .undef .undef .undef .undef .undef .undef .undef .undef (c8 .undef .undef .undef .undef .undef .undef .undef .undef (c8 .undef .undef .undef .undef .undef .undef .undef .undef (c8 .undef .undef .undef .undef .undef .undef .undef .undef (c8 .undef .undef .undef .undef .undef .undef .undef .undef ([.undef, .undef, .undef, .undef, .undef, .undef, .undef]))))))) _ _
  ((repeat (first | (with_reducible first | refine Vc.seq fun N hN => ?_ | refine Vc.block ?_) | ((with_reducible first | refine Vc.skip ?_ | refine Vc.exit ?_); dsimp only [thenK, blockK, Nat.beq]; (first | (refine hN _ _ ?_; clear hN N) | skip)) | (with_reducible intro _) | ((with_reducible refine And.intro ?_ ?_); exact sdB) | ((first | ((with_reducible refine askT_of ?_ (fun hb => ?_)); exact sdB; (try simp only [hb])) | ((with_reducible refine Vc.fin ?_); dsimp only [thenK, blockK, retK, resS, resOne, resAll]) | ((with_reducible refine Vc.hold ?_); first | refine Vc.regiont T0_ok GD6_ok ?_)); (try simp only [v8Y, Nat.beq, Nat.ble, seval, v8S, IntKind.bits, tabs, GD6_set, d0]); (try simp (disch := omega) only [v8W])) | ((with_reducible refine hN _ _ ?_); clear hN N; (try simp (disch := omega) only [v8W])))); (try ((with_reducible refine Fin.of ?_); (try with_reducible exact True.intro))))
  (refine Vc.cond T0_ok (t := true) (by rfl) (fun _ => ?_) (fun h => Bool.noConfusion h))
  ((repeat (first | (with_reducible first | refine Vc.seq fun N hN => ?_ | refine Vc.block ?_) | ((with_reducible first | refine Vc.skip ?_ | refine Vc.exit ?_); dsimp only [thenK, blockK, Nat.beq]; (first | (refine hN _ _ ?_; clear hN N) | skip)) | (with_reducible intro _) | ((with_reducible refine And.intro ?_ ?_); exact sdB) | ((first | ((with_reducible refine askT_of ?_ (fun hb => ?_)); exact sdB; (try simp only [hb])) | ((with_reducible refine Vc.fin ?_); dsimp only [thenK, blockK, retK, resS, resOne, resAll]) | ((with_reducible refine Vc.hold ?_); first | refine Vc.regiont T0_ok GD6_ok ?_)); (try simp only [v8Y, Nat.beq, Nat.ble, seval, v8S, IntKind.bits, tabs, GD6_set]); (try simp (disch := omega) only [v8W])) | ((with_reducible refine hN _ _ ?_); clear hN N; (try simp (disch := omega) only [v8W])))); (try ((with_reducible refine Fin.of ?_); (try with_reducible exact True.intro))))
  exact ⟨by simp, _, rfl⟩
 ·have d0 : decide (((n : Int) / 32) < (dn : Int)) = false := decide_eq_false (by omega)
  have hdec : decR a c xs ds = upR (rowF a c xs ds) dn := by unfold decR; rw [if_neg h0, hdl]
  rw [hdec]
  have t1 : (dn : Int).toNat = dn := by omega
  refine Vc.calls T0_ok Tryd.func84 rfl rfl (args := [.gh da dn dc (.cells (ds.map .bool)), .gh a n c (.ints .u8 xs)]) (k := 53) rfl (old_start w) ?_; change Vc _ _ (c8 (.gh da dn dc (.cells (ds.map .bool))) (.gh a n c (.ints .u8 xs)) .undef .undef .undef .undef .undef .undef (c8 .undef .undef .undef .undef .undef .undef .undef .undef (c8 .undef .undef .undef .undef .undef .undef .undef .undef (c8 .undef .undef .undef .undef .undef .undef .undef .undef (c8 .undef .undef .undef .undef .undef .undef .undef .undef (c8 .undef .undef .undef .undef .undef .undef .undef .undef ([.undef, .undef, .undef, .undef, .undef, .undef, .undef]))))))) _ _
  ((repeat (first | (with_reducible first | refine Vc.seq fun N hN => ?_ | refine Vc.block ?_) | ((with_reducible first | refine Vc.skip ?_ | refine Vc.exit ?_); dsimp only [thenK, blockK, Nat.beq]; (first | (refine hN _ _ ?_; clear hN N) | skip)) | (with_reducible intro _) | ((with_reducible refine And.intro ?_ ?_); exact sdB) | ((first | ((with_reducible refine askT_of ?_ (fun hb => ?_)); exact sdB; (try simp only [hb])) | ((with_reducible refine Vc.fin ?_); dsimp only [thenK, blockK, retK, resS, resOne, resAll]) | ((with_reducible refine Vc.hold ?_); first | refine Vc.regiont T0_ok GD6_ok ?_)); (try simp only [v8Y, Nat.beq, Nat.ble, seval, v8S, IntKind.bits, tabs, GD6_set, d0]); (try simp (disch := omega) only [v8W])) | ((with_reducible refine hN _ _ ?_); clear hN N; (try simp (disch := omega) only [v8W])))); (try ((with_reducible refine Fin.of ?_); (try with_reducible exact True.intro))))
  (refine Vc.cond T0_ok (t := false) (by rfl) (fun h => Bool.noConfusion h) (fun _ => ?_))
  ((repeat (first | (with_reducible first | refine Vc.seq fun N hN => ?_ | refine Vc.block ?_) | ((with_reducible first | refine Vc.skip ?_ | refine Vc.exit ?_); dsimp only [thenK, blockK, Nat.beq]; (first | (refine hN _ _ ?_; clear hN N) | skip)) | (with_reducible intro _) | ((with_reducible refine And.intro ?_ ?_); exact sdB) | ((first | ((with_reducible refine askT_of ?_ (fun hb => ?_)); exact sdB; (try simp only [hb])) | ((with_reducible refine Vc.fin ?_); dsimp only [thenK, blockK, retK, resS, resOne, resAll]) | ((with_reducible refine Vc.hold ?_); first | refine Vc.regiont T0_ok GD6_ok ?_)); (try simp only [v8Y, Nat.beq, Nat.ble, seval, v8S, IntKind.bits, tabs, GD6_set, t1]); (try simp (disch := omega) only [v8W])) | ((with_reducible refine hN _ _ ?_); clear hN N; (try simp (disch := omega) only [v8W])))); (try ((with_reducible refine Fin.of ?_); (try with_reducible exact True.intro))))
  rename_i v0
  (revert N; intro N1 hN1)
  refine Vc.loop 7 55 (fun (x : (Nat × List (List SV)) × Value) => [(7, .own 1 x.2 dn), (25, .gh da dn dc (.cells (ds.map .bool))), (26, .int .i64 (dn : Nat)), (27, .int .i64 (x.1.1 : Nat))]) (fun x => [allOld w, .own x.2 dn 59 6 (.rows 6 (x.1.2 ++ List.replicate (dn - x.1.1) z6))]) (fun x => x.1.1 ≤ dn ∧ upR (rowF a c xs ds) x.1.1 = some x.1.2) (fun x => dn - x.1.1) ((0, []), v0) ⟨⟨Nat.zero_le _, rfl⟩, ?_, ?_⟩ (fun x junk hx2 => ?_)
  ·((try simp only [v8Y, Nat.beq, Nat.ble, seval, v8S, IntKind.bits, tabs]); (repeat' with_reducible apply And.intro) <;> first | with_reducible exact True.intro | rfl | with_reducible rfl | (congr 1 <;> omega) | trivial)
  ·((try simp only [v8Y, Nat.beq, Nat.ble, seval, v8S, IntKind.bits, tabs]); (repeat' with_reducible apply And.intro) <;> first | with_reducible exact True.intro | (simp only [List.nil_append, Nat.sub_zero, List.length_cons, List.length_nil, z6]) | with_reducible rfl | (congr 1 <;> omega) | trivial)
  ·obtain ⟨⟨k, rs⟩, v⟩ := x
   simp only at hx2 ⊢
   obtain ⟨hk1, hrs⟩ := hx2
   obtain ⟨q1, q2⟩ := upR_len hrs
   have q6 : ∀ r ∈ rs, r.length = 6 := fun r hr => by
    obtain ⟨j, hj⟩ := List.getElem?_of_mem hr
    exact pRow_6 (q2 j r hj)
   (simp only [v8Y, Nat.beq, Nat.ble, seval, v8S, IntKind.bits, tabs])
   by_cases hc1 : k < dn
   ·have d1 : decide ((k : Int) < (dn : Int)) = true := decide_eq_true (by omega)
    have e1 := List.getElem?_eq_getElem (show k < ds.length by omega)
    have hnb := nth_bool e1
    have hfk : rowF a c xs ds k = pRow a c xs ds[k] (hdW xs k) := by unfold rowF; rw [List.getD_eq_getElem?_getD, e1]; rfl
    generalize ds[k] = d at *
    have t32 : (32 * (k : Int)).toNat = 32 * k := by omega
    have tk : ((k : Nat) : Int).toNat = k := by omega
    have tK : (xs.drop (32 * k)).take (n - 32 * k) = xs.drop (32 * k) := List.take_of_length_le (by rw [List.length_drop]; omega)
    have tkk : ((xs.drop (32 * k)).take 32).take 32 = (xs.drop (32 * k)).take 32 := by rw [List.take_take]; rfl
    have hb32 : allB ((xs.drop (32 * k)).take 32) := fun y hy => hx y (List.mem_of_mem_drop (List.mem_of_mem_take hy))
    have hrW := readN_lt hb32
    have hl32 : ((xs.drop (32 * k)).take 32).length = 32 := by rw [List.length_take, List.length_drop]; omega
    have hLq : ∀ m, allOld w ∈ m → LiesH (HM m) (shA a c (32 * k) 1) (cc (.ints .u8 ((xs.drop (32 * k)).take 32))) := fun m hin => lies_take 32 (lies_shA (hLx m hin) hl hn)
    have s0 := shA_0 (shA a c (32 * k) 1) (c - 32 * k) 1
    have ha32 : adr (shA a c (32 * k) 1) 32 (c - 32 * k) := (adr_shA (es := 1) ha (show 32 * k ≤ n by omega) hn).imp id fun g => ⟨g.1, by omega, g.2.2⟩
    have hz6 : ∀ r ∈ rs ++ List.replicate (dn - k) z6, r.length = 6 := fun r hr => by
     rcases List.mem_append.1 hr with h | h
     ·exact q6 r h
     ·rw [List.eq_of_mem_replicate h]; rfl
    have hfk' : rowF a c xs ds k = pRow a c xs d (readN ((xs.drop (32 * k)).take 32)) := hfk
    obtain ⟨h, hh⟩ : ∃ h, readN ((xs.drop (32 * k)).take 32) = h := ⟨_, rfl⟩
    rw [hh] at hrW hfk'
    have hsm : ∀ r : List SV, (rs ++ List.replicate (dn - k) z6).set k r = (rs ++ [r]) ++ List.replicate (dn - (k + 1)) z6 := fun r => set_mid q1 (by omega)
    cases d with
    | false =>
     have hup := upR_s hrs hfk'
     ((repeat (first | (with_reducible first | refine Vc.seq fun N hN => ?_ | refine Vc.block ?_) | ((with_reducible first | refine Vc.skip ?_ | refine Vc.exit ?_); dsimp only [thenK, blockK, Nat.beq]; (first | (refine hN _ _ ?_; clear hN N) | skip)) | (with_reducible intro _) | ((with_reducible refine And.intro ?_ ?_); exact sdB) | ((first | ((with_reducible refine askT_of ?_ (fun hb => ?_)); exact sdB; (try simp only [hb])) | ((with_reducible refine Vc.fin ?_); dsimp only [thenK, blockK, retK, resS, resOne, resAll]) | ((with_reducible refine Vc.hold ?_); first | refine Vc.regiont T0_ok GD6_ok ?_)); (try simp only [v8Y, Nat.beq, Nat.ble, seval, v8S, IntKind.bits, tabs, GD6_set, d1]); (try simp (disch := omega) only [v8W])) | ((with_reducible refine hN _ _ ?_); clear hN N; (try simp (disch := omega) only [v8W])))); (try ((with_reducible refine Fin.of ?_); (try with_reducible exact True.intro))))
     (refine Vc.cond T0_ok (t := true) (by rfl) (fun _ => ?_) (fun h => Bool.noConfusion h))
     ((repeat (first | (with_reducible first | refine Vc.seq fun N hN => ?_ | refine Vc.block ?_) | ((with_reducible first | refine Vc.skip ?_ | refine Vc.exit ?_); dsimp only [thenK, blockK, Nat.beq]; (first | (refine hN _ _ ?_; clear hN N) | skip)) | (with_reducible intro _) | ((with_reducible refine And.intro ?_ ?_); exact sX7) | ((first | ((with_reducible refine askT_of ?_ (fun hb => ?_)); exact sX7; (try simp only [hb])) | ((with_reducible refine Vc.fin ?_); dsimp only [thenK, blockK, retK, resS, resOne, resAll]) | ((with_reducible refine Vc.hold ?_); first | refine Vc.regiont T0_ok GD6_ok ?_)); (try simp only [v8Y, Nat.beq, Nat.ble, seval, v8S, IntKind.bits, tabs, GD6_set, d1, tk, hnb, t32, tK, tkk, hh, List.drop_zero, conEs.eq_def, conN.eq_def, conSub.eq_def, s0]); (try simp (disch := omega) only [v8W])) | ((with_reducible refine hN _ _ ?_); clear hN N; (try simp (disch := omega) only [v8W])))); (try ((with_reducible refine Fin.of ?_); (try with_reducible exact True.intro))))
     (refine Vc.cond T0_ok (t := false) (by rfl) (fun h => Bool.noConfusion h) (fun _ => ?_))
     ((repeat (first | (with_reducible first | refine Vc.seq fun N hN => ?_ | refine Vc.block ?_) | ((with_reducible first | refine Vc.skip ?_ | refine Vc.exit ?_); dsimp only [thenK, blockK, Nat.beq]; (first | (refine hN _ _ ?_; clear hN N) | skip)) | (with_reducible intro _) | ((with_reducible refine And.intro ?_ ?_); exact sX13) | ((first | ((with_reducible refine askT_of ?_ (fun hb => ?_)); exact sX13; (try simp only [hb])) | ((with_reducible refine Vc.fin ?_); dsimp only [thenK, blockK, retK, resS, resOne, resAll]) | ((with_reducible refine Vc.hold ?_); first | refine Vc.regiont T0_ok GD6_ok ?_)); (try simp only [v8Y, Nat.beq, Nat.ble, seval, v8S, IntKind.bits, tabs, GD6_set, tk, hsm]); (try simp (disch := omega) only [v8W])) | ((with_reducible refine hN _ _ ?_); clear hN N; (try simp (disch := omega) only [v8W])))); (try ((with_reducible refine Fin.of ?_); (try with_reducible exact True.intro))))
     refine ⟨((k + 1, rs ++ [_]), v), ⟨by simp only; omega, hup⟩, ?_, ?_, by simp only; omega⟩
     ·((try simp only [v8Y, Nat.beq, Nat.ble, seval, v8S, IntKind.bits, tabs]); (repeat' with_reducible apply And.intro) <;> first | with_reducible exact True.intro | rfl | (congr 1 <;> omega))
     ·((try simp only [v8Y, Nat.beq, Nat.ble, seval, v8S, IntKind.bits, tabs]); (repeat' with_reducible apply And.intro) <;> first | with_reducible exact True.intro | rfl | (congr 1 <;> omega))
    | true =>
     cases ht : tailO xs h with
     | none =>
      have hno : upR (rowF a c xs ds) dn = none := upR_none (i := k) (by rw [hfk']; simp only [pRow, ht]) dn hc1
      rw [hno] at hN1 ⊢
      ((repeat (first | (with_reducible first | refine Vc.seq fun N hN => ?_ | refine Vc.block ?_) | ((with_reducible first | refine Vc.skip ?_ | refine Vc.exit ?_); dsimp only [thenK, blockK, Nat.beq]; (first | (refine hN _ _ ?_; clear hN N) | skip)) | (with_reducible intro _) | ((with_reducible refine And.intro ?_ ?_); exact sdB) | ((first | ((with_reducible refine askT_of ?_ (fun hb => ?_)); exact sdB; (try simp only [hb])) | ((with_reducible refine Vc.fin ?_); dsimp only [thenK, blockK, retK, resS, resOne, resAll]) | ((with_reducible refine Vc.hold ?_); first | refine Vc.regiont T0_ok GD6_ok ?_)); (try simp only [v8Y, Nat.beq, Nat.ble, seval, v8S, IntKind.bits, tabs, GD6_set, d1]); (try simp (disch := omega) only [v8W])) | ((with_reducible refine hN _ _ ?_); clear hN N; (try simp (disch := omega) only [v8W])))); (try ((with_reducible refine Fin.of ?_); (try with_reducible exact True.intro))))
      (refine Vc.cond T0_ok (t := true) (by rfl) (fun _ => ?_) (fun h => Bool.noConfusion h))
      ((repeat (first | (with_reducible first | refine Vc.seq fun N hN => ?_ | refine Vc.block ?_) | ((with_reducible first | refine Vc.skip ?_ | refine Vc.exit ?_); dsimp only [thenK, blockK, Nat.beq]; (first | (refine hN _ _ ?_; clear hN N) | skip)) | (with_reducible intro _) | ((with_reducible refine And.intro ?_ ?_); exact sX7) | ((first | ((with_reducible refine askT_of ?_ (fun hb => ?_)); exact sX7; (try simp only [hb])) | ((with_reducible refine Vc.fin ?_); dsimp only [thenK, blockK, retK, resS, resOne, resAll]) | ((with_reducible refine Vc.hold ?_); first | refine Vc.regiont T0_ok GD6_ok ?_)); (try simp only [v8Y, Nat.beq, Nat.ble, seval, v8S, IntKind.bits, tabs, GD6_set, d1, tk, hnb, t32, tK, tkk, hh, List.drop_zero, conEs.eq_def, conN.eq_def, conSub.eq_def, s0, ht]); (try simp (disch := omega) only [v8W])) | ((with_reducible refine hN _ _ ?_); clear hN N; (try simp (disch := omega) only [v8W])))); (try ((with_reducible refine Fin.of ?_); (try with_reducible exact True.intro))))
      (refine Vc.cond T0_ok (t := true) (by rfl) (fun _ => ?_) (fun h => Bool.noConfusion h))
      ((repeat (first | (with_reducible first | refine Vc.seq fun N hN => ?_ | refine Vc.block ?_) | ((with_reducible first | refine Vc.skip ?_ | refine Vc.exit ?_); dsimp only [thenK, blockK, Nat.beq]; (first | (refine hN _ _ ?_; clear hN N) | skip)) | (with_reducible intro _) | ((with_reducible refine And.intro ?_ ?_); exact sdB) | ((first | ((with_reducible refine askT_of ?_ (fun hb => ?_)); exact sdB; (try simp only [hb])) | ((with_reducible refine Vc.fin ?_); dsimp only [thenK, blockK, retK, resS, resOne, resAll]) | ((with_reducible refine Vc.hold ?_); first | refine Vc.regiont T0_ok GD6_ok ?_)); (try simp only [v8Y, Nat.beq, Nat.ble, seval, v8S, IntKind.bits, tabs, GD6_set]); (try simp (disch := omega) only [v8W])) | ((with_reducible refine hN _ _ ?_); clear hN N; (try simp (disch := omega) only [v8W])))); (try ((with_reducible refine Fin.of ?_); (try with_reducible exact True.intro))))
      exact ⟨by simp, _, rfl⟩
     | some ys =>
      have hup := upR_s hrs (hfk'.trans (show pRow a c xs true h = some _ by simp only [pRow, ht]; rfl))
      ((repeat (first | (with_reducible first | refine Vc.seq fun N hN => ?_ | refine Vc.block ?_) | ((with_reducible first | refine Vc.skip ?_ | refine Vc.exit ?_); dsimp only [thenK, blockK, Nat.beq]; (first | (refine hN _ _ ?_; clear hN N) | skip)) | (with_reducible intro _) | ((with_reducible refine And.intro ?_ ?_); exact sdB) | ((first | ((with_reducible refine askT_of ?_ (fun hb => ?_)); exact sdB; (try simp only [hb])) | ((with_reducible refine Vc.fin ?_); dsimp only [thenK, blockK, retK, resS, resOne, resAll]) | ((with_reducible refine Vc.hold ?_); first | refine Vc.regiont T0_ok GD6_ok ?_)); (try simp only [v8Y, Nat.beq, Nat.ble, seval, v8S, IntKind.bits, tabs, GD6_set, d1]); (try simp (disch := omega) only [v8W])) | ((with_reducible refine hN _ _ ?_); clear hN N; (try simp (disch := omega) only [v8W])))); (try ((with_reducible refine Fin.of ?_); (try with_reducible exact True.intro))))
      (refine Vc.cond T0_ok (t := true) (by rfl) (fun _ => ?_) (fun h => Bool.noConfusion h))
      ((repeat (first | (with_reducible first | refine Vc.seq fun N hN => ?_ | refine Vc.block ?_) | ((with_reducible first | refine Vc.skip ?_ | refine Vc.exit ?_); dsimp only [thenK, blockK, Nat.beq]; (first | (refine hN _ _ ?_; clear hN N) | skip)) | (with_reducible intro _) | ((with_reducible refine And.intro ?_ ?_); exact sX7) | ((first | ((with_reducible refine askT_of ?_ (fun hb => ?_)); exact sX7; (try simp only [hb])) | ((with_reducible refine Vc.fin ?_); dsimp only [thenK, blockK, retK, resS, resOne, resAll]) | ((with_reducible refine Vc.hold ?_); first | refine Vc.regiont T0_ok GD6_ok ?_)); (try simp only [v8Y, Nat.beq, Nat.ble, seval, v8S, IntKind.bits, tabs, GD6_set, d1, tk, hnb, t32, tK, tkk, hh, List.drop_zero, conEs.eq_def, conN.eq_def, conSub.eq_def, s0, ht]); (try simp (disch := omega) only [v8W])) | ((with_reducible refine hN _ _ ?_); clear hN N; (try simp (disch := omega) only [v8W])))); (try ((with_reducible refine Fin.of ?_); (try with_reducible exact True.intro))))
      (refine Vc.cond T0_ok (t := false) (by rfl) (fun h => Bool.noConfusion h) (fun _ => ?_))
      ((repeat (first | (with_reducible first | refine Vc.seq fun N hN => ?_ | refine Vc.block ?_) | ((with_reducible first | refine Vc.skip ?_ | refine Vc.exit ?_); dsimp only [thenK, blockK, Nat.beq]; (first | (refine hN _ _ ?_; clear hN N) | skip)) | (with_reducible intro _) | ((with_reducible refine And.intro ?_ ?_); exact sX13) | ((first | ((with_reducible refine askT_of ?_ (fun hb => ?_)); exact sX13; (try simp only [hb])) | ((with_reducible refine Vc.fin ?_); dsimp only [thenK, blockK, retK, resS, resOne, resAll]) | ((with_reducible refine Vc.hold ?_); first | refine Vc.regiont T0_ok GD6_ok ?_)); (try simp only [v8Y, Nat.beq, Nat.ble, seval, v8S, IntKind.bits, tabs, GD6_set, tk, hsm]); (try simp (disch := omega) only [v8W])) | ((with_reducible refine hN _ _ ?_); clear hN N; (try simp (disch := omega) only [v8W])))); (try ((with_reducible refine Fin.of ?_); (try with_reducible exact True.intro))))
      refine ⟨((k + 1, rs ++ [_]), v), ⟨by simp only; omega, hup⟩, ?_, ?_, by simp only; omega⟩
      ·((try simp only [v8Y, Nat.beq, Nat.ble, seval, v8S, IntKind.bits, tabs]); (repeat' with_reducible apply And.intro) <;> first | with_reducible exact True.intro | rfl | (congr 1 <;> omega))
      ·((try simp only [v8Y, Nat.beq, Nat.ble, seval, v8S, IntKind.bits, tabs]); (repeat' with_reducible apply And.intro) <;> first | with_reducible exact True.intro | rfl | (congr 1 <;> omega))
   ·have d1 : decide ((k : Int) < (dn : Int)) = false := decide_eq_false (by omega)
    obtain rfl : k = dn := by omega
    ((repeat (first | (with_reducible first | refine Vc.seq fun N hN => ?_ | refine Vc.block ?_) | ((with_reducible first | refine Vc.skip ?_ | refine Vc.exit ?_); dsimp only [thenK, blockK, Nat.beq]; (first | (refine hN _ _ ?_; clear hN N) | skip)) | (with_reducible intro _) | ((with_reducible refine And.intro ?_ ?_); exact sdB) | ((first | ((with_reducible refine askT_of ?_ (fun hb => ?_)); exact sdB; (try simp only [hb])) | ((with_reducible refine Vc.fin ?_); dsimp only [thenK, blockK, retK, resS, resOne, resAll]) | ((with_reducible refine Vc.hold ?_); first | refine Vc.regiont T0_ok GD6_ok ?_)); (try simp only [v8Y, Nat.beq, Nat.ble, seval, v8S, IntKind.bits, tabs, GD6_set, d1]); (try simp (disch := omega) only [v8W])) | ((with_reducible refine hN _ _ ?_); clear hN N; (try simp (disch := omega) only [v8W])))); (try ((with_reducible refine Fin.of ?_); (try with_reducible exact True.intro))))
    (refine Vc.cond T0_ok (t := false) (by rfl) (fun h => Bool.noConfusion h) (fun _ => ?_))
    ((repeat (first | (with_reducible first | refine Vc.seq fun N hN => ?_ | refine Vc.block ?_) | ((with_reducible first | refine Vc.skip ?_ | refine Vc.exit ?_); dsimp only [thenK, blockK, Nat.beq]; (first | (refine hN _ _ ?_; clear hN N) | skip)) | (with_reducible intro _) | ((with_reducible refine And.intro ?_ ?_); exact sdB) | ((first | ((with_reducible refine askT_of ?_ (fun hb => ?_)); exact sdB; (try simp only [hb])) | ((with_reducible refine Vc.fin ?_); dsimp only [thenK, blockK, retK, resS, resOne, resAll]) | ((with_reducible refine Vc.hold ?_); first | refine Vc.regiont T0_ok GD6_ok ?_)); (try simp only [v8Y, Nat.beq, Nat.ble, seval, v8S, IntKind.bits, tabs, GD6_set]); (try simp (disch := omega) only [v8W])) | ((with_reducible refine hN _ _ ?_); clear hN N; (try simp (disch := omega) only [v8W])))); (try ((with_reducible refine Fin.of ?_); (try with_reducible exact True.intro))))
    (refine hN1 _ _ ?_; (try clear hN N); clear hN1 N1)
    ((repeat (first | (with_reducible first | refine Vc.seq fun N hN => ?_ | refine Vc.block ?_) | ((with_reducible first | refine Vc.skip ?_ | refine Vc.exit ?_); dsimp only [thenK, blockK, Nat.beq]; (first | (refine hN _ _ ?_; clear hN N) | skip)) | (with_reducible intro _) | ((with_reducible refine And.intro ?_ ?_); exact sdB) | ((first | ((with_reducible refine askT_of ?_ (fun hb => ?_)); exact sdB; (try simp only [hb])) | ((with_reducible refine Vc.fin ?_); dsimp only [thenK, blockK, retK, resS, resOne, resAll]) | ((with_reducible refine Vc.hold ?_); first | refine Vc.regiont T0_ok GD6_ok ?_)); (try simp only [v8Y, Nat.beq, Nat.ble, seval, v8S, IntKind.bits, tabs, GD6_set]); (try simp (disch := omega) only [v8W])) | ((with_reducible refine hN _ _ ?_); clear hN N; (try simp (disch := omega) only [v8W])))); (try ((with_reducible refine Fin.of ?_); (try with_reducible exact True.intro))))
    refine ⟨⟨trivial, trivial, trivial⟩, ?_⟩
    rw [hrs]
    exact ⟨1, v, rfl, by rw [Nat.sub_self, List.replicate_zero, List.append_nil]; rfl⟩
structure CloX where
 a : Option Addr
 c : Nat
 l : List (Nat × Obj)
def CloQ (ys : List Int) (x : CloX) : Prop := adr x.a ys.length x.c ∧ ys.length ≤ x.c ∧ ys.length ≤ maxLen ∧ LiesH (Hl x.l) x.a (cc (.ints .u8 ys))
theorem MemOk.only {w0 : World} {B : List Nat} {m : List Blk} {w : World} (h : MemOk w0 B m w) {i : Nat} {e : Blk} (he : bget m i = e) (hne : e ≠ .gone) : MemOk w0 B [.gone, e] w :=
 ⟨h.os, h.tape, h.output, h.size, h.old, fun x hx => by
  rcases List.mem_cons.1 hx with rfl | hx
  ·trivial
  ·rw [List.mem_singleton] at hx; subst hx
   exact h.each _ (bget_mem he hne), by have := nums_nodup (i := i) h.nodup; rw [he] at this; simpa [Blk.nums] using this⟩
theorem clone_vc (a : Option Addr) (n c : Nat) (ys : List Int) (hl : ys.length = n) (hn : n ≤ c) (ha : adr a n c) (hx : allB ys) (hm : n ≤ 1000000) (w : World) (hL : LiesH (H0 w) a (cc (.ints .u8 ys))) :
  Calls Tryd.prog 86 (cvs [.gh a n c (.ints .u8 ys)]).toArray w (fun en w' => ∃ u, en = .returned u ∧ ∃ m' x, MemOk w [] m' w' ∧ CloQ ys x ∧ u = cv (.gh x.a ys.length x.c (.ints .u8 ys)) ∧ bget m' 1 = .heap x.l) := by
 have hLx : ∀ m, allOld w ∈ m → LiesH (HM m) a (cc (.ints .u8 ys)) := fun m hin => hL.mono (H0.hm hin)
 have hm0 : MemOk w [] [allOld w, .heap []] w := (old_start w).heap0
 have key : Calls Tryd.prog 86 (cvs [.gh a n c (.ints .u8 ys)]).toArray w (fun en w' => ∃ u, en = .returned u ∧ ∃ v' m', u = cv v' ∧ MemOk w [] m' w' ∧ ((a = none ∧ v' = .nilsl ∧ bget m' 1 = .heap []) ∨ (∃ v k, v' = .own k v ys.length ∧ bget m' k = .own v ys.length 5 1 (.ints .u8 ys)))) := by
  cases hc : a.isNone with
  | true =>
   refine Vc.calls T0_ok Tryd.func86 rfl rfl (args := [.gh a n c (.ints .u8 ys)]) (k := 7) rfl hm0 ?_; change Vc _ _ (c8 (.gh a n c (.ints .u8 ys)) .undef .undef .undef .undef .undef .undef .undef ([])) _ _
   ((repeat (first | (with_reducible first | refine Vc.seq fun N hN => ?_ | refine Vc.block ?_) | ((with_reducible first | refine Vc.skip ?_ | refine Vc.exit ?_); dsimp only [thenK, blockK, Nat.beq]; (first | (refine hN _ _ ?_; clear hN N) | skip)) | (with_reducible intro _) | ((with_reducible refine And.intro ?_ ?_); exact sdB) | ((first | ((with_reducible refine askT_of ?_ (fun hb => ?_)); exact sdB; (try simp only [hb])) | ((with_reducible refine Vc.fin ?_); dsimp only [thenK, blockK, retK, resS, resOne, resAll]) | ((with_reducible refine Vc.hold ?_); first | refine Vc.regiont T0_ok GD6_ok ?_)); (try simp only [v8Y, Nat.beq, Nat.ble, seval, v8S, IntKind.bits, tabs, GD6_set, hc]); (try simp (disch := omega) only [v8W])) | ((with_reducible refine hN _ _ ?_); clear hN N; (try simp (disch := omega) only [v8W])))); (try ((with_reducible refine Fin.of ?_); (try with_reducible exact True.intro))))
   (refine Vc.cond T0_ok (t := true) (by rfl) (fun _ => ?_) (fun h => Bool.noConfusion h))
   ((repeat (first | (with_reducible first | refine Vc.seq fun N hN => ?_ | refine Vc.block ?_) | ((with_reducible first | refine Vc.skip ?_ | refine Vc.exit ?_); dsimp only [thenK, blockK, Nat.beq]; (first | (refine hN _ _ ?_; clear hN N) | skip)) | (with_reducible intro _) | ((with_reducible refine And.intro ?_ ?_); exact sdB) | ((first | ((with_reducible refine askT_of ?_ (fun hb => ?_)); exact sdB; (try simp only [hb])) | ((with_reducible refine Vc.fin ?_); dsimp only [thenK, blockK, retK, resS, resOne, resAll]) | ((with_reducible refine Vc.hold ?_); first | refine Vc.regiont T0_ok GD6_ok ?_)); (try simp only [v8Y, Nat.beq, Nat.ble, seval, v8S, IntKind.bits, tabs, GD6_set]); (try simp (disch := omega) only [v8W])) | ((with_reducible refine hN _ _ ?_); clear hN N; (try simp (disch := omega) only [v8W])))); (try ((with_reducible refine Fin.of ?_); (try with_reducible exact True.intro))))
   exact ⟨by first | trivial | rfl, .inl ⟨by simpa using hc, by first | trivial | rfl, by first | trivial | rfl⟩⟩
  | false =>
   have u0 : (ys.drop 0).take n = ys := List.take_of_length_le (by rw [List.drop_zero]; omega)
   have u1 : ys.take n = ys := List.take_of_length_le (by omega)
   refine Vc.calls T0_ok Tryd.func86 rfl rfl (args := [.gh a n c (.ints .u8 ys)]) (k := 7) rfl hm0 ?_; change Vc _ _ (c8 (.gh a n c (.ints .u8 ys)) .undef .undef .undef .undef .undef .undef .undef ([])) _ _
   ((repeat (first | (with_reducible first | refine Vc.seq fun N hN => ?_ | refine Vc.block ?_) | ((with_reducible first | refine Vc.skip ?_ | refine Vc.exit ?_); dsimp only [thenK, blockK, Nat.beq]; (first | (refine hN _ _ ?_; clear hN N) | skip)) | (with_reducible intro _) | ((with_reducible refine And.intro ?_ ?_); exact sdB) | ((first | ((with_reducible refine askT_of ?_ (fun hb => ?_)); exact sdB; (try simp only [hb])) | ((with_reducible refine Vc.fin ?_); dsimp only [thenK, blockK, retK, resS, resOne, resAll]) | ((with_reducible refine Vc.hold ?_); first | refine Vc.regiont T0_ok GD6_ok ?_)); (try simp only [v8Y, Nat.beq, Nat.ble, seval, v8S, IntKind.bits, tabs, GD6_set, hc]); (try simp (disch := omega) only [v8W])) | ((with_reducible refine hN _ _ ?_); clear hN N; (try simp (disch := omega) only [v8W])))); (try ((with_reducible refine Fin.of ?_); (try with_reducible exact True.intro))))
   (refine Vc.cond T0_ok (t := false) (by rfl) (fun h => Bool.noConfusion h) (fun _ => ?_))
   refine Vc.skip ?_
   dsimp only [thenK, blockK, Nat.beq]
   refine hN _ _ ?_
   clear hN N
   refine Vc.seq fun N hN => ?_
   refine Vc.regionOwn T0_ok GD6_ok (e := 5) (k := .u8) (xs := []) (by rfl) rfl (Nat.zero_le _) (fun v0 => ?_)
   (simp only [v8Y, Nat.beq, Nat.ble, seval, v8S, IntKind.bits, tabs, GD6_set, u1, List.nil_append]; (try simp (disch := omega) only [v8W]); (repeat (first | with_reducible intro _ | ((with_reducible refine And.intro ?_ ?_); exact sX28) | ((with_reducible refine askT_of ?_ (fun hb => ?_)); exact sX28; simp only [hb, v8Y, Nat.beq, Nat.ble, seval, v8S, IntKind.bits, tabs, GD6_set, u1, List.nil_append]; (try simp (disch := omega) only [v8W])))); (first | (refine hN _ _ ?_; clear hN N; (try simp (disch := omega) only [v8W])) | skip))
   ((repeat (first | (with_reducible first | refine Vc.seq fun N hN => ?_ | refine Vc.block ?_) | ((with_reducible first | refine Vc.skip ?_ | refine Vc.exit ?_); dsimp only [thenK, blockK, Nat.beq]; (first | (refine hN _ _ ?_; clear hN N) | skip)) | (with_reducible intro _) | ((with_reducible refine And.intro ?_ ?_); exact sdB) | ((first | ((with_reducible refine askT_of ?_ (fun hb => ?_)); exact sdB; (try simp only [hb])) | ((with_reducible refine Vc.fin ?_); dsimp only [thenK, blockK, retK, resS, resOne, resAll]) | ((with_reducible refine Vc.hold ?_); first | refine Vc.regiont T0_ok GD6_ok ?_)); (try simp only [v8Y, Nat.beq, Nat.ble, seval, v8S, IntKind.bits, tabs, GD6_set]); (try simp (disch := omega) only [v8W])) | ((with_reducible refine hN _ _ ?_); clear hN N; (try simp (disch := omega) only [v8W])))); (try ((with_reducible refine Fin.of ?_); (try with_reducible exact True.intro))))
   exact ⟨trivial, .inr ⟨_, 2, by rw [hl], by rw [hl, u0]; rfl⟩⟩
 refine key.mono ?_
 rintro e w' ⟨u, hu, v', m', hv, hm', h⟩
 rcases h with ⟨h1, h2, h3⟩ | ⟨v, k, h1, h2⟩
 ·subst h1
  obtain h0 | ⟨_, h0, hc0⟩ := ha
  ·cases h0
  obtain rfl := List.eq_nil_of_length_eq_zero (hl.trans h0)
  exact ⟨u, hu, m', ⟨none, 0, []⟩, hm', ⟨.inr ⟨rfl, rfl, rfl⟩, Nat.le_refl _, Nat.zero_le _, .inl rfl⟩, by rw [hv, h2]; rfl, h3⟩
 ·obtain ⟨l, a', c', g1, g2, g3, g4, g5, g6, g7⟩ := freeze hm'.heap0 (i := k) (k := m'.length) (by rw [bget_appL _ (bget_lt (by rw [h2]; simp))]; exact h2) (bget_appR _ _)
  have hq := bset_appR (bset m' k .gone) (.heap []) (.heap l)
  rw [bset_length] at hq
  rw [bset_appL _ _ (bget_lt (by rw [h2]; simp)), List.nil_append, hq] at g7
  have hi : bget (bset m' k .gone ++ [.heap l]) m'.length = .heap l := by
   have := bget_appR (bset m' k .gone) (.heap l)
   rwa [bset_length] at this
  exact ⟨u, hu, [.gone, .heap l], ⟨a', c', l⟩, g7.only hi (by simp), ⟨g2, g3, g4, g6⟩, by rw [hv, h1, g1]; rfl, rfl⟩
def g_Clone (args : List SV) (m : List Blk) : CR :=
 match args with
 | [.nilsl] => .grw True CloX (fun x => x = ⟨none, 0, []⟩) (fun _ => .nilsl) (fun x => .heap x.l)
 | [.gh a n c (.ints .u8 ys)] => .grw (ys.length = n ∧ n ≤ c ∧ adr a n c ∧ allB ys ∧ n ≤ 1000000 ∧ LiesH (HM m) a (cc (.ints .u8 ys))) CloX (CloQ ys) (fun x => .gh x.a ys.length x.c (.ints .u8 ys)) (fun x => .heap x.l)
 | _ => .none
theorem clone_nil (w : World) : Calls Tryd.prog 86 (cvs [.nilsl]).toArray w (fun en w' => ∃ u, en = .returned u ∧ ∃ v' m', u = cv v' ∧ MemOk w [] m' w' ∧ v' = .nilsl ∧ bget m' 1 = .heap []) := by
 have hm0 : MemOk w [] [allOld w, .heap []] w := (old_start w).heap0
 refine Vc.calls T0_ok Tryd.func86 rfl rfl (args := [.nilsl]) (k := 7) rfl hm0 ?_; change Vc _ _ (c8 .nilsl .undef .undef .undef .undef .undef .undef .undef ([])) _ _
 ((repeat (first | (with_reducible first | refine Vc.seq fun N hN => ?_ | refine Vc.block ?_) | ((with_reducible first | refine Vc.skip ?_ | refine Vc.exit ?_); dsimp only [thenK, blockK, Nat.beq]; (first | (refine hN _ _ ?_; clear hN N) | skip)) | (with_reducible intro _) | ((with_reducible refine And.intro ?_ ?_); exact sdB) | ((first | ((with_reducible refine askT_of ?_ (fun hb => ?_)); exact sdB; (try simp only [hb])) | ((with_reducible refine Vc.fin ?_); dsimp only [thenK, blockK, retK, resS, resOne, resAll]) | ((with_reducible refine Vc.hold ?_); first | refine Vc.regiont T0_ok GD6_ok ?_)); (try simp only [v8Y, Nat.beq, Nat.ble, seval, v8S, IntKind.bits, tabs, GD6_set]); (try simp (disch := omega) only [v8W])) | ((with_reducible refine hN _ _ ?_); clear hN N; (try simp (disch := omega) only [v8W])))); (try ((with_reducible refine Fin.of ?_); (try with_reducible exact True.intro))))
 (refine Vc.cond T0_ok (t := true) (by rfl) (fun _ => ?_) (fun h => Bool.noConfusion h))
 ((repeat (first | (with_reducible first | refine Vc.seq fun N hN => ?_ | refine Vc.block ?_) | ((with_reducible first | refine Vc.skip ?_ | refine Vc.exit ?_); dsimp only [thenK, blockK, Nat.beq]; (first | (refine hN _ _ ?_; clear hN N) | skip)) | (with_reducible intro _) | ((with_reducible refine And.intro ?_ ?_); exact sdB) | ((first | ((with_reducible refine askT_of ?_ (fun hb => ?_)); exact sdB; (try simp only [hb])) | ((with_reducible refine Vc.fin ?_); dsimp only [thenK, blockK, retK, resS, resOne, resAll]) | ((with_reducible refine Vc.hold ?_); first | refine Vc.regiont T0_ok GD6_ok ?_)); (try simp only [v8Y, Nat.beq, Nat.ble, seval, v8S, IntKind.bits, tabs, GD6_set]); (try simp (disch := omega) only [v8W])) | ((with_reducible refine hN _ _ ?_); clear hN N; (try simp (disch := omega) only [v8W])))); (try ((with_reducible refine Fin.of ?_); (try with_reducible exact True.intro))))
 exact ⟨trivial, by first | trivial | rfl⟩
theorem g_Clone_ok (w0 : World) (B : List Nat) (args : List SV) (m : List Blk) : CROk Tryd.prog w0 B 86 args m (g_Clone args m) := by
 unfold g_Clone
 split
 ·intro _ w hm
  exact calls_grw (A := CloX) (l := fun x => x.l) Tryd.func86 rfl rfl hm (i := 1) (args' := [.nilsl]) rfl ((clone_nil w).mono fun e w' ⟨u, hu, v', m', hv, hm', h1, h2⟩ => ⟨u, hu, m', ⟨none, 0, []⟩, hm', rfl, by rw [hv, h1], h2⟩)
 ·rename_i a n c ys
  intro ⟨h1, h2, h3, h4, h5, h6⟩ w hm
  exact calls_grw (A := CloX) (l := fun x => x.l) Tryd.func86 rfl rfl hm (i := 1) (args' := [.gh a n c (.ints .u8 ys)]) rfl (clone_vc a n c ys h1 h2 h3 h4 h5 w (h6.mono fun b o h => hm.hm h))
 ·exact trivial
end Go.Proofs.YthdpgfdfgidokaaDoor

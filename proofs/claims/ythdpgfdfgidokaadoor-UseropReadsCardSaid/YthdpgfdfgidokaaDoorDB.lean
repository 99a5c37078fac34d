/-
 ABI: Decode walked (package abi), its contract. No condition.
-/
import Derived.Test.YthdpgfdfgidokaaDoorD9
import Derived.Test.YthdpgfdfgidokaaDoorFV2
set_option maxRecDepth 10000
set_option maxHeartbeats 4000000
set_option linter.defProp false
set_option linter.unusedVariables false
set_option linter.unusedSimpArgs false
namespace Go.Proofs.YthdpgfdfgidokaaDoor
open Go.RowKit
def bools : List SV → List Bool
 | .bool b :: l => b :: bools l
 | _ :: l => false :: bools l
 | [] => []
theorem bools_map : ∀ ds : List Bool, bools (ds.map SV.bool) = ds
 | [] => rfl
 | d :: ds => by simp only [List.map_cons, bools, bools_map ds]
def g_decode (args : List SV) (m : List Blk) : CR :=
 match args with
 | [.gh da dn dc (.cells l), .gh a n c (.ints .u8 xs)] => match decR a c xs (bools l) with
  | none => .rel ((l = (bools l).map .bool ∧ xs.length = n ∧ n ≤ c ∧ allB xs ∧ adr a n c ∧ n ≤ 1000000) ∧ l.length = dn ∧ dn ≤ dc ∧ adr da dn dc ∧ dn ≤ 1000000 ∧ LiesH (HM m) a (cc (.ints .u8 xs)) ∧ LiesH (HM m) da (cc (.cells l))) Int (fun _ => True) (fun i => .tup [.nilsl, .ifc 96 (.agg [.int .i64 i, .int .u16 50])]) (fun _ => m)
  | some rs => .own ((l = (bools l).map .bool ∧ xs.length = n ∧ n ≤ c ∧ allB xs ∧ adr a n c ∧ n ≤ 1000000) ∧ l.length = dn ∧ dn ≤ dc ∧ adr da dn dc ∧ dn ≤ 1000000 ∧ LiesH (HM m) a (cc (.ints .u8 xs)) ∧ LiesH (HM m) da (cc (.cells l))) 59 6 dn (.rows 6 rs) (fun v => .tup [v, .raw .nilIface])
 | _ => .none
theorem g_decode_ok (w0 : World) (B : List Nat) (args : List SV) (m : List Blk) : CROk Tryd.prog w0 B 84 args m (g_decode args m) := by
 unfold g_decode
 split
 ·rename_i da dn dc l a n c xs
  split
  ·rename_i hd
   intro ⟨⟨h0, h1, h2, h3, h4, h5⟩, h6, h7, h8, h9, h10, h11⟩ w hm
   have hl : (bools l).length = dn := by rw [← h6, h0, bools_map, List.length_map]
   refine .inr ⟨enter_run Tryd.func84 rfl rfl _ w, ?_⟩
   rw [h0] at h11 ⊢
   refine (dec_vc a n c xs da dn dc (bools l) h1 h2 h3 h4 h5 hl h7 h8 h9 w (h10.mono fun b o h => hm.hm h) (h11.mono fun b o h => hm.hm h)).mono fun e w' ⟨u, hu, v', m', hv, hm', ho⟩ => ?_
   rw [hd] at ho
   obtain ⟨i, hi⟩ := ho
   exact ⟨u, hu, i, trivial, by rw [hv, hi], hm.grow hm'.grown⟩
  ·rename_i rs hd
   intro ⟨⟨h0, h1, h2, h3, h4, h5⟩, h6, h7, h8, h9, h10, h11⟩ w hm
   have hl : (bools l).length = dn := by rw [← h6, h0, bools_map, List.length_map]
   refine .inr ⟨enter_run Tryd.func84 rfl rfl _ w, ?_⟩
   rw [h0] at h11 ⊢
   refine (dec_vc a n c xs da dn dc (bools l) h1 h2 h3 h4 h5 hl h7 h8 h9 w (h10.mono fun b o h => hm.hm h) (h11.mono fun b o h => hm.hm h)).mono fun e w' ⟨u, hu, v', m', hv, hm', ho⟩ => ?_
   rw [hd] at ho
   obtain ⟨k, s, e1, e2⟩ := ho
   exact ⟨u, hu, s, by rw [hv, e1]; rfl, hm'.grown, own_ok0 (hm'.each _ (bget_mem e2 (by simp)))⟩
 ·exact trivial
noncomputable def GDB : Ctr := fun f args m => match f with
 | 84 => g_decode args m
 | 85 => g_As args m
 | 86 => g_Clone args m
 | _ => .none
theorem GDB_ok : GOk Tryd.prog GDB := by
 intro w0 B f args m; unfold GDB; split
 ·exact g_decode_ok _ _ _ _
 ·exact g_As_ok _ _ _ _
 ·exact g_Clone_ok _ _ _ _
 ·exact trivial
theorem GDB_decode : GDB 84 = g_decode := by funext args m; rfl
theorem GDB_As : GDB 85 = g_As := by funext args m; rfl
theorem GDB_Clone : GDB 86 = g_Clone := by funext args m; rfl
def GDB_set := And.intro (And.intro (@GDB_decode) (And.intro (@g_decode.eq_def) (@GDB_As))) (And.intro (@g_As.eq_def) (And.intro (@GDB_Clone) (@g_Clone.eq_def)))

theorem bools_all (ds : List Bool) : ds.map SV.bool = (bools (ds.map SV.bool)).map .bool := by rw [bools_map]
def prtO (xs : List Int) (d : Bool) (h : Nat) : Option Prt :=
 match d with
 | false => some ⟨false, h, []⟩
 | true => match tailO xs h with
  | none => none
  | some ys => some ⟨true, 0, ys⟩
def prtF (xs : List Int) (ds : List Bool) (i : Nat) : Option Prt := prtO xs (ds.getD i false) (hdW xs i)
def abDec (xs : List Int) (ds : List Bool) : Option (List Prt) :=
 if xs.length / 32 < ds.length then none else upR (prtF xs ds) ds.length
def PdR (H : Nat → Obj → Prop) (r : List SV) (p : Prt) : Prop :=
 (p.d = false ∧ p.bs = [] ∧ r = [.bool false, .int .u64 (lm p.w 0 : Nat), .int .u64 (lm p.w 1 : Nat), .int .u64 (lm p.w 2 : Nat), .int .u64 (lm p.w 3 : Nat), .nilsl]) ∨
 (p.d = true ∧ p.w = 0 ∧ ∃ a c, r = [.bool true, .int .u64 0, .int .u64 0, .int .u64 0, .int .u64 0, .gh a p.bs.length c (.ints .u8 p.bs)] ∧ adr a p.bs.length c ∧ p.bs.length ≤ c ∧ allB p.bs ∧ LiesH H a (cc (.ints .u8 p.bs)))
def PdsR (H : Nat → Obj → Prop) (rs : List (List SV)) (l : List Prt) : Prop :=
 rs.length = l.length ∧ (∀ r ∈ rs, r.length = 6) ∧ ∀ (i : Nat) (r : List SV) (p : Prt), rs[i]? = some r → l[i]? = some p → PdR H r p
theorem PdR.mono {H H' : Nat → Obj → Prop} (hh : ∀ b o, H b o → H' b o) {r : List SV} {p : Prt} (h : PdR H r p) : PdR H' r p := by
 rcases h with h | ⟨h1, h2, a, c, h3, h4, h5, h6, h7⟩
 ·exact .inl h
 ·exact .inr ⟨h1, h2, a, c, h3, h4, h5, h6, h7.mono hh⟩
theorem upR_no {α β : Type} {f : Nat → Option α} {g : Nat → Option β} (h : ∀ i, f i = none ↔ g i = none) : ∀ n, upR f n = none ↔ upR g n = none
 | 0 => by simp [upR]
 | n + 1 => by
  have ih := upR_no h n
  have hn := h n
  simp only [upR]
  cases hf : upR f n with
  | none => rw [ih.1 hf]; simp
  | some rs => cases hg : upR g n with
   | none => rw [ih.2 hg] at hf; cases hf
   | some ps => cases hf1 : f n with
    | none => rw [hn.1 hf1]; simp
    | some r => cases hg1 : g n with
     | none => rw [hn.2 hg1] at hf1; cases hf1
     | some p => simp
theorem row_no (a : Option Addr) (c : Nat) (xs : List Int) (ds : List Bool) (i : Nat) : rowF a c xs ds i = none ↔ prtF xs ds i = none := by
 unfold rowF prtF pRow prtO
 cases ds.getD i false with
 | false => simp
 | true => cases tailO xs (hdW xs i) <;> simp
theorem dec_no (a : Option Addr) (c : Nat) (xs : List Int) (ds : List Bool) : decR a c xs ds = none ↔ abDec xs ds = none := by
 unfold decR abDec
 split
 ·simp
 ·exact upR_no (row_no a c xs ds) _
theorem tailO_all {xs ys : List Int} {h : Nat} (hx : allB xs) (ht : tailO xs h = some ys) : allB ys ∧ ys.length ≤ xs.length := by
 unfold tailO at ht
 split at ht
 ·cases ht
  exact ⟨fun y hy => hx y (List.mem_of_mem_drop (List.mem_of_mem_drop (List.mem_of_mem_take hy))), by rw [List.length_take, List.length_drop, List.length_drop]; omega⟩
 ·cases ht
set_option maxRecDepth 20000 in
theorem DecN_vc (a : Option Addr) (n c : Nat) (xs : List Int) (da : Option Addr) (dn dc : Nat) (ds : List Bool) (hl : xs.length = n) (hn : n ≤ c) (hx : allB xs) (ha : adr a n c) (hm : n ≤ 1000000) (hdl : ds.length = dn) (hdn : dn ≤ dc) (hda : adr da dn dc) (hdm : dn ≤ 1000000) (w : World) (hro : MemOk w [] [.ro (some ⟨0, 0, none⟩) (.cells [.raw eTy])] w) (hL : LiesH (H0 w) a (cc (.ints .u8 xs))) (hD : LiesH (H0 w) da (cc (.cells (ds.map .bool)))) (hd : abDec xs ds = none) :
  Calls Tryd.prog 40 (cvs [.gh da dn dc (.cells (ds.map .bool)), .gh a n c (.ints .u8 xs)]).toArray w (fun en w' => ∃ u, en = .returned u ∧ ∃ v' m', u = cv v' ∧ MemOk w [] m' w' ∧ v' = .tup [.nilsl, .int .u16 50]) := by
 have hLx : ∀ m, allOld w ∈ m → LiesH (HM m) a (cc (.ints .u8 xs)) := fun m hin => hL.mono (H0.hm hin)
 have hLd : ∀ m, allOld w ∈ m → LiesH (HM m) da (cc (.cells (ds.map .bool))) := fun m hin => hD.mono (H0.hm hin)
 have hdr := (dec_no a c xs ds).2 hd
 have y61 : T0.ty 98 = .ptr 96 := rfl
 have hbm := bools_map ds
 have hba := bools_all ds
 have hml : (ds.map SV.bool).length = dn := by rw [List.length_map, hdl]
 have hm0 : MemOk w [] [.ro (some ⟨0, 0, none⟩) (.cells [.raw eTy]), allOld w, .heap []] w := ro_front ((old_start w).heap0) hro
 refine Vc.calls T0_ok Tryd.func40 rfl rfl (args := [.gh da dn dc (.cells (ds.map .bool)), .gh a n c (.ints .u8 xs)]) (k := 36) rfl hm0 ?_; change Vc _ _ (c8 (.gh da dn dc (.cells (ds.map .bool))) (.gh a n c (.ints .u8 xs)) .undef .undef .undef .undef .undef .undef (c8 .undef .undef .undef .undef .undef .undef .undef .undef (c8 .undef .undef .undef .undef .undef .undef .undef .undef (c8 .undef .undef .undef .undef .undef .undef .undef .undef ([.undef, .undef, .undef, .undef, .undef, .undef]))))) _ _
 ((repeat (first | (with_reducible first | refine Vc.seq fun N hN => ?_ | refine Vc.block ?_) | ((with_reducible first | refine Vc.skip ?_ | refine Vc.exit ?_); dsimp only [thenK, blockK, Nat.beq]; (first | (refine hN _ _ ?_; clear hN N) | skip)) | (with_reducible intro _) | ((with_reducible refine And.intro ?_ ?_); exact sX8) | ((first | ((with_reducible refine askT_of ?_ (fun hb => ?_)); exact sX8; (try simp only [hb])) | ((with_reducible refine Vc.fin ?_); dsimp only [thenK, blockK, retK, resS, resOne, resAll]) | ((with_reducible refine Vc.hold ?_); first | refine Vc.regiont T0_ok GDB_ok ?_ | refine Vc.drawt (id := 4) T0_ok GDB_ok (by kernel_rfl) [0, 1, 2] 3 [] trivial (by kernel_rfl) ?_)); (try simp only [v8Y, Nat.beq, Nat.ble, seval, v8S, IntKind.bits, tabs, GDB_set, hbm, hdr, y61]); (try simp (disch := omega) only [v8W])) | ((with_reducible refine hN _ _ ?_); clear hN N; (try simp (disch := omega) only [v8W])))); (try ((with_reducible refine Fin.of ?_); (try with_reducible exact True.intro))))
 (refine Vc.cond T0_ok (t := true) (by rfl) (fun _ => ?_) (fun h => Bool.noConfusion h))
 ((repeat (first | (with_reducible first | refine Vc.seq fun N hN => ?_ | refine Vc.block ?_) | ((with_reducible first | refine Vc.skip ?_ | refine Vc.exit ?_); dsimp only [thenK, blockK, Nat.beq]; (first | (refine hN _ _ ?_; clear hN N) | skip)) | (with_reducible intro _) | ((with_reducible refine And.intro ?_ ?_); exact sdB) | ((first | ((with_reducible refine askT_of ?_ (fun hb => ?_)); exact sdB; (try simp only [hb])) | ((with_reducible refine Vc.fin ?_); dsimp only [thenK, blockK, retK, resS, resOne, resAll]) | ((with_reducible refine Vc.hold ?_); first | refine Vc.regiont T0_ok GDB_ok ?_ | refine Vc.drawt (id := 4) T0_ok GDB_ok (by kernel_rfl) [0, 1, 2] 3 [] trivial (by kernel_rfl) ?_)); (try simp only [v8Y, Nat.beq, Nat.ble, seval, v8S, IntKind.bits, tabs, GDB_set]); (try simp (disch := omega) only [v8W])) | ((with_reducible refine hN _ _ ?_); clear hN N; (try simp (disch := omega) only [v8W])))); (try ((with_reducible refine Fin.of ?_); (try with_reducible exact True.intro))))
 exact ⟨by simp, trivial⟩
theorem hd_dec {a : Option Addr} {c : Nat} {xs : List Int} {ds : List Bool} {rs : List (List SV)} {ps : List Prt} (h : decR a c xs ds = some rs) (hp : abDec xs ds = some ps) : rs.length = ds.length ∧ ps.length = ds.length ∧ (∀ j r, rs[j]? = some r → rowF a c xs ds j = some r) ∧ ∀ j p, ps[j]? = some p → prtF xs ds j = some p := by
 unfold decR at h
 unfold abDec at hp
 split at h
 ·cases h
 ·rename_i hz
  rw [if_neg hz] at hp
  obtain ⟨h1, h2⟩ := upR_len h
  obtain ⟨h3, h4⟩ := upR_len hp
  exact ⟨h1, h3, h2, h4⟩
theorem row_prt {a : Option Addr} {n c : Nat} {xs : List Int} {ds : List Bool} {j : Nat} {r : List SV} {p : Prt} (hl : xs.length = n) (hn : n ≤ c) (hx : allB xs) (ha : adr a n c) (hr : rowF a c xs ds j = some r) (hp : prtF xs ds j = some p) :
  (p.d = false ∧ p.bs = [] ∧ r = [.bool false, .int .u64 (lm p.w 0 : Nat), .int .u64 (lm p.w 1 : Nat), .int .u64 (lm p.w 2 : Nat), .int .u64 (lm p.w 3 : Nat), .nilsl]) ∨
  (p.d = true ∧ p.w = 0 ∧ ∃ a' c', r = [.bool true, .int .u64 0, .int .u64 0, .int .u64 0, .int .u64 0, .gh a' p.bs.length c' (.ints .u8 p.bs)] ∧ adr a' p.bs.length c' ∧ p.bs.length ≤ c' ∧ allB p.bs ∧ p.bs.length ≤ n ∧ ∀ H, LiesH H a (cc (.ints .u8 xs)) → LiesH H a' (cc (.ints .u8 p.bs))) := by
 unfold rowF pRow at hr
 unfold prtF prtO at hp
 cases hd : ds.getD j false with
 | false =>
  rw [hd] at hr hp
  cases hr; cases hp
  exact .inl ⟨rfl, rfl, rfl⟩
 | true =>
  rw [hd] at hr hp
  dsimp only at hr hp
  cases ht : tailO xs (hdW xs j) with
  | none => rw [ht] at hr; cases hr
  | some ys =>
   rw [ht] at hr hp
   cases hr; cases hp
   have hal := tailO_all hx ht
   generalize hdW xs j = h at *
   unfold tailO at ht
   split at ht
   ·rename_i hc
    obtain ⟨h1, h2, h3⟩ := hc
    have hk : smN h ≤ n := by unfold cutB at h1; rw [Bool.and_eq_true, decide_eq_true_eq] at h1; omega
    have hyl : (xs.drop (smN h)).length = n - smN h := by rw [List.length_drop, hl]
    have a1 := adr_shA (es := 1) ha hk hn
    have a2 := adr_shA (es := 1) a1 (show 32 ≤ n - smN h by omega) (by omega)
    have h4 := h3
    unfold cutB at h4; rw [Bool.and_eq_true, decide_eq_true_eq, List.length_drop] at h4
    cases ht
    have hkl : (((xs.drop (smN h)).drop 32).take (smN (readN ((xs.drop (smN h)).take 32)))).length = smN (readN ((xs.drop (smN h)).take 32)) := by
     rw [List.length_take, List.length_drop]; omega
    refine .inr ⟨rfl, rfl, _, _, rfl, a2.imp id fun g => ⟨g.1, by rw [hkl]; omega, g.2.2⟩, by rw [hkl]; omega, hal.1, by have := hal.2; simp only at this ⊢; omega, fun H hH => lies_take _ (lies_shA (lies_shA hH hl hn) hyl (by omega))⟩
   ·cases ht
set_option maxRecDepth 20000 in
theorem DecY_vc (a : Option Addr) (n c : Nat) (xs : List Int) (da : Option Addr) (dn dc : Nat) (ds : List Bool) (hl : xs.length = n) (hn : n ≤ c) (hx : allB xs) (ha : adr a n c) (hm : n ≤ 1000000) (hdl : ds.length = dn) (hdn : dn ≤ dc) (hda : adr da dn dc) (hdm : dn ≤ 1000000) (w : World) (hro : MemOk w [] [.ro (some ⟨0, 0, none⟩) (.cells [.raw eTy])] w) (hL : LiesH (H0 w) a (cc (.ints .u8 xs))) (hD : LiesH (H0 w) da (cc (.cells (ds.map .bool)))) (ps : List Prt) (hd : abDec xs ds = some ps) :
  Calls Tryd.prog 40 (cvs [.gh da dn dc (.cells (ds.map .bool)), .gh a n c (.ints .u8 xs)]).toArray w (fun en w' => ∃ u, en = .returned u ∧ ∃ v' m', u = cv v' ∧ MemOk w [] m' w' ∧ ∃ s R l, v' = .tup [.own 3 s dn, .int .u16 0] ∧ bget m' 3 = .own s dn 59 6 (.rows 6 R) ∧ bget m' 2 = .heap l ∧ PdsR (Hl l) R ps) := by
 have hLx : ∀ m, allOld w ∈ m → LiesH (HM m) a (cc (.ints .u8 xs)) := fun m hin => hL.mono (H0.hm hin)
 have hLd : ∀ m, allOld w ∈ m → LiesH (HM m) da (cc (.cells (ds.map .bool))) := fun m hin => hD.mono (H0.hm hin)
 obtain ⟨rs, hdr⟩ : ∃ rs, decR a c xs ds = some rs := by
  cases h : decR a c xs ds with
  | none => rw [(dec_no a c xs ds).1 h] at hd; cases hd
  | some rs => exact ⟨rs, rfl⟩
 obtain ⟨q1, q2, q3, q4⟩ := hd_dec hdr hd
 have y61 : T0.ty 98 = .ptr 96 := rfl
 have hbm := bools_map ds
 have hba := bools_all ds
 have hml : (ds.map SV.bool).length = dn := by rw [List.length_map, hdl]
 have hm0 : MemOk w [] [.ro (some ⟨0, 0, none⟩) (.cells [.raw eTy]), allOld w, .heap []] w := ro_front ((old_start w).heap0) hro
 refine Vc.calls T0_ok Tryd.func40 rfl rfl (args := [.gh da dn dc (.cells (ds.map .bool)), .gh a n c (.ints .u8 xs)]) (k := 36) rfl hm0 ?_; change Vc _ _ (c8 (.gh da dn dc (.cells (ds.map .bool))) (.gh a n c (.ints .u8 xs)) .undef .undef .undef .undef .undef .undef (c8 .undef .undef .undef .undef .undef .undef .undef .undef (c8 .undef .undef .undef .undef .undef .undef .undef .undef (c8 .undef .undef .undef .undef .undef .undef .undef .undef ([.undef, .undef, .undef, .undef, .undef, .undef]))))) _ _
 ((repeat (first | (with_reducible first | refine Vc.seq fun N hN => ?_ | refine Vc.block ?_) | ((with_reducible first | refine Vc.skip ?_ | refine Vc.exit ?_); dsimp only [thenK, blockK, Nat.beq]; (first | (refine hN _ _ ?_; clear hN N) | skip)) | (with_reducible intro _) | ((with_reducible refine And.intro ?_ ?_); exact sX8) | ((first | ((with_reducible refine askT_of ?_ (fun hb => ?_)); exact sX8; (try simp only [hb])) | ((with_reducible refine Vc.fin ?_); dsimp only [thenK, blockK, retK, resS, resOne, resAll]) | ((with_reducible refine Vc.hold ?_); first | refine Vc.regiont T0_ok GDB_ok ?_ | refine Vc.drawt (id := 4) T0_ok GDB_ok (by kernel_rfl) [0, 1, 2] 3 [] trivial (by kernel_rfl) ?_)); (try simp only [v8Y, Nat.beq, Nat.ble, seval, v8S, IntKind.bits, tabs, GDB_set, hbm, hdr, y61]); (try simp (disch := omega) only [v8W])) | ((with_reducible refine hN _ _ ?_); clear hN N; (try simp (disch := omega) only [v8W])))); (try ((with_reducible refine Fin.of ?_); (try with_reducible exact True.intro))))
 (refine Vc.cond T0_ok (t := false) (by rfl) (fun h => Bool.noConfusion h) (fun _ => ?_))
 ((repeat (first | (with_reducible first | refine Vc.seq fun N hN => ?_ | refine Vc.block ?_) | ((with_reducible first | refine Vc.skip ?_ | refine Vc.exit ?_); dsimp only [thenK, blockK, Nat.beq]; (first | (refine hN _ _ ?_; clear hN N) | skip)) | (with_reducible intro _) | ((with_reducible refine And.intro ?_ ?_); exact sX8) | ((first | ((with_reducible refine askT_of ?_ (fun hb => ?_)); exact sX8; (try simp only [hb])) | ((with_reducible refine Vc.fin ?_); dsimp only [thenK, blockK, retK, resS, resOne, resAll]) | ((with_reducible refine Vc.hold ?_); first | refine Vc.regiont T0_ok GDB_ok ?_ | refine Vc.drawt (id := 4) T0_ok GDB_ok (by kernel_rfl) [0, 1, 2] 3 [] trivial (by kernel_rfl) ?_)); (try simp only [v8Y, Nat.beq, Nat.ble, seval, v8S, IntKind.bits, tabs, GDB_set, hbm, hdr, y61]); (try simp (disch := omega) only [v8W])) | ((with_reducible refine hN _ _ ?_); clear hN N; (try simp (disch := omega) only [v8W])))); (try ((with_reducible refine Fin.of ?_); (try with_reducible exact True.intro))))
 rename_i v b _
 (revert N; intro N1 hN1)
 have hr6 : ∀ r ∈ rs, r.length = 6 := fun r hr => by
  obtain ⟨j, hj⟩ := List.getElem?_of_mem hr
  exact pRow_6 (q3 j r hj)
 refine Vc.loop 9 38 (fun (x : Nat × List (List SV) × List (Nat × Obj)) => [(21, .own 3 v dn), (22, .int .i64 (dn : Nat)), (23, .int .i64 (x.1 : Nat))]) (fun x => [.ro (some ⟨0, 0, none⟩) (.cells [.raw eTy]), allOld w, .heap x.2.2, .own v dn 59 6 (.rows 6 (x.2.1 ++ rs.drop x.1))]) (fun x => x.1 ≤ dn ∧ x.2.1.length = x.1 ∧ (∀ r ∈ x.2.1, r.length = 6) ∧ ∀ (i : Nat) (r : List SV) (p : Prt), x.2.1[i]? = some r → ps[i]? = some p → PdR (Hl x.2.2) r p) (fun x => dn - x.1) (0, [], []) ⟨⟨Nat.zero_le _, rfl, by simp, by simp⟩, ?_, ?_⟩ (fun x junk hx2 => ?_)
 ·((try simp only [v8Y, Nat.beq, Nat.ble, seval, v8S, IntKind.bits, tabs]); (repeat' with_reducible apply And.intro) <;> first | with_reducible exact True.intro | rfl | with_reducible rfl | (congr 1 <;> omega) | trivial)
 ·((try simp only [v8Y, Nat.beq, Nat.ble, seval, v8S, IntKind.bits, tabs]); (repeat' with_reducible apply And.intro) <;> first | with_reducible exact True.intro | rfl | with_reducible rfl | (congr 1 <;> omega) | trivial)
 ·obtain ⟨k, R, L⟩ := x
  simp only at hx2 ⊢
  obtain ⟨hk1, hRl, hR6, hRp⟩ := hx2
  (simp only [v8Y, Nat.beq, Nat.ble, seval, v8S, IntKind.bits, tabs])
  by_cases hc1 : k < dn
  ·have d1 : decide ((k : Int) < (dn : Int)) = true := decide_eq_true (by omega)
   have tk : ((k : Nat) : Int).toNat = k := by omega
   have e1 := List.getElem?_eq_getElem (show k < rs.length by omega)
   have e2 := List.getElem?_eq_getElem (show k < ps.length by omega)
   have hsh := row_prt hl hn hx ha (q3 k _ e1) (q4 k _ e2)
   generalize rs[k] = r at *
   generalize ps[k] = p at *
   have hdk : rs.drop k = r :: rs.drop (k + 1) := by
    have := (List.getElem?_eq_some_iff.1 e1)
    obtain ⟨h5, h6⟩ := this
    rw [List.drop_eq_getElem_cons h5, h6]
   have hgd : (R ++ rs.drop k).getD k [] = r := by rw [hdk, List.getD_eq_getElem?_getD, List.getElem?_append_right (by omega), hRl, Nat.sub_self]; rfl
   have hset : ∀ r', (R ++ rs.drop k).set k r' = (R ++ [r']) ++ rs.drop (k + 1) := fun r' => by rw [hdk, List.set_append_right _ _ (by omega), hRl, Nat.sub_self, List.set_cons_zero]; simp
   have h66 : Fin (∀ r' ∈ R ++ rs.drop k, r'.length = 6) := fun r' hr' => by
    rcases List.mem_append.1 hr' with h | h
    ·exact hR6 r' h
    ·exact hr6 r' (List.mem_of_mem_drop h)
   have hlen : k < (R ++ rs.drop k).length := by rw [List.length_append, List.length_drop]; omega
   rcases hsh with ⟨p1, p2, p3⟩ | ⟨p1, p2, pa, pc, p3, p4, p5, p6, p7, p8⟩
   ·rw [p3] at hgd
    have h67 : ∀ r' ∈ R ++ rs.drop k, r'.length = 6 := h66
    ((repeat (first | (with_reducible first | refine Vc.seq fun N hN => ?_ | refine Vc.block ?_) | ((with_reducible first | refine Vc.skip ?_ | refine Vc.exit ?_); dsimp only [thenK, blockK, Nat.beq]; (first | (refine hN _ _ ?_; clear hN N) | skip)) | (with_reducible intro _) | ((with_reducible refine And.intro ?_ ?_); exact sdB) | ((first | ((with_reducible refine askT_of ?_ (fun hb => ?_)); exact sdB; (try simp only [hb])) | ((with_reducible refine Vc.fin ?_); dsimp only [thenK, blockK, retK, resS, resOne, resAll]) | ((with_reducible refine Vc.hold ?_); first | refine Vc.regiont T0_ok GDB_ok ?_ | refine Vc.drawt (id := 4) T0_ok GDB_ok (by kernel_rfl) [0, 1, 2] 3 [] trivial (by kernel_rfl) ?_)); (try simp only [v8Y, Nat.beq, Nat.ble, seval, v8S, IntKind.bits, tabs, GDB_set, d1]); (try simp (disch := omega) only [v8W])) | ((with_reducible refine hN _ _ ?_); clear hN N; (try simp (disch := omega) only [v8W])))); (try ((with_reducible refine Fin.of ?_); (try with_reducible exact True.intro))))
    (refine Vc.cond T0_ok (t := true) (by rfl) (fun _ => ?_) (fun h => Bool.noConfusion h))
    ((repeat (first | (with_reducible first | refine Vc.seq fun N hN => ?_ | refine Vc.block ?_) | ((with_reducible first | refine Vc.skip ?_ | refine Vc.exit ?_); dsimp only [thenK, blockK, Nat.beq]; (first | (refine hN _ _ ?_; clear hN N) | skip)) | (with_reducible intro _) | ((with_reducible refine And.intro ?_ ?_); exact sX14) | ((first | ((with_reducible refine askT_of ?_ (fun hb => ?_)); exact sX14; (try simp only [hb])) | ((with_reducible refine Vc.fin ?_); dsimp only [thenK, blockK, retK, resS, resOne, resAll]) | ((with_reducible refine Vc.hold ?_); first | refine Vc.regiont T0_ok GDB_ok ?_ | refine Vc.drawt (id := 4) T0_ok GDB_ok (by kernel_rfl) [0, 1, 2] 3 [] trivial (by kernel_rfl) ?_)); (try simp only [v8Y, Nat.beq, Nat.ble, seval, v8S, IntKind.bits, tabs, GDB_set, d1, tk, hgd]); (try simp (disch := omega) only [v8W])) | ((with_reducible refine hN _ _ ?_); clear hN N; (try simp (disch := omega) only [v8W])))); (try ((with_reducible refine Fin.of ?_); (try with_reducible exact True.intro))))
    refine ⟨(k + 1, R ++ [[.bool false, .int .u64 (lm p.w 0 : Nat), .int .u64 (lm p.w 1 : Nat), .int .u64 (lm p.w 2 : Nat), .int .u64 (lm p.w 3 : Nat), .nilsl]], L), ⟨by simp only; omega, by simp [hRl], ?_, ?_⟩, ?_, ?_, by simp only; omega⟩
    rotate_left 2
    ·((try simp only [v8Y, Nat.beq, Nat.ble, seval, v8S, IntKind.bits, tabs]); (repeat' with_reducible apply And.intro) <;> first | with_reducible exact True.intro | rfl | (congr 1 <;> omega))
    ·simp only [hset]
     ((try simp only [v8Y, Nat.beq, Nat.ble, seval, v8S, IntKind.bits, tabs]); (repeat' with_reducible apply And.intro) <;> first | with_reducible exact True.intro | rfl | (congr 1 <;> omega))
    ·intro r' hr'
     rcases List.mem_append.1 hr' with h | h
     ·exact hR6 r' h
     ·rw [List.mem_singleton] at h; subst h; rfl
    ·intro i r' p' hi hp'
     simp only at hi hp'
     by_cases hik : i < k
     ·rw [List.getElem?_append_left (by omega)] at hi
      exact hRp i r' p' hi hp'
     ·have hlt := (List.getElem?_eq_some_iff.1 hi).1
      simp [hRl] at hlt
      obtain rfl : i = k := by omega
      rw [List.getElem?_append_right (by omega), hRl, Nat.sub_self] at hi
      rw [e2] at hp'; cases hp'
      cases hi
      exact .inl ⟨p1, p2, rfl⟩
   ·rw [p3] at hgd
    have hLy : ∀ m, allOld w ∈ m → LiesH (HM m) pa (cc (.ints .u8 p.bs)) := fun m hin => (p8 _ hL).mono (H0.hm hin)
    ((repeat (first | (with_reducible first | refine Vc.seq fun N hN => ?_ | refine Vc.block ?_) | ((with_reducible first | refine Vc.skip ?_ | refine Vc.exit ?_); dsimp only [thenK, blockK, Nat.beq]; (first | (refine hN _ _ ?_; clear hN N) | skip)) | (with_reducible intro _) | ((with_reducible refine And.intro ?_ ?_); exact sdB) | ((first | ((with_reducible refine askT_of ?_ (fun hb => ?_)); exact sdB; (try simp only [hb])) | ((with_reducible refine Vc.fin ?_); dsimp only [thenK, blockK, retK, resS, resOne, resAll]) | ((with_reducible refine Vc.hold ?_); first | refine Vc.regiont T0_ok GDB_ok ?_ | refine Vc.drawt (id := 4) T0_ok GDB_ok (by kernel_rfl) [0, 1, 2] 3 [] trivial (by kernel_rfl) ?_)); (try simp only [v8Y, Nat.beq, Nat.ble, seval, v8S, IntKind.bits, tabs, GDB_set, d1]); (try simp (disch := omega) only [v8W])) | ((with_reducible refine hN _ _ ?_); clear hN N; (try simp (disch := omega) only [v8W])))); (try ((with_reducible refine Fin.of ?_); (try with_reducible exact True.intro))))
    (refine Vc.cond T0_ok (t := true) (by rfl) (fun _ => ?_) (fun h => Bool.noConfusion h))
    refine Vc.skip ?_
    dsimp only [thenK, blockK, Nat.beq]
    refine hN _ _ ?_
    clear hN N
    refine Vc.seq fun N hN => ?_
    refine Vc.block ?_
    ((with_reducible refine Vc.seq fun N hN => ?_); (refine Vc.regiont T0_ok GDB_ok ?_); simp only [v8Y, Nat.beq, Nat.ble, seval, v8S, IntKind.bits, tabs, GDB_set]; (try simp (disch := omega) only [v8W]); (repeat (first | with_reducible intro _ | ((with_reducible refine And.intro ?_ ?_); exact sdB) | ((with_reducible refine askT_of ?_ (fun hb => ?_)); exact sdB; simp only [hb, v8Y, Nat.beq, Nat.ble, seval, v8S, IntKind.bits, tabs, GDB_set]; (try simp (disch := omega) only [v8W])))); (first | (refine hN _ _ ?_; clear hN N; (try simp (disch := omega) only [v8W])) | skip))
    have h67 : ∀ r' ∈ R ++ rs.drop k, r'.length = 6 := h66
    refine Vc.regiont T0_ok GDB_ok ?_
    (simp only [v8Y, Nat.beq, Nat.ble, seval, v8S, IntKind.bits, tabs, GDB_set, tk, hgd]; (try simp (disch := omega) only [v8W]); (repeat (first | with_reducible intro _ | ((with_reducible refine And.intro ?_ ?_); exact sX14) | ((with_reducible refine askT_of ?_ (fun hb => ?_)); exact sX14; simp only [hb, v8Y, Nat.beq, Nat.ble, seval, v8S, IntKind.bits, tabs, GDB_set, tk, hgd]; (try simp (disch := omega) only [v8W])))); (first | (refine hN _ _ ?_; clear hN N; (try simp (disch := omega) only [v8W])) | skip))
    rename_i x hq
    obtain ⟨c1, c2, c3, c4⟩ := hq
    refine Vc.merge 2 4 (by decide) rfl rfl ?_
    simp only [bset]
    ((repeat (first | (with_reducible first | refine Vc.seq fun N hN => ?_ | refine Vc.block ?_) | ((with_reducible first | refine Vc.skip ?_ | refine Vc.exit ?_); dsimp only [thenK, blockK, Nat.beq]; (first | (refine hN _ _ ?_; clear hN N) | skip)) | (with_reducible intro _) | ((with_reducible refine And.intro ?_ ?_); exact sdB) | ((first | ((with_reducible refine askT_of ?_ (fun hb => ?_)); exact sdB; (try simp only [hb])) | ((with_reducible refine Vc.fin ?_); dsimp only [thenK, blockK, retK, resS, resOne, resAll]) | ((with_reducible refine Vc.hold ?_); first | refine Vc.regiont T0_ok GDB_ok ?_ | refine Vc.drawt (id := 4) T0_ok GDB_ok (by kernel_rfl) [0, 1, 2] 3 [] trivial (by kernel_rfl) ?_)); (try simp only [v8Y, Nat.beq, Nat.ble, seval, v8S, IntKind.bits, tabs, GDB_set, ]); (try simp (disch := omega) only [v8W])) | ((with_reducible refine hN _ _ ?_); clear hN N; (try simp (disch := omega) only [v8W])))); (try ((with_reducible refine Fin.of ?_); (try with_reducible exact True.intro))))
    refine ⟨(k + 1, R ++ [[.bool true, .int .u64 0, .int .u64 0, .int .u64 0, .int .u64 0, .gh x.a p.bs.length x.c (.ints .u8 p.bs)]], L ++ x.l), ⟨by simp only; omega, by simp [hRl], ?_, ?_⟩, ?_, ?_, by simp only; omega⟩
    rotate_left 2
    ·((try simp only [v8Y, Nat.beq, Nat.ble, seval, v8S, IntKind.bits, tabs]); (repeat' with_reducible apply And.intro) <;> first | with_reducible exact True.intro | rfl | (congr 1 <;> omega))
    ·simp only [hset]
     ((try simp only [v8Y, Nat.beq, Nat.ble, seval, v8S, IntKind.bits, tabs]); (repeat' with_reducible apply And.intro) <;> first | with_reducible exact True.intro | rfl | (congr 1 <;> omega))
    ·intro r' hr'
     rcases List.mem_append.1 hr' with h | h
     ·exact hR6 r' h
     ·rw [List.mem_singleton] at h; subst h; rfl
    ·intro i r' p' hi hp'
     simp only at hi hp'
     by_cases hik : i < k
     ·rw [List.getElem?_append_left (by omega)] at hi
      exact (hRp i r' p' hi hp').mono fun b o h => List.mem_append_left _ h
     ·have hlt := (List.getElem?_eq_some_iff.1 hi).1
      simp [hRl] at hlt
      obtain rfl : i = k := by omega
      rw [List.getElem?_append_right (by omega), hRl, Nat.sub_self] at hi
      rw [e2] at hp'; cases hp'
      cases hi
      exact .inr ⟨p1, p2, _, _, rfl, c1, c2, p6, c4.mono fun b o h => List.mem_append_right _ h⟩
  ·have d1 : decide ((k : Int) < (dn : Int)) = false := decide_eq_false (by omega)
   obtain rfl : k = dn := by omega
   have hdn : rs.drop k = [] := List.drop_eq_nil_of_le (by omega)
   ((repeat (first | (with_reducible first | refine Vc.seq fun N hN => ?_ | refine Vc.block ?_) | ((with_reducible first | refine Vc.skip ?_ | refine Vc.exit ?_); dsimp only [thenK, blockK, Nat.beq]; (first | (refine hN _ _ ?_; clear hN N) | skip)) | (with_reducible intro _) | ((with_reducible refine And.intro ?_ ?_); exact sdB) | ((first | ((with_reducible refine askT_of ?_ (fun hb => ?_)); exact sdB; (try simp only [hb])) | ((with_reducible refine Vc.fin ?_); dsimp only [thenK, blockK, retK, resS, resOne, resAll]) | ((with_reducible refine Vc.hold ?_); first | refine Vc.regiont T0_ok GDB_ok ?_ | refine Vc.drawt (id := 4) T0_ok GDB_ok (by kernel_rfl) [0, 1, 2] 3 [] trivial (by kernel_rfl) ?_)); (try simp only [v8Y, Nat.beq, Nat.ble, seval, v8S, IntKind.bits, tabs, GDB_set, d1]); (try simp (disch := omega) only [v8W])) | ((with_reducible refine hN _ _ ?_); clear hN N; (try simp (disch := omega) only [v8W])))); (try ((with_reducible refine Fin.of ?_); (try with_reducible exact True.intro))))
   (refine Vc.cond T0_ok (t := false) (by rfl) (fun h => Bool.noConfusion h) (fun _ => ?_))
   ((repeat (first | (with_reducible first | refine Vc.seq fun N hN => ?_ | refine Vc.block ?_) | ((with_reducible first | refine Vc.skip ?_ | refine Vc.exit ?_); dsimp only [thenK, blockK, Nat.beq]; (first | (refine hN _ _ ?_; clear hN N) | skip)) | (with_reducible intro _) | ((with_reducible refine And.intro ?_ ?_); exact sdB) | ((first | ((with_reducible refine askT_of ?_ (fun hb => ?_)); exact sdB; (try simp only [hb])) | ((with_reducible refine Vc.fin ?_); dsimp only [thenK, blockK, retK, resS, resOne, resAll]) | ((with_reducible refine Vc.hold ?_); first | refine Vc.regiont T0_ok GDB_ok ?_ | refine Vc.drawt (id := 4) T0_ok GDB_ok (by kernel_rfl) [0, 1, 2] 3 [] trivial (by kernel_rfl) ?_)); (try simp only [v8Y, Nat.beq, Nat.ble, seval, v8S, IntKind.bits, tabs, GDB_set]); (try simp (disch := omega) only [v8W])) | ((with_reducible refine hN _ _ ?_); clear hN N; (try simp (disch := omega) only [v8W])))); (try ((with_reducible refine Fin.of ?_); (try with_reducible exact True.intro))))
   (refine hN1 _ _ ?_; (try clear hN N); clear hN1 N1)
   ((repeat (first | (with_reducible first | refine Vc.seq fun N hN => ?_ | refine Vc.block ?_) | ((with_reducible first | refine Vc.skip ?_ | refine Vc.exit ?_); dsimp only [thenK, blockK, Nat.beq]; (first | (refine hN _ _ ?_; clear hN N) | skip)) | (with_reducible intro _) | ((with_reducible refine And.intro ?_ ?_); exact sdB) | ((first | ((with_reducible refine askT_of ?_ (fun hb => ?_)); exact sdB; (try simp only [hb])) | ((with_reducible refine Vc.fin ?_); dsimp only [thenK, blockK, retK, resS, resOne, resAll]) | ((with_reducible refine Vc.hold ?_); first | refine Vc.regiont T0_ok GDB_ok ?_ | refine Vc.drawt (id := 4) T0_ok GDB_ok (by kernel_rfl) [0, 1, 2] 3 [] trivial (by kernel_rfl) ?_)); (try simp only [v8Y, Nat.beq, Nat.ble, seval, v8S, IntKind.bits, tabs, GDB_set]); (try simp (disch := omega) only [v8W])) | ((with_reducible refine hN _ _ ?_); clear hN N; (try simp (disch := omega) only [v8W])))); (try ((with_reducible refine Fin.of ?_); (try with_reducible exact True.intro))))
   exact ⟨by simp, v, R, L, rfl, by rw [hdn, List.append_nil], rfl, by omega, hR6, hRp⟩
theorem bget_set_eq : ∀ {m : List Blk} {i : Nat} {e0 : Blk} (e : Blk), bget m i = e0 → e0 ≠ .gone → bget (bset m i e) i = e
 | [], _, _, _, h, hn => absurd h.symm hn
 | _ :: _, 0, _, _, _, _ => rfl
 | _ :: m, i + 1, _, e, h, hn => bget_set_eq (m := m) (i := i) e h hn
structure DecX where
 a : Option Addr
 c : Nat
 R : List (List SV)
 l : List (Nat × Obj)
def DecQ (ps : List Prt) (x : DecX) : Prop := adr x.a ps.length x.c ∧ ps.length ≤ x.c ∧ LiesH (Hl x.l) x.a (cc (.rows 6 x.R)) ∧ PdsR (Hl x.l) x.R ps
theorem abDec_len {xs : List Int} {ds : List Bool} {ps : List Prt} (h : abDec xs ds = some ps) : ps.length = ds.length := by
 unfold abDec at h
 split at h
 ·cases h
 ·exact (upR_len h).1
def g_Dec (args : List SV) (m : List Blk) : CR :=
 match args with
 | [s1, s2] => match srcC s1 m, srcC s2 m, bget m 2 with
  | some (q1, k1, .cells l1), some (q2, k2, .ints .u8 xs), .ro a0 c0 => match abDec xs (bools l1) with
   | none => .pure (q1 ∧ q2 ∧ l1 = (bools l1).map .bool ∧ allB xs ∧ k1 ≤ 1000000 ∧ k2 ≤ 1000000 ∧ a0 = some ⟨0, 0, none⟩ ∧ c0 = .cells [.raw eTy]) (.tup [.nilsl, .int .u16 50])
   | some ps => .grw (q1 ∧ q2 ∧ l1 = (bools l1).map .bool ∧ allB xs ∧ k1 ≤ 1000000 ∧ k2 ≤ 1000000 ∧ a0 = some ⟨0, 0, none⟩ ∧ c0 = .cells [.raw eTy]) DecX (DecQ ps) (fun x => .tup [.gh x.a ps.length x.c (.rows 6 x.R), .int .u16 0]) (fun x => .heap x.l)
  | _, _, _ => .none
 | _ => .none
theorem g_Dec_ok (w0 : World) (B : List Nat) (args : List SV) (m : List Blk) : CROk Tryd.prog w0 B 40 args m (g_Dec args m) := by
 unfold g_Dec
 split
 ·rename_i s1 s2
  split
  ·rename_i q1 k1 l1 q2 k2 xs a0 c0 hs1 hs2 hr
   split
   ·rename_i hd
    intro ⟨g1, g2, g3, g4, g5, g6, g7, g8⟩ w hm
    subst g7 g8
    obtain ⟨h1, a, cp, h2, h4, h6, h7⟩ := src_ro hs1 g1 hm
    obtain ⟨j1, b, cq, j2, j4, j6, j7⟩ := src_ro hs2 g2 hm
    have hl1 : l1.length = k1 := by simpa [cc, conEs, cvs_len] using h1
    have hl2 : xs.length = k2 := by simpa [cc, conEs] using j1
    have e : cvs [s1, s2] = cvs [.gh a k1 cp (.cells ((bools l1).map .bool)), .gh b k2 cq (.ints .u8 xs)] := by simp only [cvs]; rw [h2, j2, cv_sl0, cv_sl0]; rfl
    rw [e]
    have hb : (bools l1).length = k1 := by rw [← hl1, g3, bools_map, List.length_map]
    rw [g3] at h6
    exact calls_pure Tryd.func40 rfl rfl (DecN_vc b k2 cq xs a k1 cp (bools l1) hl2 j4 g4 j7 g6 hb h4 h7 g5 w (ro_ro hm hr) (lies_of_ro j6) (lies_of_ro h6) hd)
   ·rename_i ps hd
    intro ⟨g1, g2, g3, g4, g5, g6, g7, g8⟩ w hm
    subst g7 g8
    obtain ⟨h1, a, cp, h2, h4, h6, h7⟩ := src_ro hs1 g1 hm
    obtain ⟨j1, b, cq, j2, j4, j6, j7⟩ := src_ro hs2 g2 hm
    have hl1 : l1.length = k1 := by simpa [cc, conEs, cvs_len] using h1
    have hl2 : xs.length = k2 := by simpa [cc, conEs] using j1
    have e : cvs [s1, s2] = cvs [.gh a k1 cp (.cells ((bools l1).map .bool)), .gh b k2 cq (.ints .u8 xs)] := by simp only [cvs]; rw [h2, j2, cv_sl0, cv_sl0]; rfl
    have hb : (bools l1).length = k1 := by rw [← hl1, g3, bools_map, List.length_map]
    have hpl : ps.length = k1 := (abDec_len hd).trans hb
    rw [g3] at h6
    refine calls_grw (A := DecX) (l := fun x => x.l) Tryd.func40 rfl rfl hm (i := 2) e ((DecY_vc b k2 cq xs a k1 cp (bools l1) hl2 j4 g4 j7 g6 hb h4 h7 g5 w (ro_ro hm hr) (lies_of_ro j6) (lies_of_ro h6) ps hd).mono fun en w' ⟨u, hu, v', m', hv, hm', s, R, l, o1, o2, o3, o4⟩ => ?_)
    obtain ⟨l', a', c', f1, f2, f3, f4, f5, f6, f7⟩ := freeze hm' o2 o3
    refine ⟨u, hu, _, ⟨a', c', R, l ++ l'⟩, f7, ⟨by rw [hpl]; exact f2, by rw [hpl]; exact f3, f6.mono fun b o h => List.mem_append_right _ h, o4.1, o4.2.1, fun i r p hi hp => (o4.2.2 i r p hi hp).mono fun b o h => List.mem_append_left _ h⟩, by rw [hv, o1, f1, hpl]; rfl, ?_⟩
    exact bget_set_eq _ ((bget_set_ne _ _ (by decide)).trans o3) (by simp)
  ·exact trivial
 ·exact trivial
end Go.Proofs.YthdpgfdfgidokaaDoor

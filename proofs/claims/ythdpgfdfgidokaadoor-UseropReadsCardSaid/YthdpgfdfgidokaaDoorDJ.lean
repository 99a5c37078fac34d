/-
 ABI: what was encoded is decoded again; parts that a law is handed; how much they are. No condition.
-/
import Derived.Test.YthdpgfdfgidokaaDoorD3
import Derived.Test.YthdpgfdfgidokaaDoorDB
import Derived.Test.YthdpgfdfgidokaaDoorFJ
import Derived.Test.YthdpgfdfgidokaaDoorFV
set_option maxRecDepth 10000
set_option linter.defProp false
set_option linter.unusedVariables false
set_option linter.unusedSimpArgs false
namespace Go.Proofs.YthdpgfdfgidokaaDoor
open Go.RowKit Go.ChangeShapes Go.WideShapes Go.ChangeAt
theorem allOne_map : ∀ ds : List Bool, allOne (ds.map SV.bool) = true
 | [] => rfl
 | d :: ds => by
  simp only [List.map_cons, allOne, allOne_map ds]
  rfl
theorem PdR.cells {H : Nat → Obj → Prop} {r : List SV} {p : Prt} (h : PdR H r p) : (∃ x0 x1 x2 x3 : Int, r = [.bool p.d, .int .u64 x0, .int .u64 x1, .int .u64 x2, .int .u64 x3, .nilsl] ∧ p.bs = [] ∧ p.d = false) ∨ ∃ (x0 x1 x2 x3 : Int) (a : Option Addr) (c : Nat), r = [.bool p.d, .int .u64 x0, .int .u64 x1, .int .u64 x2, .int .u64 x3, .gh a p.bs.length c (.ints .u8 p.bs)] ∧ p.d = true := by
 rcases h with ⟨h1, h2, h3⟩ | ⟨h1, h2, a, c, h3, h4⟩
 ·exact .inl ⟨_, _, _, _, by rw [h3, h1], h2, h1⟩
 ·exact .inr ⟨_, _, _, _, a, c, by rw [h3, h1], h1⟩
end Go.Proofs.YthdpgfdfgidokaaDoor
namespace Go.Proofs.YthdpgfdfgidokaaDoor
open Go.RowKit Go.ChangeShapes Go.WideShapes Go.ChangeAt
theorem readN_word {a : Nat} (ha : a < W) : readN (bytI a 32) = a := by
 unfold readN
 rw [bytI_len, show 32 - 32 = 0 from rfl, List.drop_zero, rdI_bytI]
 exact Nat.mod_eq_of_lt (by unfold W at ha; omega)
def nrm (p : Prt) : Prt := if p.d = true then ⟨true, 0, p.bs⟩ else ⟨false, p.w, []⟩
theorem fold_app (N : Nat) : ∀ (l : List Prt) (s : List Int × List Int), ∃ X Y, l.foldl (stE N) s = (s.1 ++ X, s.2 ++ Y)
 | [], s => ⟨[], [], by simp⟩
 | p :: l, s => by
  obtain ⟨X, Y, h⟩ := fold_app N l (stE N s p)
  unfold stE at h
  simp only [List.foldl_cons]
  unfold stE
  split at h <;> rename_i hd
  ·rw [if_pos hd]
   exact ⟨_, _, by rw [h, List.append_assoc, List.append_assoc]⟩
  ·rw [if_neg hd]
   exact ⟨_, _, by rw [h, List.append_assoc]⟩
theorem enc_at {l : List Prt} {i : Nat} {p : Prt} (h : l[i]? = some p) : ∃ X Y, encS l.length l = ((stE l.length (encS l.length (l.take i)) p).1 ++ X, (stE l.length (encS l.length (l.take i)) p).2 ++ Y) := by
 obtain ⟨X, Y, e⟩ := fold_app l.length (l.drop (i + 1)) (stE l.length (encS l.length (l.take i)) p)
 refine ⟨X, Y, ?_⟩
 rw [← e, ← encS_s h]
 unfold encS
 rw [← List.foldl_append, List.take_append_drop]
theorem drop_at {α : Type} {x y : List α} {n : Nat} (h : x.length = n) : (x ++ y).drop n = y := by rw [← h]; exact List.drop_left
theorem take_at {α : Type} {x y : List α} {n : Nat} (h : x.length = n) : (x ++ y).take n = x := by rw [← h]; exact List.take_left
theorem back_part {l : List Prt} {i : Nat} {p : Prt} (more : List Int) (h : l[i]? = some p) (hw : p.d = false → p.w < W) (hz : psz l ≤ 100000) : prtO (abEnc l ++ more) p.d (hdW (abEnc l ++ more) i) = some (nrm p) := by
 obtain ⟨X, Y, hE⟩ := enc_at h
 have hil : i < l.length := (List.getElem?_eq_some_iff.1 h).1
 obtain ⟨q1, q2, q3⟩ := encS_len l.length (l.take i)
 have hpt := psz_take l i
 have hpl := psz_len l
 have hpg := psz_get h
 rw [List.length_take, Nat.min_eq_left (by omega)] at q1
 have qa := (encS_len l.length l).1
 generalize encS l.length (l.take i) = s at *
 obtain ⟨hs, ts⟩ := s
 simp only at q1 q2 q3
 cases hd : p.d with
 | false =>
  have e1 : stE l.length (hs, ts) p = (hs ++ bytI p.w 32, ts) := by unfold stE; rw [if_neg (by rw [hd]; simp)]
  rw [e1] at hE
  have e2 : abEnc l ++ more = hs ++ (bytI p.w 32 ++ (X ++ (ts ++ Y) ++ more)) := by unfold abEnc; rw [hE]; simp only [List.append_assoc]
  have e3 : hdW (abEnc l ++ more) i = p.w := by
   unfold hdW
   rw [e2, drop_at q1, take_at (bytI_len _ _)]
   exact readN_word (hw hd)
  unfold prtO nrm
  rw [e3, hd]; rfl
 | true =>
  have e1 : stE l.length (hs, ts) p = (hs ++ bytI (32 * l.length + ts.length) 32, ts ++ abTail p.bs) := by unfold stE; rw [if_pos hd]
  rw [e1] at hE
  have hN : (hs ++ bytI (32 * l.length + ts.length) 32 ++ X).length = 32 * l.length := by rw [hE] at qa; exact qa
  have e2 : abEnc l ++ more = hs ++ (bytI (32 * l.length + ts.length) 32 ++ (X ++ (ts ++ abTail p.bs ++ Y) ++ more)) := by unfold abEnc; rw [hE]; simp only [List.append_assoc]
  have e4 : abEnc l ++ more = (hs ++ bytI (32 * l.length + ts.length) 32 ++ X ++ ts) ++ (bytI p.bs.length 32 ++ (p.bs ++ (List.replicate (padN p.bs.length) 0 ++ Y ++ more))) := by rw [e2]; unfold abTail; simp only [List.append_assoc]
  have hl4 : (hs ++ bytI (32 * l.length + ts.length) 32 ++ X ++ ts).length = 32 * l.length + ts.length := by rw [List.length_append, hN]
  have e3 : hdW (abEnc l ++ more) i = 32 * l.length + ts.length := by
   unfold hdW
   rw [e2, drop_at q1, take_at (bytI_len _ _)]
   exact readN_word (by unfold W; omega)
  have hsm : smN (32 * l.length + ts.length) = 32 * l.length + ts.length := if_pos (by omega)
  have hsb : smB (32 * l.length + ts.length) = true := decide_eq_true (by omega)
  have hsm2 : smN p.bs.length = p.bs.length := if_pos (by omega)
  have hsb2 : smB p.bs.length = true := decide_eq_true (by omega)
  have e5 : (abEnc l ++ more).drop (32 * l.length + ts.length) = bytI p.bs.length 32 ++ (p.bs ++ (List.replicate (padN p.bs.length) 0 ++ Y ++ more)) := by rw [e4, drop_at hl4]
  have e6 : readN ((bytI p.bs.length 32 ++ (p.bs ++ (List.replicate (padN p.bs.length) 0 ++ Y ++ more))).take 32) = p.bs.length := by rw [take_at (bytI_len _ _)]; exact readN_word (by unfold W; omega)
  have e7 : (bytI p.bs.length 32 ++ (p.bs ++ (List.replicate (padN p.bs.length) 0 ++ Y ++ more))).drop 32 = p.bs ++ (List.replicate (padN p.bs.length) 0 ++ Y ++ more) := drop_at (bytI_len _ _)
  have ht : tailO (abEnc l ++ more) (32 * l.length + ts.length) = some p.bs := by
   unfold tailO
   rw [hsm, e5, e6, e7, hsm2, take_at rfl]
   refine if_pos ⟨?_, ?_, ?_⟩
   ·unfold cutB
    rw [hsb, hsm, Bool.true_and, decide_eq_true_eq, e4, List.length_append, hl4]; omega
   ·rw [List.length_append, bytI_len]; omega
   ·unfold cutB
    rw [hsb2, hsm2, Bool.true_and, decide_eq_true_eq, List.length_append]; omega
  unfold prtO nrm
  rw [e3, hd]
  simp only [ht, if_true]
theorem upR_all {α : Type} {f : Nat → Option α} {g : List α} : ∀ n, n ≤ g.length → (∀ i, i < n → f i = g[i]?) → upR f n = some (g.take n)
 | 0, _, _ => by simp [upR]
 | n + 1, hn, h => by
  have e := List.getElem?_eq_getElem (show n < g.length by omega)
  rw [upR_s (upR_all n (by omega) fun i hi => h i (by omega)) ((h n (by omega)).trans e), take_more e]
theorem abDec_enc (l : List Prt) (more : List Int) (hw : ∀ p ∈ l, p.d = false → p.w < W) (hz : psz l ≤ 100000) : abDec (abEnc l ++ more) (l.map fun p => p.d) = some (l.map nrm) := by
 unfold abDec
 have hlen : 32 * l.length ≤ (abEnc l ++ more).length := by
  unfold abEnc
  rw [List.length_append, List.length_append, (encS_len l.length l).1]; omega
 rw [if_neg (by rw [List.length_map]; omega)]
 have := upR_all (f := prtF (abEnc l ++ more) (l.map fun p => p.d)) (g := l.map nrm) l.length (by simp) (fun i hi => by
  have e := List.getElem?_eq_getElem hi
  unfold prtF
  rw [List.getD_eq_getElem?_getD, List.getElem?_map, List.getElem?_map, e]
  exact back_part more e (hw _ (List.getElem_mem _)) hz)
 rw [List.length_map, this, List.take_of_length_le (by simp)]
end Go.Proofs.YthdpgfdfgidokaaDoor

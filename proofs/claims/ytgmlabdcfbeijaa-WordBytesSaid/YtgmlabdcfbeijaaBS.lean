/-
  Bytes as slices and as strings: nil slices, what a slice looks like to a callee, strings compared. No program.
-/
import Derived.Test.YtgmlabdcfbeijaaEI
import Derived.Test.YtgmlabdcfbeijaaRD
namespace Go.Proofs.Ytgmlabdcfbeijaa
set_option linter.unusedSimpArgs false
set_option linter.unusedVariables false
open Go.RowKit
/-- A nil slice, as a row of its own that holds nothing. -/
theorem Vc.nilown {P : Program} {c : Code} {env : List SV} {m : List Blk} {K : Kont} (i : Nat) (t : TypeId) (es : Nat) (k : IntKind) (h0 : sget env i = .nilsl)
    (h : Vc P c (sset env i (.own (blen m) (.slice none 0 0) 0)) (bpush m (.own (.slice none 0 0) 0 t es (.ints k []))) K) : Vc P c env m K := by
  have hs : ∀ (l : List SV) (i : Nat), sget l i = .nilsl → cvs (sset l i (.own (blen m) (.slice none 0 0) 0)) = cvs l := by
    intro l
    induction l with
    | nil => intro i _; rfl
    | cons x l ih =>
      intro i hi
      cases i with
      | zero => simp only [sget] at hi; subst hi; rfl
      | succ i => simp only [sget] at hi; simp only [sset, cvs, ih i hi]
  intro w0 B a w hf hd hm
  refine h w0 B a w (by unfold Fr at *; rw [hs env i h0]; exact hf) hd ?_
  rw [bpush_eq]
  refine hm.push (grown_refl w) ⟨by simp [cc], .inl ⟨rfl, rfl⟩⟩ (fun b hb => ?_)
  simp [Blk.num?, Value.ownBlock] at hb
theorem take_push {l : List Int} {k : Nat} {y : Int} (h : l[k]? = some y) : l.take k ++ [y] = l.take (k + 1) := by
  rw [List.take_add_one, h]; rfl
theorem tl_loop (s : ByteArray) : ∀ (n i : Nat) (r : List UInt8), n = s.size - i → ByteArray.toList.loop s i r = r.reverse ++ s.data.toList.drop i := by
  intro n
  induction n with
  | zero =>
    intro i r h
    unfold ByteArray.toList.loop
    rw [if_neg (by omega), List.drop_of_length_le (by simp only [Array.length_toList]; show s.data.size ≤ i; have : s.size = s.data.size := rfl; omega)]
    simp
  | succ n ih =>
    intro i r h
    unfold ByteArray.toList.loop
    rw [if_pos (by omega), ih (i + 1) _ (by omega)]
    have hi : i < s.data.toList.length := by simp only [Array.length_toList]; have : s.size = s.data.size := rfl; omega
    rw [List.drop_eq_getElem_cons hi, List.reverse_cons, List.append_assoc]
    congr 1
    have : s.get! i = s.data.toList[i] := by
      cases s with | mk d => 
      simp only [ByteArray.get!]
      simp at hi
      simp [hi]
    rw [this]; rfl
theorem tl_data (s : ByteArray) : s.toList = s.data.toList := by
  unfold ByteArray.toList; rw [tl_loop s _ 0 [] rfl]; simp
theorem map_u8 : ∀ {xs ys : List Int}, allB xs → allB ys → (xs.map fun n => UInt8.ofNat n.toNat) = (ys.map fun n => UInt8.ofNat n.toNat) → xs = ys
  | [], [], _, _, _ => rfl
  | [], _ :: _, _, _, h => by simp at h
  | _ :: _, [], _, _, h => by simp at h
  | x :: xs, y :: ys, hx, hy, h => by
    simp only [List.map_cons, List.cons.injEq] at h
    have h1 := hx x List.mem_cons_self
    have h2 := hy y List.mem_cons_self
    have h3 := congrArg UInt8.toNat h.1
    simp only [UInt8.toNat_ofNat'] at h3
    have : x = y := by omega
    rw [this, map_u8 (fun z hz => hx z (List.mem_cons_of_mem _ hz)) (fun z hz => hy z (List.mem_cons_of_mem _ hz)) h.2]
theorem bytesOf_inj {xs ys : List Int} (hx : allB xs) (hy : allB ys) (h : (bytesOf xs).toList = (bytesOf ys).toList) : xs = ys := by
  rw [tl_data, tl_data, bytesOf_data, bytesOf_data] at h
  exact map_u8 hx hy h
theorem same_dec {xs ys : List Int} (hx : allB xs) (hy : allB ys) : ((bytesOf xs).toList == (bytesOf ys).toList) = decide (xs = ys) := by
  rw [Bool.eq_iff_iff, beq_iff_eq, decide_eq_true_iff]
  exact ⟨bytesOf_inj hx hy, fun h => by rw [h]⟩
theorem ro_two {w : World} {a1 a2 : Option Addr} {c1 c2 : Con} (h1 : MemOk w [] [.ro a1 c1] w) (h2 : MemOk w [] [.ro a2 c2] w) : MemOk w [] [.ro a1 c1, .ro a2 c2] w :=
  ⟨rfl, rfl, rfl, Nat.le_refl _, fun _ _ _ => rfl, fun e he => by
    rcases List.mem_cons.1 he with rfl | he
    · exact h1.each _ List.mem_cons_self
    · exact h2.each _ he, List.nodup_nil⟩
end Go.Proofs.Ytgmlabdcfbeijaa

/-
  RLP: plain arithmetic: what is encoded is decoded again, and the other way. No condition.
-/
import Derived.Test.YtlogpdjcgbifhaaP9
import Derived.Test.YtlogpdjcgbifhaaPI
namespace Go.Proofs.Ytlogpdjcgbifhaa
set_option linter.unusedSimpArgs false
set_option linter.unusedVariables false
open Go.RowKit
theorem rdI_be : ∀ (f n : Nat), n < 256 ^ f → f ≤ 8 → rdI (beB n) = n
  | 0, n, h, _ => by
    have : n = 0 := by simpa using h
    subst this; rfl
  | f + 1, n, h, hf => by
    have h8 : (256 : Nat) ^ (f + 1) ≤ 256 ^ 8 := Nat.pow_le_pow_right (by decide) hf
    have h64 : n < 18446744073709551616 := Nat.lt_of_lt_of_le h (by rw [show (256 : Nat) ^ 8 = 18446744073709551616 from rfl] at h8; exact h8)
    by_cases hn : n = 0
    · subst hn; rfl
    · rw [beB_s h64 hn, rdI_put, rdI_be f (n / 256) (by rw [Nat.pow_succ] at h; exact Nat.div_lt_of_lt_mul (by omega)) (by omega)]
      omega
theorem rdI_beB {n : Nat} (h : n < 18446744073709551616) : rdI (beB n) = n := rdI_be 8 n (by rw [show (256 : Nat) ^ 8 = 18446744073709551616 from rfl]; exact h) (Nat.le_refl _)
theorem be_front : ∀ (f n : Nat), n < 256 ^ f → f ≤ 8 → n ≠ 0 → 0 < (beB n).getD 0 0
  | 0, n, h, _, h0 => absurd (by simpa using h) h0
  | f + 1, n, h, hf, h0 => by
    have h8 : (256 : Nat) ^ (f + 1) ≤ 256 ^ 8 := Nat.pow_le_pow_right (by decide) hf
    have h64 : n < 18446744073709551616 := Nat.lt_of_lt_of_le h (by rw [show (256 : Nat) ^ 8 = 18446744073709551616 from rfl] at h8; exact h8)
    rw [beB_s h64 h0]
    by_cases hn : n / 256 = 0
    · rw [hn, beB_0, List.nil_append, List.getD_cons_zero]; omega
    · have ih := be_front f (n / 256) (by rw [Nat.pow_succ] at h; exact Nat.div_lt_of_lt_mul (by omega)) (by omega) hn
      cases hb : beB (n / 256) with
      | nil => rw [hb] at ih; simp at ih
      | cons x l => rw [hb] at ih; exact ih
theorem beB_front {n : Nat} (h : n < 18446744073709551616) (h0 : n ≠ 0) : 0 < (beB n).getD 0 0 := be_front 8 n (by rw [show (256 : Nat) ^ 8 = 18446744073709551616 from rfl]; exact h) (Nat.le_refl _) h0
/-- Bytes with no nought at the front are those of their number. -/
theorem be_rd : ∀ (k : Nat) (l : List Int), l.length = k → k ≤ 8 → allB l → (l ≠ [] → 0 < l.getD 0 0) → beB (rdI l) = l
  | 0, l, hl, _, _, _ => by
    obtain rfl := List.length_eq_zero_iff.1 hl
    rfl
  | k + 1, l, hl, hk, ha, hf => by
    have hne : l ≠ [] := by rintro rfl; simp at hl
    obtain ⟨m, y, rfl⟩ : ∃ m y, l = m ++ [y] := ⟨l.dropLast, l.getLast hne, (List.dropLast_concat_getLast hne).symm⟩
    have hml : m.length = k := by rw [List.length_append] at hl; simpa using hl
    have hmA : allB m := fun x hx => ha x (List.mem_append_left _ hx)
    have hy := ha y (List.mem_append_right _ List.mem_cons_self)
    have hmf : m ≠ [] → 0 < m.getD 0 0 := fun h => by
      have := hf hne
      cases m with
      | nil => exact absurd rfl h
      | cons x m => exact this
    have ih := be_rd k m hml (by omega) hmA hmf
    have hlt := rdI_lt hmA
    have h7 : (256 : Nat) ^ m.length ≤ 256 ^ 7 := Nat.pow_le_pow_right (by decide) (by omega)
    rw [show (256 : Nat) ^ 7 = 72057594037927936 from rfl] at h7
    rw [rdI_put]
    have h0 : rdI m * 256 + y.toNat ≠ 0 := by
      intro h
      have h1 : rdI m = 0 := by omega
      have h2 : y.toNat = 0 := by omega
      rw [h1, beB_0] at ih
      subst ih
      have := hf hne
      simp at this; omega
    rw [beB_s (by omega) h0, show (rdI m * 256 + y.toNat) / 256 = rdI m by omega, show (rdI m * 256 + y.toNat) % 256 = y.toNat by omega, ih]
    congr 2
    omega
theorem beB_rd {l : List Int} (hl : l.length ≤ 8) (ha : allB l) (hf : l ≠ [] → 0 < l.getD 0 0) : beB (rdI l) = l := be_rd l.length l rfl hl ha hf
/-! ### A head and what is behind it -/
theorem hdd_hd {e : Int} (he : e = 128 ∨ e = 192) {N : Nat} {ys ws : List Int} (hl : ys.length = N) (hN : N < 18446744073709551616) (hb : e = 128 → bareB ys = false) :
    hdd (hdB e N ++ (ys ++ ws)) = some (decide (e = 192), ys, ws) := by
  have ht : (ys ++ ws).take N = ys := by rw [List.take_append_of_le_length (by omega), List.take_of_length_le (by omega)]
  have hd : (ys ++ ws).drop N = ws := by rw [List.drop_append_of_le_length (by omega), List.drop_of_length_le (by omega), List.nil_append]
  have hle : N ≤ (ys ++ ws).length := by rw [List.length_append]; omega
  have key : ∀ f : Int, ¬ f < 128 → decide (192 ≤ f) = decide (e = 192) → ∀ zs0, lnO zs0 f = some (N, ys ++ ws) → hdd (f :: zs0) = some (decide (e = 192), ys, ws) := by
    intro f hf hf2 zs0 h0
    rw [hdd_hi hf h0, if_pos hle, ht, hd, hf2]
    rw [if_neg]
    intro hc
    rw [Bool.and_eq_true, decide_eq_true_eq] at hc
    rcases he with rfl | rfl
    · rw [hb rfl] at hc; exact Bool.noConfusion hc.2
    · have h1 : decide ((192 : Int) ≤ f) = true := hf2.trans (decide_eq_true rfl)
      have := of_decide_eq_true h1; omega
  by_cases h55 : N ≤ 55
  · rw [hdB_lo h55]
    refine key _ (by rcases he with rfl | rfl <;> omega) (by rcases he with rfl | rfl <;> (rw [decide_eq_decide]; omega)) _ ?_
    have hm : (e + (N : Int)) % 64 = N := by rcases he with rfl | rfl <;> omega
    show lnO (ys ++ ws) (e + N) = _
    unfold lnO
    rw [hm, if_pos (by omega)]
    rfl
  · rw [hdB_hi h55]
    have hk := beB_len N
    have hk0 : (beB N).length ≠ 0 := fun h => by have := beB_nil hN h; omega
    have hf := beB_front hN (by omega)
    have hr := rdI_beB hN
    generalize hB : beB N = B at *
    refine key _ (by rcases he with rfl | rfl <;> omega) (by rcases he with rfl | rfl <;> (rw [decide_eq_decide]; omega)) _ ?_
    have hm : (e + 55 + (B.length : Int)) % 64 = 55 + B.length := by rcases he with rfl | rfl <;> omega
    show lnO (B ++ (ys ++ ws)) (e + 55 + (B.length : Nat)) = _
    unfold lnO
    rw [hm, if_neg (by omega), show (55 + (B.length : Int) - 55).toNat = B.length by omega]
    have ht2 : (B ++ (ys ++ ws)).take B.length = B := by rw [List.take_append_of_le_length (Nat.le_refl _), List.take_length]
    have hd2 : (B ++ (ys ++ ws)).drop B.length = ys ++ ws := by rw [List.drop_append_of_le_length (Nat.le_refl _), List.drop_length, List.nil_append]
    have hg : (B ++ (ys ++ ws)).getD 0 0 = B.getD 0 0 := by
      cases B with
      | nil => exact absurd rfl hk0
      | cons x l => rfl
    rw [ht2, hd2, hg, hr, if_pos ⟨by rw [List.length_append]; omega, hf, by omega⟩]
theorem hdd_bare {ys ws : List Int} (h : bareB ys = true) : hdd (ys ++ ws) = some (false, ys, ws) := by
  unfold bareB at h
  rw [Bool.and_eq_true, decide_eq_true_eq, decide_eq_true_eq] at h
  match ys, h with
  | [x], ⟨_, h2⟩ => exact hdd_lo h2
/-- What a head tells is how the bytes begin. -/
theorem hdd_inv {xs : List Int} (ha : allB xs) {l : Bool} {ys zs : List Int} (h : hdd xs = some (l, ys, zs)) :
    xs = (if l = true then hdB 192 ys.length ++ ys else if bareB ys = true then ys else hdB 128 ys.length ++ ys) ++ zs := by
  cases xs with
  | nil => cases h
  | cons f xs =>
    have hf0 := ha f List.mem_cons_self
    by_cases hf : f < 128
    · rw [hdd_lo hf] at h
      simp only [Option.some.injEq, Prod.mk.injEq] at h
      obtain ⟨rfl, rfl, rfl⟩ := h
      rw [if_neg (by simp), if_pos (by unfold bareB; simp [hf])]; rfl
    · cases ho : lnO xs f with
      | none => rw [hdd_no hf ho] at h; cases h
      | some o =>
        obtain ⟨N, us⟩ := o
        rw [hdd_hi hf ho] at h
        split at h
        · rename_i hN
          split at h
          · cases h
          · rename_i hb
            simp only [Option.some.injEq, Prod.mk.injEq] at h
            obtain ⟨rfl, rfl, rfl⟩ := h
            have hl : (us.take N).length = N := by rw [List.length_take]; omega
            have key : ∀ e : Int, (f < 192 → e = 128) → (192 ≤ f → e = 192) → f :: xs = hdB e N ++ us := by
              intro e he1 he2
              have heb : e = 128 ∧ f < 192 ∨ e = 192 ∧ 192 ≤ f := by
                rcases Int.lt_or_le f 192 with h | h
                · exact .inl ⟨he1 h, h⟩
                · exact .inr ⟨he2 h, h⟩
              unfold lnO at ho
              by_cases h55 : f % 64 ≤ 55
              · rw [if_pos h55] at ho
                simp only [Option.some.injEq, Prod.mk.injEq] at ho
                obtain ⟨rfl, rfl⟩ := ho
                rw [hdB_lo (by omega), show e + (((f % 64).toNat : Nat) : Int) = f by rcases heb with ⟨rfl, _⟩ | ⟨rfl, _⟩ <;> omega]
                rfl
              · rw [if_neg h55] at ho
                split at ho
                · rename_i hc
                  obtain ⟨c1, c2, c3⟩ := hc
                  simp only [Option.some.injEq, Prod.mk.injEq] at ho
                  obtain ⟨rfl, rfl⟩ := ho
                  generalize hK : (f % 64 - 55).toNat = K at *
                  have hKl : (xs.take K).length = K := by rw [List.length_take]; omega
                  have hfr : xs.take K ≠ [] → 0 < (xs.take K).getD 0 0 := fun _ => by
                    rw [List.getD_eq_getElem?_getD, List.getElem?_take, if_pos (by omega), ← List.getD_eq_getElem?_getD]; exact c2
                  have hbr := beB_rd (by omega) (fun x hx => ha x (List.mem_cons_of_mem _ (List.mem_of_mem_take hx))) hfr
                  rw [hdB_hi (by omega), hbr, hKl, show e + 55 + (K : Int) = f by rcases heb with ⟨rfl, _⟩ | ⟨rfl, _⟩ <;> omega, List.append_assoc, List.take_append_drop]
                  rfl
                · cases ho
            have h2 : us.take N ++ us.drop N = us := List.take_append_drop N us
            by_cases h192 : 192 ≤ f
            · rw [if_pos (decide_eq_true h192), hl, List.append_assoc, h2]
              exact key 192 (fun h => by omega) (fun _ => rfl)
            · rw [if_neg (by simpa using h192)]
              have hbf : ¬ bareB (us.take N) = true := fun hc => hb (by rw [hc, Bool.and_true]; exact decide_eq_true (by omega))
              rw [if_neg hbf, hl, List.append_assoc, h2]
              exact key 128 (fun _ => rfl) (fun h => absurd h h192)
        · cases h
/-! ### Items and their bytes -/
/-- An item with the fields of its kind alone, no deeper than so. -/
def okI : Nat → Itm → Prop
  | 0, _ => False
  | d + 1, .mk true bs ks => bs = [] ∧ ∀ k ∈ ks, okI d k
  | _ + 1, .mk false _ ks => ks = []
theorem decs_enc {d : Nat} (ih : ∀ t, okI d t → (enc t).length < 18446744073709551616 → ∀ ws, dec d (enc t ++ ws) = some (t, ws)) : ∀ ks : List Itm, (∀ k ∈ ks, okI d k) → (encL ks).length < 18446744073709551616 → decs d (encL ks) = some ks
  | [], _, _ => by simp only [encL]; exact decs_nil d
  | k :: ks, hk, hl => by
    simp only [encL, List.length_append] at hl ⊢
    rw [decs_go (ih k (hk k List.mem_cons_self) (by omega) (encL ks)), decs_enc ih ks (fun x hx => hk x (List.mem_cons_of_mem _ hx)) (by omega)]
theorem dec_enc : ∀ (d : Nat) (t : Itm), okI d t → (enc t).length < 18446744073709551616 → ∀ ws, dec d (enc t ++ ws) = some (t, ws)
  | 0, _, h, _, _ => h.elim
  | d + 1, .mk true bs ks, h, hl, ws => by
    obtain ⟨rfl, hk⟩ := h
    rw [enc_list, List.length_append] at hl
    rw [enc_list, List.append_assoc, dec_list (hdd_hd (.inr rfl) rfl (by omega) (fun h => by cases h)), decs_enc (dec_enc d) ks hk (by omega)]
  | d + 1, .mk false bs ks, h, hl, ws => by
    have h' : ks = [] := h
    subst h'
    cases hb : bareB bs with
    | true => rw [enc_bare [] hb]; exact dec_text (hdd_bare hb)
    | false =>
      rw [enc_text [] hb, List.length_append] at hl
      rw [enc_text [] hb, List.append_assoc]
      exact dec_text (hdd_hd (.inl rfl) rfl (by omega) (fun _ => hb))
theorem deco_enc {t : Itm} (h : okI 64 t) (hl : (enc t).length < 18446744073709551616) : deco (enc t) = some t := by
  have := dec_enc 64 t h hl []
  rw [List.append_nil] at this
  unfold deco; rw [this]
theorem decs_inv {d : Nat} (ih : ∀ xs t zs, allB xs → dec d xs = some (t, zs) → xs = enc t ++ zs ∧ okI d t) : ∀ (n : Nat) (xs : List Int) (ks : List Itm), xs.length ≤ n → allB xs → decs d xs = some ks → xs = encL ks ∧ ∀ k ∈ ks, okI d k
  | n, [], ks, _, _, h => by
    rw [decs_nil] at h
    cases h
    exact ⟨by simp only [encL], fun _ h => absurd h List.not_mem_nil⟩
  | 0, x :: xs, ks, hn, _, _ => by simp at hn
  | n + 1, x :: xs, ks, hn, ha, h => by
    cases hd : dec d (x :: xs) with
    | none => rw [decs_no (by simp) hd] at h; cases h
    | some o =>
      obtain ⟨t, zs⟩ := o
      obtain ⟨e1, e2⟩ := ih _ _ _ ha hd
      have hlt := dec_len hd
      rw [decs_go hd] at h
      have haz : allB zs := fun y hy => ha y (by rw [e1]; exact List.mem_append_right _ hy)
      cases hz : decs d zs with
      | none => rw [hz] at h; cases h
      | some ks' =>
        rw [hz] at h
        cases h
        obtain ⟨g1, g2⟩ := decs_inv ih n zs ks' (by simp only [List.length_cons] at hlt hn; omega) haz hz
        refine ⟨by rw [e1, g1]; simp only [encL], fun k hk => ?_⟩
        rcases List.mem_cons.1 hk with rfl | hk
        · exact e2
        · exact g2 k hk
theorem dec_inv : ∀ (d : Nat) (xs : List Int) (t : Itm) (zs : List Int), allB xs → dec d xs = some (t, zs) → xs = enc t ++ zs ∧ okI d t
  | 0, _, _, _, _, h => by cases h
  | d + 1, xs, t, zs, ha, h => by
    cases hh : hdd xs with
    | none => rw [dec_no hh] at h; cases h
    | some o =>
      obtain ⟨l, ys, ws⟩ := o
      have hi := hdd_inv ha hh
      cases l with
      | false =>
        rw [dec_text hh] at h
        cases h
        rw [if_neg (by simp)] at hi
        refine ⟨?_, rfl⟩
        cases hb : bareB ys with
        | true => rw [enc_bare [] hb]; rwa [if_pos hb] at hi
        | false => rw [enc_text [] hb]; rwa [if_neg (by rw [hb]; simp)] at hi
      | true =>
        rw [dec_list hh] at h
        rw [if_pos rfl] at hi
        have hay : allB ys := fun y hy => ha y (by rw [hi]; exact List.mem_append_left _ (List.mem_append_right _ hy))
        cases hs : decs d ys with
        | none => rw [hs] at h; cases h
        | some ks =>
          rw [hs] at h
          cases h
          obtain ⟨g1, g2⟩ := decs_inv (dec_inv d) ys.length ys ks (Nat.le_refl _) hay hs
          exact ⟨by rw [enc_list, ← g1]; exact hi, rfl, g2⟩
theorem deco_inv {xs : List Int} {t : Itm} (ha : allB xs) (h : deco xs = some t) : xs = enc t ∧ okI 64 t := by
  unfold deco at h
  split at h
  · rename_i t' hd
    cases h
    obtain ⟨e1, e2⟩ := dec_inv 64 xs t [] ha hd
    rw [List.append_nil] at e1
    exact ⟨e1, e2⟩
  · cases h
/-- With something behind it, it is none. -/
theorem deco_more {t : Itm} (h : okI 64 t) (hl : (enc t).length < 18446744073709551616) {ws : List Int} (hw : ws ≠ []) : deco (enc t ++ ws) = none := by
  unfold deco; rw [dec_enc 64 t h hl ws]
  cases ws with
  | nil => exact absurd rfl hw
  | cons w ws => rfl
/-- A part of an item's bytes is no item. -/
theorem deco_less {t : Itm} (h : okI 64 t) (hl : (enc t).length < 18446744073709551616) (ha : allB (enc t)) {ys ws : List Int} (he : enc t = ys ++ ws) (hw : ws ≠ []) : deco ys = none := by
  cases hd : deco ys with
  | none => rfl
  | some t' =>
    obtain ⟨e1, e2⟩ := deco_inv (fun y hy => ha y (by rw [he]; exact List.mem_append_left _ hy)) hd
    have h1 := dec_enc 64 t h hl []
    have h2 := dec_enc 64 t' e2 (by rw [← e1]; rw [he, List.length_append] at hl; omega) ws
    rw [List.append_nil, he] at h1
    rw [← e1, h1] at h2
    simp only [Option.some.injEq, Prod.mk.injEq] at h2
    exact absurd h2.2.symm hw
end Go.Proofs.Ytlogpdjcgbifhaa

/-
  The order of places: strict, total; the document's Put keeps what rises. No condition, no program.
-/
import Derived.Test.YtdanlclhnehieaaT6
import Derived.Test.YtdanlclhnehieaaSO
namespace Go.Proofs.Ytdanlclhnehieaa
set_option linter.unusedSimpArgs false
set_option linter.unusedVariables false
open Go.RowKit
theorem rdI_inj {a b : List Int} (ha : allB a) (hb : allB b) (hl : a.length = b.length) (h : rdI a = rdI b) : a = b := by
  rw [← bytI_rdI ha, ← bytI_rdI hb, h, hl]
theorem numI_inj {a0 a1 a2 a3 b0 b1 b2 b3 : Int} (ha : allU [a0, a1, a2, a3]) (hb : allU [b0, b1, b2, b3]) (h : numI [a0, a1, a2, a3] = numI [b0, b1, b2, b3]) : [a0, a1, a2, a3] = [b0, b1, b2, b3] := by
  obtain ⟨p0, p1, p2, p3, _⟩ := ha
  obtain ⟨r0, r1, r2, r3, _⟩ := hb
  simp only [numI, num] at h
  simp only [List.cons.injEq, and_true]
  omega
def lexP (A B : Nat) (p q : Bool) (x y : Nat) : Bool := if A = B then (if p = q then decide (x < y) else p) else decide (A < B)
theorem plLt_lex (c d : List Int) : plLt c d = lexP (rdI (c.take 20)) (rdI (d.take 20)) (decide (c.getD 20 0 = 1)) (decide (d.getD 20 0 = 1)) (numI (c.drop 21)) (numI (d.drop 21)) := rfl
theorem lexP_irrefl (A : Nat) (p : Bool) (x : Nat) : lexP A A p p x x = false := by simp [lexP]
theorem lexP_iff {A B : Nat} {p q : Bool} {x y : Nat} : lexP A B p q x y = true ↔ A < B ∨ (A = B ∧ ((p = true ∧ q = false) ∨ (p = q ∧ x < y))) := by
  unfold lexP
  by_cases hA : A = B
  · subst hA
    cases p <;> cases q <;> simp
  · simp [hA]
theorem lexP_trans {A B C : Nat} {p q r : Bool} {x y z : Nat} (h1 : lexP A B p q x y = true) (h2 : lexP B C q r y z = true) : lexP A C p r x z = true := by
  rw [lexP_iff] at *
  rcases h1 with h1 | ⟨rfl, h1⟩ <;> rcases h2 with h2 | ⟨rfl, h2⟩
  · exact .inl (by omega)
  · exact .inl h1
  · exact .inl h2
  · refine .inr ⟨rfl, ?_⟩
    rcases h1 with ⟨rfl, rfl⟩ | ⟨rfl, h1⟩ <;> rcases h2 with ⟨h3, h4⟩ | ⟨h3, h4⟩
    · cases h3
    · exact .inl ⟨rfl, h3.symm⟩
    · exact .inl ⟨h3, h4⟩
    · exact .inr ⟨h3, by omega⟩
theorem lexP_total {A B : Nat} {p q : Bool} {x y : Nat} (h1 : lexP A B p q x y = false) (h2 : lexP B A q p y x = false) : A = B ∧ p = q ∧ x = y := by
  unfold lexP at *
  by_cases hA : A = B
  · subst hA
    by_cases hp : p = q
    · subst hp
      simp at h1 h2
      exact ⟨rfl, rfl, by omega⟩
    · simp [hp] at h1
      simp [Ne.symm hp] at h2
      rw [h1, h2] at hp
      exact absurd rfl hp
  · simp [hA] at h1
    simp [Ne.symm hA] at h2
    omega
theorem plLt_irrefl (c : List Int) : plLt c c = false := by rw [plLt_lex]; exact lexP_irrefl _ _ _
theorem plLt_trans {c d e : List Int} (h1 : plLt c d = true) (h2 : plLt d e = true) : plLt c e = true := by rw [plLt_lex] at *; exact lexP_trans h1 h2
theorem plLt_total {c d : List Int} (hc : okP c) (hd : okP d) (h1 : plLt c d = false) (h2 : plLt d c = false) : c = d := by
  rw [plLt_lex] at h1 h2
  obtain ⟨hA, hp, hx⟩ := lexP_total h1 h2
  clear h1 h2
  obtain ⟨x0, x1, x2, x3, x4, x5, x6, x7, x8, x9, x10, x11, x12, x13, x14, x15, x16, x17, x18, x19, bx, k0, k1, k2, k3, rfl, a1, a2, a3⟩ := okP_forms hc
  obtain ⟨y0, y1, y2, y3, y4, y5, y6, y7, y8, y9, y10, y11, y12, y13, y14, y15, y16, y17, y18, y19, bz, j0, j1, j2, j3, rfl, b1, b2, b3⟩ := okP_forms hd
  have e1 := rdI_inj a1 b1 rfl hA
  have e3 := numI_inj a3 b3 hx
  have e2 : bx = bz := by
    change decide (bx = 1) = decide (bz = 1) at hp
    rcases a2 with rfl | rfl <;> rcases b2 with rfl | rfl <;> simp at hp <;> rfl
  have : [x0, x1, x2, x3, x4, x5, x6, x7, x8, x9, x10, x11, x12, x13, x14, x15, x16, x17, x18, x19, bx, k0, k1, k2, k3] = [x0, x1, x2, x3, x4, x5, x6, x7, x8, x9, x10, x11, x12, x13, x14, x15, x16, x17, x18, x19] ++ ([bx] ++ [k0, k1, k2, k3]) := rfl
  rw [this, e1, e2, e3]; rfl
theorem plLt_asymm {c d : List Int} (h : plLt c d = true) : plLt d c = false := by
  cases hd : plLt d c
  · rfl
  · have := plLt_trans h hd
    rw [plLt_irrefl] at this; cases this
def PlT := { c : List Int // okP c }
def cmpP (x y : PlT) : Int := if plLt x.1 y.1 = true then -1 else if plLt y.1 x.1 = true then 1 else 0
theorem ltOf_cmpP (x y : PlT) : ltOf cmpP x y = plLt x.1 y.1 := by
  unfold ltOf cmpP
  cases h : plLt x.1 y.1
  · simp only [Bool.false_eq_true, if_false]
    split <;> rfl
  · rfl
theorem swo_cmpP : Go.Sort.SWO (ltOf cmpP) where
  irrefl x := by rw [ltOf_cmpP]; exact plLt_irrefl _
  trans x y z h1 h2 := by rw [ltOf_cmpP] at *; exact plLt_trans h1 h2
  ntrans x y z h1 h2 := by
    rw [ltOf_cmpP] at *
    cases h3 : plLt x.1 z.1
    · rfl
    · cases h4 : plLt y.1 x.1
      · have := plLt_total x.2 y.2 h1 h4
        rw [this] at h3; rw [h3] at h2; cases h2
      · have := plLt_trans h4 h3
        rw [this] at h2; cases h2
theorem tot_cmpP (x y : PlT) (h1 : ltOf cmpP x y = false) (h2 : ltOf cmpP y x = false) : x = y := by
  rw [ltOf_cmpP] at *
  exact Subtype.ext (plLt_total x.2 y.2 h1 h2)
def Rises (l : List (List Int)) : Prop := l.Pairwise fun c d => plLt c d = true
theorem rises_eq : ∀ {l k : List (List Int)}, Rises l → Rises k → (∀ x, x ∈ l ↔ x ∈ k) → l = k
  | [], [], _, _, _ => rfl
  | [], y :: k, _, _, h => by have := (h y).2 List.mem_cons_self; simp at this
  | x :: l, [], _, _, h => by have := (h x).1 List.mem_cons_self; simp at this
  | x :: l, y :: k, h1, h2, h => by
    have p1 := List.pairwise_cons.1 h1
    have p2 := List.pairwise_cons.1 h2
    have e : x = y := by
      rcases List.mem_cons.1 ((h x).1 List.mem_cons_self) with e | e
      · exact e
      · rcases List.mem_cons.1 ((h y).2 List.mem_cons_self) with e2 | e2
        · exact e2.symm
        · have q1 := p1.1 y e2
          have q2 := p2.1 x e
          rw [plLt_asymm q1] at q2; cases q2
    subst e
    rw [rises_eq p1.2 p2.2 fun z => ?_]
    have hz := h z
    simp only [List.mem_cons] at hz
    constructor
    · intro hm
      rcases hz.1 (.inr hm) with rfl | hk
      · have := p1.1 z hm; rw [plLt_irrefl] at this; cases this
      · exact hk
    · intro hm
      rcases hz.2 (.inr hm) with rfl | hk
      · have := p2.1 z hm; rw [plLt_irrefl] at this; cases this
      · exact hk
theorem sort_rises (l : List PlT) (hn : l.Nodup) : Rises ((l.mergeSort fun x y => !(ltOf cmpP) y x).map (fun x : PlT => x.1)) ∧ ∀ x, x ∈ (l.mergeSort fun x y => !(ltOf cmpP) y x).map (fun x : PlT => x.1) ↔ x ∈ l.map (fun x : PlT => x.1) := by
  have hp := List.mergeSort_perm l (fun x y => !(ltOf cmpP) y x)
  have hs : (l.mergeSort fun x y => !(ltOf cmpP) y x).Pairwise fun x y => (!(ltOf cmpP) y x) = true := by
    refine List.pairwise_mergeSort (fun a b c h1 h2 => ?_) (fun a b => ?_) l
    · simp only [Bool.not_eq_true'] at *
      exact swo_cmpP.ntrans c b a h2 h1
    · cases h : ltOf cmpP b a
      · rfl
      · cases h2 : ltOf cmpP a b
        · rfl
        · have := swo_cmpP.trans a b a h2 h
          rw [swo_cmpP.irrefl] at this; cases this
  have hd : (l.mergeSort fun x y => !(ltOf cmpP) y x).Nodup := hp.nodup_iff.2 hn
  refine ⟨?_, fun x => (hp.map _).mem_iff⟩
  unfold Rises
  rw [List.pairwise_map]
  refine (hs.and hd).imp fun {a b} ⟨h1, h2⟩ => ?_
  simp only [Bool.not_eq_true'] at h1
  cases h3 : plLt a.1 b.1
  · exact absurd (tot_cmpP a b (by rw [ltOf_cmpP]; exact h3) h1) h2
  · rfl
end Go.Proofs.Ytdanlclhnehieaa

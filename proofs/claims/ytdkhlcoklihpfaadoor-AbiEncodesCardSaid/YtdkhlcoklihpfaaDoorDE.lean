/-
  ABI: the chapter's examples (package quaestorlaw05: known), walked. No condition.
-/
import Derived.Test.YtdkhlcoklihpfaaDoorD3
namespace Go.Proofs.YtdkhlcoklihpfaaDoor
set_option linter.unusedSimpArgs false
set_option linter.unusedVariables false
set_option maxHeartbeats 4000000
set_option maxRecDepth 10000
set_option linter.defProp false
open Go.RowKit
/-- Encode, of a word and one byte in a literal. -/
def g_EncK (args : List SV) (m : List Blk) : CR :=
  match args with
  | [.sl nm (some ⟨b, 0, none⟩) 0 0 6 2 2] => match bget m nm with
    | .blk b2 _ (.rows 6 [[.bool false, .int .u64 x0, .int .u64 x1, .int .u64 x2, .int .u64 x3, .nilsl], [.bool true, .int .u64 y0, .int .u64 y1, .int .u64 y2, .int .u64 y3, .sl nm1 (some ⟨b1, 0, none⟩) 0 0 1 1 1]]) => match bget m nm1 with
      | .blk b3 _ (.ints .u8 [z]) => .own (b2 = b ∧ b3 = b1 ∧ allU [x0, x1, x2, x3] ∧ allU [y0, y1, y2, y3] ∧ 0 ≤ z ∧ z ≤ 255) 5 1 (abEnc [⟨false, numI [x0, x1, x2, x3], []⟩, ⟨true, numI [y0, y1, y2, y3], [z]⟩]).length (.ints .u8 (abEnc [⟨false, numI [x0, x1, x2, x3], []⟩, ⟨true, numI [y0, y1, y2, y3], [z]⟩])) (fun v => v)
      | _ => .none
    | _ => .none
  | _ => .none
theorem g_EncK_ok (w0 : World) (B : List Nat) (args : List SV) (m : List Blk) : CROk Tryd.prog w0 B 12 args m (g_EncK args m) := by
  unfold g_EncK
  split
  · rename_i nm b
    split
    · rename_i b2 _ x0 x1 x2 x3 y0 y1 y2 y3 nm1 b1 hb
      split
      · rename_i b3 _ z hz
        intro ⟨e1, e2, e3, e4, e5, e6⟩ w hm
        subst e1 e2
        have k1 := (hm.each _ (bget_mem hb (by simp))).1
        have k2 := (hm.each _ (bget_mem hz (by simp))).1
        have e : cvs [.sl nm (some ⟨b2, 0, none⟩) 0 0 6 2 2] = cvs [.gh (some ⟨b2, 0, none⟩) 2 2 (.rows 6 [[.bool false, .int .u64 x0, .int .u64 x1, .int .u64 x2, .int .u64 x3, .gh none 0 0 (.ints .u8 [])], [.bool true, .int .u64 y0, .int .u64 y1, .int .u64 y2, .int .u64 y3, .gh (some ⟨b3, 0, none⟩) 1 1 (.ints .u8 [z])]])] := by
          simp [cvs, cv, addr_add]
        rw [e]
        have L1 : LiesH (H0 w) (some ⟨b2, 0, none⟩) (cc (.rows 6 [[.bool false, .int .u64 x0, .int .u64 x1, .int .u64 x2, .int .u64 x3, .gh none 0 0 (.ints .u8 [])], [.bool true, .int .u64 y0, .int .u64 y1, .int .u64 y2, .int .u64 y3, .gh (some ⟨b3, 0, none⟩) 1 1 (.ints .u8 [z])]])) := by
          refine .inr ⟨b2, 0, _, _, _, rfl, k1, fun j u hj => ?_⟩
          rw [Nat.zero_add, List.getElem?_toArray, ← hj]
          simp [cc, cvs, cv, addr_add]
        have L2 : LiesH (H0 w) (some ⟨b3, 0, none⟩) (cc (.ints .u8 [z])) := by
          refine .inr ⟨b3, 0, _, _, _, rfl, k2, fun j u hj => ?_⟩
          rw [Nat.zero_add, List.getElem?_toArray, ← hj]
        have hP : PsR (H0 w) [[.bool false, .int .u64 x0, .int .u64 x1, .int .u64 x2, .int .u64 x3, .gh none 0 0 (.ints .u8 [])], [.bool true, .int .u64 y0, .int .u64 y1, .int .u64 y2, .int .u64 y3, .gh (some ⟨b3, 0, none⟩) 1 1 (.ints .u8 [z])]] [⟨false, numI [x0, x1, x2, x3], []⟩, ⟨true, numI [y0, y1, y2, y3], [z]⟩] := by
          refine ⟨rfl, by simp, fun i r p hr hp => ?_⟩
          match i, hr, hp with
          | 0, hr, hp => cases hr; cases hp; exact ⟨x0, x1, x2, x3, none, 0, 0, rfl, e3, rfl, rfl, Nat.le_refl _, .inr ⟨rfl, rfl, rfl⟩, .inl rfl, (fun y hy => absurd hy List.not_mem_nil), Nat.zero_le _⟩
          | 1, hr, hp => cases hr; cases hp; exact ⟨y0, y1, y2, y3, _, 1, 1, rfl, e4, rfl, rfl, Nat.le_refl _, .inl rfl, L2, by intro y hy; rw [List.mem_singleton] at hy; subst hy; exact ⟨e5, e6⟩, by unfold maxLen; omega⟩
          | i + 2, hr, hp => simp at hr
        exact own_new Tryd.func12 rfl rfl hm (abEnc_vc _ 2 2 _ _ rfl (Nat.le_refl _) (.inl rfl) (by simp [psz]) w L1 hP)
      · exact trivial
    · exact trivial
  · exact trivial
def kE : List Int := abEnc [⟨false, numI [1, 0, 0, 0], []⟩, ⟨true, 0, [171]⟩]
theorem kE_l : kE.length = 128 := by decide +kernel
theorem kE_31 : kE.getD 31 0 = 1 := by decide +kernel
theorem kE_63 : kE.getD 63 0 = 64 := by decide +kernel
theorem kE_95 : kE.getD 95 0 = 1 := by decide +kernel
theorem kE_96 : kE.getD 96 0 = 171 := by decide +kernel
theorem kS_4 : selB [98, 97, 108, 97, 110, 99, 101, 79, 102, 40, 97, 100, 100, 114, 101, 115, 115, 41] = [112, 160, 130, 49] := by decide +kernel
noncomputable def GDE : Ctr := fun f args m => match f with
  | 12 => g_EncK args m
  | 14 => g_Sel args m
  | _ => .none
theorem GDE_ok : GOk Tryd.prog GDE := by
  intro w0 B f args m; unfold GDE; split
  · exact g_EncK_ok _ _ _ _
  · exact g_Sel_ok _ _ _ _
  · exact trivial
theorem GDE_EncK : GDE 12 = g_EncK := by funext args m; rfl
theorem GDE_Sel : GDE 14 = g_Sel := by funext args m; rfl
def GDE_set := And.intro (And.intro (@GDE_EncK) (@g_EncK.eq_def)) (And.intro (@GDE_Sel) (@g_Sel.eq_def))

set_option maxRecDepth 20000 in
theorem known_vc (w : World) (hm : MemOk w [] [.ro (some ⟨1, 0, none⟩) (.ints .u64 kKeys), .ro (some ⟨2, 0, none⟩) (.ints .u8 kPathI)] w) :
    Calls Tryd.prog 10 (cvs []).toArray w (fun en w' => ∃ u, en = .returned u ∧ ∃ v' m', u = cv v' ∧ MemOk w [] m' w' ∧ v' = .bool true) := by
  have l0 : lm (numI [1, 0, 0, 0]) 0 = 1 := by decide +kernel
  have l1 : lm (numI [1, 0, 0, 0]) 1 = 0 := by decide +kernel
  have l2 : lm (numI [1, 0, 0, 0]) 2 = 0 := by decide +kernel
  have l3 : lm (numI [1, 0, 0, 0]) 3 = 0 := by decide +kernel
  have eK : abEnc [⟨false, numI [1, 0, 0, 0], []⟩, ⟨true, 0, [171]⟩] = kE := rfl
  have hU : allU [1, 0, 0, 0] := by simp [allU]
  have hU0 : allU [0, 0, 0, 0] := by simp [allU]
  have hS := kS_4
  have hb4 : allB [112, 160, 130, 49] := by intro y hy; simp at hy; omega
  have hb18 : allB [98, 97, 108, 97, 110, 99, 101, 79, 102, 40, 97, 100, 100, 114, 101, 115, 115, 41] := by intro y hy; simp at hy; omega
  have g1 := kE_l; have g2 := kE_31; have g3 := kE_63; have g4 := kE_95; have g5 := kE_96
  have z0 : ((0 : Nat) : Int) = 0 := rfl
  have z1 : ((1 : Nat) : Int) = 1 := rfl
  have n128 : (128 : Int).toNat = 128 := rfl
  refine Vc.calls T0_ok Tryd.func10 rfl rfl (args := []) (k := 42) rfl hm ?_; change Vc _ _ (c8 .undef .undef .undef .undef .undef .undef .undef .undef (c8 .undef .undef .undef .undef .undef .undef .undef .undef (c8 .undef .undef .undef .undef .undef .undef .undef .undef (c8 .undef .undef .undef .undef .undef .undef .undef .undef (c8 .undef .undef .undef .undef .undef .undef .undef .undef ([.undef, .undef])))))) _ _
  ((repeat (first | (with_reducible refine Vc.seq fun N hN => ?_) | (with_reducible refine Vc.block ?_) | ((first | with_reducible refine Vc.skip ?_ | with_reducible refine Vc.exit ?_); dsimp only [thenK, blockK, Nat.beq]; (first | (refine hN _ _ ?_; clear hN N) | skip)) | (with_reducible intro _) | ((with_reducible refine And.intro ?_ ?_); (focus (first | ((repeat' with_reducible apply And.intro) <;> first | exact sideQ | (intro y hy; simp at hy; omega)) | exact sd0))) | ((first | ((with_reducible refine askT_of ?_ (fun hb => ?_)); (focus (first | ((repeat' with_reducible apply And.intro) <;> first | exact sideQ | (intro y hy; simp at hy; omega)) | exact sd0)); (try simp only [hb])) | ((with_reducible refine Vc.fin ?_); dsimp only [thenK, blockK, retK, resS, resOne, resAll]) | ((with_reducible refine Vc.hold ?_); first | refine Vc.regiont T0_ok GDE_ok ?_)); (try simp only [v8X, v8A, v8B, v8C, Nat.beq, Nat.ble, Int.reduceToNat, Int.reduceLE, Int.reduceLT, Nat.reduceLT, Nat.reduceLeDiff, Nat.reduceAdd, Nat.reduceMul, Nat.reduceSub, Int.reduceAdd, Int.reduceSub, Int.reduceMul, eq_self, decide_true, beq_self_eq_true, List.length_cons, List.length_nil, Nat.min_eq_left, IntKind.bits, tabs, GDE_set, l0, l1, l2, l3, z0, z1, eK, g1, g2, g3, g4, g5, hS]); (try simp (disch := omega) only [v8W])) | ((with_reducible refine hN _ _ ?_); clear hN N; (try simp (disch := omega) only [v8W])))); (try ((with_reducible refine Fin.of ?_); (try with_reducible exact True.intro))))
  exact ⟨trivial, rfl⟩
def g_alK (args : List SV) (m : List Blk) : CR :=
  match args with
  | [] => match bget m 0, bget m 1 with
    | .ro a0 c0, .ro a1 c1 => .pure (a0 = some ⟨1, 0, none⟩ ∧ c0 = .ints .u64 kKeys ∧ a1 = some ⟨2, 0, none⟩ ∧ c1 = .ints .u8 kPathI) (.bool true)
    | _, _ => .none
  | _ => .none
theorem g_alK_ok (w0 : World) (B : List Nat) (args : List SV) (m : List Blk) : CROk Tryd.prog w0 B 10 args m (g_alK args m) := by
  unfold g_alK
  split
  · split
    · rename_i a0 c0 a1 c1 h0 h1
      intro ⟨r0, r1, r2, r3⟩ w hm
      subst r0 r1 r2 r3
      exact calls_pure Tryd.func10 rfl rfl (known_vc w (ro_front (ro_ro hm h1) (ro_ro hm h0)))
    · exact trivial
  · exact trivial
end Go.Proofs.YtdkhlcoklihpfaaDoor

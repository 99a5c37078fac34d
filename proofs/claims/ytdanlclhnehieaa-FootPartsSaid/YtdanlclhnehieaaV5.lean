/-
  Package places: compare, a set's places sorted (maps.Keys, slices.Collect, slices.SortFunc, slices.SortedFunc, Sorted), walked. No condition.
-/
import Derived.Test.YtdanlclhnehieaaV4
import Derived.Test.YtdanlclhnehieaaV3
import Derived.Test.YtdanlclhnehieaaHK
import Derived.Test.YtdanlclhnehieaaSP
namespace Go.Proofs.Ytdanlclhnehieaa
set_option linter.unusedSimpArgs false
set_option linter.unusedVariables false
set_option maxHeartbeats 4000000
set_option linter.defProp false
open Go.RowKit
def cmpC (c d : List Int) : Int := if plLt c d = true then -1 else if plLt d c = true then 1 else 0
theorem or_lex (A B : Nat) (p q : Bool) (x y : Nat) : orI [cmpI A B, cmpZ (rankI p) (rankI q), cmpI x y] = if lexP A B p q x y = true then -1 else if lexP B A q p y x = true then 1 else 0 := by
  by_cases h1 : A < B
  · have e1 : cmpI A B = -1 := cmpI_lt h1
    have e2 : lexP A B p q x y = true := by unfold lexP; rw [if_neg (by omega)]; exact decide_eq_true h1
    rw [e1, if_pos e2]; rfl
  · by_cases h2 : B < A
    · have e1 : cmpI A B = 1 := cmpI_gt h2
      have e2 : lexP A B p q x y = false := by unfold lexP; rw [if_neg (by omega)]; exact decide_eq_false h1
      have e3 : lexP B A q p y x = true := by unfold lexP; rw [if_neg (by omega)]; exact decide_eq_true h2
      rw [e1, e2, e3]; rfl
    · obtain rfl : A = B := by omega
      have e1 : cmpI A A = 0 := cmpI_eq rfl
      rw [e1]
      cases p <;> cases q
      · by_cases h3 : x < y
        · rw [cmpI_lt h3, if_pos (by simp [lexP, h3])]; rfl
        · by_cases h4 : y < x
          · rw [cmpI_gt h4, if_neg (by simp [lexP, h3]), if_pos (by simp [lexP, h4])]; rfl
          · obtain rfl : x = y := by omega
            rw [cmpI_eq rfl, if_neg (by simp [lexP]), if_neg (by simp [lexP])]; rfl
      · rw [if_neg (by simp [lexP]), if_pos (by simp [lexP])]; rfl
      · rw [if_pos (by simp [lexP])]; rfl
      · by_cases h3 : x < y
        · rw [cmpI_lt h3, if_pos (by simp [lexP, h3])]; rfl
        · by_cases h4 : y < x
          · rw [cmpI_gt h4, if_neg (by simp [lexP, h3]), if_pos (by simp [lexP, h4])]; rfl
          · obtain rfl : x = y := by omega
            rw [cmpI_eq rfl, if_neg (by simp [lexP]), if_neg (by simp [lexP])]; rfl
set_option maxRecDepth 20000 in
theorem compare_vc (x y : PlT) (w : World) : Calls Try.prog 17 (cvs [.agg (plL x.1), .agg (plL y.1)]).toArray w (fun en w' => ∃ u, en = .returned u ∧ ∃ v' m', u = cv v' ∧ MemOk w [] m' w' ∧ v' = .int .i64 (cmpP x y)) := by
  have hcp : cmpP x y = cmpC x.1 y.1 := rfl
  rw [hcp]
  obtain ⟨x0, x1, x2, x3, x4, x5, x6, x7, x8, x9, x10, x11, x12, x13, x14, x15, x16, x17, x18, x19, bx, k0, k1, k2, k3, hxe, p1, p2, p3⟩ := okP_forms x.2
  obtain ⟨y0, y1, y2, y3, y4, y5, y6, y7, y8, y9, y10, y11, y12, y13, y14, y15, y16, y17, y18, y19, bz, j0, j1, j2, j3, hye, q1, q2, q3⟩ := okP_forms y.2
  have hp : plL x.1 = [.int .u8 x0, .int .u8 x1, .int .u8 x2, .int .u8 x3, .int .u8 x4, .int .u8 x5, .int .u8 x6, .int .u8 x7, .int .u8 x8, .int .u8 x9, .int .u8 x10, .int .u8 x11, .int .u8 x12, .int .u8 x13, .int .u8 x14, .int .u8 x15, .int .u8 x16, .int .u8 x17, .int .u8 x18, .int .u8 x19, .bool (decide (bx = 1)), .int .u64 k0, .int .u64 k1, .int .u64 k2, .int .u64 k3] := by rw [hxe]; rfl
  have hq : plL y.1 = [.int .u8 y0, .int .u8 y1, .int .u8 y2, .int .u8 y3, .int .u8 y4, .int .u8 y5, .int .u8 y6, .int .u8 y7, .int .u8 y8, .int .u8 y9, .int .u8 y10, .int .u8 y11, .int .u8 y12, .int .u8 y13, .int .u8 y14, .int .u8 y15, .int .u8 y16, .int .u8 y17, .int .u8 y18, .int .u8 y19, .bool (decide (bz = 1)), .int .u64 j0, .int .u64 j1, .int .u64 j2, .int .u64 j3] := by rw [hye]; rfl
  rw [hp, hq]
  have ho := or_lex (rdI [x0, x1, x2, x3, x4, x5, x6, x7, x8, x9, x10, x11, x12, x13, x14, x15, x16, x17, x18, x19]) (rdI [y0, y1, y2, y3, y4, y5, y6, y7, y8, y9, y10, y11, y12, y13, y14, y15, y16, y17, y18, y19]) (decide (bx = 1)) (decide (bz = 1)) (numI [k0, k1, k2, k3]) (numI [j0, j1, j2, j3])
  have hc : cmpC x.1 y.1 = orI [cmpI (rdI [x0, x1, x2, x3, x4, x5, x6, x7, x8, x9, x10, x11, x12, x13, x14, x15, x16, x17, x18, x19]) (rdI [y0, y1, y2, y3, y4, y5, y6, y7, y8, y9, y10, y11, y12, y13, y14, y15, y16, y17, y18, y19]), cmpZ (rankI (decide (bx = 1))) (rankI (decide (bz = 1))), cmpI (numI [k0, k1, k2, k3]) (numI [j0, j1, j2, j3])] := by
    rw [ho, hxe, hye]; rfl
  rw [hc]
  have hK := numI_ltP p3
  have hJ := numI_ltP q3
  generalize decide (bx = 1) = b1
  generalize decide (bz = 1) = b2
  refine Vc.calls T0_ok Try.func17 rfl rfl (args := [.agg [.int .u8 x0, .int .u8 x1, .int .u8 x2, .int .u8 x3, .int .u8 x4, .int .u8 x5, .int .u8 x6, .int .u8 x7, .int .u8 x8, .int .u8 x9, .int .u8 x10, .int .u8 x11, .int .u8 x12, .int .u8 x13, .int .u8 x14, .int .u8 x15, .int .u8 x16, .int .u8 x17, .int .u8 x18, .int .u8 x19, .bool b1, .int .u64 k0, .int .u64 k1, .int .u64 k2, .int .u64 k3], .agg [.int .u8 y0, .int .u8 y1, .int .u8 y2, .int .u8 y3, .int .u8 y4, .int .u8 y5, .int .u8 y6, .int .u8 y7, .int .u8 y8, .int .u8 y9, .int .u8 y10, .int .u8 y11, .int .u8 y12, .int .u8 y13, .int .u8 y14, .int .u8 y15, .int .u8 y16, .int .u8 y17, .int .u8 y18, .int .u8 y19, .bool b2, .int .u64 j0, .int .u64 j1, .int .u64 j2, .int .u64 j3]]) (k := 20) rfl (MemOk.start w) ?_; change Vc _ _ (c8 (.agg [.int .u8 x0, .int .u8 x1, .int .u8 x2, .int .u8 x3, .int .u8 x4, .int .u8 x5, .int .u8 x6, .int .u8 x7, .int .u8 x8, .int .u8 x9, .int .u8 x10, .int .u8 x11, .int .u8 x12, .int .u8 x13, .int .u8 x14, .int .u8 x15, .int .u8 x16, .int .u8 x17, .int .u8 x18, .int .u8 x19, .bool b1, .int .u64 k0, .int .u64 k1, .int .u64 k2, .int .u64 k3]) (.agg [.int .u8 y0, .int .u8 y1, .int .u8 y2, .int .u8 y3, .int .u8 y4, .int .u8 y5, .int .u8 y6, .int .u8 y7, .int .u8 y8, .int .u8 y9, .int .u8 y10, .int .u8 y11, .int .u8 y12, .int .u8 y13, .int .u8 y14, .int .u8 y15, .int .u8 y16, .int .u8 y17, .int .u8 y18, .int .u8 y19, .bool b2, .int .u64 j0, .int .u64 j1, .int .u64 j2, .int .u64 j3]) .undef .undef .undef .undef .undef .undef (c8 .undef .undef .undef .undef .undef .undef .undef .undef ([.undef, .undef, .undef, .undef, .undef, .undef]))) _ _
  ((repeat (first | (with_reducible refine Vc.seq fun N hN => ?_) | (with_reducible refine Vc.block ?_) | ((first | with_reducible refine Vc.skip ?_ | with_reducible refine Vc.exit ?_); dsimp only [thenK, blockK, Nat.beq]; (first | (refine hN _ _ ?_; clear hN N) | skip)) | (with_reducible intro _) | ((with_reducible refine And.intro ?_ ?_); (focus (first | ((repeat' with_reducible apply And.intro) <;> first | exact sideQ) | exact sd0))) | ((first | ((with_reducible refine askT_of ?_ (fun hb => ?_)); (focus (first | ((repeat' with_reducible apply And.intro) <;> first | exact sideQ) | exact sd0)); (try simp only [hb])) | ((with_reducible refine Vc.fin ?_); dsimp only [thenK, blockK, retK, resS, resOne, resAll]) | ((with_reducible refine Vc.hold ?_); first | refine Vc.regiont T0_ok GV3_ok ?_ | refine Vc.drawt (id := 1) T0_ok GV3_ok (by kernel_rfl) [0, 1, 2, 3, 5, 7, 10, 11, 12, 13, 4, 6, 8, 9] 14 [] trivial (by kernel_rfl) ?_)); (try simp only [v8X, v8A, v8B, v8C, Nat.beq, Nat.ble, Int.reduceToNat, Int.reduceLE, Int.reduceLT, Nat.reduceLT, Nat.reduceLeDiff, Nat.reduceAdd, Nat.reduceMul, Nat.reduceSub, Int.reduceAdd, Int.reduceSub, Int.reduceMul, eq_self, decide_true, beq_self_eq_true, List.length_cons, List.length_nil, Nat.min_eq_left, IntKind.bits, tabs, GV3_set, srcB, toU8, List.drop_zero, List.take_succ_cons, List.take_zero]); (try simp (disch := omega) only [v8W])) | ((with_reducible refine hN _ _ ?_); clear hN N; (try simp (disch := omega) only [v8W])))); (try ((with_reducible refine Fin.of ?_); (try with_reducible exact True.intro))))
  exact ⟨trivial, by first | exact trivial | rfl⟩
def rowP (x : PlT) : List SV := plL x.1
theorem rowP_len (x : PlT) : (rowP x).length = 25 := plL_len x.2
theorem rowP_one (x : PlT) : allOne (rowP x) = true := by
  obtain ⟨x0, x1, x2, x3, x4, x5, x6, x7, x8, x9, x10, x11, x12, x13, x14, x15, x16, x17, x18, x19, bx, k0, k1, k2, k3, hxe, p1, p2, p3⟩ := okP_forms x.2
  unfold rowP
  rw [hxe]; rfl
noncomputable def dOf (rs : List (List SV)) : List PlT := open Classical in if h : ∃ d : List PlT, rs = d.map rowP then h.choose else []
theorem map_rowP : ∀ {d d' : List PlT}, d.map rowP = d'.map rowP → d = d'
  | [], [], _ => rfl
  | [], _ :: _, h => by cases h
  | _ :: _, [], h => by cases h
  | x :: d, y :: d', h => by
    simp only [List.map_cons, List.cons.injEq] at h
    have h1 := congrArg (fun r => codeC ck_38 r) h.1
    simp only [rowP] at h1
    rw [codeC_pl x.2, codeC_pl y.2] at h1
    rw [Subtype.ext (Option.some.inj h1), map_rowP h.2]
theorem dOf_eq (d : List PlT) : dOf (d.map rowP) = d := by
  have h : ∃ d', d.map rowP = List.map rowP d' := ⟨d, rfl⟩
  unfold dOf
  rw [dif_pos h]
  exact (map_rowP h.choose_spec).symm
noncomputable def srt (d : List PlT) : List PlT := d.mergeSort fun x y => !(ltOf cmpP) y x
theorem srt_len (d : List PlT) : (srt d).length = d.length := List.length_mergeSort d
noncomputable def g_sort (args : List SV) (m : List Blk) : CR :=
  match args with
  | [.own nm v n, .fn (.func 17) [] []] => match bget m nm with
    | .own v' n' t 25 (.rows 25 rs) => .turn (v' = v ∧ n' = n ∧ (∃ d : List PlT, rs = d.map rowP) ∧ n ≤ 1000000) nm (.rows 25 ((srt (dOf rs)).map rowP)) (.tup [])
    | _ => .none
  | _ => .none
instance : Inhabited PlT := ⟨⟨[0, 0, 0, 0, 0, 0, 0, 0, 0, 0, 0, 0, 0, 0, 0, 0, 0, 0, 0, 0, 0, 0, 0, 0, 0], by unfold okP; simp only [ck_38, inCs, inC]; (repeat' apply And.intro) <;> first | rfl | exact trivial | exact .inl rfl | exact .inl trivial⟩⟩
theorem g_sort_ok (w0 : World) (B : List Nat) (args : List SV) (m : List Blk) : CROk Try.prog w0 B 22 args m (g_sort args m) := by
  unfold g_sort
  split
  · rename_i nm v n
    split
    · rename_i v' n' t rs hb
      rintro ⟨rfl, rfl, ⟨d, rfl⟩, hn⟩ w hm
      rw [dOf_eq]
      have := calls_sortV Try.sort38 Try.func22 rfl rfl 25 (by omega) Try.isAgg38 Try.sizeOf38 rowP rowP_len (fun x => allOne_mem (rowP_one x)) cmpP swo_cmpP tot_cmpP 17 Try.func17 rfl rfl compare_vc hm hb (by omega)
      rw [hb]
      exact this
    · exact trivial
  · exact trivial
theorem Enters.of {P : Program} {f : FuncId} {args args' : Array Value} {w : World} {R R' : Value → World → Prop} (h : Enters P f args w R) (e : args = args') (hr : ∀ u w', R u w' → R' u w') : Enters P f args' w R' := by
  subst e
  rcases h with ⟨u, h1, h2⟩ | ⟨h1, h2⟩
  · exact .inl ⟨u, h1, hr _ _ h2⟩
  · exact .inr ⟨h1, h2.mono fun e w' ⟨u, h3, h4⟩ => ⟨u, h3, hr _ _ h4⟩⟩
theorem grw_own {P : Program} {f : FuncId} {fn : Func} {args : Array Value} {w0 w : World} {B : List Nat} {m : List Blk} {A : Type} {Q : A → Prop} {N : A → Nat} {t : TypeId} {es : Nat} {con : A → Con} (k' : Nat) (hf : P.funcs[f]? = some fn) (hn : (fn.name == "runtime.NumGoroutine") = false) (hb : fn.body.isNone = false) (hm : MemOk w0 B m w)
    (h : Calls P f args w (fun en w' => ∃ u, en = .returned u ∧ ∃ v' m', u = cv v' ∧ MemOk w [] m' w' ∧ ∃ (s : Value) (a : A) (k : Nat), Q a ∧ v' = .own k s (N a) ∧ bget m' k = .own s (N a) t es (con a))) :
    Enters P f args w fun u w' => ∃ x : Value × A, Q x.2 ∧ u = cv (.own k' x.1 (N x.2)) ∧ w.grownBy w' .none ∧ (Blk.own x.1 (N x.2) t es (con x.2)).ok w0 B w' ∧ (∀ b ∈ (Blk.own x.1 (N x.2) t es (con x.2)).nums, w.heap.size ≤ b) ∧ (Blk.own x.1 (N x.2) t es (con x.2)).nums.Nodup := by
  refine .inr ⟨enter_run hf hn hb _ w, h.mono fun e w' ⟨u, he, v', m', hu, hm', s, a, k, hQ, hv, hs⟩ => ⟨u, he, (s, a), hQ, by rw [hu, hv]; rfl, hm'.grown, ?_⟩⟩
  have h1 := hm'.each _ (bget_mem hs (by simp))
  have h2 : ∀ b, s.ownBlock = some b → w.heap.size ≤ b := fun b hb => (h1.2 b hb).resolve_right List.not_mem_nil
  refine ⟨⟨h1.1, fun b hb => .inl (Nat.le_trans hm.size (h2 b hb))⟩, fun b hb => ?_, ?_⟩
  · simp only [Blk.nums, Option.mem_toList] at hb; exact h2 b hb
  · simp only [Blk.nums]; cases s.ownBlock <;> simp
def InS (f : List Int → Option SV) (ss : List PlT) : Prop := ss.Nodup ∧ ∀ x : PlT, x ∈ ss ↔ (f x.1).isSome = true
def Few (f : List Int → Option SV) : Prop := ∃ LL : List PlT, (∀ x : PlT, (f x.1).isSome = true → x ∈ LL) ∧ LL.length ≤ 1000000
theorem InS.le {f : List Int → Option SV} {ss : List PlT} (h : InS f ss) (hf : Few f) : ss.length ≤ 1000000 := by
  obtain ⟨LL, h1, h2⟩ := hf
  have := nodup_le h.1 (fun x hx => h1 x ((h.2 x).1 hx))
  omega
noncomputable def g_apSeq (args : List SV) (m : List Blk) : CR :=
  match args with
  | [.nilsl, .fn (.func 23) [] [.gp (some ⟨b1, 0, none⟩) (.cells [.mpv nm b]) 0 0 0]] => match bget m nm with
    | .mo b' ks f => .grw (b' = b ∧ ks = ck_38 ∧ HM m b1 (.cells #[.map (some b)] 40 (0, 0)) ∧ Few f) (Value × List PlT) (fun a => InS f a.2) (fun a => .own (blen m) a.1 a.2.length) (fun a => .own a.1 a.2.length 38 25 (.rows 25 (a.2.map rowP)))
    | _ => .none
  | _ => .none
theorem g_apSeq_ok (w0 : World) (B : List Nat) (args : List SV) (m : List Blk) : CROk Try.prog w0 B 30 args m (g_apSeq args m) := by
  unfold g_apSeq
  split
  · rename_i b1 nm b
    split
    · rename_i b' ks f hb
      rintro ⟨rfl, rfl, h1, LL, h2, h3⟩ w hm
      have hM := (hm.each _ (bget_mem hb (by simp))).1
      have hB : Boxed w b1 40 (.map (some b')) := hm.hm h1
      have e : cvs [.nilsl, .fn (.func 23) [] [.gp (some ⟨b1, 0, none⟩) (.cells [.mpv nm b']) 0 0 0]] = cvs [.nilsl, .fn (.func 23) [] [.raw (.pointer (some ⟨b1, 0, none⟩))]] := rfl
      rw [e]
      exact grw_own (A := List PlT) (N := fun ss => ss.length) (con := fun ss => .rows 25 (ss.map rowP)) _ Try.func30 rfl rfl hm ((apSeq_vc b1 b' f LL h2 h3 w hB hM).mono fun en w' ⟨u, he, v', m', hv, hm', s, ss, hS, hv2, hs⟩ => ⟨u, he, v', m', hv, hm', s, ss, 1, hS, hv2, hs⟩)
    · exact trivial
  · exact trivial
noncomputable def GV4 : Ctr := fun f args m => match f with
  | 30 => g_apSeq args m
  | _ => .none
theorem GV4_ok : GOk Try.prog GV4 := by
  intro w0 B f args m; unfold GV4; split
  · exact g_apSeq_ok _ _ _ _
  · exact trivial
theorem GV4_apSeq : GV4 30 = g_apSeq := by funext args m; rfl
def GV4_set := And.intro (@GV4_apSeq) (@g_apSeq.eq_def)

theorem mo_old {w0 w : World} {B : List Nat} {m : List Blk} (_hm : MemOk w0 B m w) {b : Nat} {ks : List CK} {f : List Int → Option SV} (hM : MapIs w b ks (fun c => (f c).map cv)) : MemOk w [] [.mo b ks f, allOld w] w :=
  ⟨rfl, rfl, rfl, Nat.le_refl _, fun _ _ _ => rfl, fun e he => by
    simp only [List.mem_cons, List.not_mem_nil, or_false] at he
    rcases he with rfl | rfl
    · exact ⟨hM, map_lt hM, List.not_mem_nil⟩
    · exact (old_start w).each _ List.mem_cons_self, by simp [Blk.nums, allOld]⟩
theorem collect_vc (b1 b : Nat) (f : List Int → Option SV) (hF : Few f) (w : World) (hB : Boxed w b1 40 (.map (some b))) (hm : MemOk w [] [.mo b ck_38 f, allOld w] w) :
    Calls Try.prog 21 (cvs [.fn (.func 23) [] [.gp (some ⟨b1, 0, none⟩) (.cells [.mpv 0 b]) 0 0 0]]).toArray w (fun en w' => ∃ u, en = .returned u ∧ ∃ v' m', u = cv v' ∧ MemOk w [] m' w' ∧ ∃ (s : Value) (ss : List PlT) (k : Nat), InS f ss ∧ v' = .own k s ss.length ∧ bget m' k = .own s ss.length 38 25 (.rows 25 (ss.map rowP))) := by
  have hH : ∀ m, allOld w ∈ m → HM m b1 (.cells #[.map (some b)] 40 (0, 0)) := fun m hin => H0.hm hin _ _ hB
  refine Vc.calls T0_ok Try.func21 rfl rfl (args := [.fn (.func 23) [] [.gp (some ⟨b1, 0, none⟩) (.cells [.mpv 0 b]) 0 0 0]]) (k := 4) rfl hm ?_; change Vc _ _ ([.fn (.func 23) [] [.gp (some ⟨b1, 0, none⟩) (.cells [.mpv 0 b]) 0 0 0], .undef, .undef, .undef, .undef]) _ _
  ((repeat (first | (with_reducible refine Vc.seq fun N hN => ?_) | (with_reducible refine Vc.block ?_) | ((first | with_reducible refine Vc.skip ?_ | with_reducible refine Vc.exit ?_); dsimp only [thenK, blockK, Nat.beq]; (first | (refine hN _ _ ?_; clear hN N) | skip)) | (with_reducible intro _) | ((with_reducible refine And.intro ?_ ?_); (focus (first | ((repeat' with_reducible apply And.intro) <;> first | with_reducible exact True.intro | with_reducible assumption | with_reducible rfl | (exact hH _ (by simp))) | exact sd0))) | ((first | ((with_reducible refine askT_of ?_ (fun hb => ?_)); (focus (first | ((repeat' with_reducible apply And.intro) <;> first | with_reducible exact True.intro | with_reducible assumption | with_reducible rfl | (exact hH _ (by simp))) | exact sd0)); (try simp only [hb])) | ((with_reducible refine Vc.fin ?_); dsimp only [thenK, blockK, retK, resS, resOne, resAll]) | ((with_reducible refine Vc.hold ?_); first | refine Vc.regiont T0_ok GV4_ok ?_)); (try simp only [v8X, v8A, v8B, v8C, Nat.beq, Nat.ble, Int.reduceToNat, Int.reduceLE, Int.reduceLT, Nat.reduceLT, Nat.reduceLeDiff, Nat.reduceAdd, Nat.reduceMul, Nat.reduceSub, Int.reduceAdd, Int.reduceSub, Int.reduceMul, eq_self, decide_true, beq_self_eq_true, List.length_cons, List.length_nil, Nat.min_eq_left, IntKind.bits, tabs, GV4_set, ]); (try simp (disch := omega) only [v8W])) | ((with_reducible refine hN _ _ ?_); clear hN N; (try simp (disch := omega) only [v8W])))); (try ((with_reducible refine Fin.of ?_); (try with_reducible exact True.intro))))
  rename_i x hS
  exact ⟨trivial, x.1, x.2, 2, hS, rfl, rfl⟩
noncomputable def g_collect (args : List SV) (m : List Blk) : CR :=
  match args with
  | [.fn (.func 23) [] [.gp (some ⟨b1, 0, none⟩) (.cells [.mpv nm b]) 0 0 0]] => match bget m nm with
    | .mo b' ks f => .grw (b' = b ∧ ks = ck_38 ∧ HM m b1 (.cells #[.map (some b)] 40 (0, 0)) ∧ Few f) (Value × List PlT) (fun a => InS f a.2) (fun a => .own (blen m) a.1 a.2.length) (fun a => .own a.1 a.2.length 38 25 (.rows 25 (a.2.map rowP)))
    | _ => .none
  | _ => .none
theorem g_collect_ok (w0 : World) (B : List Nat) (args : List SV) (m : List Blk) : CROk Try.prog w0 B 21 args m (g_collect args m) := by
  unfold g_collect
  split
  · rename_i b1 nm b
    split
    · rename_i b' ks f hb
      rintro ⟨rfl, rfl, h1, hF⟩ w hm
      have hM := (hm.each _ (bget_mem hb (by simp))).1
      have hB : Boxed w b1 40 (.map (some b')) := hm.hm h1
      have e : cvs [.fn (.func 23) [] [.gp (some ⟨b1, 0, none⟩) (.cells [.mpv nm b']) 0 0 0]] = cvs [.fn (.func 23) [] [.gp (some ⟨b1, 0, none⟩) (.cells [.mpv 0 b']) 0 0 0]] := rfl
      rw [e]
      exact grw_own (A := List PlT) (N := fun ss => ss.length) (con := fun ss => .rows 25 (ss.map rowP)) _ Try.func21 rfl rfl hm (collect_vc b1 b' f hF w hB (mo_old hm hM))
    · exact trivial
  · exact trivial
noncomputable def GV5 : Ctr := fun f args m => match f with
  | 21 => g_collect args m
  | 22 => g_sort args m
  | _ => .none
theorem GV5_ok : GOk Try.prog GV5 := by
  intro w0 B f args m; unfold GV5; split
  · exact g_collect_ok _ _ _ _
  · exact g_sort_ok _ _ _ _
  · exact trivial
theorem GV5_collect : GV5 21 = g_collect := by funext args m; rfl
theorem GV5_sort : GV5 22 = g_sort := by funext args m; rfl
def GV5_set := And.intro (And.intro (@GV5_collect) (@g_collect.eq_def)) (And.intro (@GV5_sort) (@g_sort.eq_def))

structure SetL (f : List Int → Option SV) (l : List (List Int)) : Prop where
  rises : Rises l
  ok : ∀ x ∈ l, okP x
  mem : ∀ x, okP x → (x ∈ l ↔ (f x).isSome = true)
  few : l.length ≤ 1000000
theorem setL_of {f : List Int → Option SV} {ss : List PlT} (h : InS f ss) (hF : Few f) : SetL f ((srt ss).map fun x : PlT => x.1) := by
  obtain ⟨h1, h2⟩ := sort_rises ss h.1
  refine ⟨h1, fun x hx => ?_, fun x hx => ?_, ?_⟩
  · obtain ⟨y, _, rfl⟩ := List.mem_map.1 hx; exact y.2
  · rw [show ((srt ss).map fun x : PlT => x.1) = (ss.mergeSort fun x y => !(ltOf cmpP) y x).map (fun x : PlT => x.1) from rfl, h2 x]
    constructor
    · intro hm
      obtain ⟨y, hy, rfl⟩ := List.mem_map.1 hm
      exact (h.2 y).1 hy
    · intro hm
      exact List.mem_map.2 ⟨⟨x, hx⟩, (h.2 ⟨x, hx⟩).2 hm, rfl⟩
  · rw [List.length_map, srt_len]; exact h.le hF
theorem map_plL (d : List PlT) : (d.map fun x : PlT => x.1).map plL = d.map rowP := by rw [List.map_map]; rfl
theorem sortedF_vc (b1 b : Nat) (f : List Int → Option SV) (hF : Few f) (w : World) (hB : Boxed w b1 40 (.map (some b))) (hm : MemOk w [] [.mo b ck_38 f, allOld w] w) :
    Calls Try.prog 15 (cvs [.fn (.func 23) [] [.gp (some ⟨b1, 0, none⟩) (.cells [.mpv 0 b]) 0 0 0], .fn (.func 17) [] []]).toArray w (fun en w' => ∃ u, en = .returned u ∧ ∃ v' m', u = cv v' ∧ MemOk w [] m' w' ∧ ∃ (s : Value) (l : List (List Int)) (k : Nat), SetL f l ∧ v' = .own k s l.length ∧ bget m' k = .own s l.length 38 25 (.rows 25 (l.map plL))) := by
  have hH : ∀ m, allOld w ∈ m → HM m b1 (.cells #[.map (some b)] 40 (0, 0)) := fun m hin => H0.hm hin _ _ hB
  refine Vc.calls T0_ok Try.func15 rfl rfl (args := [.fn (.func 23) [] [.gp (some ⟨b1, 0, none⟩) (.cells [.mpv 0 b]) 0 0 0], .fn (.func 17) [] []]) (k := 10) rfl hm ?_; change Vc _ _ (c8 (.fn (.func 23) [] [.gp (some ⟨b1, 0, none⟩) (.cells [.mpv 0 b]) 0 0 0]) (.fn (.func 17) [] []) .undef .undef .undef .undef .undef .undef ([.undef, .undef, .undef, .undef])) _ _
  ((repeat (first | (with_reducible refine Vc.seq fun N hN => ?_) | (with_reducible refine Vc.block ?_) | ((first | with_reducible refine Vc.skip ?_ | with_reducible refine Vc.exit ?_); dsimp only [thenK, blockK, Nat.beq]; (first | (refine hN _ _ ?_; clear hN N) | skip)) | (with_reducible intro _) | ((with_reducible refine And.intro ?_ ?_); (focus (first | ((repeat' with_reducible apply And.intro) <;> first | with_reducible exact True.intro | with_reducible assumption | with_reducible rfl | (exact hH _ (by simp)) | (exact ⟨_, rfl⟩) | (exact InS.le (by assumption) hF)) | exact sd0))) | ((first | ((with_reducible refine askT_of ?_ (fun hb => ?_)); (focus (first | ((repeat' with_reducible apply And.intro) <;> first | with_reducible exact True.intro | with_reducible assumption | with_reducible rfl | (exact hH _ (by simp)) | (exact ⟨_, rfl⟩) | (exact InS.le (by assumption) hF)) | exact sd0)); (try simp only [hb])) | ((with_reducible refine Vc.fin ?_); dsimp only [thenK, blockK, retK, resS, resOne, resAll]) | ((with_reducible refine Vc.hold ?_); first | refine Vc.regiont T0_ok GV5_ok ?_)); (try simp only [v8X, v8A, v8B, v8C, Nat.beq, Nat.ble, Int.reduceToNat, Int.reduceLE, Int.reduceLT, Nat.reduceLT, Nat.reduceLeDiff, Nat.reduceAdd, Nat.reduceMul, Nat.reduceSub, Int.reduceAdd, Int.reduceSub, Int.reduceMul, eq_self, decide_true, beq_self_eq_true, List.length_cons, List.length_nil, Nat.min_eq_left, IntKind.bits, tabs, GV5_set, dOf_eq]); (try simp (disch := omega) only [v8W])) | ((with_reducible refine hN _ _ ?_); clear hN N; (try simp (disch := omega) only [v8W])))); (try ((with_reducible refine Fin.of ?_); (try with_reducible exact True.intro))))
  rename_i x hS
  refine ⟨trivial, x.1, (srt x.2).map fun x : PlT => x.1, 2, setL_of hS hF, ?_, ?_⟩
  · rw [List.length_map, srt_len]
  · rw [List.length_map, srt_len, map_plL]; rfl
noncomputable def g_sortedF (args : List SV) (m : List Blk) : CR :=
  match args with
  | [.fn (.func 23) [] [.ptr n1 b1 0 0 0 0], .fn (.func 17) [] []] => match bget m n1 with
    | .blk c1 t (.cells [.mpv nm b]) => match bget m nm with
      | .mo b' ks f => .grw (c1 = b1 ∧ t = 40 ∧ b' = b ∧ ks = ck_38 ∧ Few f) (Value × List (List Int)) (fun a => SetL f a.2) (fun a => .own (blen m) a.1 a.2.length) (fun a => .own a.1 a.2.length 38 25 (.rows 25 (a.2.map plL)))
      | _ => .none
    | _ => .none
  | _ => .none
theorem g_sortedF_ok (w0 : World) (B : List Nat) (args : List SV) (m : List Blk) : CROk Try.prog w0 B 15 args m (g_sortedF args m) := by
  unfold g_sortedF
  split
  · rename_i n1 b1
    split
    · rename_i c1 t nm b hb1
      split
      · rename_i b' ks f hb
        rintro ⟨rfl, rfl, rfl, rfl, hF⟩ w hm
        have hM := (hm.each _ (bget_mem hb (by simp))).1
        have hB : Boxed w c1 40 (.map (some b')) := (hm.each _ (bget_mem hb1 (by simp))).1
        have e : cvs [.fn (.func 23) [] [.ptr n1 c1 0 0 0 0], .fn (.func 17) [] []] = cvs [.fn (.func 23) [] [.gp (some ⟨c1, 0, none⟩) (.cells [.mpv 0 b']) 0 0 0], .fn (.func 17) [] []] := rfl
        rw [e]
        exact grw_own (A := List (List Int)) (N := fun l => l.length) (con := fun l => .rows 25 (l.map plL)) _ Try.func15 rfl rfl hm (sortedF_vc c1 b' f hF w hB (mo_old hm hM))
      · exact trivial
    · exact trivial
  · exact trivial
theorem keys_vc (b : Nat) (w : World) : Calls Try.prog 16 (cvs [.mpv 0 b]).toArray w (fun en w' => ∃ u, en = .returned u ∧ ∃ v' m', u = cv v' ∧ MemOk w [] m' w' ∧ ∃ b1 : Nat, v' = .fn (.func 23) [] [.ptr 0 b1 0 0 0 0] ∧ bget m' 0 = .blk b1 40 (.cells [.mpv 0 b])) := by
  refine Vc.calls T0_ok Try.func16 rfl rfl (args := [.mpv 0 b]) (k := 3) rfl (MemOk.start _) ?_; change Vc _ _ ([.mpv 0 b, .undef, .undef, .undef]) _ _
  ((repeat (first | (with_reducible refine Vc.seq fun N hN => ?_) | (with_reducible refine Vc.block ?_) | ((first | with_reducible refine Vc.skip ?_ | with_reducible refine Vc.exit ?_); dsimp only [thenK, blockK, Nat.beq]; (first | (refine hN _ _ ?_; clear hN N) | skip)) | (with_reducible intro _) | ((with_reducible refine And.intro ?_ ?_); (focus (first | ((repeat' with_reducible apply And.intro) <;> first | exact sideQ) | exact sd0))) | ((first | ((with_reducible refine askT_of ?_ (fun hb => ?_)); (focus (first | ((repeat' with_reducible apply And.intro) <;> first | exact sideQ) | exact sd0)); (try simp only [hb])) | ((with_reducible refine Vc.fin ?_); dsimp only [thenK, blockK, retK, resS, resOne, resAll]) | ((with_reducible refine Vc.hold ?_); first | refine Vc.regiont T0_ok GT1_ok ?_)); (try simp only [v8X, v8A, v8B, v8C, Nat.beq, Nat.ble, Int.reduceToNat, Int.reduceLE, Int.reduceLT, Nat.reduceLT, Nat.reduceLeDiff, Nat.reduceAdd, Nat.reduceMul, Nat.reduceSub, Int.reduceAdd, Int.reduceSub, Int.reduceMul, eq_self, decide_true, beq_self_eq_true, List.length_cons, List.length_nil, Nat.min_eq_left, IntKind.bits, tabs, GT1_set, ]); (try simp (disch := omega) only [v8W])) | ((with_reducible refine hN _ _ ?_); clear hN N; (try simp (disch := omega) only [v8W])))); (try ((with_reducible refine Fin.of ?_); (try with_reducible exact True.intro))))
  exact ⟨trivial, _, rfl, rfl⟩
def g_keys (args : List SV) (m : List Blk) : CR :=
  match args with
  | [.mpv nm b] => .grw True Nat (fun _ => True) (fun a => .fn (.func 23) [] [.ptr (blen m) a 0 0 0 0]) (fun a => .blk a 40 (.cells [.mpv nm b]))
  | _ => .none
theorem g_keys_ok (w0 : World) (B : List Nat) (args : List SV) (m : List Blk) : CROk Try.prog w0 B 16 args m (g_keys args m) := by
  unfold g_keys
  split
  · rename_i nm b
    intro _ w hm
    refine .inr ⟨enter_run Try.func16 rfl rfl _ w, (keys_vc b w).mono fun e w' ⟨u, he, v', m', hu, hm', b1, hv, hs⟩ => ⟨u, he, b1, trivial, by rw [hu, hv]; rfl, hm'.grown, ?_⟩⟩
    have h1 := hm'.each _ (bget_mem hs (by simp))
    have h2 : w.heap.size ≤ b1 := h1.2.resolve_right List.not_mem_nil
    exact ⟨⟨h1.1, .inl (Nat.le_trans hm.size h2)⟩, fun b hb => by simp [Blk.nums] at hb; omega, by simp [Blk.nums]⟩
  · exact trivial
noncomputable def GV6 : Ctr := fun f args m => match f with
  | 16 => g_keys args m
  | 15 => g_sortedF args m
  | _ => .none
theorem GV6_ok : GOk Try.prog GV6 := by
  intro w0 B f args m; unfold GV6; split
  · exact g_keys_ok _ _ _ _
  · exact g_sortedF_ok _ _ _ _
  · exact trivial
theorem GV6_keys : GV6 16 = g_keys := by funext args m; rfl
theorem GV6_sortedF : GV6 15 = g_sortedF := by funext args m; rfl
def GV6_set := And.intro (And.intro (@GV6_keys) (@g_keys.eq_def)) (And.intro (@GV6_sortedF) (@g_sortedF.eq_def))

theorem sorted_vc (b : Nat) (f : List Int → Option SV) (hF : Few f) (w : World) (hm : MemOk w [] [.mo b ck_38 f, allOld w] w) :
    Calls Try.prog 12 (cvs [.mpv 0 b]).toArray w (fun en w' => ∃ u, en = .returned u ∧ ∃ v' m', u = cv v' ∧ MemOk w [] m' w' ∧ ∃ (s : Value) (l : List (List Int)) (k : Nat), SetL f l ∧ v' = .own k s l.length ∧ bget m' k = .own s l.length 38 25 (.rows 25 (l.map plL))) := by
  refine Vc.calls T0_ok Try.func12 rfl rfl (args := [.mpv 0 b]) (k := 5) rfl hm ?_; change Vc _ _ ([.mpv 0 b, .undef, .undef, .undef, .undef, .undef]) _ _
  ((repeat (first | (with_reducible refine Vc.seq fun N hN => ?_) | (with_reducible refine Vc.block ?_) | ((first | with_reducible refine Vc.skip ?_ | with_reducible refine Vc.exit ?_); dsimp only [thenK, blockK, Nat.beq]; (first | (refine hN _ _ ?_; clear hN N) | skip)) | (with_reducible intro _) | ((with_reducible refine And.intro ?_ ?_); (focus (first | ((repeat' with_reducible apply And.intro) <;> first | exact sideQ) | exact sd0))) | ((first | ((with_reducible refine askT_of ?_ (fun hb => ?_)); (focus (first | ((repeat' with_reducible apply And.intro) <;> first | exact sideQ) | exact sd0)); (try simp only [hb])) | ((with_reducible refine Vc.fin ?_); dsimp only [thenK, blockK, retK, resS, resOne, resAll]) | ((with_reducible refine Vc.hold ?_); first | refine Vc.regiont T0_ok GV6_ok ?_)); (try simp only [v8X, v8A, v8B, v8C, Nat.beq, Nat.ble, Int.reduceToNat, Int.reduceLE, Int.reduceLT, Nat.reduceLT, Nat.reduceLeDiff, Nat.reduceAdd, Nat.reduceMul, Nat.reduceSub, Int.reduceAdd, Int.reduceSub, Int.reduceMul, eq_self, decide_true, beq_self_eq_true, List.length_cons, List.length_nil, Nat.min_eq_left, IntKind.bits, tabs, GV6_set, ]); (try simp (disch := omega) only [v8W])) | ((with_reducible refine hN _ _ ?_); clear hN N; (try simp (disch := omega) only [v8W])))); (try ((with_reducible refine Fin.of ?_); (try with_reducible exact True.intro))))
  rename_i b1 _ x hS
  exact ⟨trivial, x.1, x.2, _, hS, rfl, rfl⟩
noncomputable def g_Sorted (args : List SV) (m : List Blk) : CR :=
  match args with
  | [.mpv nm b] => match bget m nm with
    | .mp b' ks f => .grw (b' = b ∧ ks = ck_38 ∧ Few f) (Value × List (List Int)) (fun a => SetL f a.2) (fun a => .own (blen m) a.1 a.2.length) (fun a => .own a.1 a.2.length 38 25 (.rows 25 (a.2.map plL)))
    | _ => .none
  | _ => .none
theorem g_Sorted_ok (w0 : World) (B : List Nat) (args : List SV) (m : List Blk) : CROk Try.prog w0 B 12 args m (g_Sorted args m) := by
  unfold g_Sorted
  split
  · rename_i nm b
    split
    · rename_i b' ks f hb
      rintro ⟨rfl, rfl, hF⟩ w hm
      have hM := (hm.each _ (bget_mem hb (by simp))).1
      have e : cvs [.mpv nm b'] = cvs [.mpv 0 b'] := rfl
      rw [e]
      exact grw_own (A := List (List Int)) (N := fun l => l.length) (con := fun l => .rows 25 (l.map plL)) _ Try.func12 rfl rfl hm (sorted_vc b' f hF w (mo_old hm hM))
    · exact trivial
  · exact trivial
end Go.Proofs.Ytdanlclhnehieaa

/-
 Package rules: accounts' code, a call's first bytes, as one who only reads finds them. No condition.
-/
import Derived.Test.YtoadeekdgikghaaDoorJ1
set_option maxRecDepth 20000
set_option maxHeartbeats 4000000
set_option linter.defProp false
set_option linter.unusedVariables false
set_option linter.unusedSimpArgs false
namespace Go.Proofs.YtoadeekdgikghaaDoor
open Go.RowKit
structure NbX where
 a : Option Addr
 c : Nat
 h : List (Nat × Obj)
structure NbQ (n : Nat) (xs : List Int) (x : NbX) : Prop where
 len : xs.length = n
 le : n ≤ x.c
 adr : adr x.a n x.c
 max : n ≤ maxLen
 lies : LiesH (Hl x.h) x.a (cc (.ints .u8 xs))
theorem grw_bytes {P : Program} {f : FuncId} {fn : Func} {args : Array Value} {w0 w : World} {B : List Nat} {m : List Blk} {xs : List Int} {n : Nat} (hf : P.funcs[f]? = some fn) (hn : (fn.name == "runtime.NumGoroutine") = false) (hb : fn.body.isNone = false) (hm : MemOk w0 B m w) (hl : xs.length = n)
  (h : Calls P f args w (fun en w' => ∃ u, en = .returned u ∧ ∃ v' m', u = cv v' ∧ MemOk w [] m' w' ∧ ∃ k s t, v' = .own k s n ∧ bget m' k = .own s n t 1 (.ints .u8 xs))) :
  Enters P f args w fun u w' => ∃ a : NbX, NbQ n xs a ∧ u = cv (.gh a.a n a.c (.ints .u8 xs)) ∧ w.grownBy w' .none ∧ (Blk.heap a.h).ok w0 B w' ∧ (∀ b ∈ (Blk.heap a.h).nums, w.heap.size ≤ b) ∧ (Blk.heap a.h).nums.Nodup := by
 have h1 := calls_new (A := Option Addr × Nat) (Q := fun p l => NbQ n xs ⟨p.1, p.2, l⟩) (F := fun p => .gh p.1 n p.2 (.ints .u8 xs)) hf hn hb hm (h.mono fun en w' ⟨u, hu, v', m', hv, hm', k, s, t, hvv, hk⟩ => ⟨u, hu, v', m', hv, hm', fun w2 hm2 => by
  obtain ⟨a, c, e1, e2, e3, e4, e5, e6⟩ := own_lies hm2 hk
  exact ⟨(a, c), by rw [hvv]; exact e1, hl, e3, e2, e4, e6⟩⟩)
 rcases h1 with ⟨u, h2, a, h3⟩ | ⟨h2, h3⟩
 ·exact .inl ⟨u, h2, ⟨a.1.1, a.1.2, a.2⟩, h3⟩
 ·exact .inr ⟨h2, h3.mono fun e w' ⟨u, hu, a, h4⟩ => ⟨u, hu, ⟨a.1.1, a.1.2, a.2⟩, h4⟩⟩
theorem accB_vc (n q0 q1 q2 q3 : Int) (c : List Int) (hc : allB c) (hl : c.length ≤ 1000000) (w : World) :
  Calls Tryd.prog 68 (cvs [.agg [.int .u64 n, .int .u64 q0, .int .u64 q1, .int .u64 q2, .int .u64 q3, .str c]]).toArray w (fun en w' => ∃ u, en = .returned u ∧ ∃ v' m', u = cv v' ∧ MemOk w [] m' w' ∧ ∃ k s t, v' = .own k s c.length ∧ bget m' k = .own s c.length t 1 (.ints .u8 c)) := by
 refine Vc.calls T0_ok Tryd.func68 rfl rfl (args := [.agg [.int .u64 n, .int .u64 q0, .int .u64 q1, .int .u64 q2, .int .u64 q3, .str c]]) (k := 5) rfl (MemOk.start _) ?_; change Vc _ _ ([.agg [.int .u64 n, .int .u64 q0, .int .u64 q1, .int .u64 q2, .int .u64 q3, .str c], .undef, .undef, .undef, .undef, .undef]) _ _
 have hl2 : c.length ≤ 140737488355328 := by omega
 ((repeat (first | (with_reducible refine Vc.seq fun N hN => ?_) | (with_reducible intro _) | ((with_reducible refine And.intro ?_ ?_); exact sX0) | ((first | ((with_reducible refine Vc.fin ?_); dsimp only [thenK, blockK, retK, resS, resOne, resAll]) | ((with_reducible refine Vc.hold ?_); first | refine Vc.regiont T0_ok GJ0_ok ?_)); (try simp only [v8Y, Nat.beq, Nat.ble, Int.reduceToNat, Int.reduceLE, Int.reduceLT, Nat.reduceLT, Nat.reduceLeDiff, Nat.reduceAdd, Nat.reduceMul, Nat.reduceSub, Int.reduceAdd, Int.reduceSub, Int.reduceMul, tabs, GJ0_set, ])) | ((with_reducible refine hN _ _ ?_); clear hN N))); (try ((with_reducible refine Fin.of ?_); (try with_reducible exact True.intro))))
 exact ⟨trivial, 1, _, _, rfl, rfl⟩
noncomputable def g_accB (args : List SV) (m : List Blk) : CR := match args with
 | [.agg [.int .u64 n, .int .u64 q0, .int .u64 q1, .int .u64 q2, .int .u64 q3, .str c]] => .grw (allB c ∧ c.length ≤ 1000000) NbX (NbQ c.length c) (fun x => .gh x.a c.length x.c (.ints .u8 c)) (fun x => .heap x.h)
 | _ => .none
theorem g_accB_ok (w0 : World) (B : List Nat) (args : List SV) (m : List Blk) : CROk Tryd.prog w0 B 68 args m (g_accB args m) := by
 unfold g_accB; split
 ·rename_i n q0 q1 q2 q3 c
  intro ⟨h1, h2⟩ w hm
  exact grw_bytes Tryd.func68 rfl rfl hm rfl (accB_vc n q0 q1 q2 q3 c h1 h2 w)
 ·exact trivial
theorem mo_start {w : World} {b : Nat} {ks : List CK} {f : List Int → Option SV} (h : MapIs w b ks (fun c => (f c).map cv)) : MemOk w [] [allOld w, .mo b ks f] w := by
 refine ⟨rfl, rfl, rfl, Nat.le_refl _, fun _ _ _ => rfl, fun e he => ?_, by simp [allOld, Blk.nums]⟩
 rcases List.mem_cons.1 he with rfl | he
 ·exact (old_start w).each _ List.mem_cons_self
 ·obtain rfl := List.mem_singleton.1 he
  obtain ⟨es, clock, h1, _⟩ := id h
  exact ⟨h, (Array.getElem?_eq_some_iff.1 h1).1, List.not_mem_nil⟩
noncomputable def GJ3 : Ctr := fun f args m => match f with
 | 17 => g_whole args m
 | 68 => g_accB args m
 | _ => .none
theorem GJ3_ok : GOk Tryd.prog GJ3 := by
 intro w0 B f args m; unfold GJ3; split
 ·exact g_whole_ok _ _ _ _
 ·exact g_accB_ok _ _ _ _
 ·exact trivial
theorem GJ3_whole : GJ3 17 = g_whole := by funext args m; rfl
theorem GJ3_accB : GJ3 68 = g_accB := by funext args m; rfl
def GJ3_set := And.intro (And.intro (@GJ3_whole) (@g_whole.eq_def)) (And.intro (@GJ3_accB) (@g_accB.eq_def))

set_option maxRecDepth 20000 in
theorem Code_vc (acc : List Int → Acc) (wp : Nat) (wc : List SV) (x0 x1 x2 x3 x4 x5 x6 x7 x8 x9 x10 x11 x12 x13 x14 x15 x16 x17 x18 x19 : Int) (ha : okA [x0, x1, x2, x3, x4, x5, x6, x7, x8, x9, x10, x11, x12, x13, x14, x15, x16, x17, x18, x19]) (w : World) (hW : WdH (H0 w) acc wp wc) :
  Calls Tryd.prog 62 (cvs [.gp (some ⟨wp, 0, none⟩) (.cells wc) 0 0 0, .ints .u8 [x0, x1, x2, x3, x4, x5, x6, x7, x8, x9, x10, x11, x12, x13, x14, x15, x16, x17, x18, x19]]).toArray w (fun en w' => ∃ u, en = .returned u ∧ ∃ v' m', u = cv v' ∧ MemOk w [] m' w' ∧ ∃ (x : NbX), NbQ (acc (whole [x0, x1, x2, x3, x4, x5, x6, x7, x8, x9, x10, x11, x12, x13, x14, x15, x16, x17, x18, x19])).c.length (acc (whole [x0, x1, x2, x3, x4, x5, x6, x7, x8, x9, x10, x11, x12, x13, x14, x15, x16, x17, x18, x19])).c x ∧ v' = .gh x.a (acc (whole [x0, x1, x2, x3, x4, x5, x6, x7, x8, x9, x10, x11, x12, x13, x14, x15, x16, x17, x18, x19])).c.length x.c (.ints .u8 (acc (whole [x0, x1, x2, x3, x4, x5, x6, x7, x8, x9, x10, x11, x12, x13, x14, x15, x16, x17, x18, x19])).c) ∧ bget m' 3 = .heap x.h) := by
 obtain ⟨ma, q, rfl, hL, hM, hok⟩ := hW
 obtain ⟨⟨o1, o2, o3, o4⟩, o5⟩ := hok (whole [x0, x1, x2, x3, x4, x5, x6, x7, x8, x9, x10, x11, x12, x13, x14, x15, x16, x17, x18, x19])
 have hLx : ∀ m, allOld w ∈ m → LiesH (HM m) (some ⟨wp, 0, none⟩) (cc (.cells (.mpv 1 ma :: q))) := fun m hin => hL.mono (H0.hm hin)
 have hg := accF_get acc (whole [x0, x1, x2, x3, x4, x5, x6, x7, x8, x9, x10, x11, x12, x13, x14, x15, x16, x17, x18, x19])
 have hin := in_whole ha
 simp only [whole, List.cons_append, List.nil_append, accL] at hg hin o1 o2 o3 o4 o5 ⊢
 have hmo : MemOk w [] [allOld w, .mo ma ck_83 (accF acc)] w := mo_start hM
 refine Vc.calls T0_ok Tryd.func62 rfl rfl (args := [.gp (some ⟨wp, 0, none⟩) (.cells (.mpv 1 ma :: q)) 0 0 0, .ints .u8 [x0, x1, x2, x3, x4, x5, x6, x7, x8, x9, x10, x11, x12, x13, x14, x15, x16, x17, x18, x19]]) (k := 11) rfl hmo ?_; change Vc _ _ (c8 (.gp (some ⟨wp, 0, none⟩) (.cells (.mpv 1 ma :: q)) 0 0 0) (.ints .u8 [x0, x1, x2, x3, x4, x5, x6, x7, x8, x9, x10, x11, x12, x13, x14, x15, x16, x17, x18, x19]) .undef .undef .undef .undef .undef .undef ([.undef, .undef, .undef, .undef, .undef])) _ _
 ((repeat (first | (with_reducible refine Vc.seq fun N hN => ?_) | (with_reducible intro _) | ((with_reducible refine And.intro ?_ ?_); exact sX11) | ((first | ((with_reducible refine Vc.fin ?_); dsimp only [thenK, blockK, retK, resS, resOne, resAll]) | ((with_reducible refine Vc.hold ?_); first | refine Vc.regiont T0_ok GJ3_ok ?_ | refine Vc.drawt (id := 1) T0_ok GJ3_ok (by kernel_rfl) [0, 1, 2, 3, 4, 5] 6 [] trivial (by kernel_rfl) ?_)); (try simp only [v8Y, Nat.beq, Nat.ble, Int.reduceToNat, Int.reduceLE, Int.reduceLT, Nat.reduceLT, Nat.reduceLeDiff, Nat.reduceAdd, Nat.reduceMul, Nat.reduceSub, Int.reduceAdd, Int.reduceSub, Int.reduceMul, tabs, GJ3_set, hg])) | ((with_reducible refine hN _ _ ?_); clear hN N))); (try ((with_reducible refine Fin.of ?_); (try with_reducible exact True.intro))))
 rename_i z hz
 exact ⟨by first | trivial | simp, z, hz, rfl, rfl⟩
noncomputable def g_Code (E : JE) (args : List SV) (m : List Blk) : CR := match args with
 | [.gp (some ⟨wp, 0, none⟩) (.cells wc) 0 0 0, .ints .u8 a] => .grw (okA a ∧ WdH (HM m) E.acc wp wc) NbX (NbQ (E.acc (whole a)).c.length (E.acc (whole a)).c) (fun x => .gh x.a (E.acc (whole a)).c.length x.c (.ints .u8 (E.acc (whole a)).c)) (fun x => .heap x.h)
 | _ => .none
theorem g_Code_ok (E : JE) (w0 : World) (B : List Nat) (args : List SV) (m : List Blk) : CROk Tryd.prog w0 B 62 args m (g_Code E args m) := by
 unfold g_Code; split
 ·rename_i wp wc a
  intro ⟨h1, h2⟩ w hm
  obtain ⟨x0, x1, x2, x3, x4, x5, x6, x7, x8, x9, x10, x11, x12, x13, x14, x15, x16, x17, x18, x19, rfl⟩ := okA_lit h1
  exact calls_grw (A := NbX) (Q := NbQ _ _) (l := NbX.h) (i := 3) Tryd.func62 rfl rfl hm rfl ((Code_vc E.acc wp wc x0 x1 x2 x3 x4 x5 x6 x7 x8 x9 x10 x11 x12 x13 x14 x15 x16 x17 x18 x19 h1 w (h2.mono fun b o h => hm.hm h)).mono fun en w' ⟨u, hu, v', m', hv, hm', x, hq, hvv, hk⟩ => ⟨u, hu, m', x, hm', hq, by rw [hv, hvv], hk⟩)
 ·exact trivial
noncomputable def g_SelW (args : List SV) (m : List Blk) : CR := match args with
 | [.str xs] => .grw (allB xs ∧ xs.length ≤ 1000000 ∧ LiesH (HM m) (some ⟨0, 0, none⟩) (cc (.ints .u64 kKeys)) ∧ LiesH (HM m) (some ⟨1, 0, none⟩) (cc (.ints .u8 kPathI))) NbX (NbQ 4 (selB xs)) (fun x => .gh x.a 4 x.c (.ints .u8 (selB xs))) (fun x => .heap x.h)
 | _ => .none
theorem lies_ro {w : World} {a : Option Addr} {con : Con} (h : LiesH (H0 w) a (cc con)) : MemOk w [] [.ro a con] w := by
 refine ⟨rfl, rfl, rfl, Nat.le_refl _, fun _ _ _ => rfl, fun e he => ?_, by simp [Blk.nums]⟩
 obtain rfl := List.mem_singleton.1 he
 intro j u hj
 rcases h with h | ⟨b, off, arr, t, fr, rfl, h2, h3⟩
 ·rw [h] at hj; cases hj
 ·exact ⟨b, off, rfl, (Array.getElem?_eq_some_iff.1 h2).1, List.not_mem_nil, by simp only [World.cell?, show w.heap[b]? = some (.cells arr t fr) from h2]; exact h3 j u hj⟩
theorem g_SelW_ok (w0 : World) (B : List Nat) (args : List SV) (m : List Blk) : CROk Tryd.prog w0 B 63 args m (g_SelW args m) := by
 unfold g_SelW; split
 ·rename_i xs
  intro ⟨hx, hl, r0, r1⟩ w hm
  have hn : (selB xs).length = 4 := by unfold selB; rw [List.length_take, bytI_len]; rfl
  have h1 := calls_new (A := Option Addr × Nat) (Q := fun p l => NbQ 4 (selB xs) ⟨p.1, p.2, l⟩) (F := fun p => .gh p.1 4 p.2 (.ints .u8 (selB xs))) Tryd.func63 rfl rfl hm ((sel_vc xs hx hl w (ro_front (lies_ro (r1.mono fun b o h => hm.hm h)) (lies_ro (r0.mono fun b o h => hm.hm h)))).mono fun en w' ⟨u, hu, v', m', hv, hm', k, s, hvv, hk⟩ => ⟨u, hu, v', m', hv, hm', fun w2 hm2 => by
   obtain ⟨a, c, e1, e2, e3, e4, e5, e6⟩ := own_lies hm2 hk
   have hs : s = .slice a 32 c := by rw [← own_slV (hm2.each _ (bget_mem hk (by simp))).1]; exact e1
   subst hs
   rcases own_at hm2 hk with rfl | ⟨g, rfl⟩
   ·rcases e2 with e2 | ⟨_, e2, _⟩
    ·cases e2
    ·cases e2
   ·refine ⟨(some ⟨g, 0, none⟩, c), ?_, hn, by show 4 ≤ c; omega, .inl rfl, by unfold maxLen; omega, ?_⟩
    ·rw [hvv]
     have e0 : max 32 c = c := Nat.max_eq_right e3
     simp [cv, capOf, blkOf, blkO, e0, addr_add]
    ·unfold selB
     exact lies_take 4 e6⟩)
  rcases h1 with ⟨u, h2, a, h3⟩ | ⟨h2, h3⟩
  ·exact .inl ⟨u, h2, ⟨a.1.1, a.1.2, a.2⟩, h3⟩
  ·exact .inr ⟨h2, h3.mono fun e w' ⟨u, hu, a, h4⟩ => ⟨u, hu, ⟨a.1.1, a.1.2, a.2⟩, h4⟩⟩
 ·exact trivial
end Go.Proofs.YtoadeekdgikghaaDoor

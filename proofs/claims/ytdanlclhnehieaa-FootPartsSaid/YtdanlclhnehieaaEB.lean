/-
  A symbolic walk of my own: append.
-/
import Derived.Test.YtdanlclhnehieaaE6
import Derived.Maps.AppendAt
import Derived.Great.BuildSlice
namespace Go.Proofs.Ytdanlclhnehieaa
set_option linter.unusedSimpArgs false
set_option linter.unusedVariables false
open Go.RowKit

def conApp (a b : Con) : Option Con :=
  match a, b with
  | .ints k xs, .ints k' ys => match sameK k k' with | true => some (.ints k (xs ++ ys)) | false => none
  | .words xs, .words ys => some (.words (xs ++ ys))
  | .cells xs, .cells ys => some (.cells (xs ++ ys))
  | .rows n xs, .rows n' ys => match Nat.beq n n' with | true => some (.rows n (xs ++ ys)) | false => none
  | _, _ => none
theorem conApp_cells {a b c : Con} (h : conApp a b = some c) : cc c = cc a ++ cc b := by
  unfold conApp at h
  split at h
  · split at h
    · rename_i hk; obtain rfl := sameK_eq hk; simp at h; subst h; simp [cc]
    · cases h
  · simp at h; subst h; simp [cc]
  · simp at h; subst h; simp [cc, cvs_app]
  · split at h
    · simp at h; subst h; simp [cc]
    · cases h
  · cases h
def appS (T : Tab) (t : TypeId) (s x : SV) (m : List Blk) : Option (Prop × Option Nat × Nat × TypeId × Nat × Con) :=
  match T.ty t, srcC x m with
  | .sl e es eb, some (q, k, c) => match conEs c == es with
    | true => match s with
      | .own nm v n => match bget m nm with
        | .own v' n' t' es' con => match conApp con c, es == es' with
          | some con', true => some (q ∧ v = v' ∧ n = n' ∧ t' = e ∧ (n + k) * eb ≤ 140737488355328 ∧ n + k ≤ 9223372036854775807, some nm, n + k, e, es, con')
          | _, _ => none
        | _ => none
      | .nilsl => some (q ∧ k * eb ≤ 140737488355328 ∧ k ≤ 9223372036854775807, none, k, e, es, c)
      | .gh a len cap con => match conApp con c, conEs con == es with
        | some con', true => some (q ∧ LiesH (HM m) a (cc con) ∧ (cc con).length = len * es ∧ 0 < len ∧ len = cap ∧ 0 < k ∧ adr a len cap ∧ (len + k) * eb ≤ 140737488355328 ∧ len + k ≤ 140737488355328, none, len + k, e, es, con')
        | _, _ => none
      | _ => none
    | false => none
  | _, _ => none
theorem ownsRow_less {w : World} {base es n : Nat} {t : TypeId} {v : Value} {xs : List Value} (h : w.ownsRow base t es v n xs) : w.ownsRow 0 t es v n xs :=
  ⟨h.1, h.2.imp id fun ⟨g, cap, cur, h1, _, h3⟩ => ⟨g, cap, cur, h1, Nat.zero_le _, h3⟩⟩
theorem app_gh {P : Program} {w : World} {t ty e : TypeId} {i : TypeInfo} {z : Value} {es eb : Nat} (g1 : P.underlying t = some (.slice e)) (g2 : 0 < es) (g3 : P.info? e = some i) (g4 : i.zero = some z) (g5 : i.size = es) (g6 : i.bytes = eb) (g7 : z.cells.size = es)
    {a : Option Addr} {len cap : Nat} {xs : List Value} (had : adr a len cap) (hL : LiesH (fun b o => w.heap[b]? = some o) a xs) (hl : xs.length = len * es) (h0 : 0 < len) (hc : len = cap)
    {a2 : Addr} {k cp : Nat} {news : List Value} (s1 : news.length = k * es) (s5 : ∀ j u, news[j]? = some u → w.cell? (a2.add j) = some u) (hk : 0 < k) (hb : (len + k) * eb ≤ 140737488355328) (h63 : len + k ≤ 140737488355328) :
    ∃ v w', (Builtin.append_ #[t, t] ty #[.slice a len cap, .slice (some a2) k cp]).run P w = .ok v w' ∧ w.grownBy w' none ∧ w'.ownsRow w.heap.size e es v (len + k) (xs ++ news) := by
  subst g5 g6 hc
  have hpos : 0 < xs.length := by rw [hl]; exact Nat.mul_pos h0 g2
  rcases hL with hx | ⟨b, off, arr, tt, fr, rfl, hh, hcs⟩
  · rw [hx] at hpos; simp at hpos
  have hlen : (xs ++ news).length = (len + k) * i.size := by rw [List.length_append, hl, s1, Nat.add_mul]
  have hr := run_append_grow (P := P) w t ty e i z g1 g3 g4 ⟨b, off, none⟩ len len xs hl (fun j u hj => by rw [addr_add]; simp only [World.cell?, hh]; exact hcs j u hj) a2 k cp news s1 s5 (by omega) (by omega) (growslice_fits (by omega) hb)
  refine ⟨_, _, hr, ⟨rfl, rfl, rfl, by simp, fun k hk _ => heap_alloc_old w.drew _ hk⟩, hlen, .inr ⟨w.heap.size, _, _, rfl, Nat.le_refl _, heap_alloc_new w.drew _, grownCap_ge w _ _ _, grownCap_le_maxLen w _ _ e (by unfold maxLen; omega), ?_, ?_⟩⟩
  · simp only [Array.size_append, List.size_toArray, size_zeroCells, g7, hl, s1, ← Nat.add_mul]
    congr 1
    have := grownCap_ge w (len + k) len e
    omega
  · simp only [Array.toList_append, List.append_assoc]
    rw [← List.append_assoc, ← hlen]
    exact List.take_left
theorem appS_sound {P : Program} {T : Tab} (hT : TabOk P T) {t e ty : TypeId} {s x : SV} {m : List Blk} {p : Prop} {o : Option Nat} {k es : Nat} {con : Con}
    (h : appS T t s x m = some (p, o, k, e, es, con)) (hp : p) {w0 : World} {B : List Nat} {w : World} (hm : MemOk w0 B m w) :
    ∃ v w', (Builtin.append_ #[t, t] ty #[cv s, cv x]).run P w = .ok v w' ∧
      MemOk w0 B (match o with | some nm => bset m nm (.own v k e es con) | none => bpush m (.own v k e es con)) w' ∧ slV v k = v := by
  unfold appS at h
  split at h
  · rename_i e' es' eb q kx c hty hsrc
    have hy := hT.ty t
    rw [hty] at hy
    obtain ⟨g1, g2, i, z, g3, g4, g5, g6, g7⟩ := hy
    split at h
    · rename_i he
      have he' : conEs c = es' := by simpa using he
      split at h
      · rename_i nm v n _
        split at h
        · rename_i v' n' t' es2 con0 hbg
          split at h
          · rename_i con1 hca hes
            simp only [Option.some.injEq, Prod.mk.injEq] at h
            obtain ⟨rfl, rfl, rfl, rfl, rfl, rfl⟩ := h
            obtain ⟨hq, rfl, rfl, rfl, h1, h2⟩ := hp
            have hes' : es' = es2 := by simpa using hes
            subst hes'
            obtain ⟨s1, s2, s3⟩ := srcC_sound hsrc hq hm
            obtain ⟨hown, hownB⟩ := hm.each _ (bget_mem hbg (by simp))
            rw [he'] at s1
            rcases s3 with ⟨a, cp, s4, s5⟩ | ⟨s4, rfl⟩
            · obtain ⟨v1, w1, r1, r2, r3, _, r4⟩ := run_append_own_at (P := P) (w := w) 0 t ty t' i z es' eb g1 g3 g4 g5 g6 (by rw [← g5]; rw [g7, g5]) g2 v n (cc con0) hown a kx cp (cc c) s1 s5 s2
                (by unfold maxLen; omega) h1 (Nat.zero_le _)
              refine ⟨v1, w1, by rw [s4]; simpa only [cv, own_slV hown] using r1, ?_, own_slV r2⟩
              refine hm.turn hbg (by simp) r3 (fun b hb => by simp [Blk.nums, hb]) (fun b hb => hownB b (by simpa [Blk.nums] using hb)) ⟨by rw [conApp_cells hca]; exact r2, fun b hb => ?_⟩ (fun b hb => ?_)
              · rcases r4 with r4 | r4
                · exact hownB b (r4 ▸ hb)
                · rw [r4] at hb; cases hb; exact .inl hm.size
              · simp only [Blk.nums, Option.mem_toList] at hb ⊢
                rcases r4 with r4 | r4
                · exact .inl (r4 ▸ hb)
                · rw [r4] at hb; simp at hb; exact .inr (by omega)
            · have hce : cc c = [] := List.eq_nil_of_length_eq_zero (by rw [s1, Nat.zero_mul])
              refine ⟨v, w, by rw [s4]; simpa only [cv, own_slV hown] using run_append_owned_none (P := P) w 0 t ty t' i es' g1 g3 v n (cc con0) hown, ?_, own_slV hown⟩
              refine hm.turn hbg (by simp) (row := none) ⟨rfl, rfl, rfl, Nat.le_refl _, fun _ _ _ => rfl⟩ (fun b hb => by cases hb) (fun b hb => hownB b (by simpa [Blk.nums] using hb)) ⟨by rw [conApp_cells hca, hce, List.append_nil, Nat.add_zero]; exact hown, hownB⟩ (fun b hb => .inl hb)
          · cases h
        · cases h
      · simp only [Option.some.injEq, Prod.mk.injEq] at h
        obtain ⟨rfl, rfl, rfl, rfl, rfl, rfl⟩ := h
        obtain ⟨hq, h1, h2⟩ := hp
        obtain ⟨s1, s2, s3⟩ := srcC_sound hsrc hq hm
        rw [he'] at s1
        have hown := World.ownsRow_nil w 0 e' es'
        rcases s3 with ⟨a, cp, s4, s5⟩ | ⟨s4, rfl⟩
        · obtain ⟨v1, w1, r1, r2, r3, _, r4⟩ := run_append_own_at (P := P) (w := w) 0 t ty e' i z es' eb g1 g3 g4 g5 g6 (by rw [← g5]; rw [g7, g5]) g2 (.slice none 0 0) 0 [] hown a kx cp (cc c) s1 s5 s2
            (by unfold maxLen; omega) (by rw [Nat.zero_add]; exact h1) (Nat.zero_le _)
          rw [Nat.zero_add] at r2
          refine ⟨v1, w1, by rw [s4]; simpa only [cv] using r1, ?_, own_slV r2⟩
          show MemOk w0 B (bpush m _) w1
          rw [bpush_eq]
          have hnb : ∀ b, v1.ownBlock = some b → w.heap.size ≤ b := fun b hb => by
            rcases r4 with r4 | r4
            · rw [r4] at hb; simp [Value.ownBlock] at hb
            · rw [r4] at hb; simp at hb; omega
          refine hm.push (by simpa [Value.ownBlock] using r3) ⟨r2, fun b hb => .inl (Nat.le_trans hm.size (hnb b hb))⟩ (fun b hb => ?_)
          simp only [Blk.nums, Option.mem_toList] at hb
          exact hnb b hb
        · have hce : cc c = [] := List.eq_nil_of_length_eq_zero (by rw [s1, Nat.zero_mul])
          refine ⟨.slice none 0 0, w, by rw [s4]; simpa only [cv] using run_append_owned_none (P := P) w 0 t ty e' i es' g1 g3 _ 0 [] hown, ?_, rfl⟩
          show MemOk w0 B (bpush m _) w
          rw [bpush_eq]
          refine hm.push ⟨rfl, rfl, rfl, Nat.le_refl _, fun _ _ _ => rfl⟩ ⟨by rw [hce]; exact hown, fun b hb => by simp [Value.ownBlock] at hb⟩ (fun b hb => by simp [Blk.nums, Value.ownBlock] at hb)
      · rename_i a len cap con0
        split at h
        · rename_i con1 hca hes
          simp only [Option.some.injEq, Prod.mk.injEq] at h
          obtain ⟨rfl, rfl, rfl, rfl, rfl, rfl⟩ := h
          obtain ⟨hq, hL, hl, h0, hc, hk, had, hb, h63⟩ := hp
          obtain ⟨s1, s2, s3⟩ := srcC_sound hsrc hq hm
          rw [he'] at s1
          rcases s3 with ⟨a2, cp, s4, s5⟩ | ⟨s4, rfl⟩
          · obtain ⟨v1, w1, r1, r2, r3⟩ := app_gh (ty := ty) g1 g2 g3 g4 g5 g6 (by rw [← g5]; rw [g7, g5]) had (hL.mono fun b o h => hm.hm h) hl h0 hc s1 s5 hk hb h63
            refine ⟨v1, w1, by rw [s4]; simpa only [cv] using r1, ?_, own_slV r3⟩
            show MemOk w0 B (bpush m _) w1
            rw [bpush_eq]
            have hnb : ∀ b, v1.ownBlock = some b → w.heap.size ≤ b := fun b hb => (r3.lt b hb).1
            refine hm.push r2 ⟨by rw [conApp_cells hca]; exact (ownsRow_less r3), fun b hb => .inl (Nat.le_trans hm.size (hnb b hb))⟩ (fun b hb => ?_)
            simp only [Blk.nums, Option.mem_toList] at hb
            exact hnb b hb
          · omega
        · cases h
      · cases h
    · cases h
  · cases h
theorem run_append_room_off {P : Program} (w : World) (t ty e : TypeId) (i : TypeInfo) (ht : P.underlying t = some (.slice e)) (hi : P.info? e = some i)
    (g off sLen sCap : Nat) (cur : Array Value) (hg : w.heap[g]? = some (.cells cur e (0, 0)))
    (a : Addr) (m c : Nat) (news : List Value) (hl : news.length = m * i.size) (hnews : ∀ j u, news[j]? = some u → w.cell? (a.add j) = some u) (h1 : ∀ u ∈ news, u.oneCell' = true)
    (hroom : sLen + m ≤ sCap) (hfit : off + sLen * i.size + news.length ≤ cur.size) :
    (Builtin.append_ #[t, t] ty #[.slice (some ⟨g, off, none⟩) sLen sCap, .slice (some a) m c]).run P w =
      .ok (.slice (some ⟨g, off, none⟩) (sLen + m) sCap) (w.setRow g (cur.toList.take (off + sLen * i.size) ++ news ++ cur.toList.drop (off + sLen * i.size + news.length)).toArray) := by
  have hf := run_firstCells_some (P := P) w i.size m a m c news hl hnews
  have hst := run_storeCells_at P g (off + sLen * i.size) e news 0 cur w hg (by simpa using hfit) h1
  simp only [Nat.add_zero] at hst
  simp [Builtin.append_, run_underlying ht, sizeOf, typeInfo, hi, Builtin.lenOf, hroom, hf, addr_add, hst]
abbrev AppA := Value × List Int
def appP (T : Tab) (t : TypeId) (s x : SV) (m : List Blk) : Option (Prop × (AppA → Prop) × (AppA → SV) × (AppA → List Blk)) :=
  match s with
  | .sl nm a st _ es len cap => match es, T.ty t, bget m nm, srcC x m with
    | 1, .sl e 1 1, .own v n e' 1 (.ints .u8 xs), some (q, k, .ints .u8 ys) =>
      some (q ∧ e' = e ∧ a = some ⟨blkOf v, 0, none⟩ ∧ 0 < len ∧ st + len = n ∧ cap = max n (capOf v) - st ∧ len + k ≤ 140737488355328,
        fun z => z.2 = xs.take st ∨ z.2 = [], fun z => .sl nm (some ⟨blkOf z.1, 0, none⟩) z.2.length z.2.length 1 (len + k) (max (z.2.length + (len + k)) (capOf z.1) - z.2.length),
        fun z => bset m nm (.own z.1 (z.2.length + (len + k)) e 1 (.ints .u8 (z.2 ++ (xs.drop st ++ ys)))))
    | _, _, _, _ => none
  | _ => none
theorem appP_sound {P : Program} {T : Tab} (hT : TabOk P T) {t ty : TypeId} {s x : SV} {m : List Blk} {p : Prop} {Q : AppA → Prop} {f : AppA → SV} {g : AppA → List Blk}
    (h : appP T t s x m = some (p, Q, f, g)) (hp : p) {w0 : World} {B : List Nat} {w : World} (hm : MemOk w0 B m w) :
    ∃ (z : AppA) (w' : World), (Builtin.append_ #[t, t] ty #[cv s, cv x]).run P w = .ok (cv (f z)) w' ∧ Q z ∧ MemOk w0 B (g z) w' := by
  unfold appP at h
  split at h
  · rename_i nm a st st0 es len cap
    split at h
    · rename_i e v n e' xs q k ys hty hbg hsrc
      simp only [Option.some.injEq, Prod.mk.injEq] at h
      obtain ⟨rfl, rfl, rfl, rfl⟩ := h
      obtain ⟨hq, rfl, rfl, hl0, hn, rfl, hmx⟩ := hp
      have hy := hT.ty t
      rw [hty] at hy
      obtain ⟨g1, g2, i, z, g3, g4, g5, g6, g7⟩ := hy
      obtain ⟨s1, s2, s3⟩ := srcC_sound hsrc hq hm
      have hyl : ys.length = k := by simpa [cc, conEs] using s1
      obtain ⟨⟨ho1, ho2⟩, ho3⟩ := hm.each _ (bget_mem hbg (by simp))
      have hxl : xs.length = n := by simpa [cc] using ho1
      rcases ho2 with ⟨_, h0⟩ | ⟨b, cap0, cur, rfl, _, o3, o4, o5, o6, o7⟩
      · omega
      simp only [Nat.mul_one] at o6 o7
      have hcl : cur.toList.length = cap0 := by simpa using o6
      simp only [blkOf, blkO, capOf] at *
      rw [Nat.max_eq_right o4]
      have e1 : cv (.sl nm (some ⟨b, 0, none⟩) st st0 1 len (cap0 - st)) = .slice (some ⟨b, st, none⟩) len (cap0 - st) := by
        simp only [cv, Option.map_some, addr_add, Nat.mul_one, Nat.zero_add]
        rw [if_neg (by omega)]
      have e2 : ∀ (b' p' l' c' : Nat), cv (.sl nm (some ⟨b', 0, none⟩) p' p' 1 l' c') = .slice (some ⟨b', p', none⟩) l' c' := fun b' p' l' c' => by
        simp only [cv, Option.map_some, addr_add, Nat.mul_one, Nat.zero_add, ite_self]
      have htl : (xs.take st).length = st := by rw [List.length_take]; omega
      have hxs : xs.take st ++ (xs.drop st ++ ys) = xs ++ ys := by rw [← List.append_assoc, List.take_append_drop]
      have hdl : (xs.drop st).length = len := by rw [List.length_drop]; omega
      have hoff : ∀ j u, (cc (.ints .u8 (xs.drop st)))[j]? = some u → w.cell? ((⟨b, st, none⟩ : Addr).add j) = some u := fun j u hj => by
        have h5 : (cc (.ints .u8 xs))[st + j]? = some u := by
          simp only [cc, List.getElem?_map, List.getElem?_drop] at hj ⊢; exact hj
        rw [← o7, List.getElem?_take] at h5
        split at h5
        · rw [addr_add]; simp only [World.cell?, o3]; simpa using h5
        · cases h5
      rcases s3 with ⟨a2, cp, s4, s5⟩ | ⟨s4, rfl⟩
      · by_cases hroom : len + k ≤ cap0 - st
        · have hr := run_append_room_off (P := P) w t ty e' i g1 g3 b st len (cap0 - st) cur o3 a2 k cp (cc (.ints .u8 ys)) (by rw [s1]; simp [conEs, g5]) s5 s2 hroom (by simp only [cc, List.length_map, hyl, g5, o6]; omega)
          refine ⟨(.slice (some ⟨b, 0, none⟩) (n + k) cap0, xs.take st), w.setRow b (cur.toList.take (st + len * i.size) ++ cc (.ints .u8 ys) ++ cur.toList.drop (st + len * i.size + (cc (.ints .u8 ys)).length)).toArray, ?_, .inl rfl, ?_⟩
          · rw [e1, s4, hr, e2, htl]
            simp only [capOf]
            rw [show max (st + (len + k)) cap0 = cap0 by omega]
          · simp only [htl, hxs]
            refine hm.turn hbg (by simp) (setRow_grown _ _ _) (fun b' hb => by cases hb; simp [Blk.nums, Value.ownBlock]) (fun b' hb => by simp [Blk.nums, Value.ownBlock] at hb; subst hb; exact ho3 _ rfl) ⟨⟨?_, .inr ⟨b, cap0, _, ?_, Nat.zero_le _, setRow_E o3, by omega, o5, ?_, ?_⟩⟩, fun b' hb => ho3 b' (by simpa [Value.ownBlock] using hb)⟩ (fun b' hb => .inl (by simpa [Blk.nums, Value.ownBlock] using hb))
            · simp [cc]; omega
            · rw [show st + (len + k) = n + k by omega]
            · simp [cc, g5]; omega
            · rw [show st + len * i.size = n by rw [g5]; omega]
              have e3 : cc (.ints .u8 (xs ++ ys)) = cc (.ints .u8 xs) ++ cc (.ints .u8 ys) := by simp [cc]
              rw [e3, ← o7, List.toList_toArray]
              have hl1 : (cur.toList.take n ++ cc (.ints .u8 ys)).length = (st + (len + k)) * 1 := by
                rw [List.length_append, List.length_take, hcl]; simp only [cc, List.length_map, hyl]; omega
              rw [← hl1]
              exact List.take_left
        · have hr := run_append_grow (P := P) w t ty e' i z g1 g3 g4 ⟨b, st, none⟩ len (cap0 - st) (cc (.ints .u8 (xs.drop st))) (by simp only [cc, List.length_map, hdl, g5]; omega) hoff a2 k cp (cc (.ints .u8 ys)) (by rw [s1]; simp [conEs, g5]) s5 (by omega) (by omega) (growslice_fits (by omega) (by rw [g6]; omega))
          refine ⟨(.slice (some ⟨w.heap.size, 0, none⟩) (len + k) (grownCap w (len + k) (cap0 - st) e'), []), w.drew.alloc (.cells ((cc (.ints .u8 (xs.drop st))).toArray ++ (cc (.ints .u8 ys)).toArray ++ Builtin.zeroCells z.cells (grownCap w (len + k) (cap0 - st) e' - (len + k))) e'), ?_, .inr rfl, ?_⟩
          · rw [e1, s4, hr, e2]
            have h5 := grownCap_ge w (len + k) (cap0 - st) e'
            simp only [capOf, List.length_nil, Nat.zero_add, Nat.sub_zero]
            rw [Nat.max_eq_right h5]
          · have hnb : w0.heap.size ≤ w.heap.size := hm.size
            have hgm := grownCap_le_maxLen w (len + k) (cap0 - st) e' (by unfold maxLen; omega)
            refine hm.turn hbg (by simp) (row := none) ⟨rfl, rfl, rfl, by simp, fun k hk _ => heap_alloc_old w.drew _ hk⟩ (fun b' hb => by cases hb) (fun b' hb => by simp [Blk.nums, Value.ownBlock] at hb; subst hb; exact ho3 _ rfl) ⟨⟨?_, .inr ⟨w.heap.size, _, _, ?_, Nat.zero_le _, heap_alloc_new w.drew _, ?_, hgm, ?_, ?_⟩⟩, fun b' hb => by simp [Value.ownBlock] at hb; subst hb; exact .inl hnb⟩ (fun b' hb => by simp [Blk.nums, Value.ownBlock] at hb; subst hb; exact .inr (Nat.le_refl _))
            · simp [cc]; omega
            · simp only [List.length_nil, Nat.zero_add]
            · simp only [List.length_nil, Nat.zero_add]; exact grownCap_ge w _ _ _
            · have h5 := grownCap_ge w (len + k) (cap0 - st) e'
              have h6 : z.cells.size = 1 := by rw [g7]
              simp only [Array.size_append, List.size_toArray, size_zeroCells, h6, cc, List.length_map, hdl, hyl]; omega
            · have e3 : cc (.ints .u8 ([] ++ (xs.drop st ++ ys))) = cc (.ints .u8 (xs.drop st)) ++ cc (.ints .u8 ys) := by simp [cc]
              rw [e3]
              simp only [Array.toList_append, List.append_assoc]
              have hl1 : (cc (.ints .u8 (xs.drop st)) ++ cc (.ints .u8 ys)).length = (([] : List Int).length + (len + k)) * 1 := by
                simp only [List.length_append, cc, List.length_map, hdl, hyl, List.length_nil]; omega
              rw [← List.append_assoc, ← hl1]
              exact List.take_left
      · refine ⟨(.slice (some ⟨b, 0, none⟩) (n + 0) cap0, xs.take st), w, ?_, .inl rfl, ?_⟩
        · rw [e1, s4, e2, htl]
          have hle : len ≤ cap0 - st := by omega
          have hmx2 : max (st + len) cap0 = cap0 := by omega
          simp [Builtin.append_, run_underlying g1, sizeOf, typeInfo, g3, Builtin.lenOf, Builtin.firstCells, loadCells, loadCellsFrom, hle, storeCells, capOf, hmx2]
        · have hy0 : ys = [] := List.eq_nil_of_length_eq_zero hyl
          subst hy0
          simp only [htl, hxs, Nat.add_zero, List.append_nil]
          refine hm.turn hbg (by simp) (row := none) ⟨rfl, rfl, rfl, Nat.le_refl _, fun _ _ _ => rfl⟩ (fun b' hb => by cases hb) (fun b' hb => by simp [Blk.nums, Value.ownBlock] at hb; subst hb; exact ho3 _ rfl) ⟨⟨?_, .inr ⟨b, cap0, cur, ?_, Nat.zero_le _, o3, by omega, o5, by omega, ?_⟩⟩, fun b' hb => ho3 b' (by simpa [Value.ownBlock] using hb)⟩ (fun b' hb => .inl (by simpa [Blk.nums, Value.ownBlock] using hb))
          · simp [cc]; omega
          · rw [hn]
          · rw [Nat.mul_one, hn, List.take_append_drop]; exact o7
    · cases h
  · cases h
end Go.Proofs.Ytdanlclhnehieaa

/-
  A symbolic walk of my own: a string's bytes put behind a slice.
-/
namespace Go.Proofs.Ytdanlclhnehieaa
set_option linter.unusedSimpArgs false
set_option linter.unusedVariables false
open Go.RowKit Go.Lib
theorem strCells_bytes {xs : List Int} (h : allB xs) : strCells (bytesOf xs) = xs.map (Value.int .u8) := by
  unfold strCells
  rw [bytesOf_data, List.map_map]
  apply List.map_congr_left
  intro x hx
  simp only [Function.comp, byte_back (h x hx)]
theorem append_str {P : Program} {w : World} (base : Nat) (t u ty e : TypeId) (i : TypeInfo) (ht : P.underlying t = some (.slice e)) (hu : P.underlying u = some .string) (hi : P.info? e = some i) (hz : i.zero = some (.int .u8 0))
    (hsize : i.size = 1) (hby : i.bytes = 1) (v : Value) (n : Nat) (xs : List Value) (hown : w.ownsRow base e 1 v n xs) (s : ByteArray) (h63 : n + s.size ≤ maxLen) (hbytes : n + s.size ≤ 140737488355328) (hbase : base ≤ w.heap.size) :
    ∃ v' w', (Builtin.append_ #[t, u] ty #[v, .string s]).run P w = .ok v' w' ∧ w'.ownsRow base e 1 v' (n + s.size) (xs ++ strCells s) ∧ w.grownBy w' v.ownBlock ∧ (v'.ownBlock = v.ownBlock ∨ v'.ownBlock = some w.heap.size) := by
  obtain ⟨v', w', r1, r2, r3, r4⟩ := run_append_own_string (P := P) (w := w) base t u ty e i ht hu hi hz hsize hby v n xs hown s h63 hbytes hbase
  refine ⟨v', w', r1, r2, r3, ?_⟩
  rcases hown.2 with ⟨rfl, rfl⟩ | ⟨g, cap, cur, rfl, hbg, hg, hnc, hcm, hcs, _⟩
  · by_cases hm : s.size = 0
    · exact .inl (by rw [r4.2 ⟨rfl, hm⟩])
    · have hr := run_append_nil_string (P := P) w t u ty e i (.int .u8 0) ht hu hi hz s (by omega) (by omega) (by rw [hby]; omega)
      rw [r1] at hr
      simp only [Result.ok.injEq] at hr
      exact .inr (by rw [hr.1]; rfl)
  · by_cases hroom : n + s.size ≤ cap
    · have hr := run_append_room_string (P := P) w t u ty e i ht hu hi hsize g n cap cur hg s hroom (by rw [hcs]; omega)
      rw [r1] at hr
      simp only [Result.ok.injEq] at hr
      exact .inl (by rw [hr.1]; rfl)
    · have hr := run_append_grow_string (P := P) w t u ty e i (.int .u8 0) ht hu hi hz ⟨g, 0, none⟩ n cap xs (by rw [hsize]; exact hown.1) (hown.cells (g := g) rfl) s (by omega) (by omega) (by rw [hby]; exact growslice_fits (by omega) (by omega))
      rw [r1] at hr
      simp only [Result.ok.injEq] at hr
      exact .inr (by rw [hr.1]; rfl)
theorem own_base {w : World} {b b' : Nat} {t : TypeId} {es n : Nat} {v : Value} {xs : List Value} (h : w.ownsRow b t es v n xs) (hb : b' ≤ b) : w.ownsRow b' t es v n xs := by
  obtain ⟨h1, h2⟩ := h
  exact ⟨h1, h2.imp id (fun ⟨g, cap, cur, a, c, d⟩ => ⟨g, cap, cur, a, Nat.le_trans hb c, d⟩)⟩
theorem own_fresh {w : World} {b : Nat} {t : TypeId} {es n : Nat} {v : Value} {xs : List Value} (h : w.ownsRow b t es v n xs) {k : Nat} (hk : v.ownBlock = some k) : b ≤ k := by
  obtain ⟨h1, h2 | ⟨g, cap, cur, rfl, c, d⟩⟩ := h
  · rw [h2.1] at hk; simp [Value.ownBlock] at hk
  · simp [Value.ownBlock] at hk; omega
theorem own_ok {w0 w : World} {B : List Nat} {b : Nat} {t : TypeId} {es n : Nat} {v : Value} {con : Con} (h : w.ownsRow b t es v n (cc con)) (hb : w0.heap.size ≤ b) : Blk.ok w0 B w (.own v n t es con) :=
  ⟨own_base h (Nat.zero_le _), fun k hk => .inl (Nat.le_trans hb (own_fresh h hk))⟩
def appT (T : Tab) (t u : TypeId) (s x : SV) (m : List Blk) : Option (Prop × Option Nat × Nat × TypeId × Nat × Con) :=
  match T.ty t, T.ty u, x with
  | .sl e 1 1, .str, .str xs => match T.ty e, s with
    | .int .u8, .own nm v n => match bget m nm with
      | .own v' n' t' 1 (.ints .u8 ys) => some (v = v' ∧ n = n' ∧ t' = e ∧ allB xs ∧ n + xs.length ≤ 140737488355328, some nm, n + xs.length, e, 1, .ints .u8 (ys ++ xs))
      | _ => none
    | .int .u8, .nilsl => some (allB xs ∧ xs.length ≤ 140737488355328, none, xs.length, e, 1, .ints .u8 xs)
    | _, _ => none
  | _, _, _ => none
theorem appT_new {P : Program} {T : Tab} (hT : TabOk P T) {t u e ty : TypeId} {s x : SV} {m : List Blk} {p : Prop} {k es : Nat} {con : Con}
    (h : appT T t u s x m = some (p, none, k, e, es, con)) (hp : p) {w0 : World} {B : List Nat} {w : World} (hm : MemOk w0 B m w) :
    ∃ v w', (Builtin.append_ #[t, u] ty #[cv s, cv x]).run P w = .ok v w' ∧ w.grownBy w' none ∧ w'.ownsRow w.heap.size e es v k (cc con) := by
  unfold appT at h
  split at h
  · rename_i e' xs hty hut
    have hy := hT.ty t
    rw [hty] at hy
    have hu := hT.ty u
    rw [hut] at hu
    split at h
    · rename_i nm v n hte
      split at h <;> cases h
    · rename_i hte
      obtain ⟨i, g3, g4, g5, g6⟩ := hT.b8 e' hte
      simp only [Option.some.injEq, Prod.mk.injEq, true_and] at h
      obtain ⟨rfl, rfl, rfl, rfl, rfl⟩ := h
      obtain ⟨hb, h1⟩ := hp
      have hlen := bytesOf_size xs
      obtain ⟨v1, w1, r1, r2, r3, r4⟩ := append_str (P := P) (w := w) w.heap.size t u ty e' i hy.1 hu g3 g4 g5 g6 (.slice none 0 0) 0 [] (World.ownsRow_nil _ _ _ _) (bytesOf xs) (by rw [hlen]; unfold maxLen; omega) (by rw [hlen]; omega) (Nat.le_refl _)
      rw [hlen, strCells_bytes hb, Nat.zero_add, List.nil_append] at r2
      exact ⟨v1, w1, r1, r3, r2⟩
    · cases h
  · cases h
theorem appT_sound {P : Program} {T : Tab} (hT : TabOk P T) {t u e ty : TypeId} {s x : SV} {m : List Blk} {p : Prop} {o : Option Nat} {k es : Nat} {con : Con}
    (h : appT T t u s x m = some (p, o, k, e, es, con)) (hp : p) {w0 : World} {B : List Nat} {w : World} (hm : MemOk w0 B m w) :
    ∃ v w', (Builtin.append_ #[t, u] ty #[cv s, cv x]).run P w = .ok v w' ∧
      MemOk w0 B (match o with | some nm => bset m nm (.own v k e es con) | none => bpush m (.own v k e es con)) w' ∧ slV v k = v := by
  unfold appT at h
  split at h
  · rename_i e' xs hty hut _
    have hy := hT.ty t
    rw [hty] at hy
    have hu := hT.ty u
    rw [hut] at hu
    split at h
    · rename_i nm v n hte _
      obtain ⟨i, g3, g4, g5, g6⟩ := hT.b8 e' hte
      split at h
      · rename_i v' n' t' ys hbg
        simp only [Option.some.injEq, Prod.mk.injEq] at h
        obtain ⟨rfl, rfl, rfl, rfl, rfl, rfl⟩ := h
        obtain ⟨rfl, rfl, rfl, hb, h1⟩ := hp
        obtain ⟨hown, hownB⟩ := hm.each _ (bget_mem hbg (by simp))
        have hlen := bytesOf_size xs
        obtain ⟨v1, w1, r1, r2, r3, r4⟩ := append_str (P := P) (w := w) 0 t u ty t' i hy.1 hu g3 g4 g5 g6 v n (cc (.ints .u8 ys)) hown (bytesOf xs) (by rw [hlen]; unfold maxLen; omega) (by rw [hlen]; exact h1) (Nat.zero_le _)
        rw [hlen, strCells_bytes hb] at r2
        refine ⟨v1, w1, by simpa only [cv, own_slV hown] using r1, ?_, own_slV r2⟩
        refine hm.turn hbg (by simp) r3 (fun b hb => by simp [Blk.nums, hb]) (fun b hb => hownB b (by simpa [Blk.nums] using hb)) ⟨by rw [show cc (.ints .u8 (ys ++ xs)) = cc (.ints .u8 ys) ++ xs.map (Value.int .u8) by simp [cc]]; exact r2, fun b hb => ?_⟩ (fun b hb => ?_)
        · rcases r4 with r4 | r4
          · exact hownB b (r4 ▸ hb)
          · rw [r4] at hb; cases hb; exact .inl hm.size
        · simp only [Blk.nums, Option.mem_toList] at hb ⊢
          rcases r4 with r4 | r4
          · exact .inl (r4 ▸ hb)
          · rw [r4] at hb; simp at hb; exact .inr (by omega)
      · cases h
    · rename_i hte _
      have h0 : o = none := by
        simp only [Option.some.injEq, Prod.mk.injEq] at h
        exact h.2.1.symm
      subst h0
      have h' : appT T t u .nilsl (.str xs) m = some (p, none, k, e, es, con) := by unfold appT; simp only [hty, hut, hte]; exact h
      obtain ⟨v, w', r1, r2, r3⟩ := appT_new (ty := ty) hT h' hp hm
      refine ⟨v, w', r1, ?_, own_slV r3⟩
      show MemOk w0 B (bpush m (.own v k e es con)) w'
      rw [bpush_eq]
      exact hm.push r2 (own_ok r3 hm.size) (fun b hb => own_fresh r3 (by simpa [Blk.nums] using hb))
    · cases h
  · cases h
end Go.Proofs.Ytdanlclhnehieaa

/-
  A symbolic walk of my own: a slice's literal.
-/
namespace Go.Proofs.Ytdanlclhnehieaa
set_option linter.unusedSimpArgs false
set_option linter.unusedVariables false
open Go.RowKit
def ordL : Nat → List (Nat × SV) → Option (List SV)
  | _, [] => some []
  | i, (j, x) :: l => match Nat.beq j i, ordL (i + 1) l with | true, some r => some (x :: r) | _, _ => none
theorem ordL_some : ∀ {i : Nat} {l : List (Nat × SV)} {r : List SV}, ordL i l = some r → l.map (fun p => (p.1, cv p.2)) = (((r.map cv).zipIdx i).map fun x => (x.2, x.1))
  | _, [], r, h => by simp [ordL] at h; subst h; rfl
  | i, (j, x) :: l, r, h => by
    simp only [ordL] at h
    split at h
    · rename_i r' hj hr
      simp only [Option.some.injEq] at h
      subst h
      have hj' : j = i := Nat.eq_of_beq_eq_true hj
      subst hj'
      simp [List.zipIdx_cons, ordL_some hr]
    · cases h
def intL (k : IntKind) : List SV → Option (List Int)
  | [] => some []
  | .int k' n :: l => match sameK k k', intL k l with | true, some r => some (n :: r) | _, _ => none
  | _ :: _ => none
def wordL : List SV → Option (List Nat)
  | [] => some []
  | .word a :: l => match wordL l with | some r => some (a :: r) | none => none
  | _ :: _ => none
def rowL (s : Nat) : List SV → Option (List (List SV))
  | [] => some []
  | x :: l => match cellsOf x, rowL s l with | some cs, some r => (match Nat.beq cs.length s, allOne cs with | true, true => some (cs :: r) | _, _ => none) | _, _ => none
def litC (y : Ty) (es : Nat) (xs : List SV) : Option Con :=
  match y with
  | .int k => match Nat.beq es 1, intL k xs with | true, some zs => some (.ints k zs) | _, _ => none
  | .word => match Nat.beq es 4, wordL xs with | true, some as => some (.words as) | _, _ => none
  | .struct s _ => match Nat.beq es s, rowL s xs with | true, some r => some (.rows s r) | _, _ => none
  | .other => none
  | .arr _ _ _ _ => none
  | _ => match Nat.beq es 1, allOne xs with | true, true => some (.cells xs) | _, _ => none
theorem intL_some {k : IntKind} : ∀ {xs : List SV} {zs : List Int}, intL k xs = some zs → xs.map cv = zs.map (Value.int k)
  | [], zs, h => by simp [intL] at h; subst h; rfl
  | x :: l, zs, h => by
    cases x <;> simp only [intL, reduceCtorEq] at h
    split at h
    · rename_i r hk hr
      obtain rfl := sameK_eq hk
      simp only [Option.some.injEq] at h
      subst h
      simp [intL_some hr, cv]
    · cases h
theorem wordL_some : ∀ {xs : List SV} {as : List Nat}, wordL xs = some as → xs.map cv = as.map fun a => Value.agg (wcs a).toArray
  | [], as, h => by simp [wordL] at h; subst h; rfl
  | x :: l, as, h => by
    cases x <;> simp only [wordL, reduceCtorEq] at h
    split at h
    · rename_i r hr
      simp only [Option.some.injEq] at h
      subst h
      simp [wordL_some hr, cv]
    · cases h
theorem rowL_some {s : Nat} : ∀ {xs : List SV} {rs : List (List SV)}, rowL s xs = some rs → (∀ v ∈ xs.map cv, v.cells.size = s) ∧ ((xs.map cv).flatMap fun v => v.cells.toList) = rs.flatMap cvs
  | [], rs, h => by simp [rowL] at h; subst h; simp
  | x :: l, rs, h => by
    simp only [rowL] at h
    split at h
    · rename_i cs r hc hr
      split at h
      · rename_i hs _
        simp only [Option.some.injEq] at h
        subst h
        obtain ⟨h1, h2⟩ := rowL_some hr
        have h3 := cellsOf_some hc
        have h4 : cs.length = s := Nat.eq_of_beq_eq_true hs
        refine ⟨fun v hv => ?_, ?_⟩
        · rcases List.mem_cons.1 (by simpa using hv : v ∈ cv x :: l.map cv) with rfl | hv
          · rw [h3]; simp [cvs_len, h4]
          · exact h1 v hv
        · simp only [List.map_cons, List.flatMap_cons, h2, h3]
      · cases h
    · cases h
theorem one_cells {x : SV} (h : oneS x = true) : (cv x).cells = #[cv x] := by
  unfold oneS at h
  split at h <;> first | rfl | exact Bool.noConfusion h | (rename_i v _; cases v <;> rfl)
theorem litC_some {y : Ty} {es : Nat} {xs : List SV} {con : Con} (h : litC y es xs = some con) : (∀ v ∈ xs.map cv, v.cells.size = es) ∧ ((xs.map cv).flatMap fun v => v.cells.toList) = cc con := by
  have one : ∀ {es : Nat} {xs : List SV} {con : Con}, (match Nat.beq es 1, allOne xs with | true, true => some (Con.cells xs) | _, _ => none) = some con → (∀ v ∈ xs.map cv, v.cells.size = es) ∧ ((xs.map cv).flatMap fun v => v.cells.toList) = cc con := by
    intro es xs con h
    split at h
    · rename_i he ha
      obtain rfl := Nat.eq_of_beq_eq_true he
      simp only [Option.some.injEq] at h
      subst h
      have hall : ∀ {xs : List SV}, allOne xs = true → ∀ x ∈ xs, oneS x = true := by
        intro xs
        induction xs with
        | nil => intro _ x hx; cases hx
        | cons z l ih =>
          intro h x hx
          simp only [allOne] at h
          split at h
          · rename_i hz
            rcases List.mem_cons.1 hx with rfl | hx
            · exact hz
            · exact ih h x hx
          · cases h
      have h1 := hall ha
      refine ⟨fun v hv => ?_, ?_⟩
      · obtain ⟨x, hx, rfl⟩ := List.mem_map.1 hv
        rw [one_cells (h1 x hx)]; rfl
      · simp only [cc, cvs_eq]
        clear ha
        induction xs with
        | nil => rfl
        | cons x l ih =>
          rw [List.map_cons, List.flatMap_cons, ih (fun y hy => h1 y (List.mem_cons_of_mem _ hy)), one_cells (h1 x List.mem_cons_self)]
          rfl
    · cases h
  unfold litC at h
  split at h
  · rename_i k
    split at h
    · rename_i zs he hz
      obtain rfl := Nat.eq_of_beq_eq_true he
      simp only [Option.some.injEq] at h
      subst h
      rw [intL_some hz]
      refine ⟨fun v hv => ?_, ?_⟩
      · obtain ⟨z, _, rfl⟩ := List.mem_map.1 hv; rfl
      · simp only [cc]
        clear hz
        induction zs with
        | nil => rfl
        | cons z l ih => rw [List.map_cons, List.flatMap_cons, ih]; rfl
    · cases h
  · split at h
    · rename_i as he hz
      obtain rfl := Nat.eq_of_beq_eq_true he
      simp only [Option.some.injEq] at h
      subst h
      rw [wordL_some hz]
      refine ⟨fun v hv => ?_, ?_⟩
      · obtain ⟨z, _, rfl⟩ := List.mem_map.1 hv; rfl
      · simp only [cc]
        clear hz
        induction as with
        | nil => rfl
        | cons z l ih => rw [List.map_cons, List.flatMap_cons, ih, List.flatMap_cons]; rfl
    · cases h
  · split at h
    · rename_i r he hr
      obtain rfl := Nat.eq_of_beq_eq_true he
      simp only [Option.some.injEq] at h
      subst h
      exact rowL_some hr
    · cases h
  · cases h
  · cases h
  · exact one h
def litS (T : Tab) (t : TypeId) (n : Nat) (parts : List (Nat × SV)) : Option (TypeId × Nat × Con) :=
  match T.ty t with
  | .sl e es _ => match ordL 0 parts with
    | some xs => match Nat.beq xs.length n, Nat.ble (n * es) 16777216, litC (T.ty e) es xs with
      | true, true, some con => some (e, es, con)
      | _, _, _ => none
    | none => none
  | _ => none
theorem litS_sound {P : Program} {T : Tab} (hT : TabOk P T) {t e : TypeId} {n es : Nat} {parts : List (Nat × SV)} {con : Con} (h : litS T t n parts = some (e, es, con)) (w : World) :
    (Instr.buildSlice t n (parts.map fun p => (p.1, cv p.2)).toArray).run P w = .ok (.slice (some ⟨w.heap.size, 0, none⟩) n n) (w.alloc (.cells (cc con).toArray e)) := by
  unfold litS at h
  split at h
  · rename_i e' es' eb hy
    split at h
    · rename_i xs ho
      split at h
      · rename_i con' hl hb hc
        simp only [Option.some.injEq, Prod.mk.injEq] at h
        obtain ⟨rfl, rfl, rfl⟩ := h
        have hty := hT.ty t
        rw [hy] at hty
        obtain ⟨g1, g2, i, z, g3, g4, g5, g6, g7⟩ := hty
        obtain ⟨c1, c2⟩ := litC_some hc
        have hl' : xs.length = n := Nat.eq_of_beq_eq_true hl
        have hb' : n * es' ≤ 16777216 := Nat.le_of_ble_eq_true hb
        have hm : ((parts.map fun p => (p.1, cv p.2)).toArray).toList = ((xs.map cv).zipIdx 0).map fun x => (x.2, x.1) := ordL_some ho
        rcases Nat.eq_zero_or_pos n with h0 | h1'
        · subst h0
          obtain rfl := List.eq_nil_of_length_eq_zero hl'
          have hp : (parts.map fun p => (p.1, cv p.2)).toArray = #[] := Array.ext' (by rw [hm]; rfl)
          have hcc : (cc con').toArray = #[] := by rw [← c2]; rfl
          rw [hp, hcc]
          simp [Instr.buildSlice, underlying, sizeOf, typeInfo, g1, g3, newRow, Instr.fill, Result.andThen]
          exact congrArg (fun x => w.alloc (.cells x e')) (Array.ext' (by simp))
        refine run_buildSlice w t e' n _ _ i z g1 g3 g4 (by rw [g5]; omega) (by rw [g5]; exact Nat.ne_of_gt (Nat.mul_pos h1' g2)) ?_
        rw [hm, g5]
        have := Go.Great.fill_whole g2 (xs.map cv) ((Array.range (n * es')).map (z.cells[· % z.cells.size]!)) c1 (by simp [hl'])
        rw [this, c2]
      · cases h
    · cases h
  · cases h
end Go.Proofs.Ytdanlclhnehieaa

/-
  A symbolic walk of my own: contracts of callees, all operations, a region's operations one behind the other.
-/
namespace Go.Proofs.Ytdanlclhnehieaa
set_option linter.unusedSimpArgs false
set_option linter.unusedVariables false
open Go.RowKit

inductive CR where
  | none
  | pure (p : Prop) (v : SV)
  | own (p : Prop) (t : TypeId) (es n : Nat) (con : Con) (f : SV → SV)
  | turn (p : Prop) (nm : Nat) (con : Con) (v : SV)
  | rel (p : Prop) (A : Type) (Q : A → Prop) (f : A → SV) (g : A → List Blk)
  | grw (p : Prop) (A : Type) (Q : A → Prop) (f : A → SV) (g : A → Blk)
def Enters (P : Program) (f : FuncId) (args : Array Value) (w : World) (R : Value → World → Prop) : Prop :=
  (∃ u, (callFunc f args).run P w = .ok (.value u) w ∧ R u w) ∨
  ((callFunc f args).run P w = .ok (.enter f args) w ∧ Calls P f args w fun e w' => ∃ u, e = .returned u ∧ R u w')
def withCon : Blk → Con → Blk
  | .blk b t _, c => .blk b t c
  | .own v n t es _, c => .own v n t es c
  | e, _ => e
def CROk (P : Program) (w0 : World) (B : List Nat) (f : FuncId) (args : List SV) (m : List Blk) : CR → Prop
  | .none => True
  | .pure p v => p → ∀ w, MemOk w0 B m w → Enters P f (cvs args).toArray w fun u w' => u = cv v ∧ w.grownBy w' .none
  | .own p t es n con F => p → ∀ w, MemOk w0 B m w → Enters P f (cvs args).toArray w fun u w' => ∃ v, u = cv (F (.own (blen m) v n)) ∧ w.grownBy w' .none ∧ w'.ownsRow w.heap.size t es v n (cc con)
  | .turn p nm con v => p → ∀ w, MemOk w0 B m w → Enters P f (cvs args).toArray w fun u w' => u = cv v ∧ MemOk w0 B (bset m nm (withCon (bget m nm) con)) w'
  | .rel p A Q F g => p → ∀ w, MemOk w0 B m w → Enters P f (cvs args).toArray w fun u w' => ∃ a : A, Q a ∧ u = cv (F a) ∧ MemOk w0 B (g a) w'
  | .grw p A Q F g => p → ∀ w, MemOk w0 B m w → Enters P f (cvs args).toArray w fun u w' => ∃ a : A, Q a ∧ u = cv (F a) ∧ w.grownBy w' .none ∧ (g a).ok w0 B w' ∧ (∀ b ∈ (g a).nums, w.heap.size ≤ b) ∧ (g a).nums.Nodup
abbrev Ctr := FuncId → List SV → List Blk → CR
def GOk (P : Program) (G : Ctr) : Prop := ∀ w0 B f args m, CROk P w0 B f args m (G f args m)

inductive Eff where
  | val (p : Prop) (v : SV)
  | mem (p : Prop) (m : List Blk)
  | newb (f : Nat → SV) (e : Nat → Blk)
  | newo (p : Prop) (f : Value → SV) (e : Value → Blk)
  | turn (p : Prop) (nm : Nat) (f : Value → SV) (e : Value → Blk)
  | call (f : FuncId) (args : List SV)
  | any (p : Prop) (A : Type) (Q : A → Prop) (f : A → SV) (g : A → List Blk)
  | stuck
def sapp : List SV → List SV → List SV
  | [], l => l
  | x :: k, l => x :: sapp k l
theorem sapp_eq : ∀ (k l : List SV), sapp k l = k ++ l
  | [], _ => rfl
  | x :: k, l => by simp [sapp, sapp_eq k l]
def appE (r : Option (Prop × Option Nat × Nat × TypeId × Nat × Con)) (m : List Blk) : Eff :=
  match r with
  | some (p, some nm, k, e, es, con) => .turn p nm (fun v => .own nm v k) (fun v => .own v k e es con)
  | some (p, none, k, e, es, con) => .newo p (fun v => .own (blen m) v k) (fun v => .own v k e es con)
  | none => .stuck
def appStep (T : Tab) (m : List Blk) (ts : List TypeId) (xs : List SV) : Eff :=
  match ts, xs with
  | [t, t'], [s, x] => match Nat.beq t t' with
    | true => match appP T t s x m with
      | some (p, Q, f, g) => .any p AppA Q f g
      | none => appE (appS T t s x m) m
    | false => appE (appT T t t' s x m) m
  | _, _ => .stuck
theorem appStep_cases (T : Tab) (m : List Blk) (ts : List TypeId) (xs : List SV) :
    appStep T m ts xs = .stuck ∨ (∃ t s x p Q f g, ts = [t, t] ∧ xs = [s, x] ∧ appP T t s x m = some (p, Q, f, g) ∧ appStep T m ts xs = .any p AppA Q f g) ∨
      ∃ t t' s x r, ts = [t, t'] ∧ xs = [s, x] ∧ ((t = t' ∧ appS T t s x m = some r) ∨ appT T t t' s x m = some r) ∧ appStep T m ts xs = appE (some r) m := by
  unfold appStep
  split
  · rename_i t t' s x
    split
    · rename_i htt
      have htt' : t = t' := Nat.eq_of_beq_eq_true htt
      subst htt'
      split
      · rename_i p Q f g hz
        exact .inr (.inl ⟨t, s, x, p, Q, f, g, rfl, rfl, hz, rfl⟩)
      · cases hz : appS T t s x m with
        | none => exact .inl rfl
        | some r => exact .inr (.inr ⟨t, t, s, x, r, rfl, rfl, .inl ⟨rfl, hz⟩, rfl⟩)
    · cases hz : appT T t t' s x m with
      | none => exact .inl rfl
      | some r => exact .inr (.inr ⟨t, t', s, x, r, rfl, rfl, .inr hz, rfl⟩)
  · exact .inl rfl
def copyC (T : Tab) (t : TypeId) (x y : SV) (m : List Blk) : Option (Prop × Nat × Nat × Blk) :=
  match x with
  | .sl nm a st _ es len cap => match T.ty t, bget m nm, srcC y m with
    | .sl _ es' _, .blk b u (.ints k xs), some (q, n, .ints k' ys) => match es == 1, es' == 1, sameK k k' with
      | true, true, true => some (q ∧ a = some ⟨b, 0, none⟩ ∧ 0 < cap ∧ st + len ≤ xs.length, nm, min n len, .blk b u (.ints k (xs.take st ++ ys.take (min n len) ++ xs.drop (st + min n len))))
      | _, _, _ => none
    | .sl _ es' _, .own v n0 u es0 (.ints k xs), some (q, n, .ints k' ys) => match es == 1, es' == 1, sameK k k' with
      | true, true, true => some (q ∧ a = some ⟨blkOf v, 0, none⟩ ∧ es0 = 1 ∧ 0 < n0 ∧ 0 < cap ∧ st + len ≤ n0, nm, min n len, .own v n0 u es0 (.ints k (xs.take st ++ ys.take (min n len) ++ xs.drop (st + min n len))))
      | _, _, _ => none
    | _, _, _ => none
  | _ => none
def copyStep (T : Tab) (m : List Blk) (ts : List TypeId) (xs : List SV) : Eff :=
  match ts, xs with
  | [t, _], [x, y] => match copyC T t x y m with
    | some (p, nm, n, e) => .turn p nm (fun _ => .int .i64 n) (fun _ => e)
    | none => .stuck
  | _, _ => .stuck
theorem copyStep_cases (T : Tab) (m : List Blk) (ts : List TypeId) (xs : List SV) :
    copyStep T m ts xs = .stuck ∨ ∃ t t' x y p nm n e, ts = [t, t'] ∧ xs = [x, y] ∧ copyC T t x y m = some (p, nm, n, e) ∧ copyStep T m ts xs = .turn p nm (fun _ => .int .i64 n) (fun _ => e) := by
  unfold copyStep
  split
  · rename_i t t' x y
    cases h : copyC T t x y m with
    | none => exact .inl rfl
    | some r => obtain ⟨p, nm, n, e⟩ := r; exact .inr ⟨_, _, _, _, _, _, _, _, rfl, rfl, h, rfl⟩
  · exact .inl rfl
theorem copyC_sound {P : Program} {T : Tab} (hT : TabOk P T) {t t' ty : TypeId} {x y : SV} {m : List Blk} {p : Prop} {nm n : Nat} {e : Blk} (h : copyC T t x y m = some (p, nm, n, e)) (hp : p)
    {w0 : World} {B : List Nat} {w : World} (hm : MemOk w0 B m w) : ∃ w', (Builtin.copy_ #[t, t'] ty #[cv x, cv y]).run P w = .ok (.int .i64 n) w' ∧ MemOk w0 B (bset m nm e) w' := by
  unfold copyC at h
  split at h
  · rename_i nm' a st st0 es len cap
    split at h
    · rename_i el es' eb b u k xs q n' k' ys hty hbg hsrc
      split at h
      · rename_i he1 he2 hk
        simp only [Option.some.injEq, Prod.mk.injEq] at h
        obtain ⟨rfl, rfl, rfl, rfl⟩ := h
        obtain ⟨hq, rfl, hcap, hlen⟩ := hp
        obtain rfl : es = 1 := by simpa using he1
        obtain rfl : es' = 1 := by simpa using he2
        obtain rfl := sameK_eq hk
        obtain ⟨h1, _, i, z, hi, _, hs, _⟩ := hT.ty t |> fun h => by rw [hty] at h; exact h
        have hsz : (P.info? el).map (·.size) = some 1 := by rw [hi]; simp [hs]
        have h4 := hm.each _ (bget_mem hbg (by simp))
        obtain ⟨g1, g2, g3⟩ := srcC_sound hsrc hq hm
        have hyl : ys.length = n' := by simpa [cc, conEs] using g1
        have e1 : cv (.sl nm' (some ⟨b, 0, none⟩) st st0 1 len cap) = .slice (some ⟨b, st, none⟩) len cap := by
          simp only [cv, Option.map_some, addr_add, Nat.mul_one, Nat.zero_add]
          rw [if_neg (by omega)]
        have hset : ∀ w', w' = w.setRow b ((cc (.ints k xs)).take st ++ (cc (.ints k (ys.take (min n' len)))) ++ (cc (.ints k xs)).drop (st + (min n' len))).toArray → MemOk w0 B (bset m nm' (.blk b u (.ints k (xs.take st ++ ys.take (min n' len) ++ xs.drop (st + min n' len))))) w' := by
          rintro w' rfl
          refine hm.turn hbg (by simp) (setRow_grown _ _ _) (fun b hb => by cases hb; simp [Blk.nums]) (fun b hb => by simp [Blk.nums] at hb; subst hb; exact h4.2) ⟨?_, h4.2⟩ (fun b hb => .inl (by simpa [Blk.nums] using hb))
          rw [setRow_E h4.1]
          simp [cc]
        rcases g3 with ⟨a, cp, hy, hc⟩ | ⟨hy, hn0⟩
        · refine ⟨_, ?_, hset _ rfl⟩
          rw [e1, hy]
          have hcl : (cc (.ints k (ys.take (min n' len)))).length = min n' len := by simp [cc, hyl]
          have := run_copy_row P w t t' ty el b st len cap a n' cp (cc (.ints k xs)).toArray u (cc (.ints k (ys.take (min n' len)))) h1 hsz h4.1 hcl (fun j v hj => hc j v (by
              simp only [cc, List.map_take, List.getElem?_take] at hj ⊢
              split at hj
              · exact hj
              · cases hj)) (by rw [hcl]; simp [cc]; omega) (fun v hv => g2 v (by simp only [cc, List.map_take] at hv ⊢; exact List.mem_of_mem_take hv))
          rw [this, hcl]
          rfl
        · subst hn0
          refine ⟨w, ?_, hset w ?_⟩
          · rw [e1, hy]
            have := run_copy_nil P w t t' ty el ⟨b, st, none⟩ len cap h1 (by rw [hsz]; rfl)
            rw [this]; simp [goInt]
          · have : (cc (.ints k xs)).take st ++ (cc (.ints k (ys.take (min 0 len)))) ++ (cc (.ints k xs)).drop (st + min 0 len) = cc (.ints k xs) := by simp [cc]
            rw [this, setRow_self w b _ u (0, 0) h4.1]
      · exact none_of h
    · rename_i el es' eb v n0 u es0 k xs q n' k' ys hty hbg hsrc
      split at h
      · rename_i he1 he2 hk
        simp only [Option.some.injEq, Prod.mk.injEq] at h
        obtain ⟨rfl, rfl, rfl, rfl⟩ := h
        obtain ⟨hq, rfl, rfl, hn0, hcap, hlen⟩ := hp
        obtain rfl : es = 1 := by simpa using he1
        obtain rfl : es' = 1 := by simpa using he2
        obtain rfl := sameK_eq hk
        obtain ⟨h1, _, i, z, hi, _, hs, _⟩ := hT.ty t |> fun h => by rw [hty] at h; exact h
        have hsz : (P.info? el).map (·.size) = some 1 := by rw [hi]; simp [hs]
        obtain ⟨⟨ho1, ho2⟩, ho3⟩ := hm.each _ (bget_mem hbg (by simp))
        rcases ho2 with ⟨_, h0⟩ | ⟨g, cap0, cur, rfl, _, o3, o4, o5, o6, o7⟩
        · omega
        obtain ⟨g1, g2, g3⟩ := srcC_sound hsrc hq hm
        have hyl : ys.length = n' := by simpa [cc, conEs] using g1
        have hxl : xs.length = n0 := by simpa [cc] using ho1
        simp only [Nat.mul_one] at o6 o7
        have e1 : cv (.sl nm' (some ⟨blkOf (.slice (some ⟨g, 0, none⟩) n0 cap0), 0, none⟩) st st0 1 len cap) = .slice (some ⟨g, st, none⟩) len cap := by
          simp only [cv, Option.map_some, addr_add, Nat.mul_one, Nat.zero_add, blkOf, blkO]
          rw [if_neg (by omega)]
        have hcl : (cc (.ints k (ys.take (min n' len)))).length = min n' len := by simp [cc, hyl]
        generalize hM : min n' len = M at *
        have hset : ∀ w', w' = w.setRow g (cur.toList.take st ++ cc (.ints k (ys.take M)) ++ cur.toList.drop (st + M)).toArray → MemOk w0 B (bset m nm' (.own (.slice (some ⟨g, 0, none⟩) n0 cap0) n0 u 1 (.ints k (xs.take st ++ ys.take M ++ xs.drop (st + M))))) w' := by
          rintro w' rfl
          refine hm.turn hbg (by simp) (setRow_grown _ _ _) (fun b hb => by cases hb; simp [Blk.nums, Value.ownBlock]) (fun b hb => by simp [Blk.nums, Value.ownBlock] at hb; subst hb; exact ho3 _ rfl) ⟨⟨?_, .inr ⟨g, cap0, _, rfl, Nat.zero_le _, setRow_E o3, o4, o5, ?_, ?_⟩⟩, fun b hb => ho3 b hb⟩ (fun b hb => .inl (by simpa [Blk.nums, Value.ownBlock] using hb))
          · simp [cc]; omega
          · simp [cc]; omega
          · have e2 : cc (.ints k (xs.take st ++ ys.take M ++ xs.drop (st + M))) = (cc (.ints k xs)).take st ++ cc (.ints k (ys.take M)) ++ (cc (.ints k xs)).drop (st + M) := by simp [cc]
            rw [e2, ← o7, List.take_take, List.drop_take, Nat.mul_one, Nat.min_eq_left (by omega), List.take_append, List.take_of_length_le (by rw [List.length_append, hcl, List.length_take]; omega)]
            congr 2
            rw [List.length_append, hcl, List.length_take]
            have : cur.toList.length = cap0 := by simpa using o6
            omega
        rcases g3 with ⟨a, cp, hy, hc⟩ | ⟨hy, hn0'⟩
        · refine ⟨_, ?_, hset _ rfl⟩
          rw [e1, hy]
          have := run_copy_row P w t t' ty el g st len cap a n' cp cur u (cc (.ints k (ys.take M))) h1 hsz o3 (by rw [hcl, ← hM]) (fun j v hj => hc j v (by
              simp only [cc, List.map_take, List.getElem?_take] at hj ⊢
              split at hj
              · exact hj
              · cases hj)) (by rw [hcl, o6]; omega) (fun v hv => g2 v (by simp only [cc, List.map_take] at hv ⊢; exact List.mem_of_mem_take hv))
          rw [this, hcl]
          rfl
        · subst hn0'
          obtain rfl : M = 0 := by omega
          refine ⟨w, ?_, hset w ?_⟩
          · rw [e1, hy]
            have := run_copy_nil P w t t' ty el ⟨g, st, none⟩ len cap h1 (by rw [hsz]; rfl)
            rw [this]; simp [goInt]
          · have : cur.toList.take st ++ (cc (.ints k (ys.take 0))) ++ cur.toList.drop (st + 0) = cur.toList := by simp [cc]
            rw [this, setRow_self w g _ u (0, 0) o3]
      · exact none_of h
    · exact none_of h
  · exact none_of h
def callStep (f : SV) (xs : List SV) : Eff :=
  match f with
  | .fn (.func g) first cap => .call g (sapp first (sapp xs cap))
  | _ => .stuck
theorem callStep_cases (f : SV) (xs : List SV) : callStep f xs = .stuck ∨ ∃ g first cap, f = .fn (.func g) first cap ∧ callStep f xs = .call g (sapp first (sapp xs cap)) := by
  unfold callStep
  split
  · exact .inr ⟨_, _, _, rfl, rfl⟩
  · exact .inl rfl
theorem setBlock_grown {w : World} {b : Nat} {es es' : Array MapEntry} {clock clock' : Nat} (h : w.heap[b]? = some (.map es clock)) : w.grownBy (Go.ChangeMaps.setBlock w b (.map es' clock')) (some b) :=
  ⟨rfl, rfl, rfl, by simp [Go.ChangeMaps.setBlock], fun _ _ hi => Go.ChangeMaps.heap_setBlock_other h _ (fun e => hi (by rw [e]))⟩
theorem map_cvF (f : List Int → Option SV) (c : List Int) (v : SV) : (fun x => (putF f c v x).map cv) = putF (fun x => (f x).map cv) c (cv v) := by
  funext x; unfold putF; by_cases h : x = c <;> simp [h]
theorem map_cvD (f : List Int → Option SV) (c : List Int) : (fun x => (delF f c x).map cv) = delF (fun x => (f x).map cv) c := by
  funext x; unfold delF; by_cases h : x = c <;> simp [h]
def updS (y : Ty) (x i v : SV) (m : List Blk) : Option (Prop × List Blk) :=
  match x with
  | .mpv nm b => match y, bget m nm with
    | .map ks _, .mp b' ks' f => match codeK ks i with
      | some (p, c) => some (p ∧ b = b' ∧ ks = ks', bset m nm (.mp b' ks' (putF f c v)))
      | none => none
    | _, _ => none
  | _ => none
theorem updS_run {P : Program} {t : TypeId} {y : Ty} (hy : TyOk1 P t y) {x i v : SV} {m m' : List Blk} {p : Prop} (h : updS y x i v m = some (p, m')) (hp : p) {w0 : World} {B : List Nat} {w : World} (hm : MemOk w0 B m w) :
    ∃ w', (Instr.mapUpdate t (cv x) (cv i) (cv v)).run P w = .ok () w' ∧ MemOk w0 B m' w' := by
  unfold updS at h
  split at h
  · rename_i nm b
    split at h
    · rename_i ks z b' ks' f hb
      split at h
      · rename_i p' c hc
        simp only [Option.some.injEq, Prod.mk.injEq] at h
        obtain ⟨rfl, rfl⟩ := h
        obtain ⟨q1, rfl, rfl⟩ := hp
        obtain ⟨k, e, h1, h2, h3⟩ := hy
        obtain ⟨g1, g2⟩ := codeK_sound hc q1
        have h4 := hm.each _ (bget_mem hb (by simp))
        obtain ⟨es', clock', h5, h6, es, clock, h7⟩ := map_put h2 h1 h4.1 g1 (cv v)
        refine ⟨_, by rw [g2]; simp only [cv]; exact h5, hm.turn hb (by simp) (setBlock_grown h7) (fun b' hb' => by cases hb'; simp [Blk.nums]) (fun b' hb' => by simp [Blk.nums] at hb'; subst hb'; exact h4.2) ⟨?_, h4.2⟩ (fun b' hb' => .inl hb')⟩
        rw [map_cvF]; exact h6
      · cases h
    · cases h
  · cases h
def delStep (T : Tab) (m : List Blk) (ts : List TypeId) (xs : List SV) : Eff :=
  match ts, xs with
  | [t, _], [.mpv nm b, i] => match T.ty t, bget m nm with
    | .map ks _, .mp b' ks' f => match codeK ks i with
      | some (p, c) => .turn (p ∧ b = b' ∧ ks = ks') nm (fun _ => .tup []) (fun _ => .mp b' ks' (delF f c))
      | none => .stuck
    | _, _ => .stuck
  | _, _ => .stuck
theorem delStep_cases (T : Tab) (m : List Blk) (ts : List TypeId) (xs : List SV) :
    delStep T m ts xs = .stuck ∨ ∃ t t2 nm b i ks z b' ks' f p c, ts = [t, t2] ∧ xs = [.mpv nm b, i] ∧ T.ty t = .map ks z ∧ bget m nm = .mp b' ks' f ∧ codeK ks i = some (p, c) ∧
      delStep T m ts xs = .turn (p ∧ b = b' ∧ ks = ks') nm (fun _ => .tup []) (fun _ => .mp b' ks' (delF f c)) := by
  unfold delStep
  split
  · rename_i t t2 nm b i
    split
    · rename_i ks z b' ks' f h1 h2
      split
      · rename_i p c hc
        exact .inr ⟨t, t2, nm, b, i, ks, z, b', ks', f, p, c, rfl, rfl, h1, h2, hc, rfl⟩
      · exact .inl rfl
    · exact .inl rfl
  · exact .inl rfl
def mkM (y : Ty) (m : List Blk) : Eff :=
  match y with
  | .map ks _ => .newb (fun b => .mpv (blen m) b) (fun b => .mp b ks fun _ => none)
  | _ => .stuck
theorem mkM_cases (y : Ty) (m : List Blk) : mkM y m = .stuck ∨ ∃ ks z, y = .map ks z ∧ mkM y m = .newb (fun b => .mpv (blen m) b) (fun b => .mp b ks fun _ => none) := by
  unfold mkM
  split
  · exact .inr ⟨_, _, rfl, rfl⟩
  · exact .inl rfl
def rngS (y : Ty) (x : SV) (m : List Blk) : Eff :=
  match y, x with
  | .map ks _, .mpv nm b => match bget m nm with
    | .mp b' ks' f => .any (b = b') (Nat × Nat) (fun _ => True) (fun a => .ptr nm a.1 0 0 0 0) (fun a => bset m nm (.rg b' a.1 ks' f (fun c => (f c).isSome) a.2 none))
    | _ => .stuck
  | _, _ => .stuck
theorem rngS_cases (y : Ty) (x : SV) (m : List Blk) : rngS y x m = .stuck ∨ ∃ ks z nm b b' ks' f, y = .map ks z ∧ x = .mpv nm b ∧ bget m nm = .mp b' ks' f ∧
    rngS y x m = .any (b = b') (Nat × Nat) (fun _ => True) (fun a => .ptr nm a.1 0 0 0 0) (fun a => bset m nm (.rg b' a.1 ks' f (fun c => (f c).isSome) a.2 none)) := by
  unfold rngS
  split
  · rename_i ks z nm b
    split
    · rename_i b' ks' f h
      exact .inr ⟨ks, z, nm, b, b', ks', f, rfl, rfl, h, rfl⟩
    · exact .inl rfl
  · exact .inl rfl
def nxtQ (left : List Int → Bool) (f : List Int → Option SV) (ks : List CK) (cnt : Nat) (a : Option (List Int × SV × Nat)) : Prop :=
  match a with | none => ∀ c, left c = false | some (c, v, n) => left c = true ∧ f c = some v ∧ inCs ks c ∧ n < cnt
def nxtF (ks : List CK) (a : Option (List Int × SV × Nat)) : SV :=
  match a with | none => .tup [.bool false] | some (c, v, _) => .tup [.bool true, keyS ks c, v]
def nxtG (m : List Blk) (nm b r : Nat) (ks : List CK) (f : List Int → Option SV) (left : List Int → Bool) (a : Option (List Int × SV × Nat)) : List Blk :=
  match a with | none => bset m nm (.mp b ks f) | some (c, v, n) => bset m nm (.rg b r ks f (fun x => left x && !decide (x = c)) n (some (c, v)))
def nxtS (x : SV) (m : List Blk) : Eff :=
  match x with
  | .ptr nm r 0 0 0 0 => match bget m nm with
    | .rg b r' ks f left cnt _ => .any (r = r') (Option (List Int × SV × Nat)) (nxtQ left f ks cnt) (nxtF ks) (nxtG m nm b r' ks f left)
    | _ => .stuck
  | _ => .stuck
theorem nxtS_cases (x : SV) (m : List Blk) : nxtS x m = .stuck ∨ ∃ nm r b r' ks f left cnt last, x = .ptr nm r 0 0 0 0 ∧ bget m nm = .rg b r' ks f left cnt last ∧
    nxtS x m = .any (r = r') (Option (List Int × SV × Nat)) (nxtQ left f ks cnt) (nxtF ks) (nxtG m nm b r' ks f left) := by
  unfold nxtS
  split
  · rename_i nm r
    split
    · rename_i b r' ks f left cnt last h
      exact .inr ⟨nm, r, b, r', ks, f, left, cnt, last, rfl, h, rfl⟩
    · exact .inl rfl
  · exact .inl rfl
def step (T : Tab) (env : List SV) (m : List Blk) (o : Oper) : Eff :=
  match dstep T env m o with
  | some (p, v) => .val p v
  | none =>
    match o.op with
    | .alloc t => match T.zc t with | some c => .newb (fun b => .ptr (blen m) b 0 0 0 0) (fun b => .blk b t c) | none => .stuck
    | .box t x => match boxCon (ev T env x) with | some c => .newb (fun b => .ptr (blen m) b 0 0 0 0) (fun b => .blk b t c) | none => .stuck
    | .store t a x => match storeS (T.ty t) (ev T env a) (ev T env x) m with | some (p, m') => .mem p m' | none => .stuck
    | .buildSlice t n parts => match litS T t n (evp T env parts.toList) with | some (e, es, c) => .newb (fun b => .sl (blen m) (some ⟨b, 0, none⟩) 0 0 es n n) (fun b => .blk b e c) | none => .stuck
    | .makeSlice t l c => match makeS T t (ev T env l) (ev T env c) with | some (p, e, es, n, z) => .newo p (fun v => .own (blen m) v n) (fun v => .own v n e es z) | none => .stuck
    | .call { callee := .builtin .append, args, argTypes } => appStep T m argTypes.toList (evs T env args.toList)
    | .call { callee := .builtin .copy, args, argTypes } => copyStep T m argTypes.toList (evs T env args.toList)
    | .call { callee := .builtin .delete, args, argTypes } => delStep T m argTypes.toList (evs T env args.toList)
    | .mapUpdate t x i v => match updS (T.ty t) (ev T env x) (ev T env i) (ev T env v) m with | some (p, m') => .mem p m' | none => .stuck
    | .makeMap t none => mkM (T.ty t) m
    | .range t x => rngS (T.ty t) (ev T env x) m
    | .next x false => nxtS (ev T env x) m
    | .call { callee := .value f, args, .. } => callStep (ev T env f) (evs T env args.toList)
    | _ => .stuck

inductive Gd where
  | go
  | skip
  | ask (b want : Bool)
  | stuck
def dstOf : List Oper → Nat → Option Tmp
  | [], _ => none
  | o :: _, 0 => o.dst
  | _ :: l, n + 1 => dstOf l n
def gdV (x : SV) (want : Bool) : Gd :=
  match x with
  | .bool b => .ask b want
  | .undef => .skip
  | _ => .stuck
def gd (all : List Oper) (env : List SV) (o : Oper) : Gd :=
  match o.guard with
  | none => .go
  | some (j, want) => match dstOf all j with | some d => gdV (sget env d) want | none => .skip
def eqB : Bool → Bool → Bool
  | true, b => b
  | false, true => false
  | false, false => true
theorem eqB_eq (a b : Bool) : eqB a b = (a == b) := by cases a <;> cases b <;> rfl
theorem dstOf_eq : ∀ (l : List Oper) (j : Nat), (l.toArray[j]?).bind (·.dst) = dstOf l j
  | [], j => by simp [dstOf]
  | o :: l, 0 => by simp [dstOf]
  | o :: l, n + 1 => by have := dstOf_eq l n; simp [dstOf] at this ⊢; exact this
theorem cvs_get (env : List SV) (d : Nat) : (cvs env)[d]? = none ∨ (cvs env)[d]? = some (cv (sget env d)) := by
  cases h : (cvs env)[d]? with
  | none => exact .inl rfl
  | some v => rw [cvs_get? env d v h]; exact .inr rfl
theorem cvs_none : ∀ (env : List SV) (d : Nat), (cvs env)[d]? = none → sget env d = .undef
  | [], d, _ => rfl
  | x :: l, 0, h => by simp [cvs] at h
  | x :: l, n + 1, h => by simp [cvs] at h; simp only [sget]; exact cvs_none l n (by simpa using h)
theorem gd_sound {all : List Oper} {env : List SV} {a : Act} (hf : Fr env a) (o : Oper) :
    match gd all env o with
    | .go => Region.wanted o (yielded all.toArray a.tmps) = true
    | .skip => Region.wanted o (yielded all.toArray a.tmps) = false
    | .ask b want => Region.wanted o (yielded all.toArray a.tmps) = eqB b want
    | .stuck => True := by
  unfold gd Region.wanted
  cases hg : o.guard with
  | none => rfl
  | some g =>
    obtain ⟨j, want⟩ := g
    simp only [yielded, dstOf_eq]
    cases hd : dstOf all j with
    | none => simp
    | some d =>
      simp only [Option.bind_some]
      rw [hf]
      have hg : (cvs env).toArray[d]? = (cvs env)[d]? := by simp
      rw [hg]
      unfold gdV
      rcases cvs_get env d with h | h
      · have := cvs_none env d h
        rw [this, h]; simp
      · rw [h]
        cases hs : sget env d <;> simp [cv, eqB_eq, undef]

def callK (m : List Blk) (r : CR) (N : SV → List Blk → Prop) : Prop :=
  match r with
  | .none => False
  | .pure p v => p ∧ N v m
  | .own p t es n con F => p ∧ ∀ v : Value, N (F (.own (blen m) v n)) (bpush m (.own v n t es con))
  | .turn p nm con v => p ∧ N v (bset m nm (withCon (bget m nm) con))
  | .rel p A Q f g => p ∧ ∀ a : A, Q a → N (f a) (g a)
  | .grw p A Q f g => p ∧ ∀ a : A, Q a → N (f a) (bpush m (g a))
def effK (G : Ctr) (m : List Blk) (e : Eff) (N : SV → List Blk → Prop) : Prop :=
  match e with
  | .val p v => p ∧ N v m
  | .mem p m' => p ∧ N .undef m'
  | .newb f e => ∀ b : Nat, N (f b) (bpush m (e b))
  | .newo p f e => p ∧ ∀ v : Value, N (f v) (bpush m (e v))
  | .turn p nm f e => p ∧ ∀ v : Value, N (f v) (bset m nm (e v))
  | .call f args => callK m (G f args m) N
  | .any p A Q f g => p ∧ ∀ a : A, Q a → N (f a) (g a)
  | .stuck => False
def askK (b : Bool) (X S : Prop) : Prop := match b with | true => X | false => S
def gdK (g : Gd) (X S : Prop) : Prop :=
  match g with
  | .go => X
  | .skip => S
  | .ask b want => askK (eqB b want) X S
  | .stuck => False
section
variable {G : Ctr} {m : List Blk} {N : SV → List Blk → Prop} {X S : Prop}
@[congr] theorem callK_congr {r r' : CR} (h : r = r') : callK m r N = callK m r' N := by rw [h]
@[congr] theorem effK_congr {e e' : Eff} (h : e = e') : effK G m e N = effK G m e' N := by rw [h]
@[congr] theorem askK_congr {b b' : Bool} (h : b = b') : askK b X S = askK b' X S := by rw [h]
@[congr] theorem gdK_congr {g g' : Gd} (h : g = g') : gdK g X S = gdK g' X S := by rw [h]
end
def vcOps (T : Tab) (G : Ctr) (all : List Oper) : List Oper → List SV → List Blk → (List SV → List Blk → Prop) → Prop
  | [], env, m, K => K env m
  | o :: rest, env, m, K =>
    gdK (gd all env o) (effK G m (step T env m o) fun v m' => vcOps T G all rest (upd env o.dst v) m' K) (vcOps T G all rest (upd env o.dst .undef) m K)

theorem own_ok0 {w0 w : World} {t : TypeId} {es n : Nat} {v : Value} {con : Con} (h : Blk.ok w0 [] w (.own v n t es con)) : w.ownsRow w0.heap.size t es v n (cc con) := by
  obtain ⟨⟨h1, h2⟩, h3⟩ := h
  refine ⟨h1, h2.imp id fun ⟨g, cap, cur, a, _, d⟩ => ⟨g, cap, cur, a, ?_, d⟩⟩
  exact (h3 g (by rw [a]; rfl)).elim id (fun h => absurd h List.not_mem_nil)
def stepK (T : Tab) (G : Ctr) (env : List SV) (m : List Blk) (o : Oper) (K : SV → List Blk → Prop) : Prop := effK G m (step T env m o) K
theorem wp_of_run {P : Program} {o : Oper} {a : Act} {w w' : World} {u : Value} {K : Act → World → Prop} {Q : Exit → Act → World → Prop} (h : (execOp a.eval o).run P w = .ok (.value u) w') (hk : K (a.put o.dst u) w') : o.wp P a w K Q := by
  unfold Oper.wp; rw [h]; exact hk
theorem wp_of_skip {P : Program} {o : Oper} {a : Act} {w w' : World} {K : Act → World → Prop} {Q : Exit → Act → World → Prop} (h : (execOp a.eval o).run P w = .ok .skip w') (hk : K (a.put o.dst undef) w') : o.wp P a w K Q := by
  unfold Oper.wp; rw [h]; exact hk
theorem wp_of_enters {P : Program} {o : Oper} {a : Act} {w : World} {f : FuncId} {args : Array Value} {R : Value → World → Prop} {K : Act → World → Prop} {Q : Exit → Act → World → Prop}
    (hr : (execOp a.eval o).run P w = (callFunc f args).run P w) (h : Enters P f args w R) (hk : ∀ u w', R u w' → K (a.put o.dst u) w') : o.wp P a w K Q := by
  rcases h with ⟨u, h1, h2⟩ | ⟨h1, h2⟩
  · exact wp_of_run (hr.trans h1) (hk _ _ h2)
  · unfold Oper.wp
    rw [hr, h1]
    exact h2.mono fun e w' ⟨u, he, hu⟩ => by subst he; exact hk _ _ hu
theorem op_call {P : Program} {T : Tab} (hT : TabOk P T) {env : List SV} {a : Act} (hf : Fr env a) {w : World} {d : Option Tmp} {f : Operand} {args : Array Operand} {ts : Array TypeId} {ty : TypeId} {pos : String} {af : Array Edge} {g : Option (Nat × Bool)}
    {fn : FuncId} {fi ca : List SV} (h : ev T env f = .fn (.func fn) fi ca) :
    (execOp a.eval ⟨d, .call { callee := .value f, args := args, argTypes := ts }, ty, pos, af, g⟩).run P w = (callFunc fn (cvs (sapp fi (sapp (evs T env args.toList) ca))).toArray).run P w := by
  have e1 : args.map a.eval = (cvs (evs T env args.toList)).toArray := by apply Array.ext'; rw [← hf.evs hT.gl]; simp
  simp only [execOp, resolve, hf.ev hT.gl f, h, cv, e1, Deferred.ofValue, Sem.run_bind, Sem.run_pure, Result.andThen_ok, invoke]
  congr 2
  simp [sapp_eq, cvs_app]
theorem stepK_sound {P : Program} {T : Tab} (hT : TabOk P T) {G : Ctr} (hG : GOk P G) {env : List SV} {m : List Blk} {o : Oper} {K : SV → List Blk → Prop} (h : stepK T G env m o K)
    {a : Act} (hf : Fr env a) {w0 : World} {B : List Nat} {w : World} (hm : MemOk w0 B m w) {Q : Exit → Act → World → Prop} :
    o.wp P a w (fun a' w' => ∃ v m', a' = a.put o.dst (cv v) ∧ MemOk w0 B m' w' ∧ K v m') Q := by
  unfold stepK step effK at h
  have E := fun x => hf.ev hT.gl x
  cases hd : dstep T env m o with
  | some r =>
    obtain ⟨p, v⟩ := r
    rw [hd] at h
    exact wp_of_run (dstep_sound hT hd h.1 hf hm) ⟨v, m, rfl, hm, h.2⟩
  | none =>
    rw [hd] at h
    obtain ⟨dst, op, type, pos, after, guard⟩ := o
    cases op <;> try (exact h.elim)
    case alloc t =>
      dsimp only at h
      cases hz : T.zc t with
      | none => rw [hz] at h; exact h.elim
      | some c =>
        rw [hz] at h
        obtain ⟨i, z, h1, h2, h3⟩ := hT.zc _ _ hz
        have hr : (Instr.alloc t true (.tuple #[])).run P w = .ok (.pointer (some ⟨w.heap.size, 0, none⟩)) (w.alloc (.cells (cc c).toArray t)) := by
          simp [Instr.alloc, zeroValue, typeInfo, h1, h2, newVar, newRow, h3]
        exact wp_of_run (u := .pointer (some ⟨w.heap.size, 0, none⟩)) (by simp only [execOp, Sem.run_bind, hr, Result.andThen_ok, Sem.run_pure]) ⟨_, _, by simp [cv], alloc_new hm t c, h w.heap.size⟩
    case box t x =>
      dsimp only at h
      cases hz : boxCon (ev T env x) with
      | none => rw [hz] at h; exact h.elim
      | some c =>
        rw [hz] at h
        have hr : (Instr.box t (cv (ev T env x))).run P w = .ok (.pointer (some ⟨w.heap.size, 0, none⟩)) (w.alloc (.cells (cc c).toArray t)) := by
          simp [Instr.box, newVar, newRow, boxCon_some hz]
        exact wp_of_run (u := .pointer (some ⟨w.heap.size, 0, none⟩)) (by simp only [execOp, E, Sem.run_bind, hr, Result.andThen_ok, Sem.run_pure]) ⟨_, _, by simp [cv], alloc_new hm t c, h w.heap.size⟩
    case store t b x =>
      dsimp only at h
      cases hz : storeS (T.ty t) (ev T env b) (ev T env x) m with
      | none => rw [hz] at h; exact h.elim
      | some r =>
        obtain ⟨p, m'⟩ := r
        rw [hz] at h
        obtain ⟨w', h1, h2⟩ := storeS_sound hT hz h.1 hm
        exact wp_of_skip (by simp only [execOp, E, Sem.run_bind, h1, Result.andThen_ok, Sem.run_pure]) ⟨.undef, m', rfl, h2, h.2⟩
    case buildSlice t n parts =>
      dsimp only at h
      cases hz : litS T t n (evp T env parts.toList) with
      | none => rw [hz] at h; exact h.elim
      | some r =>
        obtain ⟨e, es, c⟩ := r
        rw [hz] at h
        have e1 : (parts.map fun (i, x) => (i, a.eval x)) = ((evp T env parts.toList).map fun p => (p.1, cv p.2)).toArray := by
          rw [← evp_map hT.gl hf]
          apply Array.ext'
          simp
        have hr := litS_sound (P := P) hT hz w
        rw [← e1] at hr
        exact wp_of_run (u := .slice (some ⟨w.heap.size, 0, none⟩) n n) (by simp only [execOp, Sem.run_bind, hr, Result.andThen_ok, Sem.run_pure]) ⟨_, _, by simp [cv, Addr.add], alloc_new hm e c, h w.heap.size⟩
    case makeSlice t l c =>
      dsimp only at h
      cases hz : makeS T t (ev T env l) (ev T env c) with
      | none => rw [hz] at h; exact h.elim
      | some r =>
        obtain ⟨p, e, es, n, z⟩ := r
        rw [hz] at h
        obtain ⟨v, w', h1, h2, _⟩ := makeS_sound hT hz h.1 hm
        have hsv : slV v n = v := own_slV (h2.each (.own v n e es z) (by rw [bpush_eq]; exact List.mem_append_right _ List.mem_cons_self)).1
        exact wp_of_run (u := v) (by simp only [execOp, E, Sem.run_bind, h1, Result.andThen_ok, Sem.run_pure]) ⟨.own (blen m) v n, _, by simp only [cv, hsv], h2, h.2 v⟩
    case mapUpdate t b i x =>
      dsimp only at h
      cases hz : updS (T.ty t) (ev T env b) (ev T env i) (ev T env x) m with
      | none => rw [hz] at h; exact h.elim
      | some r =>
        obtain ⟨p, m'⟩ := r
        rw [hz] at h
        obtain ⟨w', h1, h2⟩ := updS_run (hT.ty t) hz h.1 hm
        exact wp_of_skip (by simp only [execOp, E, Sem.run_bind, h1, Result.andThen_ok, Sem.run_pure]) ⟨.undef, m', rfl, h2, h.2⟩
    case makeMap t rs =>
      cases rs with
      | some _ => exact h.elim
      | none =>
        dsimp only at h
        rcases mkM_cases (T.ty t) m with hs | ⟨ks, z, hy, hs⟩
        · rw [hs] at h; exact h.elim
        · rw [hs] at h
          have hr : (Instr.makeMap t ((none : Option Operand).map a.eval)).run P w = .ok (.map (some w.heap.size)) (w.alloc (.map #[] 0)) := by
            simp [Instr.makeMap]
          refine wp_of_run (w' := w.alloc (.map #[] 0)) (u := .map (some w.heap.size)) (by simp only [execOp, Sem.run_bind, hr, Result.andThen_ok, Sem.run_pure]) ⟨.mpv (blen m) w.heap.size, _, rfl, ?_, h w.heap.size⟩
          rw [bpush_eq]
          exact hm.push (World.grownBy_alloc w _ none) ⟨⟨#[], 0, heap_alloc_new w _, MapKept.stamped_empty 0, ⟨by simp, by simp⟩⟩, .inl hm.size⟩ (fun b hb => by simp [Blk.nums] at hb; omega)
    case range t x =>
      dsimp only at h
      rcases rngS_cases (T.ty t) (ev T env x) m with hs | ⟨ks, z, nm, b, b', ks', f, hy, hx, hb, hs⟩
      · rw [hs] at h; exact h.elim
      · rw [hs] at h
        · obtain ⟨rfl, h⟩ := h
          have h4 := hm.each _ (bget_mem hb (by simp))
          have hty := hT.ty t
          rw [hy] at hty
          obtain ⟨k, e, h1, h2, h3⟩ := hty
          obtain ⟨cnt, h5, h6⟩ := map_range h1 h4.1
          refine wp_of_run (w' := w.alloc (.mapIter (some b) cnt.1 #[] cnt.1)) (u := .pointer (some ⟨w.heap.size, 0, none⟩)) (by simp only [execOp, E, hx, cv, Sem.run_bind, h5, Result.andThen_ok, Sem.run_pure]) ⟨_, _, by simp [cv], ?_, h (w.heap.size, cnt.2) trivial⟩
          have hlt := bnum_lt h4 (b := b) (by simp [Blk.nums])
          refine hm.turn hb (by simp) (row := none) (World.grownBy_alloc w _ none) (fun _ h => by cases h) (fun b' hb' => by simp [Blk.nums] at hb'; subst hb'; exact h4.2) ⟨?_, h4.2, .inl hm.size⟩ (fun b' hb' => by simp [Blk.nums] at hb' ⊢; omega) ?_
          · have e1 : (fun c => ((f c).map cv).isSome) = fun c => (f c).isSome := by funext c; cases f c <;> rfl
            rw [e1] at h6
            exact h6
          · simp [Blk.nums]; omega
    case next x s =>
      cases s with
      | true => exact h.elim
      | false =>
        dsimp only at h
        rcases nxtS_cases (ev T env x) m with hs | ⟨nm, r, b, r', ks, f, left, cnt, last, hx, hb, hs⟩
        · rw [hs] at h; exact h.elim
        · rw [hs] at h
          · obtain ⟨rfl, h⟩ := h
            have h4 := hm.each _ (bget_mem hb (by simp))
            have hnb : b ≠ r := by
              obtain ⟨⟨es, clock, since, seen, c0, q1, _, _, q2, _⟩, _⟩ := h4
              intro e; rw [e, q2] at q1; cases q1
            rcases map_next (P := P) h4.1 type with ⟨h5, h6⟩ | ⟨c, v, w', n, h5, h6, h7, h8, h9, h10, h11⟩
            · refine wp_of_run (w' := w) (u := .tuple #[.bool false]) (by simp only [execOp, E, hx, cv, Nat.zero_mul, Nat.add_zero, Sem.run_bind, h6, Result.andThen_ok, Sem.run_pure]) ⟨_, _, rfl, ?_, h none h5⟩
              exact hm.turn hb (by simp) (row := none) ⟨rfl, rfl, rfl, Nat.le_refl _, fun _ _ _ => rfl⟩ (fun _ h => by cases h) (fun b' hb' => by simp [Blk.nums] at hb'; exact hb'.elim (fun e => e ▸ h4.2.1) (fun e => e ▸ h4.2.2)) ⟨h4.1.map, h4.2.1⟩ (fun b' hb' => by simp [Blk.nums] at hb' ⊢; exact .inl (.inl hb'))
            · obtain ⟨u, hu, rfl⟩ := Option.map_eq_some_iff.1 h6
              refine wp_of_run (w' := w') (u := .tuple #[.bool true, kv ks c, cv u]) (by simp only [execOp, E, hx, cv, Nat.zero_mul, Nat.add_zero, Sem.run_bind, h9, Result.andThen_ok, Sem.run_pure]) ⟨_, _, by show _ = a.put dst (cv (.tup [.bool true, keyS ks c, u])); simp only [cv, cvs, keyS_cv h7], ?_, h (some (c, u, n)) ⟨h5, hu, h7, h8⟩⟩
              exact hm.turn hb (by simp) (row := some r) h11 (fun b' hb' => by cases hb'; simp [Blk.nums]) (fun b' hb' => by simp [Blk.nums] at hb'; exact hb'.elim (fun e => e ▸ h4.2.1) (fun e => e ▸ h4.2.2)) ⟨h10, h4.2⟩ (fun b' hb' => .inl hb') (by simp [Blk.nums]; exact hnb)
    case call c =>
      obtain ⟨callee, args, ts⟩ := c
      cases callee with
      | invoke r s => exact h.elim
      | builtin b =>
        cases b <;> try (exact h.elim)
        case delete =>
          dsimp only at h
          rcases delStep_cases T m ts.toList (evs T env args.toList) with hs | ⟨t, t2, nm, b, i, ks, z, b', ks', f, p, c, hts, hxs, hy, hb, hc, hs⟩
          · rw [hs] at h; exact h.elim
          · rw [hs] at h
            obtain ⟨⟨q1, rfl, rfl⟩, h⟩ := h
            have e1 : args.map a.eval = (cvs (evs T env args.toList)).toArray := by apply Array.ext'; rw [← hf.evs hT.gl]; simp
            have e2 : ts = #[t, t2] := by apply Array.ext'; exact hts
            have hty := hT.ty t
            rw [hy] at hty
            obtain ⟨k, e, h1, h2, h3⟩ := hty
            obtain ⟨g1, g2⟩ := codeK_sound hc q1
            have h4 := hm.each _ (bget_mem hb (by simp))
            obtain ⟨es', clock', h5, h6, es, clock, h7⟩ := map_del h2 h1 h4.1 g1 t2 type
            have hr : (execOp a.eval ⟨dst, .call { callee := .builtin .delete, args := args, argTypes := ts }, type, pos, after, guard⟩).run P w = .ok (.value (.tuple #[])) (Go.ChangeMaps.setBlock w b (.map es' clock')) := by
              simp only [execOp, resolve, e1, hxs, cvs, Sem.run_bind, Sem.run_pure, Result.andThen_ok, invoke, builtin, e2, g2, cv, h5]
            refine wp_of_run hr ⟨.tup [], _, rfl, ?_, h (.bool true)⟩
            refine hm.turn hb (by simp) (setBlock_grown h7) (fun b' hb' => by cases hb'; simp [Blk.nums]) (fun b' hb' => by simp [Blk.nums] at hb'; subst hb'; exact h4.2) ⟨?_, h4.2⟩ (fun b' hb' => .inl hb')
            rw [map_cvD]; exact h6
        case copy =>
          dsimp only at h
          have e1 : args.map a.eval = (cvs (evs T env args.toList)).toArray := by apply Array.ext'; rw [← hf.evs hT.gl]; simp
          rcases copyStep_cases T m ts.toList (evs T env args.toList) with hs | ⟨t, t', x, y, p, nm, n, e, hts, hxs, hz, hs⟩
          · rw [hs] at h; exact h.elim
          · rw [hs] at h
            have e2 : ts = #[t, t'] := by apply Array.ext'; exact hts
            obtain ⟨w', h1, h2⟩ := copyC_sound (P := P) (t' := t') (ty := type) hT hz h.1 hm
            have hr : (execOp a.eval ⟨dst, .call { callee := .builtin .copy, args := args, argTypes := ts }, type, pos, after, guard⟩).run P w = .ok (.value (.int .i64 n)) w' := by
              simp only [execOp, resolve, e1, hxs, cvs, Sem.run_bind, Sem.run_pure, Result.andThen_ok, invoke, builtin, e2, h1]
            exact wp_of_run hr ⟨.int .i64 n, _, rfl, h2, h.2 (.bool true)⟩
        dsimp only at h
        have e1 : args.map a.eval = (cvs (evs T env args.toList)).toArray := by apply Array.ext'; rw [← hf.evs hT.gl]; simp
        rcases appStep_cases T m ts.toList (evs T env args.toList) with hs | ⟨t, s, x, p, Q9, f9, g9, hts, hxs, hz, hs⟩ | ⟨t, t', s, x, r, hts, hxs, hz, hs⟩
        · rw [hs] at h; exact h.elim
        · rw [hs] at h
          have e2 : ts = #[t, t] := by apply Array.ext'; exact hts
          obtain ⟨z, w', h1, h2, h3⟩ := appP_sound (P := P) (ty := type) hT hz h.1 hm
          have hr : (execOp a.eval ⟨dst, .call { callee := .builtin .append, args := args, argTypes := ts }, type, pos, after, guard⟩).run P w = .ok (.value (cv (f9 z))) w' := by
            simp only [execOp, resolve, e1, hxs, cvs, Sem.run_bind, Sem.run_pure, Result.andThen_ok, invoke, builtin, e2, h1]
          exact wp_of_run hr ⟨f9 z, _, rfl, h3, h.2 z h2⟩
        · rw [hs] at h
          obtain ⟨p, o, k, e, es, con⟩ := r
          have hp : p := by cases o <;> exact h.1
          have e2 : ts = #[t, t'] := by apply Array.ext'; exact hts
          have hr : ∀ {v : Value} {w' : World}, (Builtin.append_ #[t, t'] type #[cv s, cv x]).run P w = .ok v w' → (execOp a.eval ⟨dst, .call { callee := .builtin .append, args := args, argTypes := ts }, type, pos, after, guard⟩).run P w = .ok (.value v) w' := fun h1 => by
            simp only [execOp, resolve, e1, hxs, cvs, Sem.run_bind, Sem.run_pure, Result.andThen_ok, invoke, builtin, e2, h1]
          cases o with
          | none =>
            obtain ⟨v, w', h1, h2, hsv⟩ : ∃ v w', (Builtin.append_ #[t, t'] type #[cv s, cv x]).run P w = .ok v w' ∧ MemOk w0 B (bpush m (.own v k e es con)) w' ∧ slV v k = v := by
              rcases hz with ⟨rfl, hz⟩ | hz
              · exact appS_sound (P := P) (ty := type) hT hz hp hm
              · exact appT_sound (P := P) (ty := type) hT hz hp hm
            exact wp_of_run (hr h1) ⟨.own (blen m) v k, _, by simp only [cv, hsv], h2, h.2 v⟩
          | some nm =>
            obtain ⟨v, w', h1, h2, hsv⟩ : ∃ v w', (Builtin.append_ #[t, t'] type #[cv s, cv x]).run P w = .ok v w' ∧ MemOk w0 B (bset m nm (.own v k e es con)) w' ∧ slV v k = v := by
              rcases hz with ⟨rfl, hz⟩ | hz
              · exact appS_sound (P := P) (ty := type) hT hz hp hm
              · exact appT_sound (P := P) (ty := type) hT hz hp hm
            exact wp_of_run (hr h1) ⟨.own nm v k, _, by simp only [cv, hsv], h2, h.2 v⟩
      | value f =>
        dsimp only at h
        rcases callStep_cases (ev T env f) (evs T env args.toList) with hs | ⟨g, first, cap, hv, hs⟩
        · rw [hs] at h; exact h.elim
        · rw [hs] at h
          dsimp only at h
          have hr := op_call (P := P) (w := w) (d := dst) (args := args) (ts := ts) (ty := type) (pos := pos) (af := after) (g := guard) hT hf hv
          have hc := hG w0 B g (sapp first (sapp (evs T env args.toList) cap)) m
          generalize G g (sapp first (sapp (evs T env args.toList) cap)) m = r at *
          cases r with
          | none => exact h.elim
          | pure p v => exact wp_of_enters hr (hc h.1 w hm) fun u w' ⟨hu, hg⟩ => ⟨v, m, by rw [hu], hm.grow hg, h.2⟩
          | own p t es n con F =>
            exact wp_of_enters hr (hc h.1 w hm) fun u w' ⟨v, hu, hg, ho⟩ => ⟨F (.own (blen m) v n), _, by rw [hu], by
              rw [bpush_eq]
              exact hm.push hg (own_ok ho hm.size) (fun b hb => own_fresh ho (by simpa [Blk.nums] using hb)), h.2 v⟩
          | turn p nm con v => exact wp_of_enters hr (hc h.1 w hm) fun u w' ⟨hu, hg⟩ => ⟨v, _, by rw [hu], hg, h.2⟩
          | rel p A Q F g => exact wp_of_enters hr (hc h.1 w hm) fun u w' ⟨a, hQ, hu, hg⟩ => ⟨F a, g a, by rw [hu], hg, h.2 a hQ⟩
          | grw p A Q F g => exact wp_of_enters hr (hc h.1 w hm) fun u w' ⟨a, hQ, hu, hg, h1, h2, h3⟩ => ⟨F a, bpush m (g a), by rw [hu], by rw [bpush_eq]; exact hm.push hg h1 h2 h3, h.2 a hQ⟩
theorem vcOps_step {T : Tab} {G : Ctr} {all : List Oper} {o : Oper} {rest : List Oper} {env : List SV} {m : List Blk} {K : List SV → List Blk → Prop} (h : vcOps T G all (o :: rest) env m K)
    {a : Act} (hf : Fr env a) : (Region.wanted o (yielded all.toArray a.tmps) = true ∧ stepK T G env m o fun v m' => vcOps T G all rest (upd env o.dst v) m' K) ∨
      (Region.wanted o (yielded all.toArray a.tmps) = false ∧ vcOps T G all rest (upd env o.dst .undef) m K) := by
  have hg := gd_sound (all := all) hf o
  simp only [vcOps] at h
  cases hgd : gd all env o with
  | go => rw [hgd] at h hg; exact .inl ⟨hg, h⟩
  | skip => rw [hgd] at h hg; exact .inr ⟨hg, h⟩
  | ask b want =>
    rw [hgd] at h hg
    simp only [gdK] at h
    dsimp only at hg
    cases hb : eqB b want with
    | true => rw [hb] at h hg; exact .inl ⟨hg, h⟩
    | false => rw [hb] at h hg; exact .inr ⟨hg, h⟩
  | stuck => rw [hgd] at h; exact h.elim
theorem vcOps_sound {P : Program} {T : Tab} (hT : TabOk P T) {G : Ctr} (hG : GOk P G) {all : List Oper} {w0 : World} {B : List Nat} {Q : Exit → Act → World → Prop} {ds : List Deferred} {K : List SV → List Blk → Prop}
    (hQ : ∀ env m a w, Fr env a → a.defers = ds → MemOk w0 B m w → K env m → Q .normal a w) : ∀ (l : List Oper) (env : List SV) (m : List Blk) (a : Act) (w : World), vcOps T G all l env m K → Fr env a → a.defers = ds → MemOk w0 B m w →
    wpList P all.toArray Q l a w
  | [], env, m, a, w, h, hf, hd, hm => hQ env m a w hf hd hm h
  | o :: rest, env, m, a, w, h, hf, hd, hm => by
    unfold wpList
    rcases vcOps_step h hf with ⟨h1, h2⟩ | ⟨h1, h2⟩
    · rw [if_pos h1]
      refine .inl (Oper.wp_mono (fun a' w' ⟨v, m', he, hm', hk⟩ => ?_) (stepK_sound hT hG h2 hf hm))
      subst he
      exact vcOps_sound hT hG hQ rest _ _ _ _ hk (hf.put o.dst v) (by rw [← hd]; cases o.dst <;> rfl) hm'
    · rw [if_neg (by rw [h1]; simp)]
      exact vcOps_sound hT hG hQ rest _ _ _ _ h2 (hf.put o.dst .undef) (by rw [← hd]; cases o.dst <;> rfl) hm
end Go.Proofs.Ytdanlclhnehieaa

/-
  A symbolic walk of my own: code, loops, a function's beginning and end.
-/
namespace Go.Proofs.Ytdanlclhnehieaa
set_option linter.unusedSimpArgs false
set_option linter.unusedVariables false
open Go.RowKit

abbrev Kont := Exit → List SV → List Blk → Prop
def KQ (w0 : World) (B : List Nat) (K : Kont) : Exit → Act → World → Prop := fun x a w => ∃ env m, Fr env a ∧ a.defers = [] ∧ MemOk w0 B m w ∧ K x env m
def Vc (P : Program) (c : Code) (env : List SV) (m : List Blk) (K : Kont) : Prop :=
  ∀ w0 B a w, Fr env a → a.defers = [] → MemOk w0 B m w → c.wp P (KQ w0 B K) a w
def thenK (N : List SV → List Blk → Prop) (K : Kont) : Kont
  | .normal, e, m => N e m
  | x, e, m => K x e m
def blockK (id : Nat) (K : Kont) : Kont
  | .exit i, e, m => match Nat.beq i id with | true => K .normal e m | false => K (.exit i) e m
  | x, e, m => K x e m
section
variable {P : Program} {env : List SV} {m : List Blk} {K : Kont}
theorem Vc.seq {a b : Code} (h : ∀ N : List SV → List Blk → Prop, (∀ env m, Vc P b env m K → N env m) → Vc P a env m (thenK N K)) : Vc P (.seq a b) env m K := by
  intro w0 B ac w hf hd hm
  refine wp_seq (wp_mono (h _ (fun _ _ h => h) w0 B ac w hf hd hm) fun e a' w' ⟨env', m', hf', hd', hm', hk⟩ => ?_)
  cases e <;> first | exact hk w0 B a' w' hf' hd' hm' | exact ⟨env', m', hf', hd', hm', hk⟩
theorem Vc.cond {T : Tab} (hT : TabOk P T) {c : Operand} {a b : Code} {t : Bool} (hc : ev T env c = .bool t) (h1 : t = true → Vc P a env m K) (h2 : t = false → Vc P b env m K) : Vc P (.cond c a b) env m K := by
  intro w0 B ac w hf hd hm
  refine wp_cond_split (t := t) (by rw [hf.ev hT.gl, hc]; rfl) (fun h => h1 h w0 B ac w hf hd hm) (fun h => h2 h w0 B ac w hf hd hm)
theorem Vc.block {id : Nat} {c : Code} (h : Vc P c env m (blockK id K)) : Vc P (.block id c) env m K := by
  intro w0 B ac w hf hd hm
  refine wp_block (wp_mono (h w0 B ac w hf hd hm) fun e a' w' ⟨env', m', hf', hd', hm', hk⟩ => ?_)
  cases e with
  | exit i =>
    simp only [blockK] at hk
    simp only [Exit.inBlock]
    cases hb : Nat.beq i id with
    | true =>
      rw [hb] at hk
      rw [if_pos (Nat.eq_of_beq_eq_true hb)]
      exact ⟨env', m', hf', hd', hm', hk⟩
    | false =>
      rw [hb] at hk
      rw [if_neg (Nat.ne_of_beq_eq_false hb)]
      exact ⟨env', m', hf', hd', hm', hk⟩
  | _ => exact ⟨env', m', hf', hd', hm', hk⟩
theorem Vc.ret (h : K .ret env m) : Vc P .ret env m K := fun _ _ _ _ hf hd hm => wp_ret ⟨env, m, hf, hd, hm, h⟩
theorem Vc.skip (h : K .normal env m) : Vc P .skip env m K := fun _ _ _ _ hf hd hm => wp_skip ⟨env, m, hf, hd, hm, h⟩
theorem Vc.exit {i : Nat} (h : K (.exit i) env m) : Vc P (.exit i) env m K := fun _ _ _ _ hf hd hm => wp_exit ⟨env, m, hf, hd, hm, h⟩
theorem Vc.region {T : Tab} (hT : TabOk P T) {G : Ctr} (hG : GOk P G) {id : Nat} {ops : List Oper} (h : vcOps T G ops ops env m (K .normal)) : Vc P (.region id ops.toArray false) env m K := by
  intro w0 B ac w hf hd hm
  exact wp_region_lit (vcOps_sound hT hG (ds := []) (fun e m a w h1 h2 h3 h4 => ⟨e, m, h1, h2, h3, h4⟩) ops env m ac w h hf hd hm)
theorem Vc.mono {c : Code} {K' : Kont} (h : Vc P c env m K) (hk : ∀ x e m, K x e m → K' x e m) : Vc P c env m K' :=
  fun w0 B a w hf hd hm => wp_mono (h w0 B a w hf hd hm) fun _ _ _ ⟨env', m', h1, h2, h3, h4⟩ => ⟨env', m', h1, h2, h3, hk _ _ _ h4⟩
end

def lk : List (Nat × SV) → Nat → Option SV
  | [], _ => none
  | (n, v) :: l, i => match Nat.beq n i with | true => some v | false => lk l i
def inR (lo hi i : Nat) : Bool := match Nat.ble lo i with | true => Nat.blt i hi | false => false
def hav (junk : Nat → SV) (lo hi : Nat) (u : List (Nat × SV)) : Nat → List SV → List SV
  | _, [] => []
  | i, x :: l => (match lk u i with | some v => v | none => match inR lo hi i with | true => junk i | false => x) :: hav junk lo hi u (i + 1) l
def agr (lo hi : Nat) (u : List (Nat × SV)) : Nat → List SV → List SV → Prop
  | _, [], [] => True
  | i, x :: l, y :: k => (match lk u i with | some v => y = v | none => match inR lo hi i with | true => True | false => y = x) ∧ agr lo hi u (i + 1) l k
  | _, _, _ => False
def bpre : List Blk → List Blk → Prop
  | [], _ => True
  | a :: l, b :: k => b = a ∧ bpre l k
  | _ :: _, [] => False
theorem agr_hav {lo hi : Nat} {u : List (Nat × SV)} : ∀ {i : Nat} {l k : List SV}, agr lo hi u i l k → ∃ junk, (∀ j, j < i → True) ∧ k = hav junk lo hi u i l
  | i, [], [], _ => ⟨fun _ => .undef, fun _ _ => trivial, rfl⟩
  | i, x :: l, y :: k, h => by
    obtain ⟨h1, h2⟩ := h
    obtain ⟨junk, _, rfl⟩ := agr_hav h2
    have keep : ∀ (l : List SV) (j : Nat), i < j → hav (fun n => if n = i then y else junk n) lo hi u j l = hav junk lo hi u j l := by
      intro l
      induction l with
      | nil => intro j _; rfl
      | cons z l ih =>
        intro j hj
        simp only [hav, ih (j + 1) (by omega)]
        rw [if_neg (by omega)]
    refine ⟨fun n => if n = i then y else junk n, fun _ _ => trivial, ?_⟩
    simp only [hav, keep l (i + 1) (by omega), if_true]
    congr 1
    split at h1 <;> simp_all
    split at h1 <;> simp_all
theorem bpre_app : ∀ {l k : List Blk}, bpre l k → ∃ r, k = l ++ r
  | [], k, _ => ⟨k, rfl⟩
  | a :: l, b :: k, h => by
    obtain ⟨rfl, h2⟩ := h
    obtain ⟨r, rfl⟩ := bpre_app h2
    exact ⟨r, rfl⟩
theorem MemOk.front {w0 : World} {B : List Nat} {l r : List Blk} {w : World} (h : MemOk w0 B (l ++ r) w) : MemOk w0 B l w :=
  ⟨h.os, h.tape, h.output, h.size, h.old, fun e he => h.each e (List.mem_append_left _ he), by
    have := h.nodup
    rw [List.flatMap_append, List.nodup_append] at this
    exact this.1⟩
theorem Vc.loopJ {P : Program} {c : Code} {K : Kont} {α : Type} (J : α → List SV → List Blk → Prop) (μ : α → Nat) (x0 : α) {env : List SV} {m : List Blk} (h0 : J x0 env m)
    (hb : ∀ x env m, J x env m → Vc P c env m (thenK (fun env' m' => ∃ x', J x' env' m' ∧ μ x' < μ x) K)) : Vc P (.loop c) env m K := by
  intro w0 B ac w hf hd hm
  let S : Act → World → Nat → Prop := fun a w n => ∃ x env m, J x env m ∧ Fr env a ∧ a.defers = [] ∧ MemOk w0 B m w ∧ μ x = n
  let I : Act → World → Prop := fun a w => ∃ n, S a w n
  have least : ∀ a w, I a w → ∃ n, S a w n ∧ ∀ k, S a w k → n ≤ k := by
    intro a w ⟨n, hn⟩
    induction n using Nat.strongRecOn with
    | ind n ih =>
      by_cases h : ∃ k, k < n ∧ S a w k
      · obtain ⟨k, hk, hs⟩ := h; exact ih k hk hs
      · exact ⟨n, hn, fun k hk => Nat.le_of_not_lt fun hlt => h ⟨k, hlt, hk⟩⟩
  let M : Act → World → Nat := fun a w => open Classical in if h : I a w then Classical.choose (least a w h) else 0
  have hM : ∀ a w (h : I a w), S a w (M a w) ∧ ∀ k, S a w k → M a w ≤ k := by
    intro a w h
    simp only [M, dif_pos h]
    exact Classical.choose_spec (least a w h)
  refine wp_loop I M ⟨μ x0, x0, env, m, h0, hf, hd, hm, rfl⟩ fun a w hI => ?_
  obtain ⟨⟨x, env', m', hJ, hf', hd', hm', hx⟩, _⟩ := hM a w hI
  refine wp_mono (hb x env' m' hJ w0 B a w hf' hd' hm') fun e a2 w2 ⟨env2, m2, hf2, hd2, hm2, hk⟩ => ?_
  cases e with
  | normal =>
    obtain ⟨x2, hJ2, hlt⟩ := hk
    have hI2 : S a2 w2 (μ x2) := ⟨x2, env2, m2, hJ2, hf2, hd2, hm2, rfl⟩
    refine ⟨⟨_, hI2⟩, ?_⟩
    have := (hM a2 w2 ⟨_, hI2⟩).2 _ hI2
    rw [← hx]; omega
  | exit i => exact ⟨env2, m2, hf2, hd2, hm2, hk⟩
  | goto l => exact ⟨env2, m2, hf2, hd2, hm2, hk⟩
  | ret => exact ⟨env2, m2, hf2, hd2, hm2, hk⟩
  | panic c => exact ⟨env2, m2, hf2, hd2, hm2, hk⟩
  | outgrown => exact ⟨env2, m2, hf2, hd2, hm2, hk⟩
theorem Vc.loop {P : Program} {c : Code} {K : Kont} {env : List SV} {m : List Blk} {α : Type} (lo hi : Nat) (u : α → List (Nat × SV)) (M : α → List Blk) (Pr : α → Prop) (μ : α → Nat) (x0 : α)
    (h0 : Pr x0 ∧ agr lo hi (u x0) 0 env env ∧ bpre (M x0) m)
    (hb : ∀ x junk, Pr x → Vc P c (hav junk lo hi (u x) 0 env) (M x) (thenK (fun env' m' => ∃ x', Pr x' ∧ agr lo hi (u x') 0 env env' ∧ bpre (M x') m' ∧ μ x' < μ x) K)) : Vc P (.loop c) env m K := by
  have wk : ∀ {c : Code} {env : List SV} {l r : List Blk} {K : Kont}, Vc P c env l K → Vc P c env (l ++ r) K := fun h w0 B a w hf hd hm => h w0 B a w hf hd hm.front
  refine Vc.loopJ (fun x e m' => Pr x ∧ agr lo hi (u x) 0 env e ∧ bpre (M x) m') μ x0 h0 fun x e m' ⟨h1, h2, h3⟩ => ?_
  obtain ⟨junk, _, rfl⟩ := agr_hav h2
  obtain ⟨r, rfl⟩ := bpre_app h3
  refine wk (Vc.mono (hb x junk h1) fun e env' m' hk => ?_)
  cases e <;> first | exact hk | (obtain ⟨x', a, b, c, d⟩ := hk; exact ⟨x', ⟨a, b, c⟩, d⟩)

def und : Nat → List SV
  | 0 => []
  | n + 1 => .undef :: und n
theorem cvs_und (n : Nat) : cvs (und n) = List.replicate n undef := by
  induction n with
  | zero => rfl
  | succ n ih => simp [und, cvs, cv, ih, List.replicate_succ]
def resOne (T : Tab) (env : List SV) (m : List Blk) : ResultVar → Option (Prop × SV)
  | .tmp t => some (True, sget env t)
  | .cell a t => loadS (T.ty t) (sget env a) m
def resAll (T : Tab) (env : List SV) (m : List Blk) : List ResultVar → Option (Prop × List SV)
  | [] => some (True, [])
  | r :: l => match resOne T env m r, resAll T env m l with
    | some (p, v), some (q, vs) => some (p ∧ q, v :: vs)
    | _, _ => none
def resS (T : Tab) (env : List SV) (m : List Blk) (rs : List ResultVar) : Option (Prop × SV) :=
  match rs with
  | [r] => resOne T env m r
  | rs => match resAll T env m rs with | some (p, vs) => some (p, .tup vs) | none => none
def retK (T : Tab) (rs : List ResultVar) (R : SV → List Blk → Prop) : Kont
  | .ret, env, m => match resS T env m rs with | some (p, v) => p ∧ R v m | none => False
  | .normal, env, m => match resS T env m rs with | some (p, v) => p ∧ R v m | none => False
  | _, _, _ => False
theorem loadS_ptr {y : Ty} {x : SV} {m : List Blk} {p : Prop} {v : SV} (h : loadS y x m = some (p, v)) : ∃ a, cv x = .pointer (some a) := by
  unfold loadS at h
  split at h
  · exact ⟨_, rfl⟩
  · exact ⟨_, rfl⟩
  · cases h
def rvSem (tmps : Array Value) : ResultVar → Sem Value
  | .tmp t => pure (tmps.getD t undef)
  | .cell a t => do loadVar t (← asAddr (tmps.getD a undef))
theorem results_eq (fn : Func) (tmps : Array Value) : results fn tmps = (fn.results.mapM (rvSem tmps) >>= fun vs => pure (if h : vs.size = 1 then vs[0] else .tuple vs)) := by
  rfl
theorem resOne_run {P : Program} {T : Tab} (hT : TabOk P T) {env : List SV} {m : List Blk} {r : ResultVar} {p : Prop} {v : SV} (h : resOne T env m r = some (p, v)) (hp : p) {w0 : World} {B : List Nat} {w : World} (hm : MemOk w0 B m w) :
    (rvSem (cvs env).toArray r).run P w = .ok (cv v) w := by
  unfold rvSem
  cases r with
  | tmp t =>
    simp only [resOne, Option.some.injEq, Prod.mk.injEq] at h
    obtain ⟨rfl, rfl⟩ := h
    simp only [Sem.run_pure, cvs_sget]
  | cell a t =>
    simp only [resOne] at h
    have h1 := loadS_sound (hT.ty t) h hp hm
    obtain ⟨ad, hx⟩ := loadS_ptr h
    simp only [cvs_sget, hx] at h1 ⊢
    simpa [Instr.loadAt, Instr.sureAddr, asAddr] using h1
theorem resAll_run {P : Program} {T : Tab} (hT : TabOk P T) {env : List SV} {m : List Blk} {w0 : World} {B : List Nat} {w : World} (hm : MemOk w0 B m w) : ∀ {rs : List ResultVar} {p : Prop} {vs : List SV}, resAll T env m rs = some (p, vs) → p →
    (rs.mapM (rvSem (cvs env).toArray)).run P w = .ok (cvs vs) w
  | [], p, vs, h, hp => by
    simp only [resAll, Option.some.injEq, Prod.mk.injEq] at h
    obtain ⟨rfl, rfl⟩ := h
    simp [cvs]
  | r :: l, p, vs, h, hp => by
    simp only [resAll] at h
    split at h
    · rename_i p1 v1 q1 vs1 h1 h2
      simp only [Option.some.injEq, Prod.mk.injEq] at h
      obtain ⟨rfl, rfl⟩ := h
      rw [List.mapM_cons]
      simp only [Sem.run_bind]
      rw [resOne_run hT h1 hp.1 hm]
      simp only [Result.andThen_ok]
      rw [resAll_run hT hm h2 hp.2]
      simp [cvs]
    · cases h
theorem resS_run {P : Program} {T : Tab} (hT : TabOk P T) {env : List SV} {m : List Blk} {fn : Func} {rs : List ResultVar} (hr : fn.results = rs.toArray) {p : Prop} {v : SV} (h : resS T env m rs = some (p, v)) (hp : p)
    {w0 : World} {B : List Nat} {w : World} (hm : MemOk w0 B m w) {a : Act} (hf : Fr env a) : (results fn a.tmps).run P w = .ok (cv v) w := by
  rw [results_eq, hr, hf]
  unfold resS at h
  split at h
  · rename_i r
    simp only [List.mapM_toArray, List.mapM_cons, List.mapM_nil, Sem.run_bind, Sem.run_map]
    rw [resOne_run hT h hp hm]
    simp
  · rename_i hne
    split at h
    · rename_i q vs hq
      simp only [Option.some.injEq, Prod.mk.injEq] at h
      obtain ⟨rfl, rfl⟩ := h
      simp only [List.mapM_toArray, Sem.run_bind, Sem.run_map]
      rw [resAll_run hT hm hq hp]
      have hl : ∀ {rs : List ResultVar} {p : Prop} {vs : List SV}, resAll T env m rs = some (p, vs) → vs.length = rs.length := by
        intro rs
        induction rs with
        | nil => intro p vs h; simp only [resAll, Option.some.injEq, Prod.mk.injEq] at h; rw [← h.2]; rfl
        | cons r l ih =>
          intro p vs h
          simp only [resAll] at h
          split at h
          · rename_i h1 h2
            simp only [Option.some.injEq, Prod.mk.injEq] at h
            rw [← h.2]; simp [ih h2]
          · cases h
      have h1 : (cvs vs).toArray.size ≠ 1 := by
        intro e
        simp [cvs_len, hl hq] at e
        match rs, e with
        | [r], _ => exact hne r rfl
      simp only [Result.andThen_ok, Sem.run_pure, cv]
      rw [dif_neg h1]
    · cases h
theorem Vc.calls {P : Program} {T : Tab} (hT : TabOk P T) {f : FuncId} {fn : Func} {c : Code} (hf : P.funcs[f]? = some fn) (hb : fn.body = some c) {rs : List ResultVar} (hr : fn.results = rs.toArray) {args : List SV} {k : Nat}
    (hk : fn.ntmps - args.length = k) {w : World} {B : List Nat} {m : List Blk} (hm : MemOk w B m w) {R : SV → List Blk → Prop} (h : Vc P c (sapp args (und k)) m (retK T rs R)) :
    Calls P f (cvs args).toArray w fun e w' => ∃ u, e = .returned u ∧ ∃ v m', u = cv v ∧ MemOk w B m' w' ∧ R v m' := by
  refine calls_of_wp hf hb (wp_mono (h w B _ w ?_ rfl hm) fun e a w' ⟨env, m', hf', hd', hm', hk'⟩ => ?_)
  · unfold Fr
    simp only [sapp_eq, cvs_app, cvs_und]
    rw [← hk]
    simp [cvs_len]
  · cases e <;> first | exact hk'.elim | skip
    all_goals
      simp only [retK] at hk'
      split at hk'
      · rename_i p v hv
        exact ⟨hd', cv v, resS_run hT hr hv hk'.1 hm' hf', cv v, rfl, v, m', rfl, hm', hk'.2⟩
      · exact hk'.elim
theorem MemOk.start (w : World) : MemOk w [] [] w := ⟨rfl, rfl, rfl, Nat.le_refl _, fun _ _ _ => rfl, fun _ h => absurd h List.not_mem_nil, List.nodup_nil⟩
theorem MemOk.grown {w0 : World} {m : List Blk} {w : World} (h : MemOk w0 [] m w) : w0.grownBy w none :=
  ⟨h.os, h.tape, h.output, h.size, fun k hk _ => h.old k hk (by simp)⟩
theorem enter_run {P : Program} {f : FuncId} {fn : Func} (hf : P.funcs[f]? = some fn) (hn : (fn.name == "runtime.NumGoroutine") = false) (hb : fn.body.isNone = false) (args : Array Value) (w : World) :
    (callFunc f args).run P w = .ok (.enter f args) w := by
  unfold callFunc
  simp only [Sem.run_bind, run_program, Result.andThen_ok, hf]
  simp only [hn, hb, Bool.false_eq_true, if_false, Sem.run_pure]
end Go.Proofs.Ytdanlclhnehieaa

/-
  A symbolic walk of my own: a table of types out of the program's own facts.
-/
namespace Go.Proofs.Ytdanlclhnehieaa
set_option linter.unusedSimpArgs false
set_option linter.unusedVariables false
open Go.RowKit
def isIfc : Option TypeDesc → Bool
  | some (.interface _) => true
  | _ => false
theorem ifc_mk {P : Program} {t : TypeId} (h : isIfc (P.underlying t) = true) : ∃ ms, P.underlying t = some (.interface ms) := by
  cases hu : P.underlying t with
  | none => rw [hu] at h; cases h
  | some d => rw [hu] at h; cases d <;> first | (cases h; done) | exact ⟨_, rfl⟩
theorem zv_mk {P : Program} {e : TypeId} {v : Value} (h : ((P.info? e).bind (·.zero)) = some v) : ∀ w, (zeroValue e).run P w = .ok v w := by
  intro w
  obtain ⟨i, hi, hz⟩ := Option.bind_eq_some_iff.1 h
  simp [zeroValue, typeInfo, hi, hz]
theorem st_mk {P : Program} {t : TypeId} {size : Nat} {fs : List (Nat × Nat × TypeId)}
    (h : (match P.underlying t with | some (.struct fields) => ((fields.toList.mapM fun f => (P.info? f.type).map fun i => (f.offset, i.size)), fields.toList.map (·.type)) | _ => (none, [])) = (some (fs.map fun x => (x.1, x.2.1)), fs.map (·.2.2)))
    (h2 : Sz P t size) : TyOk1 P t (.struct size fs) := by
  split at h
  · rename_i fields hf
    exact ⟨fields, hf, h2, (Prod.mk.inj h).1, (Prod.mk.inj h).2⟩
  · exact absurd (Prod.mk.inj h).1 (by simp)
theorem b8_mk {P : Program} {e : TypeId} (h : (P.info? e).map (fun i => (i.zero, i.size, i.bytes)) = some (some (.int .u8 0), 1, 1)) : ∃ i, P.info? e = some i ∧ i.zero = some (.int .u8 0) ∧ i.size = 1 ∧ i.bytes = 1 := by
  cases hi : P.info? e with
  | none => rw [hi] at h; cases h
  | some i =>
    rw [hi] at h
    simp only [Option.map_some, Option.some.injEq, Prod.mk.injEq] at h
    exact ⟨i, rfl, h.1, h.2.1, h.2.2⟩
theorem sl_mk {P : Program} {t e : TypeId} {es eb : Nat} (h1 : P.underlying t = some (.slice e)) (h2 : 0 < es) (h3 : (P.info? e).map (·.size) = some es) (h4 : (P.info? e).map (·.bytes) = some eb)
    (h5 : ((P.info? e).bind (·.zero)).map (·.cells.size) = some es) : TyOk1 P t (.sl e es eb) := by
  cases hi : P.info? e with
  | none => rw [hi] at h3; cases h3
  | some i =>
    rw [hi] at h3 h4 h5
    cases hz : i.zero with
    | none => simp [hz] at h5
    | some z =>
      simp [hz] at h3 h4 h5
      exact ⟨h1, h2, i, z, hi, hz, h3, h4, h5⟩
theorem zc_mk {P : Program} {t : TypeId} {c : Con} (h : ((P.info? t).bind (·.zero)).map (·.cells) = some (cc c).toArray) : ∃ i z, P.info? t = some i ∧ i.zero = some z ∧ z.cells = (cc c).toArray := by
  cases hi : P.info? t with
  | none => rw [hi] at h; cases h
  | some i =>
    rw [hi] at h
    cases hz : i.zero with
    | none => simp [hz] at h
    | some z => simp [hz] at h; exact ⟨i, z, by first | rfl | exact hi, hz, h⟩
theorem zr_mk {P : Program} {t : TypeId} {l : List SV} (h : ((P.info? t).bind (·.zero)).map (·.cells) = some (cvs l).toArray) : ∃ i z, P.info? t = some i ∧ i.zero = some z ∧ z.cells = (cvs l).toArray := by
  cases hi : P.info? t with
  | none => rw [hi] at h; cases h
  | some i =>
    rw [hi] at h
    cases hz : i.zero with
    | none => simp [hz] at h
    | some z => simp [hz] at h; exact ⟨i, z, by first | rfl | exact hi, hz, h⟩
end Go.Proofs.Ytdanlclhnehieaa

/-
  The law WordRing, walked: for words a, b, c (each below 2^256) it answers true; the world is the same but for new memory.
-/
import Derived.Test.YtbihllhamdflnaaLB
namespace Go.Proofs.Ytbihllhamdflnaa
open Go.RowKit
/-- Sums and products of words are those of their numbers, but for what is beyond 2^256. -/
theorem ring_facts (a b c : Nat) (ha : a < W) (hb : b < W) (hc : c < W) :
    addN b a = addN a b ∧ subN (addN a b) b = a ∧ addN (mulN a c) (mulN b c) = mulN (addN a b) c ∧ mulN c a = mulN a c := by
  unfold addN subN mulN
  refine ⟨by rw [Nat.add_comm], ?_, ?_, by rw [Nat.mul_comm]⟩
  · unfold W at *; omega
  · rw [Nat.add_mod_mod, Nat.mod_add_mod, ← Nat.add_mul, Nat.mod_mul_mod]
set_option maxHeartbeats 4000000 in
theorem ring_any (a b c : Nat) (ha : a < W) (hb : b < W) (hc : c < W) (w : World) : Calls Try.prog 10 #[WV a, WV b, WV c] w (Ret w (.bool true)) := by
  obtain ⟨e1, e2, e3, e4⟩ := ring_facts a b c ha hb hc
  have hK := Lib.hid (fun w => known_any w)
  have hs := Lib.hid (fun w => add_any a b ha hb w)
  have ht := Lib.hid (fun w => add_any b a hb ha w)
  have hd := Lib.hid (fun w => sub_any (addN a b) b (addN_lt a b) hb w)
  have hp := Lib.hid (fun w => mul_any (addN a b) c (addN_lt a b) hc w)
  have hx := Lib.hid (fun w => mul_any a c ha hc w)
  have hy := Lib.hid (fun w => mul_any b c hb hc w)
  have hq := Lib.hid (fun w => add_any (mulN a c) (mulN b c) (mulN_lt a c) (mulN_lt b c) w)
  have hm := Lib.hid (fun w => mul_any c a hc ha w)
  rw [e1] at ht
  rw [e2] at hd
  rw [e3] at hq
  rw [e4] at hm
  clear e1 e2 e3 e4
  generalize mulN (addN a b) c = p at *
  generalize addN a b = s at *
  generalize mulN a c = x at *
  generalize mulN b c = y at *
  generalize addB _ _ = o1 at hs
  generalize addB _ _ = o2 at ht
  generalize subB _ _ = o3 at hd
  generalize mulB _ _ = o4 at hp
  generalize mulB _ _ = o5 at hx
  generalize mulB _ _ = o6 at hy
  generalize addB _ _ = o7 at hq
  generalize mulB _ _ = o8 at hm
  go_enter Try.func10, Try.ntmps10
  go_wp2_with (first | (go_at_call 15; (with_reducible refine calls_ret (hs.out _) ?_); intro p) | (go_at_call 15; (with_reducible refine calls_ret (ht.out _) ?_); intro p) | (go_at_call 17; (with_reducible refine calls_ret (hd.out _) ?_); intro p))
  go_wp2_with (first | (go_at_call 19; (with_reducible refine calls_ret (hp.out _) ?_); intro p) | (go_at_call 19; (with_reducible refine calls_ret (hx.out _) ?_); intro p) | (go_at_call 19; (with_reducible refine calls_ret (hy.out _) ?_); intro p))
  go_wp2_with (first | (go_at_call 15; (with_reducible refine calls_ret (hq.out _) ?_); intro p) | (go_at_call 19; (with_reducible refine calls_ret (hm.out _) ?_); intro p) | (go_at_call 21; (with_reducible refine calls_ret (hK.out _) ?_); intro p))
  exact bodyPost_ret (v := .bool true) (by simp [results, Try.results10, go_sem]) rfl (Ret.of' rfl (by (repeat (first | with_reducible exact Below.refl _ _ | refine below_gw ?_ (by first | exact Nat.le_refl _ | (simp only [World.size_alloc, World.size_setCell, World.size_drew, gw_size]; omega)) _ | refine Below.alloc ?_ (by first | exact Nat.le_refl _ | (simp only [World.size_alloc, World.size_setCell, World.size_drew, gw_size]; omega)) _ | refine Below.setCell ?_ (by first | exact Nat.le_refl _ | (simp only [World.size_alloc, World.size_setCell, World.size_drew, gw_size]; omega)) _ | refine Below.drew ?_))))
end Go.Proofs.Ytbihllhamdflnaa

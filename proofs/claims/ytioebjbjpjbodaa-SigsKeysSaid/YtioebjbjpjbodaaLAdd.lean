/-
  limbs.Add and limbs.Sub, walked. Conditions: none.
-/
import Derived.Test.YtioebjbjpjbodaaNum
import Derived.Deep.RegionHeld3
import Derived.StillTailTactics
import Derived.RegionTactic
namespace Go.Proofs.Ytioebjbjpjbodaa
open Go.RowKit
set_option linter.unusedVariables false

set_option maxRecDepth 100000 in
set_option maxHeartbeats 800000 in
theorem ladd_any (x y : Nat) (w : World) (hx : x < 2 ^ 256) (hy : y < 2 ^ 256) :
    Calls Try.prog 6 #[num x, num y] w fun e w' => e = .returned (.tuple #[num ((x + y) % 2 ^ 256), .int .u64 (((x + y) / 2 ^ 256 : Nat) : Int)]) ∧ Below w.heap.size w w' := by
  obtain ⟨t0, k1, r0, e0, l0, m0⟩ := add_word (wd x 0) (wd y 0) 0 (wd_lt _ _) (wd_lt _ _) (by omega)
  obtain ⟨t1, k2, r1, e1, l1, m1⟩ := add_word (wd x 1) (wd y 1) k1 (wd_lt _ _) (wd_lt _ _) m0
  obtain ⟨t2, k3, r2, e2, l2, m2⟩ := add_word (wd x 2) (wd y 2) k2 (wd_lt _ _) (wd_lt _ _) m1
  obtain ⟨t3, k4, r3, e3, l3, m3⟩ := add_word (wd x 3) (wd y 3) k3 (wd_lt _ _) (wd_lt _ _) m2
  have hs := v4_addc e0 e1 e2 e3
  rw [v4_wd x hx, v4_wd y hy, Nat.add_zero] at hs
  obtain ⟨q1, q2⟩ := sum_of l0 l1 l2 l3 hs
  rw [← q1, ← q2]
  have hn := num_of l0 l1 l2 l3
  rw [← hn]
  clear hn q1 q2 hs e0 e1 e2 e3 l0 l1 l2 l3 m0 m1 m2 m3 hx hy
  have r0' : ∀ w : World, (callFunc 14 #[.int .u64 (wd x 0 : Int), .int .u64 (wd y 0 : Int), .int .u64 0]).run Try.prog w = .ok (.value (.tuple #[.int .u64 (t0 : Int), .int .u64 (k1 : Int)])) w := r0
  clear r0
  go_enter Try.func6, Try.ntmps6
  go_wp2
  refine wp_loop_rounds 5 ?_
  rw [rounds_succ]
  go_wp2
  go_region
  go_wp2
  rw [rounds_succ]
  go_wp2
  go_region
  go_wp2
  rw [rounds_succ]
  go_wp2
  go_region
  go_wp2
  rw [rounds_succ]
  go_wp2
  go_region
  go_wp2
  rw [rounds_succ]
  go_wp2
  refine bodyPost_ret (v := .tuple #[.agg #[.int .u64 (t0 : Int), .int .u64 (t1 : Int), .int .u64 (t2 : Int), .int .u64 (t3 : Int)], .int .u64 (k4 : Int)]) (by simp [results, Try.results6, go_sem]) rfl ⟨rfl, ?_⟩
  repeat (first | exact Below.refl _ _ | refine Below.drew ?_ | refine bal ?_ _)

set_option maxRecDepth 100000 in
set_option maxHeartbeats 800000 in
theorem sub_any (x y : Nat) (w : World) (hx : x < 2 ^ 256) (hy : y < 2 ^ 256) :
    Calls Try.prog 29 #[num x, num y] w fun e w' => e = .returned (.tuple #[num (dif x y), .int .u64 (lent x y : Int)]) ∧ Below w.heap.size w w' := by
  obtain ⟨t0, k1, r0, e0, l0, m0⟩ := sub_word (wd x 0) (wd y 0) 0 (wd_lt _ _) (wd_lt _ _) (by omega)
  obtain ⟨t1, k2, r1, e1, l1, m1⟩ := sub_word (wd x 1) (wd y 1) k1 (wd_lt _ _) (wd_lt _ _) m0
  obtain ⟨t2, k3, r2, e2, l2, m2⟩ := sub_word (wd x 2) (wd y 2) k2 (wd_lt _ _) (wd_lt _ _) m1
  obtain ⟨t3, k4, r3, e3, l3, m3⟩ := sub_word (wd x 3) (wd y 3) k3 (wd_lt _ _) (wd_lt _ _) m2
  have hs := v4_subb e0 e1 e2 e3
  rw [v4_wd x hx, v4_wd y hy, Nat.add_zero] at hs
  obtain ⟨q1, q2⟩ := dif_of hx hy l0 l1 l2 l3 hs m3
  rw [← q1, ← q2]
  have hn := num_of l0 l1 l2 l3
  rw [← hn]
  clear hn q1 q2 hs e0 e1 e2 e3 l0 l1 l2 l3 m0 m1 m2 m3 hx hy
  have r0' : ∀ w : World, (callFunc 37 #[.int .u64 (wd x 0 : Int), .int .u64 (wd y 0 : Int), .int .u64 0]).run Try.prog w = .ok (.value (.tuple #[.int .u64 (t0 : Int), .int .u64 (k1 : Int)])) w := r0
  clear r0
  go_enter Try.func29, Try.ntmps29
  go_wp2
  refine wp_loop_rounds 5 ?_
  rw [rounds_succ]
  go_wp2
  go_region
  go_wp2
  rw [rounds_succ]
  go_wp2
  go_region
  go_wp2
  rw [rounds_succ]
  go_wp2
  go_region
  go_wp2
  rw [rounds_succ]
  go_wp2
  go_region
  go_wp2
  rw [rounds_succ]
  go_wp2
  refine bodyPost_ret (v := .tuple #[.agg #[.int .u64 (t0 : Int), .int .u64 (t1 : Int), .int .u64 (t2 : Int), .int .u64 (t3 : Int)], .int .u64 (k4 : Int)]) (by simp [results, Try.results29, go_sem]) rfl ⟨rfl, ?_⟩
  repeat (first | exact Below.refl _ _ | refine Below.drew ?_ | refine bal ?_ _)
end Go.Proofs.Ytioebjbjpjbodaa

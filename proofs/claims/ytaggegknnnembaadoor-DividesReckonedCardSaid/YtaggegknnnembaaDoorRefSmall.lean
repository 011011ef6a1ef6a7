/-
  burrowref02.Of, Bit and Bits, walked. Conditions: none.
-/
import Derived.Test.YtaggegknnnembaaDoorAt
namespace Go.Proofs.YtaggegknnnembaaDoor
open Go.RowKit
set_option linter.unusedVariables false

theorem rof_any (n : Nat) (w : World) (h : n < 18446744073709551616) : Calls Tryd.prog 37 #[.int .u64 (n : Int)] w fun e w' => e = .returned (num n) ∧ Below w.heap.size w w' := by
  have hn := hid (num_small n h)
  go_enter Tryd.func37, Tryd.ntmps37
  go_wp2
  refine bodyPost_ret (v := .agg #[.int .u64 (n : Int), .int .u64 0, .int .u64 0, .int .u64 0]) (by simp [results, Tryd.results37, go_sem]) rfl ⟨by rw [hn.out], ?_⟩
  repeat (first | exact Below.refl _ _ | refine Below.drew ?_ | refine bal ?_ _)

theorem tm2 (a p : Nat) : (((a : Int) / 2 ^ p).tmod 2) = ((a / 2 ^ p % 2 : Nat) : Int) := by
  have e : ((a : Int) / 2 ^ p) = ((a / 2 ^ p : Nat) : Int) := by simp
  rw [e, Int.tmod_eq_emod_of_nonneg (Int.natCast_nonneg _)]
  exact (Int.natCast_emod _ _).symm
theorem rbit_in (x q p : Nat) (n : Int) (w : World) (hq : q < 4) (hp : p < 64) (h : n = 64 * (q : Int) + p) : Calls Tryd.prog 42 #[num x, .int .i64 n] w fun e w' => e = .returned (.int .u64 ((wd x q / 2 ^ p % 2 : Nat) : Int)) ∧ Below w.heap.size w w' := by
  have h0 : 0 ≤ n := by omega
  have h1 : n < 256 := by omega
  have e1 : n / 64 = (q : Int) := by omega
  have e2 : n % 64 = (p : Int) := by omega
  have HL := hid (wd_lt x q)
  clear h
  have hc : q = 0 ∨ q = 1 ∨ q = 2 ∨ q = 3 := by omega
  clear hq
  rcases hc with rfl | rfl | rfl | rfl
  all_goals
    go_enter Tryd.func42, Tryd.ntmps42
    go_wp2
    go_ret
    refine ⟨?_, bal (Below.refl _ _) _⟩
    exact congrArg Ending.returned (congrArg (Value.int IntKind.u64) (tm2 _ p))
theorem rbit_out (x : Nat) (n : Int) (w : World) (h : n < 0 ∨ 256 ≤ n) : Calls Tryd.prog 42 #[num x, .int .i64 n] w fun e w' => e = .returned (.int .u64 0) ∧ Below w.heap.size w w' := by
  rcases h with h | h
  · go_enter Tryd.func42, Tryd.ntmps42
    go_wp2
    go_ret
    exact ⟨rfl, bal (Below.refl _ _) _⟩
  · have h2 : ¬ n < 0 := by omega
    go_enter Tryd.func42, Tryd.ntmps42
    go_wp2
    go_ret
    exact ⟨rfl, bal (Below.refl _ _) _⟩
theorem rbit_any (x : Nat) (n : Int) (w : World) (hx : x < 2 ^ 256) : Calls Tryd.prog 42 #[num x, .int .i64 n] w fun e w' => e = .returned (.int .u64 (bi x n : Int)) ∧ Below w.heap.size w w' := by
  by_cases h : 0 ≤ n ∧ n < 256
  · obtain ⟨k, rfl⟩ := Int.eq_ofNat_of_zero_le h.1
    have e : ((k : Nat) : Int) = 64 * ((k / 64 : Nat) : Int) + ((k % 64 : Nat) : Int) := by omega
    have hb := bi_word x (k % 64) (k : Int) ((k / 64 : Nat) : Int) hx e (Nat.mod_lt _ (by decide))
    rw [wi_nat x (k / 64) hx] at hb
    have := rbit_in x (k / 64) (k % 64) (k : Int) w (by omega) (Nat.mod_lt _ (by decide)) e
    rw [hb] at this
    exact this
  · have hb : bi x n = 0 := by
      unfold bi
      by_cases h2 : n < 0
      · rw [if_pos h2]
      · rw [if_neg h2]
        exact bitAt_high x _ 256 hx (by omega)
    rw [hb]
    exact rbit_out x n w (by omega)

end Go.Proofs.YtaggegknnnembaaDoor

/-
  limbs.split and limbs.join, walked. Conditions: none.
-/
import Derived.Test.YtioebjbjpjbodaaShift
import Derived.ChangeAlike
namespace Go.Proofs.Ytioebjbjpjbodaa
open Go.RowKit
set_option linter.unusedVariables false

/-- half i of a number's words -/
def hf (x i : Nat) : Nat := x / 4294967296 ^ i % 4294967296
theorem hf_lt (x i : Nat) : hf x i < 4294967296 := Nat.mod_lt _ (by decide)
theorem hf_even (x i : Nat) : wd x i % 4294967296 = hf x (2 * i) := by
  unfold wd hf
  rw [show (18446744073709551616 : Nat) = 4294967296 * 4294967296 by decide, Nat.mod_mul_right_mod, Nat.pow_mul]
theorem hf_odd (x i : Nat) : wd x i / 4294967296 = hf x (2 * i + 1) := by
  unfold wd hf
  rw [show (18446744073709551616 : Nat) = 4294967296 * 4294967296 by decide, Nat.mod_mul_right_div_self, Nat.pow_succ, ← Nat.div_div_eq_div_mul, Nat.pow_mul]
theorem wd_halves (x i : Nat) : wd x i = hf x (2 * i + 1) * 4294967296 + hf x (2 * i) := by
  rw [← hf_even, ← hf_odd]
  have := wd_lt x i
  omega
/-- a number's halves, as a value -/
abbrev hcls (x : Nat) : Array Value := #[.int .u32 (hf x 0 : Int), .int .u32 (hf x 1 : Int), .int .u32 (hf x 2 : Int), .int .u32 (hf x 3 : Int), .int .u32 (hf x 4 : Int), .int .u32 (hf x 5 : Int), .int .u32 (hf x 6 : Int), .int .u32 (hf x 7 : Int)]

theorem lo32 (x i : Nat) : (wd x i : Int) % 4294967296 = (hf x (2 * i) : Int) := by
  rw [← hf_even]; simp
theorem hi32 (x i : Nat) : (wd x i : Int) / 4294967296 % 4294967296 = (hf x (2 * i + 1) : Int) := by
  have := wd_lt x i
  rw [← hf_odd]; omega
theorem join32 (x i : Nat) : bits .or .u64 (IntKind.u64.wrap (IntKind.u64.wrap (hf x (2 * i + 1) : Int) * 4294967296)) (IntKind.u64.wrap (hf x (2 * i) : Int)) = (wd x i : Int) := by
  have h1 := hf_lt x (2 * i + 1)
  have h0 := hf_lt x (2 * i)
  rw [IntWalk.u64_in (hf x (2 * i + 1) : Int) (by omega), IntWalk.u64_in _ (by omega), IntWalk.u64_in (hf x (2 * i) : Int) (by omega), wd_halves x i]
  have := u64_or_nat (hf x (2 * i + 1) * 4294967296) (hf x (2 * i)) (by omega) (by omega)
  rw [nat_join 32 _ _ (by omega) (by omega)] at this
  simpa using this

set_option maxRecDepth 100000 in
set_option maxHeartbeats 800000 in
theorem split_ex (x : Nat) (w : World) : Calls Try.prog 15 #[num x] w fun e w' => e = .returned (.agg (hcls x)) ∧ w' = (w.alloc (.cells (cls x) 24)).alloc (.cells (hcls x) 45) := by
  have a0 : (wd x 0 : Int) % 4294967296 = (hf x 0 : Int) := lo32 x 0
  have b0 : (wd x 0 : Int) / 4294967296 % 4294967296 = (hf x 1 : Int) := hi32 x 0
  have a1 : (wd x 1 : Int) % 4294967296 = (hf x 2 : Int) := lo32 x 1
  have b1 : (wd x 1 : Int) / 4294967296 % 4294967296 = (hf x 3 : Int) := hi32 x 1
  have a2 : (wd x 2 : Int) % 4294967296 = (hf x 4 : Int) := lo32 x 2
  have b2 : (wd x 2 : Int) / 4294967296 % 4294967296 = (hf x 5 : Int) := hi32 x 2
  have a3 : (wd x 3 : Int) % 4294967296 = (hf x 6 : Int) := lo32 x 3
  have b3 : (wd x 3 : Int) / 4294967296 % 4294967296 = (hf x 7 : Int) := hi32 x 3
  go_enter Try.func15, Try.ntmps15
  go_wp2
  refine bodyPost_ret (v := .agg (hcls x)) (by simp [results, Try.results15, go_sem]) rfl ⟨rfl, rfl⟩

set_option maxRecDepth 100000 in
set_option maxHeartbeats 800000 in
theorem join_ex (x : Nat) (w : World) : Calls Try.prog 38 #[.agg (hcls x)] w fun e w' => e = .returned (num x) ∧ w' = (((w.alloc (.cells (hcls x) 45)).alloc (.cells (cls x) 24)).alloc (.cells (cls x) 24)).drew.drew.drew.drew := by
  have v0 : bits .or .u64 (IntKind.u64.wrap (IntKind.u64.wrap (hf x 1 : Int) * 4294967296)) (IntKind.u64.wrap (hf x 0 : Int)) = (wd x 0 : Int) := join32 x 0
  have v1 : bits .or .u64 (IntKind.u64.wrap (IntKind.u64.wrap (hf x 3 : Int) * 4294967296)) (IntKind.u64.wrap (hf x 2 : Int)) = (wd x 1 : Int) := join32 x 1
  have v2 : bits .or .u64 (IntKind.u64.wrap (IntKind.u64.wrap (hf x 5 : Int) * 4294967296)) (IntKind.u64.wrap (hf x 4 : Int)) = (wd x 2 : Int) := join32 x 2
  have v3 : bits .or .u64 (IntKind.u64.wrap (IntKind.u64.wrap (hf x 7 : Int) * 4294967296)) (IntKind.u64.wrap (hf x 6 : Int)) = (wd x 3 : Int) := join32 x 3
  go_enter Try.func38, Try.ntmps38
  go_wp2
  refine wp_loop_rounds 5 ?_
  rw [rounds_succ]
  go_wp2
  go_region
  go_wp2
  rw [rounds_succ]
  go_wp2
  go_region
  go_wp2
  rw [rounds_succ]
  go_wp2
  go_region
  go_wp2
  rw [rounds_succ]
  go_wp2
  go_region
  go_wp2
  rw [rounds_succ]
  go_wp2
  exact bodyPost_ret (v := num x) (by simp [results, Try.results38, go_sem]) rfl ⟨rfl, rfl⟩
end Go.Proofs.Ytioebjbjpjbodaa

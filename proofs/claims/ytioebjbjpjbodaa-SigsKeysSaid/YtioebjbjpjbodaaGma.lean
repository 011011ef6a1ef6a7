/-
  What follows of a group: numbers alone; a product, its answer named. Conditions: none.
-/
import Derived.Test.YtioebjbjpjbodaaGli
namespace Go.Proofs.Ytioebjbjpjbodaa
open Go.RowKit
set_option linter.unusedVariables false

theorem grp_pos {p q x : Nat} (hp : 1 < p) (hq : q ≠ 0) (h : x ^ q % p = 1) (hx : x < p) : 0 < x ∧ x < p := by
  refine ⟨Nat.pos_of_ne_zero fun e => ?_, hx⟩
  subst e
  obtain ⟨k, rfl⟩ : ∃ k, q = k + 1 := ⟨q - 1, by omega⟩
  rw [law_nought] at h
  omega
theorem grp_mod {p x q : Nat} : (x % p) ^ q % p = x ^ q % p := (Nat.pow_mod x q p).symm
theorem grp_mul {p q a b : Nat} (hp : 1 < p) (ha : a ^ q % p = 1) (hb : b ^ q % p = 1) : (a * b % p) ^ q % p = 1 := by
  rw [grp_mod, Nat.mul_pow, Nat.mul_mod, ha, hb, Nat.mod_eq_of_lt (by omega)]
theorem grp_pow {p q a n : Nat} (hp : 1 < p) (ha : a ^ q % p = 1) : (a ^ n % p) ^ q % p = 1 := by
  rw [grp_mod, ← Nat.pow_mul, Nat.mul_comm, Nat.pow_mul, Nat.pow_mod, ha, law_one n hp]
theorem grp_add {p a n m : Nat} : a ^ n % p * (a ^ m % p) % p = a ^ (n + m) % p := by
  rw [← Nat.mul_mod, ← Nat.pow_add]
theorem grp_round {p q a n : Nat} (hp : 1 < p) (ha : a ^ q % p = 1) : a ^ (n + q) % p = a ^ n % p := by
  rw [Nat.pow_add, Nat.mul_mod, ha, Nat.mul_one, Nat.mod_mod]
theorem gmul_at (p q g a b r : Nat) (w : World) (hp : p < 2 ^ 256) (va : 0 < a ∧ a < p) (vb : 0 < b ∧ b < p) (hr : a * b % p = r) : Calls Try.prog 8 #[gv p q g, num a, num b] w fun e w' => e = .returned (.tuple #[num r, .int .i64 0]) ∧ Below w.heap.size w w' := by
  subst hr; exact gmul_some p q g a b w hp (Nat.lt_trans va.2 hp) (Nat.lt_trans vb.2 hp) va vb
end Go.Proofs.Ytioebjbjpjbodaa

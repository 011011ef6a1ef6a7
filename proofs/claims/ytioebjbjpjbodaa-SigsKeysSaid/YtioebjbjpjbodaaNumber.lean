/-
  Long numbers of four words, as numbers: no program stands here. Conditions: none.
-/
import Derived.Test.YtioebjbjpjbodaaPlain
namespace Go.Proofs.Ytioebjbjpjbodaa
set_option linter.unusedVariables false

/-- the number of four words, the lowest first -/
def v4 (a b c d : Nat) : Nat := a + 18446744073709551616 * (b + 18446744073709551616 * (c + 18446744073709551616 * d))

theorem v4_lt {a b c d : Nat} (h0 : a < 18446744073709551616) (h1 : b < 18446744073709551616) (h2 : c < 18446744073709551616) (h3 : d < 18446744073709551616) : v4 a b c d < 2 ^ 256 := by
  unfold v4
  have : (2 : Nat) ^ 256 = 115792089237316195423570985008687907853269984665640564039457584007913129639936 := by decide
  omega

/-- a bit, as 0 or 1 -/
def bitAt (n i : Nat) : Nat := n / 2 ^ i % 2
theorem bitAt_lt (n i : Nat) : bitAt n i < 2 := Nat.mod_lt _ (by decide)
theorem bit_step (n i : Nat) : n / 2 ^ i = 2 * (n / 2 ^ (i + 1)) + bitAt n i := by
  unfold bitAt
  rw [Nat.pow_succ, ← Nat.div_div_eq_div_mul]
  omega
theorem bitAt_high (n i k : Nat) (h : n < 2 ^ k) (hi : k ≤ i) : bitAt n i = 0 := by
  unfold bitAt
  rw [Nat.div_eq_of_lt (Nat.lt_of_lt_of_le h (Nat.pow_le_pow_right (by decide) hi))]

theorem word_bit (x r i : Nat) (hx : x < 18446744073709551616) (hi : i < 64) : bitAt (x + 18446744073709551616 * r) i = bitAt x i := by
  unfold bitAt
  have e : (18446744073709551616 : Nat) = 2 ^ i * (2 * 2 ^ (63 - i)) := by
    have : (18446744073709551616 : Nat) = 2 ^ 64 := by decide
    rw [this, ← Nat.pow_succ', ← Nat.pow_add]
    congr 1; omega
  rw [e, Nat.mul_assoc, Nat.add_mul_div_left _ _ (Nat.two_pow_pos i), Nat.mul_assoc, Nat.add_mul_mod_self_left]
/-- how many bits a number needs -/
def nbits (n : Nat) : Nat := if n = 0 then 0 else n.log2 + 1
theorem nbits_lt (n : Nat) : n < 2 ^ nbits n := by
  unfold nbits
  split
  · subst n; decide
  · exact Nat.lt_log2_self
theorem nbits_le (n : Nat) (h : 0 < n) : 2 ^ (nbits n - 1) ≤ n := by
  unfold nbits
  rw [if_neg (by omega)]
  exact Nat.log2_self_le (by omega)
theorem nbits_pos (n : Nat) (h : 0 < n) : 0 < nbits n := by unfold nbits; rw [if_neg (by omega)]; omega
theorem nbits_of (n k : Nat) (h1 : 2 ^ k ≤ n) (h2 : n < 2 ^ (k + 1)) : nbits n = k + 1 := by
  have hp : 0 < n := Nat.lt_of_lt_of_le (Nat.two_pow_pos k) h1
  have a := nbits_lt n
  have b := nbits_le n hp
  have c := nbits_pos n hp
  have d : k < nbits n := (Nat.pow_lt_pow_iff_right (by decide)).1 (Nat.lt_of_le_of_lt h1 a)
  have e : nbits n - 1 < k + 1 := (Nat.pow_lt_pow_iff_right (by decide)).1 (Nat.lt_of_le_of_lt b h2)
  omega
theorem nbits_up (n k : Nat) (h : n < 2 ^ k) : nbits n ≤ k := by
  rcases Nat.eq_zero_or_pos n with rfl | hp
  · exact Nat.zero_le _
  · have b := nbits_le n hp
    have e : nbits n - 1 < k := (Nat.pow_lt_pow_iff_right (by decide)).1 (Nat.lt_of_le_of_lt b h)
    omega
/-- and an addition to both -/
theorem mul_add {M low high T a : Nat} (hM : 0 < M) (h : low + M * high = T) (hb : T + a < M * M) : (low + a) % M + M * (high + (low + a) / M) = T + a ∧ high + (low + a) / M < M := by
  have e := Nat.mod_add_div (low + a) M
  have q : (low + a) % M + M * (high + (low + a) / M) = T + a := by
    rw [← h, Nat.mul_add]
    omega
  refine ⟨q, ?_⟩
  have : M * (high + (low + a) / M) < M * M := by omega
  exact Nat.lt_of_mul_lt_mul_left this
/-- down and up again -/
theorem down_up (a m : Nat) : a / 2 ^ m * 2 ^ m + a % 2 ^ m = a := by
  rw [Nat.mul_comm]; exact Nat.div_add_mod a _
theorem v4_addc {a0 a1 a2 a3 b0 b1 b2 b3 t0 t1 t2 t3 k0 k1 k2 k3 k4 : Nat} (h0 : t0 + 18446744073709551616 * k1 = a0 + b0 + k0) (h1 : t1 + 18446744073709551616 * k2 = a1 + b1 + k1) (h2 : t2 + 18446744073709551616 * k3 = a2 + b2 + k2) (h3 : t3 + 18446744073709551616 * k4 = a3 + b3 + k3) :
    v4 t0 t1 t2 t3 + 2 ^ 256 * k4 = v4 a0 a1 a2 a3 + v4 b0 b1 b2 b3 + k0 := by
  have e : (2 : Nat) ^ 256 = 115792089237316195423570985008687907853269984665640564039457584007913129639936 := by decide
  rw [e]
  unfold v4
  omega
theorem v4_subb {a0 a1 a2 a3 b0 b1 b2 b3 t0 t1 t2 t3 k0 k1 k2 k3 k4 : Nat} (h0 : t0 + b0 + k0 = a0 + 18446744073709551616 * k1) (h1 : t1 + b1 + k1 = a1 + 18446744073709551616 * k2) (h2 : t2 + b2 + k2 = a2 + 18446744073709551616 * k3) (h3 : t3 + b3 + k3 = a3 + 18446744073709551616 * k4) :
    v4 t0 t1 t2 t3 + v4 b0 b1 b2 b3 + k0 = v4 a0 a1 a2 a3 + 2 ^ 256 * k4 := by
  have e : (2 : Nat) ^ 256 = 115792089237316195423570985008687907853269984665640564039457584007913129639936 := by decide
  rw [e]
  unfold v4
  omega
end Go.Proofs.Ytioebjbjpjbodaa

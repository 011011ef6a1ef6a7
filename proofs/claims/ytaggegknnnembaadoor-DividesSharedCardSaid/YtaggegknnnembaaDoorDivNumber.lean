/-
  Numbers that are divided: no program stands here. Conditions: none.
-/
import Derived.Test.YtaggegknnnembaaDoorNumber
namespace Go.Proofs.YtaggegknnnembaaDoor
set_option linter.unusedVariables false

/-- a bit more of what is divided: doubled, the bit added, m taken away if it goes -/
theorem div_step {P q r m b : Nat} (h : P = q * m + r) (hr : r < m) (hb : b < 2) :
    (2 * r + b < m → 2 * P + b = (2 * q) * m + (2 * r + b)) ∧ (m ≤ 2 * r + b → 2 * P + b = (2 * q + 1) * m + (2 * r + b - m) ∧ 2 * r + b - m < m) := by
  have e : 2 * P = 2 * q * m + 2 * r := by rw [h, Nat.mul_add, Nat.mul_assoc]
  refine ⟨fun _ => by omega, fun hm => ⟨?_, by omega⟩⟩
  rw [Nat.add_mul, Nat.one_mul]
  omega
theorem div_unique {P q r m : Nat} (h : P = q * m + r) (hr : r < m) : q = P / m ∧ r = P % m := by
  have hm : 0 < m := by omega
  rw [h, Nat.add_comm, Nat.add_mul_div_right _ _ hm, Nat.add_mul_mod_self_right, Nat.div_eq_of_lt hr, Nat.mod_eq_of_lt hr, Nat.zero_add]
  exact ⟨rfl, rfl⟩
/-- a bit of the quotient and of what is left, from the beginning of n above bit i on -/
theorem div_bits (n m i : Nat) (hm : 0 < m) : n / 2 ^ i = (n / 2 ^ i / m) * m + n / 2 ^ i % m ∧ n / 2 ^ i % m < m := by
  refine ⟨?_, Nat.mod_lt _ hm⟩
  have := Nat.div_add_mod (n / 2 ^ i) m
  rw [Nat.mul_comm] at this
  exact this.symm
theorem rest_step (n m i : Nat) (hm : 0 < m) : n / 2 ^ i % m = (if 2 * (n / 2 ^ (i + 1) % m) + bitAt n i < m then 2 * (n / 2 ^ (i + 1) % m) + bitAt n i else 2 * (n / 2 ^ (i + 1) % m) + bitAt n i - m)
    ∧ n / 2 ^ i / m = 2 * (n / 2 ^ (i + 1) / m) + (if 2 * (n / 2 ^ (i + 1) % m) + bitAt n i < m then 0 else 1) := by
  obtain ⟨h1, h2⟩ := div_bits n m (i + 1) hm
  have hb := bitAt_lt n i
  obtain ⟨s1, s2⟩ := div_step h1 h2 hb
  have e := bit_step n i
  split
  · rename_i h
    have t := s1 h
    rw [← e] at t
    obtain ⟨u1, u2⟩ := div_unique t h
    exact ⟨u2.symm, by rw [Nat.add_zero]; exact u1.symm⟩
  · rename_i h
    obtain ⟨t, t2⟩ := s2 (by omega)
    rw [← e] at t
    obtain ⟨u1, u2⟩ := div_unique t t2
    exact ⟨u2.symm, u1.symm⟩
/-- one more: it leaves one more, or nothing, and goes once more then -/
theorem div_next (a b : Nat) (hb : 0 < b) : (a % b + 1 = b → (a + 1) / b = a / b + 1 ∧ (a + 1) % b = 0) ∧ (a % b + 1 ≠ b → (a + 1) / b = a / b ∧ (a + 1) % b = a % b + 1) := by
  have h := Nat.div_add_mod a b
  have hl := Nat.mod_lt a hb
  rw [Nat.mul_comm] at h
  constructor
  · intro e
    have : a + 1 = (a / b + 1) * b + 0 := by rw [Nat.add_mul, Nat.one_mul]; omega
    obtain ⟨u1, u2⟩ := div_unique this hb
    exact ⟨u1.symm, u2.symm⟩
  · intro e
    have : a + 1 = (a / b) * b + (a % b + 1) := by omega
    obtain ⟨u1, u2⟩ := div_unique this (by omega)
    exact ⟨u1.symm, u2.symm⟩
/-- both moved up alike -/
theorem div_up (x y j : Nat) : x * 2 ^ j / (y * 2 ^ j) = x / y ∧ x * 2 ^ j % (y * 2 ^ j) = x % y * 2 ^ j :=
  ⟨Nat.mul_div_mul_right _ _ (Nat.two_pow_pos j), Nat.mul_mod_mul_right ..⟩
/-- what is left of both halves -/
theorem wide_halves (M lo hi m : Nat) : (lo + M * hi) % m = (lo % m + M * (hi % m)) % m := by
  have h1 : (lo + M * hi) % m = (lo % m + M * hi % m) % m := Nat.add_mod ..
  have h2 : (lo % m + M * (hi % m)) % m = (lo % m % m + M * (hi % m) % m) % m := Nat.add_mod ..
  rw [h1, h2, Nat.mod_mod, Nat.mul_mod_mod]
/-- by a power of two the lowest bits are left -/
theorem wide_cut (lo hi k j : Nat) (h : j ≤ k) : (lo + 2 ^ k * hi) % 2 ^ j = lo % 2 ^ j := by
  have e : 2 ^ k = 2 ^ j * 2 ^ (k - j) := by rw [← Nat.pow_add]; congr 1; omega
  rw [e, Nat.mul_assoc, Nat.add_mul_mod_self_left]
/-- between: the product is not above, once more is too often -/
theorem div_between (a b : Nat) (hb : 0 < b) : a / b * b ≤ a ∧ a < a / b * b + b ∧ a - a / b * b = a % b := by
  have h := Nat.div_add_mod a b
  have hl := Nat.mod_lt a hb
  rw [Nat.mul_comm] at h
  omega
/-- what two have in common, by halves and by taking the less away -/
theorem gcd_twice (a b : Nat) : Nat.gcd (2 * a) (2 * b) = 2 * Nat.gcd a b := Nat.gcd_mul_left 2 a b
theorem gcd_odd {a b : Nat} (hb : b % 2 = 1) : Nat.gcd (2 * a) b = Nat.gcd a b := by
  have h : Nat.Coprime 2 b := by
    unfold Nat.Coprime
    rw [Nat.gcd_rec, hb]; decide
  exact Nat.Coprime.gcd_mul_left_cancel a h
theorem gcd_odd' {a b : Nat} (ha : a % 2 = 1) : Nat.gcd a (2 * b) = Nat.gcd a b := by rw [Nat.gcd_comm, gcd_odd ha, Nat.gcd_comm]
theorem gcd_less {a b : Nat} (h : b ≤ a) : Nat.gcd (a - b) b = Nat.gcd a b := Nat.gcd_sub_self_left h
theorem gcd_less' {a b : Nat} (h : a ≤ b) : Nat.gcd a (b - a) = Nat.gcd a b := by rw [Nat.gcd_comm, gcd_less h, Nat.gcd_comm]
theorem gcd_zero_iff (a b : Nat) : Nat.gcd a b = 0 ↔ a = 0 ∧ b = 0 := Nat.gcd_eq_zero_iff
theorem gcd_rest (a b n : Nat) : Nat.gcd a b % n = 0 ↔ a % n = 0 ∧ b % n = 0 := by
  constructor
  · intro h
    have hd := Nat.dvd_of_mod_eq_zero h
    exact ⟨Nat.mod_eq_zero_of_dvd (Nat.dvd_trans hd (Nat.gcd_dvd_left a b)), Nat.mod_eq_zero_of_dvd (Nat.dvd_trans hd (Nat.gcd_dvd_right a b))⟩
  · intro ⟨h1, h2⟩
    exact Nat.mod_eq_zero_of_dvd (Nat.dvd_gcd (Nat.dvd_of_mod_eq_zero h1) (Nat.dvd_of_mod_eq_zero h2))
theorem gcd_le {a b M : Nat} (ha : a < M) (hb : b < M) (h : 0 < M) : Nat.gcd a b < M := by
  rcases Nat.eq_zero_or_pos a with rfl | hp
  · rw [Nat.gcd_zero_left]; exact hb
  · exact Nat.lt_of_le_of_lt (Nat.le_of_dvd hp (Nat.gcd_dvd_left a b)) ha

/-! Two words by one, a half at a time (math/bits.Div64): u below y, y's highest bit set; B = 2^32. -/
theorem half_first {u y1 y0 : Nat} (h1 : 2147483648 ≤ y1) (h0 : y0 < 4294967296) (hu : u < y1 * 4294967296 + y0) : u / y1 ≤ 4294967297 ∧ u = u / y1 * y1 + u % y1 ∧ u % y1 < y1 := by
  have hp : 0 < y1 := by omega
  refine ⟨?_, ?_, Nat.mod_lt _ hp⟩
  · have : u / y1 < 4294967298 := by
      rw [Nat.div_lt_iff_lt_mul hp]
      omega
    omega
  · have := Nat.div_add_mod u y1
    rw [Nat.mul_comm] at this
    exact this.symm
/-- the test says whether q is too great -/
theorem half_test {u u1 y1 y0 q r : Nat} (h : u = q * y1 + r) : (r * 4294967296 + u1 < q * y0) ↔ (u * 4294967296 + u1 < q * (y1 * 4294967296 + y0)) := by
  have e1 : q * (y1 * 4294967296 + y0) = q * y1 * 4294967296 + q * y0 := by rw [Nat.mul_add, Nat.mul_assoc]
  have e2 : u * 4294967296 = q * y1 * 4294967296 + r * 4294967296 := by rw [h, Nat.add_mul]
  rw [e1, e2]
  omega
theorem half_most {u u1 y : Nat} (hu : u < y) (h1 : u1 < 4294967296) : (u * 4294967296 + u1) / y < 4294967296 := by
  rw [Nat.div_lt_iff_lt_mul (by omega)]
  have : (u + 1) * 4294967296 ≤ y * 4294967296 := Nat.mul_le_mul_right _ hu
  rw [Nat.add_mul] at this
  rw [Nat.mul_comm 4294967296 y]
  omega
/-- too great: one less -/
theorem half_less {n y q : Nat} (hy : 0 < y) (hq : n / y < 4294967296) (hle : n / y ≤ q) (h : 4294967296 ≤ q ∨ n < q * y) : n / y ≤ q - 1 ∧ 1 ≤ q := by
  have key : n / y < q := by
    rcases h with h | h
    · exact Nat.lt_of_lt_of_le hq h
    · rw [Nat.div_lt_iff_lt_mul hy]; exact h
  generalize n / y = d at *
  omega
/-- not too great: it is the one -/
theorem half_done {n y q : Nat} (hy : 0 < y) (hle : n / y ≤ q) (h : q * y ≤ n) : q = n / y := by
  have : q ≤ n / y := by rw [Nat.le_div_iff_mul_le hy]; exact h
  omega
/-- what is left over is a half's most: it is the one -/
theorem half_broken {u u1 y1 y0 q r : Nat} (h : u = q * y1 + r) (hy : 0 < y1 * 4294967296 + y0) (h0 : y0 < 4294967296) (hq : q ≤ 4294967296) (hr : 4294967296 ≤ r) (hle : (u * 4294967296 + u1) / (y1 * 4294967296 + y0) ≤ q) : q = (u * 4294967296 + u1) / (y1 * 4294967296 + y0) := by
  refine half_done hy hle ?_
  rcases Nat.lt_or_ge (u * 4294967296 + u1) (q * (y1 * 4294967296 + y0)) with hl | hl
  · have ht := (half_test (u1 := u1) (y0 := y0) h).2 hl
    have a : q * y0 ≤ 4294967296 * 4294967295 := Nat.mul_le_mul hq (by omega)
    have b : 4294967296 * 4294967296 ≤ r * 4294967296 := Nat.mul_le_mul_right _ hr
    omega
  · exact hl
/-- both halves: two words, moved up by s, divided -/
theorem half_both {u u1 u0 y q1 q0 r1 r0 : Nat} (h1 : u * 4294967296 + u1 = q1 * y + r1) (h0 : r1 * 4294967296 + u0 = q0 * y + r0) :
    (u * 4294967296 + u1) * 4294967296 + u0 = (q1 * 4294967296 + q0) * y + r0 := by
  rw [h1, Nat.add_mul, Nat.add_mul, Nat.add_assoc, h0, Nat.mul_right_comm]
  omega
theorem moved_div {n y s q r : Nat} (hy : 0 < y) (h : n * 2 ^ s = q * (y * 2 ^ s) + r) (hr : r < y * 2 ^ s) : q = n / y ∧ r / 2 ^ s = n % y := by
  obtain ⟨h1, h2⟩ := div_unique h hr
  rw [Nat.mul_div_mul_right _ _ (Nat.two_pow_pos s)] at h1
  rw [Nat.mul_mod_mul_right] at h2
  exact ⟨h1, by rw [h2, Nat.mul_div_cancel _ (Nat.two_pow_pos s)]⟩
end Go.Proofs.YtaggegknnnembaaDoor

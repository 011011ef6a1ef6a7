/-
  Numbers that are divided: no program stands here. Conditions: none.
-/
import Derived.Test.YtioebjbjpjbodaaNumber
namespace Go.Proofs.Ytioebjbjpjbodaa
set_option linter.unusedVariables false

theorem div_unique {P q r m : Nat} (h : P = q * m + r) (hr : r < m) : q = P / m ∧ r = P % m := by
  have hm : 0 < m := by omega
  rw [h, Nat.add_comm, Nat.add_mul_div_right _ _ hm, Nat.add_mul_mod_self_right, Nat.div_eq_of_lt hr, Nat.mod_eq_of_lt hr, Nat.zero_add]
  exact ⟨rfl, rfl⟩
/-! Two words by one, a half at a time (math/bits.Div64): u below y, y's highest bit set; B = 2^32. -/
theorem half_first {u y1 y0 : Nat} (h1 : 2147483648 ≤ y1) (h0 : y0 < 4294967296) (hu : u < y1 * 4294967296 + y0) : u / y1 ≤ 4294967297 ∧ u = u / y1 * y1 + u % y1 ∧ u % y1 < y1 := by
  have hp : 0 < y1 := by omega
  refine ⟨?_, ?_, Nat.mod_lt _ hp⟩
  · have : u / y1 < 4294967298 := by
      rw [Nat.div_lt_iff_lt_mul hp]
      omega
    omega
  · have := Nat.div_add_mod u y1
    rw [Nat.mul_comm] at this
    exact this.symm
/-- the test says whether q is too great -/
theorem half_test {u u1 y1 y0 q r : Nat} (h : u = q * y1 + r) : (r * 4294967296 + u1 < q * y0) ↔ (u * 4294967296 + u1 < q * (y1 * 4294967296 + y0)) := by
  have e1 : q * (y1 * 4294967296 + y0) = q * y1 * 4294967296 + q * y0 := by rw [Nat.mul_add, Nat.mul_assoc]
  have e2 : u * 4294967296 = q * y1 * 4294967296 + r * 4294967296 := by rw [h, Nat.add_mul]
  rw [e1, e2]
  omega
theorem half_most {u u1 y : Nat} (hu : u < y) (h1 : u1 < 4294967296) : (u * 4294967296 + u1) / y < 4294967296 := by
  rw [Nat.div_lt_iff_lt_mul (by omega)]
  have : (u + 1) * 4294967296 ≤ y * 4294967296 := Nat.mul_le_mul_right _ hu
  rw [Nat.add_mul] at this
  rw [Nat.mul_comm 4294967296 y]
  omega
/-- too great: one less -/
theorem half_less {n y q : Nat} (hy : 0 < y) (hq : n / y < 4294967296) (hle : n / y ≤ q) (h : 4294967296 ≤ q ∨ n < q * y) : n / y ≤ q - 1 ∧ 1 ≤ q := by
  have key : n / y < q := by
    rcases h with h | h
    · exact Nat.lt_of_lt_of_le hq h
    · rw [Nat.div_lt_iff_lt_mul hy]; exact h
  generalize n / y = d at *
  omega
/-- not too great: it is the one -/
theorem half_done {n y q : Nat} (hy : 0 < y) (hle : n / y ≤ q) (h : q * y ≤ n) : q = n / y := by
  have : q ≤ n / y := by rw [Nat.le_div_iff_mul_le hy]; exact h
  omega
/-- what is left over is a half's most: it is the one -/
theorem half_broken {u u1 y1 y0 q r : Nat} (h : u = q * y1 + r) (hy : 0 < y1 * 4294967296 + y0) (h0 : y0 < 4294967296) (hq : q ≤ 4294967296) (hr : 4294967296 ≤ r) (hle : (u * 4294967296 + u1) / (y1 * 4294967296 + y0) ≤ q) : q = (u * 4294967296 + u1) / (y1 * 4294967296 + y0) := by
  refine half_done hy hle ?_
  rcases Nat.lt_or_ge (u * 4294967296 + u1) (q * (y1 * 4294967296 + y0)) with hl | hl
  · have ht := (half_test (u1 := u1) (y0 := y0) h).2 hl
    have a : q * y0 ≤ 4294967296 * 4294967295 := Nat.mul_le_mul hq (by omega)
    have b : 4294967296 * 4294967296 ≤ r * 4294967296 := Nat.mul_le_mul_right _ hr
    omega
  · exact hl
/-- both halves: two words, moved up by s, divided -/
theorem half_both {u u1 u0 y q1 q0 r1 r0 : Nat} (h1 : u * 4294967296 + u1 = q1 * y + r1) (h0 : r1 * 4294967296 + u0 = q0 * y + r0) :
    (u * 4294967296 + u1) * 4294967296 + u0 = (q1 * 4294967296 + q0) * y + r0 := by
  rw [h1, Nat.add_mul, Nat.add_mul, Nat.add_assoc, h0, Nat.mul_right_comm]
  omega
theorem moved_div {n y s q r : Nat} (hy : 0 < y) (h : n * 2 ^ s = q * (y * 2 ^ s) + r) (hr : r < y * 2 ^ s) : q = n / y ∧ r / 2 ^ s = n % y := by
  obtain ⟨h1, h2⟩ := div_unique h hr
  rw [Nat.mul_div_mul_right _ _ (Nat.two_pow_pos s)] at h1
  rw [Nat.mul_mod_mul_right] at h2
  exact ⟨h1, by rw [h2, Nat.mul_div_cancel _ (Nat.two_pow_pos s)]⟩
end Go.Proofs.Ytioebjbjpjbodaa

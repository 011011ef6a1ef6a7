/-
  Long numbers of four words, as numbers: no program stands here. Conditions: none.
-/
import Derived.Test.YtaggegknnnembaaDoorPlain
namespace Go.Proofs.YtaggegknnnembaaDoor
set_option linter.unusedVariables false

/-- the number of four words, the lowest first -/
def v4 (a b c d : Nat) : Nat := a + 18446744073709551616 * (b + 18446744073709551616 * (c + 18446744073709551616 * d))

theorem v4_lt {a b c d : Nat} (h0 : a < 18446744073709551616) (h1 : b < 18446744073709551616) (h2 : c < 18446744073709551616) (h3 : d < 18446744073709551616) : v4 a b c d < 2 ^ 256 := by
  unfold v4
  have : (2 : Nat) ^ 256 = 115792089237316195423570985008687907853269984665640564039457584007913129639936 := by decide
  omega

theorem v4_inj {a b c d a' b' c' d' : Nat} (h0 : a < 18446744073709551616) (h1 : b < 18446744073709551616) (h2 : c < 18446744073709551616) (h3 : a' < 18446744073709551616) (h4 : b' < 18446744073709551616) (h5 : c' < 18446744073709551616)
    (h : v4 a b c d = v4 a' b' c' d') : a = a' ∧ b = b' ∧ c = c' ∧ d = d' := by
  unfold v4 at h
  omega

theorem v4_mk (n : Nat) (h : n < 2 ^ 256) : ∃ a b c d, n = v4 a b c d ∧ a < 18446744073709551616 ∧ b < 18446744073709551616 ∧ c < 18446744073709551616 ∧ d < 18446744073709551616 := by
  have e : (2 : Nat) ^ 256 = 115792089237316195423570985008687907853269984665640564039457584007913129639936 := by decide
  rw [e] at h
  refine ⟨n % 18446744073709551616, n / 18446744073709551616 % 18446744073709551616, n / 340282366920938463463374607431768211456 % 18446744073709551616, n / 6277101735386680763835789423207666416102355444464034512896, ?_, ?_, ?_, ?_, ?_⟩
  all_goals (try unfold v4)
  all_goals omega

/-- a bit, as 0 or 1 -/
def bitAt (n i : Nat) : Nat := n / 2 ^ i % 2
theorem bitAt_lt (n i : Nat) : bitAt n i < 2 := Nat.mod_lt _ (by decide)
theorem bit_step (n i : Nat) : n / 2 ^ i = 2 * (n / 2 ^ (i + 1)) + bitAt n i := by
  unfold bitAt
  rw [Nat.pow_succ, ← Nat.div_div_eq_div_mul]
  omega
theorem low_step (n i : Nat) : n % 2 ^ (i + 1) = n % 2 ^ i + 2 ^ i * bitAt n i := by
  unfold bitAt
  rw [Nat.mod_pow_succ]
theorem bitAt_high (n i k : Nat) (h : n < 2 ^ k) (hi : k ≤ i) : bitAt n i = 0 := by
  unfold bitAt
  rw [Nat.div_eq_of_lt (Nat.lt_of_lt_of_le h (Nat.pow_le_pow_right (by decide) hi))]

theorem word_bit (x r i : Nat) (hx : x < 18446744073709551616) (hi : i < 64) : bitAt (x + 18446744073709551616 * r) i = bitAt x i := by
  unfold bitAt
  have e : (18446744073709551616 : Nat) = 2 ^ i * (2 * 2 ^ (63 - i)) := by
    have : (18446744073709551616 : Nat) = 2 ^ 64 := by decide
    rw [this, ← Nat.pow_succ', ← Nat.pow_add]
    congr 1; omega
  rw [e, Nat.mul_assoc, Nat.add_mul_div_left _ _ (Nat.two_pow_pos i), Nat.mul_assoc, Nat.add_mul_mod_self_left]
theorem word_up (x r i : Nat) (hx : x < 18446744073709551616) : bitAt (x + 18446744073709551616 * r) (i + 64) = bitAt r i := by
  unfold bitAt
  have e : (2 : Nat) ^ (i + 64) = 18446744073709551616 * 2 ^ i := by rw [Nat.pow_add, Nat.mul_comm]
  rw [e, ← Nat.div_div_eq_div_mul]
  have : (x + 18446744073709551616 * r) / 18446744073709551616 = r := by omega
  rw [this]
theorem bit_v4 {a b c d : Nat} (h0 : a < 18446744073709551616) (h1 : b < 18446744073709551616) (h2 : c < 18446744073709551616) (h3 : d < 18446744073709551616) (j i : Nat) (hi : i < 64) :
    bitAt (v4 a b c d) (i + 64 * j) = bitAt ([a, b, c, d].getD j 0) i := by
  unfold v4
  match j with
  | 0 => exact word_bit a _ i h0 hi
  | 1 => rw [show i + 64 * 1 = i + 64 from rfl, word_up _ _ _ h0, word_bit _ _ _ h1 hi]; rfl
  | 2 => rw [show i + 64 * 2 = (i + 64) + 64 by omega, word_up _ _ _ h0, word_up _ _ _ h1, word_bit _ _ _ h2 hi]; rfl
  | 3 =>
    rw [show i + 64 * 3 = ((i + 64) + 64) + 64 by omega, word_up _ _ _ h0, word_up _ _ _ h1, word_up _ _ _ h2]; rfl
  | j + 4 =>
    have := bitAt_high (v4 a b c d) (i + 64 * (j + 4)) 256 (v4_lt h0 h1 h2 h3) (by omega)
    unfold v4 at this
    rw [this]
    simp [bitAt]

/-- how many bits a number needs -/
def nbits (n : Nat) : Nat := if n = 0 then 0 else n.log2 + 1
theorem nbits_lt (n : Nat) : n < 2 ^ nbits n := by
  unfold nbits
  split
  · subst n; decide
  · exact Nat.lt_log2_self
theorem nbits_le (n : Nat) (h : 0 < n) : 2 ^ (nbits n - 1) ≤ n := by
  unfold nbits
  rw [if_neg (by omega)]
  exact Nat.log2_self_le (by omega)
theorem nbits_pos (n : Nat) (h : 0 < n) : 0 < nbits n := by unfold nbits; rw [if_neg (by omega)]; omega
theorem nbits_zero : nbits 0 = 0 := rfl
theorem nbits_of (n k : Nat) (h1 : 2 ^ k ≤ n) (h2 : n < 2 ^ (k + 1)) : nbits n = k + 1 := by
  have hp : 0 < n := Nat.lt_of_lt_of_le (Nat.two_pow_pos k) h1
  have a := nbits_lt n
  have b := nbits_le n hp
  have c := nbits_pos n hp
  have d : k < nbits n := (Nat.pow_lt_pow_iff_right (by decide)).1 (Nat.lt_of_le_of_lt h1 a)
  have e : nbits n - 1 < k + 1 := (Nat.pow_lt_pow_iff_right (by decide)).1 (Nat.lt_of_le_of_lt b h2)
  omega
theorem nbits_up (n k : Nat) (h : n < 2 ^ k) : nbits n ≤ k := by
  rcases Nat.eq_zero_or_pos n with rfl | hp
  · exact Nat.zero_le _
  · have b := nbits_le n hp
    have e : nbits n - 1 < k := (Nat.pow_lt_pow_iff_right (by decide)).1 (Nat.lt_of_le_of_lt b h)
    omega
theorem nbits_mono {n m : Nat} (h : n ≤ m) : nbits n ≤ nbits m := nbits_up n _ (Nat.lt_of_le_of_lt h (nbits_lt m))

/-- a product of two that are not 0 needs as many bits as both, or one fewer -/
theorem nbits_mul (a b : Nat) (ha : 0 < a) (hb : 0 < b) : nbits (a * b) = nbits a + nbits b ∨ nbits (a * b) + 1 = nbits a + nbits b := by
  have a1 := nbits_lt a
  have a2 := nbits_le a ha
  have b1 := nbits_lt b
  have b2 := nbits_le b hb
  have pa := nbits_pos a ha
  have pb := nbits_pos b hb
  have u : a * b < 2 ^ (nbits a + nbits b) := by rw [Nat.pow_add]; exact Nat.mul_lt_mul'' a1 b1
  have l : 2 ^ (nbits a - 1 + (nbits b - 1)) ≤ a * b := by rw [Nat.pow_add]; exact Nat.mul_le_mul a2 b2
  have u' := nbits_up _ _ u
  have l' := nbits_mono l
  have e := nbits_of (2 ^ (nbits a - 1 + (nbits b - 1))) (nbits a - 1 + (nbits b - 1)) (Nat.le_refl _) (Nat.pow_lt_pow_right (by decide) (by omega))
  omega
/-- a sum needs one bit more than the longer one at most, and no fewer -/
theorem nbits_add (a b : Nat) : nbits (a + b) = max (nbits a) (nbits b) ∨ nbits (a + b) = max (nbits a) (nbits b) + 1 := by
  have a1 := nbits_lt a
  have b1 := nbits_lt b
  have c1 : 2 ^ nbits a ≤ 2 ^ max (nbits a) (nbits b) := Nat.pow_le_pow_right (by decide) (Nat.le_max_left _ _)
  have c2 : 2 ^ nbits b ≤ 2 ^ max (nbits a) (nbits b) := Nat.pow_le_pow_right (by decide) (Nat.le_max_right _ _)
  have u := nbits_up (a + b) (max (nbits a) (nbits b) + 1) (by rw [Nat.pow_succ]; omega)
  have l1 := nbits_mono (Nat.le_add_right a b)
  have l2 := nbits_mono (Nat.le_add_left b a)
  omega

/-- a product by doubling, from the highest bit on: a round -/
theorem mul_dbl {M low high T : Nat} (hM : 0 < M) (h : low + M * high = T) (hb : 2 * T < M * M) : 2 * low % M + M * (2 * high + 2 * low / M) = 2 * T ∧ 2 * high + 2 * low / M < M ∧ 2 * high < M := by
  have e := Nat.mod_add_div (2 * low) M
  have q : 2 * low % M + M * (2 * high + 2 * low / M) = 2 * T := by
    rw [← h, Nat.mul_add, Nat.mul_add, Nat.mul_left_comm M 2 high]
    omega
  refine ⟨q, ?_, ?_⟩
  · have : M * (2 * high + 2 * low / M) < M * M := by omega
    exact Nat.lt_of_mul_lt_mul_left this
  · have : M * (2 * high) < M * M := by rw [Nat.mul_left_comm]; omega
    exact Nat.lt_of_mul_lt_mul_left this
/-- and an addition to both -/
theorem mul_add {M low high T a : Nat} (hM : 0 < M) (h : low + M * high = T) (hb : T + a < M * M) : (low + a) % M + M * (high + (low + a) / M) = T + a ∧ high + (low + a) / M < M := by
  have e := Nat.mod_add_div (low + a) M
  have q : (low + a) % M + M * (high + (low + a) / M) = T + a := by
    rw [← h, Nat.mul_add]
    omega
  refine ⟨q, ?_⟩
  have : M * (high + (low + a) / M) < M * M := by omega
  exact Nat.lt_of_mul_lt_mul_left this
theorem mul_bits (a b i : Nat) : a * (b / 2 ^ i) = 2 * (a * (b / 2 ^ (i + 1))) + a * bitAt b i := by
  rw [bit_step b i, Nat.mul_add, Nat.mul_left_comm]
theorem mul_low (a b i : Nat) : a * (b % 2 ^ (i + 1)) = a * (b % 2 ^ i) + a * 2 ^ i * bitAt b i := by
  rw [low_step b i, Nat.mul_add, Nat.mul_assoc]
/-- a product parted at M is told by its low and its high part -/
theorem parts_inj {M l h l' h' : Nat} (h1 : l < M) (h2 : l' < M) (e : l + M * h = l' + M * h') : l = l' ∧ h = h' := by
  have a : (l + M * h) % M = (l' + M * h') % M := by rw [e]
  rw [Nat.add_mul_mod_self_left, Nat.add_mul_mod_self_left, Nat.mod_eq_of_lt h1, Nat.mod_eq_of_lt h2] at a
  subst a
  have b : M * h = M * h' := by omega
  exact ⟨rfl, Nat.eq_of_mul_eq_mul_left (by omega) b⟩

/-- going round, the difference of two squares -/
theorem squares {M a b : Nat} (ha : a < M) (hb : b < M) : (a * a % M + (M - b * b % M)) % M = (a + b) % M * ((a + (M - b)) % M) % M := by
  have hp : 0 < M := by omega
  have h1 := Nat.mod_lt (b * b) hp
  apply Int.ofNat.inj
  show ((((a * a % M + (M - b * b % M)) % M : Nat)) : Int) = (((a + b) % M * ((a + (M - b)) % M) % M : Nat) : Int)
  simp only [Int.natCast_emod, Int.natCast_mul, Int.natCast_add, Int.ofNat_sub (Nat.le_of_lt hb), Int.ofNat_sub (Nat.le_of_lt h1)]
  have e1 : (((a : Int) * a % M + (M - (b : Int) * b % M)) % M) = ((a : Int) * a - b * b) % M := by
    rw [show ((a : Int) * a % M + (M - (b : Int) * b % M)) = ((a : Int) * a % M - (b : Int) * b % M) + M by omega, Int.add_emod_right, ← Int.sub_emod]
  have e2 : (((a : Int) + b) % M * (((a : Int) + (M - b)) % M) % M) = ((a : Int) * a - b * b) % M := by
    rw [← Int.mul_emod]
    have : ((a : Int) + b) * ((a : Int) + (M - b)) = ((a : Int) * a - b * b) + M * (a + b) := by grind
    rw [this, Int.add_mul_emod_self_left]
  rw [e1, e2]

/-- moved up twice, moved down twice -/
theorem up_up (M a m n : Nat) : a * 2 ^ m % M * 2 ^ n % M = a * 2 ^ (m + n) % M := by
  rw [Nat.mod_mul_mod, Nat.mul_assoc, ← Nat.pow_add]
theorem down_down (a m n : Nat) : a / 2 ^ m / 2 ^ n = a / 2 ^ (m + n) := by
  rw [Nat.div_div_eq_div_mul, ← Nat.pow_add]
/-- down and up again -/
theorem down_up (a m : Nat) : a / 2 ^ m * 2 ^ m + a % 2 ^ m = a := by
  rw [Nat.mul_comm]; exact Nat.div_add_mod a _
theorem up_down (a m k : Nat) (h : m ≤ k) : a * 2 ^ (k - m) % 2 ^ k / 2 ^ (k - m) = a % 2 ^ m := by
  have e : 2 ^ k = 2 ^ m * 2 ^ (k - m) := by rw [← Nat.pow_add]; congr 1; omega
  rw [e, Nat.mul_mod_mul_right, Nat.mul_div_cancel _ (Nat.two_pow_pos _)]
/-- a number moved up by i, below 2^k, in two parts -/
theorem up_parts (a i k : Nat) (h : i ≤ k) : a * 2 ^ i = a * 2 ^ i % 2 ^ k + 2 ^ k * (a / 2 ^ (k - i)) := by
  have e : 2 ^ k = 2 ^ (k - i) * 2 ^ i := by rw [← Nat.pow_add]; congr 1; omega
  have := Nat.mod_add_div (a * 2 ^ i) (2 ^ k)
  rw [show a * 2 ^ i / 2 ^ k = a / 2 ^ (k - i) by rw [e, Nat.mul_div_mul_right _ _ (Nat.two_pow_pos _)]] at this
  exact this.symm
/-- a round of LimbsSteps: what is moved up by i is added -/
theorem steps_round {a b low high i k : Nat} (ha : a < 2 ^ k) (hb : b < 2 ^ k) (hi : i < k) (hl : low < 2 ^ k) (h : low + 2 ^ k * high = a * (b % 2 ^ i)) (hbit : bitAt b i = 1) :
    (low + a * 2 ^ i % 2 ^ k) % 2 ^ k + 2 ^ k * (high + (low + a * 2 ^ i % 2 ^ k) / 2 ^ k + a / 2 ^ (k - i)) = a * (b % 2 ^ (i + 1)) := by
  have e := Nat.mod_add_div (low + a * 2 ^ i % 2 ^ k) (2 ^ k)
  have p := up_parts a i k (by omega)
  rw [mul_low, hbit, ← h, Nat.mul_one]
  rw [Nat.mul_add, Nat.mul_add]
  omega
theorem prod_lt {a b k : Nat} (ha : a < 2 ^ k) (hb : b < 2 ^ k) : a * b < 2 ^ k * 2 ^ k := Nat.mul_lt_mul'' ha hb

/-- a word's sum with what is kept -/
theorem addc {x y k : Nat} (hx : x < 18446744073709551616) (hy : y < 18446744073709551616) (hk : k ≤ 1) :
    ((x + y) % 18446744073709551616 + k) % 18446744073709551616 + 18446744073709551616 * (if (x + y) % 18446744073709551616 < y ∨ ((x + y) % 18446744073709551616 + k) % 18446744073709551616 < k then 1 else 0) = x + y + k := by
  split <;> omega
/-- a word's difference with what is lent -/
theorem subb {x y k : Nat} (hx : x < 18446744073709551616) (hy : y < 18446744073709551616) (hk : k ≤ 1) :
    ((x + 18446744073709551616 - y) % 18446744073709551616 + 18446744073709551616 - k) % 18446744073709551616 + y + k = x + 18446744073709551616 * (if x < y ∨ (x + 18446744073709551616 - y) % 18446744073709551616 < k then 1 else 0) := by
  split <;> omega
theorem v4_addc {a0 a1 a2 a3 b0 b1 b2 b3 t0 t1 t2 t3 k0 k1 k2 k3 k4 : Nat} (h0 : t0 + 18446744073709551616 * k1 = a0 + b0 + k0) (h1 : t1 + 18446744073709551616 * k2 = a1 + b1 + k1) (h2 : t2 + 18446744073709551616 * k3 = a2 + b2 + k2) (h3 : t3 + 18446744073709551616 * k4 = a3 + b3 + k3) :
    v4 t0 t1 t2 t3 + 2 ^ 256 * k4 = v4 a0 a1 a2 a3 + v4 b0 b1 b2 b3 + k0 := by
  have e : (2 : Nat) ^ 256 = 115792089237316195423570985008687907853269984665640564039457584007913129639936 := by decide
  rw [e]
  unfold v4
  omega
theorem v4_subb {a0 a1 a2 a3 b0 b1 b2 b3 t0 t1 t2 t3 k0 k1 k2 k3 k4 : Nat} (h0 : t0 + b0 + k0 = a0 + 18446744073709551616 * k1) (h1 : t1 + b1 + k1 = a1 + 18446744073709551616 * k2) (h2 : t2 + b2 + k2 = a2 + 18446744073709551616 * k3) (h3 : t3 + b3 + k3 = a3 + 18446744073709551616 * k4) :
    v4 t0 t1 t2 t3 + v4 b0 b1 b2 b3 + k0 = v4 a0 a1 a2 a3 + 2 ^ 256 * k4 := by
  have e : (2 : Nat) ^ 256 = 115792089237316195423570985008687907853269984665640564039457584007913129639936 := by decide
  rw [e]
  unfold v4
  omega
/-- which of two is below: the highest word that is unlike says it -/
theorem v4_cmp {a0 a1 a2 a3 b0 b1 b2 b3 : Nat} (h0 : a0 < 18446744073709551616) (h1 : a1 < 18446744073709551616) (h2 : a2 < 18446744073709551616) (h3 : b0 < 18446744073709551616) (h4 : b1 < 18446744073709551616) (h5 : b2 < 18446744073709551616) :
    (v4 a0 a1 a2 a3 < v4 b0 b1 b2 b3) ↔ (a3 < b3 ∨ (a3 = b3 ∧ (a2 < b2 ∨ (a2 = b2 ∧ (a1 < b1 ∨ (a1 = b1 ∧ a0 < b0)))))) := by
  unfold v4
  omega
theorem bit_none {a n : Nat} (h : a < 2 ^ (n + 1)) (hb : bitAt a n = 0) : a < 2 ^ n := by
  have := bit_step a n
  rw [hb, Nat.div_eq_of_lt h] at this
  exact (Nat.div_eq_zero_iff_lt (Nat.two_pow_pos n)).1 (by omega)
theorem bit_some {a n : Nat} (hb : bitAt a n = 1) : 2 ^ n ≤ a := by
  rcases Nat.lt_or_ge a (2 ^ n) with h | h
  · unfold bitAt at hb
    rw [Nat.div_eq_of_lt h] at hb
    simp at hb
  · exact h
theorem bit_top {a n : Nat} (h : a < 2 ^ (n + 1)) (hb : bitAt a n = 1) : nbits a = n + 1 := nbits_of a n (bit_some hb) h
/-- each bit turned -/
theorem v4_turned {a b c d : Nat} (h0 : a < 18446744073709551616) (h1 : b < 18446744073709551616) (h2 : c < 18446744073709551616) (h3 : d < 18446744073709551616) :
    v4 (18446744073709551615 - a) (18446744073709551615 - b) (18446744073709551615 - c) (18446744073709551615 - d) + v4 a b c d + 1 = 2 ^ 256 := by
  have e : (2 : Nat) ^ 256 = 115792089237316195423570985008687907853269984665640564039457584007913129639936 := by decide
  rw [e]
  unfold v4
  omega
end Go.Proofs.YtaggegknnnembaaDoor

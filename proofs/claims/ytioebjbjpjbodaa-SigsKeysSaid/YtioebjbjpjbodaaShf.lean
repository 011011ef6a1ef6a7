/-
  A number moved, word by word: no program stands here. Conditions: none.
-/
import Derived.Test.YtioebjbjpjbodaaSmall
namespace Go.Proofs.Ytioebjbjpjbodaa
open Go.RowKit
set_option linter.unusedVariables false

/-- each bit n places higher; what would stand outside is lost -/
def shf (x : Nat) (n : Int) : Nat := if 0 ≤ n then x * 2 ^ n.toNat % 2 ^ 256 else x / 2 ^ (-n).toNat
theorem p64 : (18446744073709551616 : Nat) = 2 ^ 64 := by decide
theorem wd_mul0 (x p : Nat) : wd (x * 2 ^ p) 0 = wd x 0 * 2 ^ p % 18446744073709551616 := by
  unfold wd
  rw [Nat.pow_zero, Nat.div_one, Nat.div_one, Nat.mod_mul_mod]
theorem two_split (p : Nat) (hp : p ≤ 64) : (18446744073709551616 : Nat) = 2 ^ p * 2 ^ (64 - p) := by
  rw [p64, ← Nat.pow_add]; congr 1; omega
theorem low_lt (a p : Nat) (hp : p ≤ 64) (ha : a < 18446744073709551616) : a / 2 ^ (64 - p) < 2 ^ p := by
  rw [Nat.div_lt_iff_lt_mul (Nat.two_pow_pos _), ← two_split p hp]; exact ha
theorem up_mod (a p : Nat) (hp : p ≤ 64) : a * 2 ^ p % 18446744073709551616 % 2 ^ p = 0 := by
  rw [two_split p hp, Nat.mod_mul_right_mod, Nat.mul_mod_left]
theorem up_room (a b p : Nat) (hp : p ≤ 64) (hb : b < 2 ^ p) : a * 2 ^ p % 18446744073709551616 + b < 18446744073709551616 := by
  rw [two_split p hp, Nat.mul_comm (2 ^ p) (2 ^ (64 - p)), Nat.mul_mod_mul_right]
  have h := Nat.mod_lt a (Nat.two_pow_pos (64 - p))
  have : (a % 2 ^ (64 - p) + 1) * 2 ^ p ≤ 2 ^ (64 - p) * 2 ^ p := Nat.mul_le_mul_right _ h
  rw [Nat.add_mul] at this
  omega
theorem wd_mul (x p j : Nat) (hp : p < 64) : wd (x * 2 ^ p) (j + 1) = wd x (j + 1) * 2 ^ p % 18446744073709551616 + wd x j / 2 ^ (64 - p) := by
  unfold wd
  have e1 : x * 2 ^ p / 18446744073709551616 ^ (j + 1) = x / 18446744073709551616 ^ j / 2 ^ (64 - p) := by
    rw [Nat.pow_succ, Nat.div_div_eq_div_mul]
    have : (18446744073709551616 : Nat) ^ j * 18446744073709551616 = 18446744073709551616 ^ j * 2 ^ (64 - p) * 2 ^ p := by
      rw [Nat.mul_assoc, Nat.mul_comm (2 ^ (64 - p)), ← two_split p (by omega)]
    rw [this, Nat.mul_div_mul_right _ _ (Nat.two_pow_pos p)]
  rw [e1]
  have e2 : x / 18446744073709551616 ^ (j + 1) = x / 18446744073709551616 ^ j / 18446744073709551616 := by rw [Nat.pow_succ, Nat.div_div_eq_div_mul]
  rw [e2]
  generalize x / 18446744073709551616 ^ j = z
  have hz := Nat.mod_add_div z 18446744073709551616
  have hb := low_lt (z % 18446744073709551616) p (by omega) (Nat.mod_lt _ (by decide))
  have hr := up_room (z / 18446744073709551616 % 18446744073709551616) _ p (by omega) hb
  have e3 : z / 2 ^ (64 - p) = z % 18446744073709551616 / 2 ^ (64 - p) + z / 18446744073709551616 * 2 ^ p := by
    conv => lhs; rw [← hz]
    conv => lhs; lhs; rhs; rw [two_split p (by omega), Nat.mul_comm (2 ^ p), Nat.mul_assoc]
    rw [Nat.add_mul_div_left _ _ (Nat.two_pow_pos _)]
    congr 1
    rw [Nat.mul_comm (2 ^ (64 - p)) (2 ^ p), ← two_split p (by omega), Nat.mul_comm]
  rw [e3, Nat.add_comm, Nat.add_mod, Nat.mod_mul_mod, Nat.mod_eq_of_lt (a := z % 18446744073709551616 / 2 ^ (64 - p)) (by have := Nat.div_le_self (z % 18446744073709551616) (2 ^ (64 - p)); omega)]
  rw [Nat.mod_mul_mod] at hr
  exact Nat.mod_eq_of_lt hr
theorem wd_high (x j : Nat) (hx : x < 2 ^ 256) (hj : 4 ≤ j) : wd x j = 0 := by
  unfold wd
  have h : x < 18446744073709551616 ^ j := by
    refine Nat.lt_of_lt_of_le hx ?_
    rw [show (2 : Nat) ^ 256 = 18446744073709551616 ^ 4 by decide]
    exact Nat.pow_le_pow_right (by decide) hj
  rw [Nat.div_eq_of_lt h]
theorem wi_nat (x j : Nat) (hx : x < 2 ^ 256) : wi x (j : Int) = wd x j := by
  unfold wi
  split
  · rw [Int.toNat_natCast]
  · rw [wd_high x j hx (by omega)]
theorem wi_neg (x : Nat) (i : Int) (h : i < 0) : wi x i = 0 := by unfold wi; rw [if_neg (by omega)]
theorem wd_up (y k i : Nat) (hi : i < 4) : wd (y * 18446744073709551616 ^ k % 2 ^ 256) i = if k ≤ i then wd y (i - k) else 0 := by
  unfold wd
  have e : (2 : Nat) ^ 256 = 18446744073709551616 ^ i * 18446744073709551616 ^ (4 - i) := by
    rw [← Nat.pow_add, show i + (4 - i) = 4 by omega]
  have e' : (18446744073709551616 : Nat) ^ (4 - i) = 18446744073709551616 * 18446744073709551616 ^ (3 - i) := by
    rw [show 4 - i = (3 - i) + 1 by omega, Nat.pow_succ, Nat.mul_comm]
  rw [e, Nat.mod_mul_right_div_self, e', Nat.mod_mul_right_mod]
  split
  · rename_i hk
    have : (18446744073709551616 : Nat) ^ i = 18446744073709551616 ^ (i - k) * 18446744073709551616 ^ k := by rw [← Nat.pow_add]; congr 1; omega
    rw [this, Nat.mul_div_mul_right _ _ (Nat.pow_pos (by decide))]
  · rename_i hk
    have : (18446744073709551616 : Nat) ^ k = 18446744073709551616 ^ (k - i - 1) * 18446744073709551616 * 18446744073709551616 ^ i := by
      rw [← Nat.pow_succ, ← Nat.pow_add]; congr 1; omega
    rw [this, ← Nat.mul_assoc, Nat.mul_div_cancel _ (Nat.pow_pos (by decide)), ← Nat.mul_assoc, Nat.mul_mod_left]
theorem wd_down (y k i : Nat) : wd (y / 18446744073709551616 ^ k) i = wd y (i + k) := by
  unfold wd
  rw [Nat.div_div_eq_div_mul, ← Nat.pow_add, Nat.add_comm k i]
theorem wd_pair (x p j : Nat) (hx : x < 2 ^ 256) (hp : p < 64) : wd (x * 2 ^ p) j = wi x (j : Int) * 2 ^ p % 18446744073709551616 + wi x ((j : Int) - 1) / 2 ^ (64 - p) := by
  match j with
  | 0 => rw [wd_mul0, wi_nat x 0 hx, wi_neg x _ (by decide)]; simp
  | j + 1 =>
    rw [wd_mul x p j hp, wi_nat x (j + 1) hx, show (((j + 1 : Nat) : Int) - 1) = (j : Int) by omega, wi_nat x j hx]
theorem shf_word (x p i : Nat) (n q : Int) (hx : x < 2 ^ 256) (h : n = 64 * q + p) (hp : p < 64) (hi : i < 4) :
    wd (shf x n) i = wi x ((i : Int) - q) * 2 ^ p % 18446744073709551616 + wi x ((i : Int) - q - 1) / 2 ^ (64 - p) := by
  by_cases hq : 0 ≤ q
  · obtain ⟨k, rfl⟩ := Int.eq_ofNat_of_zero_le hq
    have hn : n.toNat = p + 64 * k := by omega
    rw [shf, if_pos (by omega), hn, Nat.pow_add, Nat.pow_mul, ← Nat.mul_assoc, ← p64, wd_up _ _ _ hi]
    split
    · rename_i hk
      rw [wd_pair x p (i - k) hx hp, show ((i - k : Nat) : Int) = (i : Int) - k by omega]
    · rw [wi_neg _ _ (by omega), wi_neg _ _ (by omega)]; simp
  · obtain ⟨k, hk⟩ := Int.eq_ofNat_of_zero_le (by omega : 0 ≤ -q)
    have hn : (-n).toNat = 64 * k - p := by omega
    rw [shf, if_neg (by omega), hn]
    have e : x / 2 ^ (64 * k - p) = x * 2 ^ p / 18446744073709551616 ^ k := by
      rw [p64, ← Nat.pow_mul]
      have : (2 : Nat) ^ (64 * k) = 2 ^ (64 * k - p) * 2 ^ p := by rw [← Nat.pow_add]; congr 1; omega
      rw [this, Nat.mul_div_mul_right _ _ (Nat.two_pow_pos p)]
    rw [e, wd_down, wd_pair x p (i + k) hx hp, show ((i + k : Nat) : Int) = (i : Int) - q by omega]
/-- a word of the moved number, as the program reckons it -/
theorem shf_or (x p i : Nat) (n q : Int) (hx : x < 2 ^ 256) (h : n = 64 * q + p) (hp : p < 64) (hi : i < 4) (a b : Nat) (ha : a = wi x ((i : Int) - q)) (hb : b = wi x ((i : Int) - q - 1)) :
    bits .or .u64 (IntKind.u64.wrap ((a : Int) * 2 ^ p)) ((b : Int) / 2 ^ (64 - p)) = (wd (shf x n) i : Int) := by
  have hbl : b < 18446744073709551616 := hb ▸ wi_lt _ _
  have hl := low_lt b p (by omega) hbl
  have hr := up_room a _ p (by omega) hl
  have e1 : IntKind.u64.wrap ((a : Int) * 2 ^ p) = ((a * 2 ^ p % 18446744073709551616 : Nat) : Int) := by
    rw [IntKind.wrap_u64]; simp
  have e2 : ((b : Int) / 2 ^ (64 - p)) = ((b / 2 ^ (64 - p) : Nat) : Int) := by simp
  rw [e1, e2, u64_or_nat _ _ (by omega) (by omega), nat_join p _ _ (up_mod a p (by omega)) hl, shf_word x p i n q hx h hp hi, ha, hb]
end Go.Proofs.Ytioebjbjpjbodaa

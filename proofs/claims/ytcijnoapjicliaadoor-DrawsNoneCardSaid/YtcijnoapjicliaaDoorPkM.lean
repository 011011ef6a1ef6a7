/-
  limbs.Add and limbs.Sub, walked. Conditions: none.
  The small calls of limbs, walked. Conditions: none.
  A number moved, word by word: no program stands here. Conditions: none.
  limbs.Shift, walked. Conditions: none.
  limbs.split and limbs.join, walked. Conditions: none.
  A product by halves of words, digit by digit: no program stands here. Conditions: none.
-/
import Derived.Test.YtcijnoapjicliaaDoorNum
import Derived.Deep.RegionHeld3
import Derived.StillTailTactics
import Derived.RegionTactic
import Derived.ChangeAlike
namespace Go.Proofs.YtcijnoapjicliaaDoor
open Go.RowKit
set_option linter.unusedVariables false

set_option maxRecDepth 100000 in
set_option maxHeartbeats 800000 in
theorem ladd_any (x y : Nat) (w : World) (hx : x < 2 ^ 256) (hy : y < 2 ^ 256) :
    Calls Tryd.prog 35 #[num x, num y] w fun e w' => e = .returned (.tuple #[num ((x + y) % 2 ^ 256), .int .u64 (((x + y) / 2 ^ 256 : Nat) : Int)]) ∧ Below w.heap.size w w' := by
  obtain ⟨t0, k1, r0, e0, l0, m0⟩ := add_word (wd x 0) (wd y 0) 0 (wd_lt _ _) (wd_lt _ _) (by omega)
  obtain ⟨t1, k2, r1, e1, l1, m1⟩ := add_word (wd x 1) (wd y 1) k1 (wd_lt _ _) (wd_lt _ _) m0
  obtain ⟨t2, k3, r2, e2, l2, m2⟩ := add_word (wd x 2) (wd y 2) k2 (wd_lt _ _) (wd_lt _ _) m1
  obtain ⟨t3, k4, r3, e3, l3, m3⟩ := add_word (wd x 3) (wd y 3) k3 (wd_lt _ _) (wd_lt _ _) m2
  have hs := v4_addc e0 e1 e2 e3
  rw [v4_wd x hx, v4_wd y hy, Nat.add_zero] at hs
  obtain ⟨q1, q2⟩ := sum_of l0 l1 l2 l3 hs
  rw [← q1, ← q2]
  have hn := num_of l0 l1 l2 l3
  rw [← hn]
  clear hn q1 q2 hs e0 e1 e2 e3 l0 l1 l2 l3 m0 m1 m2 m3 hx hy
  have r0' : ∀ w : World, (callFunc 52 #[.int .u64 (wd x 0 : Int), .int .u64 (wd y 0 : Int), .int .u64 0]).run Tryd.prog w = .ok (.value (.tuple #[.int .u64 (t0 : Int), .int .u64 (k1 : Int)])) w := r0
  clear r0
  go_enter Tryd.func35, Tryd.ntmps35
  go_wp2
  refine wp_loop_rounds 5 ?_
  rw [rounds_succ]
  go_wp2
  go_region
  go_wp2
  rw [rounds_succ]
  go_wp2
  go_region
  go_wp2
  rw [rounds_succ]
  go_wp2
  go_region
  go_wp2
  rw [rounds_succ]
  go_wp2
  go_region
  go_wp2
  rw [rounds_succ]
  go_wp2
  refine bodyPost_ret (v := .tuple #[.agg #[.int .u64 (t0 : Int), .int .u64 (t1 : Int), .int .u64 (t2 : Int), .int .u64 (t3 : Int)], .int .u64 (k4 : Int)]) (by simp [results, Tryd.results35, go_sem]) rfl ⟨rfl, ?_⟩
  repeat (first | exact Below.refl _ _ | refine Below.drew ?_ | refine bal ?_ _)

set_option maxRecDepth 100000 in
set_option maxHeartbeats 800000 in
theorem sub_any (x y : Nat) (w : World) (hx : x < 2 ^ 256) (hy : y < 2 ^ 256) :
    Calls Tryd.prog 33 #[num x, num y] w fun e w' => e = .returned (.tuple #[num (dif x y), .int .u64 (lent x y : Int)]) ∧ Below w.heap.size w w' := by
  obtain ⟨t0, k1, r0, e0, l0, m0⟩ := sub_word (wd x 0) (wd y 0) 0 (wd_lt _ _) (wd_lt _ _) (by omega)
  obtain ⟨t1, k2, r1, e1, l1, m1⟩ := sub_word (wd x 1) (wd y 1) k1 (wd_lt _ _) (wd_lt _ _) m0
  obtain ⟨t2, k3, r2, e2, l2, m2⟩ := sub_word (wd x 2) (wd y 2) k2 (wd_lt _ _) (wd_lt _ _) m1
  obtain ⟨t3, k4, r3, e3, l3, m3⟩ := sub_word (wd x 3) (wd y 3) k3 (wd_lt _ _) (wd_lt _ _) m2
  have hs := v4_subb e0 e1 e2 e3
  rw [v4_wd x hx, v4_wd y hy, Nat.add_zero] at hs
  obtain ⟨q1, q2⟩ := dif_of hx hy l0 l1 l2 l3 hs m3
  rw [← q1, ← q2]
  have hn := num_of l0 l1 l2 l3
  rw [← hn]
  clear hn q1 q2 hs e0 e1 e2 e3 l0 l1 l2 l3 m0 m1 m2 m3 hx hy
  have r0' : ∀ w : World, (callFunc 46 #[.int .u64 (wd x 0 : Int), .int .u64 (wd y 0 : Int), .int .u64 0]).run Tryd.prog w = .ok (.value (.tuple #[.int .u64 (t0 : Int), .int .u64 (k1 : Int)])) w := r0
  clear r0
  go_enter Tryd.func33, Tryd.ntmps33
  go_wp2
  refine wp_loop_rounds 5 ?_
  rw [rounds_succ]
  go_wp2
  go_region
  go_wp2
  rw [rounds_succ]
  go_wp2
  go_region
  go_wp2
  rw [rounds_succ]
  go_wp2
  go_region
  go_wp2
  rw [rounds_succ]
  go_wp2
  go_region
  go_wp2
  rw [rounds_succ]
  go_wp2
  refine bodyPost_ret (v := .tuple #[.agg #[.int .u64 (t0 : Int), .int .u64 (t1 : Int), .int .u64 (t2 : Int), .int .u64 (t3 : Int)], .int .u64 (k4 : Int)]) (by simp [results, Tryd.results33, go_sem]) rfl ⟨rfl, ?_⟩
  repeat (first | exact Below.refl _ _ | refine Below.drew ?_ | refine bal ?_ _)
end Go.Proofs.YtcijnoapjicliaaDoor
namespace Go.Proofs.YtcijnoapjicliaaDoor
open Go.RowKit
set_option linter.unusedVariables false

theorem lof_any (n : Nat) (w : World) (h : n < 18446744073709551616) : Calls Tryd.prog 18 #[.int .u64 (n : Int)] w fun e w' => e = .returned (num n) ∧ Below w.heap.size w w' := by
  have hn := hid (num_small n h)
  go_enter Tryd.func18, Tryd.ntmps18
  go_wp2
  refine bodyPost_ret (v := .agg #[.int .u64 (n : Int), .int .u64 0, .int .u64 0, .int .u64 0]) (by simp [results, Tryd.results18, go_sem]) rfl ⟨by rw [hn.out], ?_⟩
  repeat (first | exact Below.refl _ _ | refine Below.drew ?_ | refine bal ?_ _)

theorem num_zero : (.agg #[.int .u64 0, .int .u64 0, .int .u64 0, .int .u64 0] : Value) = num 0 := num_small 0 (by decide)
theorem apart_at (n q : Int) (p : Nat) (w : World) (h : n = 64 * q + p) (hp : p < 64) (h0 : -9223372036854775808 ≤ n) (h1 : n ≤ 9223372036854775807) :
    Calls Tryd.prog 94 #[.int .i64 n] w fun e w' => e = .returned (.tuple #[.int .i64 q, .int .u64 (p : Int)]) ∧ w = w' := by
  have e1 : n / 64 = q := by omega
  have e2 : (IntKind.u64.wrap n).tmod 64 = (p : Int) := by
    rw [IntKind.wrap_u64, Int.tmod_eq_emod_of_nonneg (by omega)]
    omega
  have E1 := hid e1
  have E2 := hid e2
  clear e1 e2 h
  go_enter Tryd.func94, Tryd.ntmps94
  go_wp2
  go_ret2
  exact ⟨by rw [E1.out, E2.out]; rfl, rfl⟩

/-- a number's word, 0 where there is none -/
def wi (x : Nat) (i : Int) : Nat := if 0 ≤ i ∧ i < 4 then wd x i.toNat else 0
theorem wi_lt (x : Nat) (i : Int) : wi x i < 18446744073709551616 := by
  unfold wi; split
  · exact wd_lt _ _
  · decide
theorem word_any (x : Nat) (i : Int) (w : World) :
    Calls Tryd.prog 95 #[num x, .int .i64 i] w fun e w' => e = .returned (.int .u64 (wi x i : Int)) ∧ Below w.heap.size w w' := by
  by_cases h : 0 ≤ i ∧ i < 4
  · have hw := hid (p := wi x i = wd x i.toNat) (by unfold wi; rw [if_pos h])
    obtain ⟨k, rfl⟩ := Int.eq_ofNat_of_zero_le h.1
    obtain ⟨_, h2⟩ := h
    have : k = 0 ∨ k = 1 ∨ k = 2 ∨ k = 3 := by omega
    clear h2
    rcases this with rfl | rfl | rfl | rfl
    all_goals
      go_enter Tryd.func95, Tryd.ntmps95
      go_wp2
      go_ret
      exact ⟨by rw [hw.out]; rfl, bal (Below.refl _ _) _⟩
  · have hw := hid (p := wi x i = 0) (by unfold wi; rw [if_neg h])
    by_cases h2 : i < 0
    · go_enter Tryd.func95, Tryd.ntmps95
      go_wp2
      go_ret
      exact ⟨by rw [hw.out]; rfl, bal (Below.refl _ _) _⟩
    · have h3 : 4 ≤ i := by omega
      clear h
      go_enter Tryd.func95, Tryd.ntmps95
      go_wp2
      go_ret
      exact ⟨by rw [hw.out]; rfl, bal (Below.refl _ _) _⟩

theorem nan_any (n : Nat) (w : World) : Calls Tryd.prog 45 #[.int .u32 (n : Int)] w fun e w' => e = .returned (.bool false) ∧ w = w' := by
  go_enter Tryd.func45, Tryd.ntmps45
  go_wp2
  go_ret
  exact ⟨by simp, rfl⟩
/-- which is the lower one -/
def cmpN (a b : Nat) : Int := if a < b then -1 else if b < a then 1 else 0
theorem compare_any (a b : Nat) (w : World) : Calls Tryd.prog 32 #[.int .u32 (a : Int), .int .u32 (b : Int)] w fun e w' => e = .returned (.int .i64 (cmpN a b)) ∧ w = w' := by
  rcases Nat.lt_trichotomy a b with h | h | h
  · have hw := hid (p := cmpN a b = -1) (by unfold cmpN; rw [if_pos h])
    go_enter Tryd.func32, Tryd.ntmps32
    go_wp2_with (go_at_call 45; refine (nan_any _ _).mono ?_; rintro e w' ⟨rfl, rfl⟩)
    go_ret
    exact ⟨by rw [hw.out]; rfl, rfl⟩
  · have hw := hid (p := cmpN a b = 0) (by unfold cmpN; rw [if_neg (by omega), if_neg (by omega)])
    subst h
    go_enter Tryd.func32, Tryd.ntmps32
    go_wp2_with (go_at_call 45; refine (nan_any _ _).mono ?_; rintro e w' ⟨rfl, rfl⟩)
    go_ret
    exact ⟨by rw [hw.out]; rfl, rfl⟩
  · have hw := hid (p := cmpN a b = 1) (by unfold cmpN; rw [if_neg (by omega), if_pos h])
    go_enter Tryd.func32, Tryd.ntmps32
    go_wp2_with (go_at_call 45; refine (nan_any _ _).mono ?_; rintro e w' ⟨rfl, rfl⟩)
    go_ret
    exact ⟨by rw [hw.out]; rfl, rfl⟩

/-- the bit at a place, 0 where there is none -/
def bi (x : Nat) (n : Int) : Nat := if n < 0 then 0 else bitAt x n.toNat
theorem bi_word (x p : Nat) (n q : Int) (hx : x < 2 ^ 256) (h : n = 64 * q + p) (hp : p < 64) : wi x q / 2 ^ p % 2 = bi x n := by
  by_cases hq : q < 0
  · rw [wi, if_neg (by omega), bi, if_pos (by omega)]; simp
  · obtain ⟨k, rfl⟩ := Int.eq_ofNat_of_zero_le (by omega : 0 ≤ q)
    have hn : n.toNat = 64 * k + p := by omega
    rw [bi, if_neg (by omega), hn]
    by_cases hk : k < 4
    · rw [wi, if_pos (by omega), Int.toNat_natCast, wd]
      have e1 : bitAt (x / 18446744073709551616 ^ k) p = bitAt (x / 18446744073709551616 ^ k % 18446744073709551616) p := by
        conv => lhs; rw [← Nat.mod_add_div (x / 18446744073709551616 ^ k) 18446744073709551616]
        exact word_bit _ _ p (Nat.mod_lt _ (by decide)) hp
      have e2 : bitAt (x / 18446744073709551616 ^ k) p = bitAt x (64 * k + p) := by
        unfold bitAt
        rw [Nat.div_div_eq_div_mul, Nat.pow_add, Nat.pow_mul]
      rw [← e2, e1]
      rfl
    · rw [wi, if_neg (by omega), bitAt_high x _ 256 hx (by omega)]; simp
theorem bit_any (x : Nat) (n : Int) (w : World) (hx : x < 2 ^ 256) (h0 : -9223372036854775808 ≤ n) (h1 : n ≤ 9223372036854775807) :
    Calls Tryd.prog 88 #[num x, .int .i64 n] w fun e w' => e = .returned (.int .u64 (bi x n : Int)) ∧ Below w.heap.size w w' := by
  obtain ⟨q, p, h, hp⟩ : ∃ (q : Int) (p : Nat), n = 64 * q + p ∧ p < 64 := ⟨n / 64, (n % 64).toNat, by omega, by omega⟩
  have H := hid h
  have E := hid (bi_word x p n q hx h hp)
  have L := hid (wi_lt x q)
  clear h hx
  go_enter Tryd.func88, Tryd.ntmps88
  go_wp2_with fail
  refine (apart_at n q p _ H.out hp h0 h1).mono ?_
  rintro e w' ⟨rfl, rfl⟩
  go_wp2_with fail
  refine (word_any x q _).mono ?_
  rintro e w' ⟨rfl, hb⟩
  go_wp2
  go_ret
  refine ⟨?_, bthen (bal (Below.refl _ _) _) hb⟩
  have e : bits .and .u64 ((wi x q : Int) / 2 ^ p) 1 = (bi x n : Int) := by
    have hl := L.out
    have e1 : ((wi x q : Int) / 2 ^ p) = ((wi x q / 2 ^ p : Nat) : Int) := by simp
    have hd : wi x q / 2 ^ p ≤ wi x q := Nat.div_le_self _ _
    rw [e1, ← E.out]
    have := u64_and_nat (wi x q / 2 ^ p) 1 (by omega) (by decide)
    rw [nat_mask1] at this
    exact this
  rw [← e]
  rfl
end Go.Proofs.YtcijnoapjicliaaDoor
namespace Go.Proofs.YtcijnoapjicliaaDoor
open Go.RowKit
set_option linter.unusedVariables false

/-- each bit n places higher; what would stand outside is lost -/
def shf (x : Nat) (n : Int) : Nat := if 0 ≤ n then x * 2 ^ n.toNat % 2 ^ 256 else x / 2 ^ (-n).toNat
theorem shf_lt (x : Nat) (n : Int) (hx : x < 2 ^ 256) : shf x n < 2 ^ 256 := by
  unfold shf
  split
  · exact Nat.mod_lt _ (Nat.two_pow_pos 256)
  · exact Nat.lt_of_le_of_lt (Nat.div_le_self _ _) hx
theorem p64 : (18446744073709551616 : Nat) = 2 ^ 64 := by decide
theorem wd_mul0 (x p : Nat) : wd (x * 2 ^ p) 0 = wd x 0 * 2 ^ p % 18446744073709551616 := by
  unfold wd
  rw [Nat.pow_zero, Nat.div_one, Nat.div_one, Nat.mod_mul_mod]
theorem two_split (p : Nat) (hp : p ≤ 64) : (18446744073709551616 : Nat) = 2 ^ p * 2 ^ (64 - p) := by
  rw [p64, ← Nat.pow_add]; congr 1; omega
theorem low_lt (a p : Nat) (hp : p ≤ 64) (ha : a < 18446744073709551616) : a / 2 ^ (64 - p) < 2 ^ p := by
  rw [Nat.div_lt_iff_lt_mul (Nat.two_pow_pos _), ← two_split p hp]; exact ha
theorem up_mod (a p : Nat) (hp : p ≤ 64) : a * 2 ^ p % 18446744073709551616 % 2 ^ p = 0 := by
  rw [two_split p hp, Nat.mod_mul_right_mod, Nat.mul_mod_left]
theorem up_room (a b p : Nat) (hp : p ≤ 64) (hb : b < 2 ^ p) : a * 2 ^ p % 18446744073709551616 + b < 18446744073709551616 := by
  rw [two_split p hp, Nat.mul_comm (2 ^ p) (2 ^ (64 - p)), Nat.mul_mod_mul_right]
  have h := Nat.mod_lt a (Nat.two_pow_pos (64 - p))
  have : (a % 2 ^ (64 - p) + 1) * 2 ^ p ≤ 2 ^ (64 - p) * 2 ^ p := Nat.mul_le_mul_right _ h
  rw [Nat.add_mul] at this
  omega
theorem wd_mul (x p j : Nat) (hp : p < 64) : wd (x * 2 ^ p) (j + 1) = wd x (j + 1) * 2 ^ p % 18446744073709551616 + wd x j / 2 ^ (64 - p) := by
  unfold wd
  have e1 : x * 2 ^ p / 18446744073709551616 ^ (j + 1) = x / 18446744073709551616 ^ j / 2 ^ (64 - p) := by
    rw [Nat.pow_succ, Nat.div_div_eq_div_mul]
    have : (18446744073709551616 : Nat) ^ j * 18446744073709551616 = 18446744073709551616 ^ j * 2 ^ (64 - p) * 2 ^ p := by
      rw [Nat.mul_assoc, Nat.mul_comm (2 ^ (64 - p)), ← two_split p (by omega)]
    rw [this, Nat.mul_div_mul_right _ _ (Nat.two_pow_pos p)]
  rw [e1]
  have e2 : x / 18446744073709551616 ^ (j + 1) = x / 18446744073709551616 ^ j / 18446744073709551616 := by rw [Nat.pow_succ, Nat.div_div_eq_div_mul]
  rw [e2]
  generalize x / 18446744073709551616 ^ j = z
  have hz := Nat.mod_add_div z 18446744073709551616
  have hb := low_lt (z % 18446744073709551616) p (by omega) (Nat.mod_lt _ (by decide))
  have hr := up_room (z / 18446744073709551616 % 18446744073709551616) _ p (by omega) hb
  have e3 : z / 2 ^ (64 - p) = z % 18446744073709551616 / 2 ^ (64 - p) + z / 18446744073709551616 * 2 ^ p := by
    conv => lhs; rw [← hz]
    conv => lhs; lhs; rhs; rw [two_split p (by omega), Nat.mul_comm (2 ^ p), Nat.mul_assoc]
    rw [Nat.add_mul_div_left _ _ (Nat.two_pow_pos _)]
    congr 1
    rw [Nat.mul_comm (2 ^ (64 - p)) (2 ^ p), ← two_split p (by omega), Nat.mul_comm]
  rw [e3, Nat.add_comm, Nat.add_mod, Nat.mod_mul_mod, Nat.mod_eq_of_lt (a := z % 18446744073709551616 / 2 ^ (64 - p)) (by have := Nat.div_le_self (z % 18446744073709551616) (2 ^ (64 - p)); omega)]
  rw [Nat.mod_mul_mod] at hr
  exact Nat.mod_eq_of_lt hr
theorem wd_high (x j : Nat) (hx : x < 2 ^ 256) (hj : 4 ≤ j) : wd x j = 0 := by
  unfold wd
  have h : x < 18446744073709551616 ^ j := by
    refine Nat.lt_of_lt_of_le hx ?_
    rw [show (2 : Nat) ^ 256 = 18446744073709551616 ^ 4 by decide]
    exact Nat.pow_le_pow_right (by decide) hj
  rw [Nat.div_eq_of_lt h]
theorem wi_nat (x j : Nat) (hx : x < 2 ^ 256) : wi x (j : Int) = wd x j := by
  unfold wi
  split
  · rw [Int.toNat_natCast]
  · rw [wd_high x j hx (by omega)]
theorem wi_neg (x : Nat) (i : Int) (h : i < 0) : wi x i = 0 := by unfold wi; rw [if_neg (by omega)]
theorem wd_up (y k i : Nat) (hi : i < 4) : wd (y * 18446744073709551616 ^ k % 2 ^ 256) i = if k ≤ i then wd y (i - k) else 0 := by
  unfold wd
  have e : (2 : Nat) ^ 256 = 18446744073709551616 ^ i * 18446744073709551616 ^ (4 - i) := by
    rw [← Nat.pow_add, show i + (4 - i) = 4 by omega]
  have e' : (18446744073709551616 : Nat) ^ (4 - i) = 18446744073709551616 * 18446744073709551616 ^ (3 - i) := by
    rw [show 4 - i = (3 - i) + 1 by omega, Nat.pow_succ, Nat.mul_comm]
  rw [e, Nat.mod_mul_right_div_self, e', Nat.mod_mul_right_mod]
  split
  · rename_i hk
    have : (18446744073709551616 : Nat) ^ i = 18446744073709551616 ^ (i - k) * 18446744073709551616 ^ k := by rw [← Nat.pow_add]; congr 1; omega
    rw [this, Nat.mul_div_mul_right _ _ (Nat.pow_pos (by decide))]
  · rename_i hk
    have : (18446744073709551616 : Nat) ^ k = 18446744073709551616 ^ (k - i - 1) * 18446744073709551616 * 18446744073709551616 ^ i := by
      rw [← Nat.pow_succ, ← Nat.pow_add]; congr 1; omega
    rw [this, ← Nat.mul_assoc, Nat.mul_div_cancel _ (Nat.pow_pos (by decide)), ← Nat.mul_assoc, Nat.mul_mod_left]
theorem wd_down (y k i : Nat) : wd (y / 18446744073709551616 ^ k) i = wd y (i + k) := by
  unfold wd
  rw [Nat.div_div_eq_div_mul, ← Nat.pow_add, Nat.add_comm k i]
theorem wd_pair (x p j : Nat) (hx : x < 2 ^ 256) (hp : p < 64) : wd (x * 2 ^ p) j = wi x (j : Int) * 2 ^ p % 18446744073709551616 + wi x ((j : Int) - 1) / 2 ^ (64 - p) := by
  match j with
  | 0 => rw [wd_mul0, wi_nat x 0 hx, wi_neg x _ (by decide)]; simp
  | j + 1 =>
    rw [wd_mul x p j hp, wi_nat x (j + 1) hx, show (((j + 1 : Nat) : Int) - 1) = (j : Int) by omega, wi_nat x j hx]
theorem shf_word (x p i : Nat) (n q : Int) (hx : x < 2 ^ 256) (h : n = 64 * q + p) (hp : p < 64) (hi : i < 4) :
    wd (shf x n) i = wi x ((i : Int) - q) * 2 ^ p % 18446744073709551616 + wi x ((i : Int) - q - 1) / 2 ^ (64 - p) := by
  by_cases hq : 0 ≤ q
  · obtain ⟨k, rfl⟩ := Int.eq_ofNat_of_zero_le hq
    have hn : n.toNat = p + 64 * k := by omega
    rw [shf, if_pos (by omega), hn, Nat.pow_add, Nat.pow_mul, ← Nat.mul_assoc, ← p64, wd_up _ _ _ hi]
    split
    · rename_i hk
      rw [wd_pair x p (i - k) hx hp, show ((i - k : Nat) : Int) = (i : Int) - k by omega]
    · rw [wi_neg _ _ (by omega), wi_neg _ _ (by omega)]; simp
  · obtain ⟨k, hk⟩ := Int.eq_ofNat_of_zero_le (by omega : 0 ≤ -q)
    have hn : (-n).toNat = 64 * k - p := by omega
    rw [shf, if_neg (by omega), hn]
    have e : x / 2 ^ (64 * k - p) = x * 2 ^ p / 18446744073709551616 ^ k := by
      rw [p64, ← Nat.pow_mul]
      have : (2 : Nat) ^ (64 * k) = 2 ^ (64 * k - p) * 2 ^ p := by rw [← Nat.pow_add]; congr 1; omega
      rw [this, Nat.mul_div_mul_right _ _ (Nat.two_pow_pos p)]
    rw [e, wd_down, wd_pair x p (i + k) hx hp, show ((i + k : Nat) : Int) = (i : Int) - q by omega]
/-- a word of the moved number, as the program reckons it -/
theorem shf_or (x p i : Nat) (n q : Int) (hx : x < 2 ^ 256) (h : n = 64 * q + p) (hp : p < 64) (hi : i < 4) (a b : Nat) (ha : a = wi x ((i : Int) - q)) (hb : b = wi x ((i : Int) - q - 1)) :
    bits .or .u64 (IntKind.u64.wrap ((a : Int) * 2 ^ p)) ((b : Int) / 2 ^ (64 - p)) = (wd (shf x n) i : Int) := by
  have hbl : b < 18446744073709551616 := hb ▸ wi_lt _ _
  have hl := low_lt b p (by omega) hbl
  have hr := up_room a _ p (by omega) hl
  have e1 : IntKind.u64.wrap ((a : Int) * 2 ^ p) = ((a * 2 ^ p % 18446744073709551616 : Nat) : Int) := by
    rw [IntKind.wrap_u64]; simp
  have e2 : ((b : Int) / 2 ^ (64 - p)) = ((b / 2 ^ (64 - p) : Nat) : Int) := by simp
  rw [e1, e2, u64_or_nat _ _ (by omega) (by omega), nat_join p _ _ (up_mod a p (by omega)) hl, shf_word x p i n q hx h hp hi, ha, hb]
end Go.Proofs.YtcijnoapjicliaaDoor
namespace Go.Proofs.YtcijnoapjicliaaDoor
open Go.RowKit
set_option linter.unusedVariables false

/-- block g holds these four cells -/
def Fr (w : World) (g : Nat) (a b c d : Value) : Prop := w.heap[g]? = some (.cells #[a, b, c, d] 26 (0, 0))
theorem Fr.lt {w : World} {g : Nat} {a b c d : Value} (h : Fr w g a b c d) : g < w.heap.size := lt_of_block h
theorem Fr.on {w w' : World} {g : Nat} {a b c d : Value} (h : Fr w g a b c d) (hb : Below w.heap.size w w') : Fr w' g a b c d := (hb.block g h.lt).trans h
theorem Fr.cell {w : World} {g : Nat} {a b c d : Value} (h : Fr w g a b c d) : w.cell? ⟨g, 0, none⟩ = some a ∧ w.cell? ⟨g, 1, none⟩ = some b ∧ w.cell? ⟨g, 2, none⟩ = some c ∧ w.cell? ⟨g, 3, none⟩ = some d := by
  refine ⟨?_, ?_, ?_, ?_⟩ <;> (rw [cell_of_row w g _ _ 26 (0, 0) h]; rfl)
theorem Fr.frozen {w : World} {g : Nat} {a b c d : Value} (h : Fr w g a b c d) (i : Nat) : w.frozen? ⟨g, i, none⟩ = false := by
  unfold Fr at h; simp [World.frozen?, h]

theorem Fr.new (w : World) (a b c d : Value) : Fr (w.alloc (.cells #[a, b, c, d] 26)) w.heap.size a b c d := heap_alloc_new _ _
theorem Fr.alloc {w : World} {g : Nat} {a b c d : Value} (h : Fr w g a b c d) (o : Obj) : Fr (w.alloc o) g a b c d := h.on ((Below.refl w.heap.size w).alloc (Nat.le_refl _) o)
theorem Fr.set0 {w : World} {g : Nat} {a b c d : Value} (h : Fr w g a b c d) (v : Value) : Fr (w.setCell ⟨g, 0, none⟩ v) g v b c d := by unfold Fr at h ⊢; simp [World.setCell, Array.getElem?_modify, h]
theorem Fr.set1 {w : World} {g : Nat} {a b c d : Value} (h : Fr w g a b c d) (v : Value) : Fr (w.setCell ⟨g, 1, none⟩ v) g a v c d := by unfold Fr at h ⊢; simp [World.setCell, Array.getElem?_modify, h]
theorem Fr.set2 {w : World} {g : Nat} {a b c d : Value} (h : Fr w g a b c d) (v : Value) : Fr (w.setCell ⟨g, 2, none⟩ v) g a b v d := by unfold Fr at h ⊢; simp [World.setCell, Array.getElem?_modify, h]
theorem Fr.set3 {w : World} {g : Nat} {a b c d : Value} (h : Fr w g a b c d) (v : Value) : Fr (w.setCell ⟨g, 3, none⟩ v) g a b c v := by unfold Fr at h ⊢; simp [World.setCell, Array.getElem?_modify, h]
theorem Fr.setOther {w : World} {g g' i : Nat} {a b c d : Value} (h : Fr w g a b c d) (v : Value) (hne : g ≠ g') : Fr (w.setCell ⟨g', i, none⟩ v) g a b c d := (Below.heap_setCell w ⟨g', i, none⟩ v g hne).trans h

/-- what stands while a number is moved: its box, the answer's, what is made so far -/
def Sh (w : World) (x : Nat) (a b c d : Value) (w' : World) : Prop :=
  Below w.heap.size w w' ∧ Nm w' w.heap.size x ∧ Fr w' (w.heap.size + 1) (.int .u64 0) (.int .u64 0) (.int .u64 0) (.int .u64 0) ∧ Fr w' (w.heap.size + 1 + 1) a b c d
theorem Sh.init (w : World) (x : Nat) : Sh w x (.int .u64 0) (.int .u64 0) (.int .u64 0) (.int .u64 0)
    (((w.alloc (.cells (cls x) 26)).alloc (.cells #[.int .u64 0, .int .u64 0, .int .u64 0, .int .u64 0] 26)).alloc (.cells #[.int .u64 0, .int .u64 0, .int .u64 0, .int .u64 0] 26)) := by
  refine ⟨bal (bal (bal (Below.refl _ _) _) _) _, ((Nm.new w x).alloc _).alloc _, ?_, ?_⟩
  · have := (Fr.new (w.alloc (.cells (cls x) 26)) (.int .u64 0) (.int .u64 0) (.int .u64 0) (.int .u64 0)).alloc (.cells #[.int .u64 0, .int .u64 0, .int .u64 0, .int .u64 0] 26)
    simpa using this
  · have := Fr.new ((w.alloc (.cells (cls x) 26)).alloc (.cells #[.int .u64 0, .int .u64 0, .int .u64 0, .int .u64 0] 26)) (.int .u64 0) (.int .u64 0) (.int .u64 0) (.int .u64 0)
    simpa using this
theorem Sh.drew {w w' : World} {x : Nat} {a b c d : Value} (h : Sh w x a b c d w') : Sh w x a b c d w'.drew := ⟨h.1.drew, h.2.1, h.2.2.1, h.2.2.2⟩
theorem Sh.on {w w' w2 : World} {x : Nat} {a b c d : Value} (h : Sh w x a b c d w') (hb : Below w'.heap.size w' w2) : Sh w x a b c d w2 :=
  ⟨bthen h.1 hb, h.2.1.on hb, h.2.2.1.on hb, h.2.2.2.on hb⟩
theorem Sh.cell {w w' : World} {x : Nat} {a b c d : Value} (h : Sh w x a b c d w') : w'.cell? ⟨w.heap.size, 0, none⟩ = some (.int .u64 (wd x 0 : Int)) ∧ w'.cell? ⟨w.heap.size, 1, none⟩ = some (.int .u64 (wd x 1 : Int)) ∧ w'.cell? ⟨w.heap.size, 2, none⟩ = some (.int .u64 (wd x 2 : Int)) ∧ w'.cell? ⟨w.heap.size, 3, none⟩ = some (.int .u64 (wd x 3 : Int)) := h.2.1.cell
theorem Sh.put {w w' : World} {x i : Nat} {a b c d a' b' c' d' : Value} (h : Sh w x a b c d w') (v : Value) (hf : Fr (w'.setCell ⟨w.heap.size + 1 + 1, i, none⟩ v) (w.heap.size + 1 + 1) a' b' c' d') : Sh w x a' b' c' d' (w'.setCell ⟨w.heap.size + 1 + 1, i, none⟩ v) :=
  ⟨h.1.setCell (by simp; omega) v, (Below.heap_setCell w' ⟨w.heap.size + 1 + 1, i, none⟩ v w.heap.size (by simp; omega)).trans h.2.1, h.2.2.1.setOther v (by omega), hf⟩
theorem Sh.kept {w w' : World} {x : Nat} {a b c d : Value} (h : Sh w x a b c d w') (i : Nat) (v : Value) : (w'.setCell ⟨w.heap.size + 1 + 1, i, none⟩ v).cell? ⟨w.heap.size, 0, none⟩ = some (.int .u64 (wd x 0 : Int)) ∧ (w'.setCell ⟨w.heap.size + 1 + 1, i, none⟩ v).cell? ⟨w.heap.size, 1, none⟩ = some (.int .u64 (wd x 1 : Int)) ∧ (w'.setCell ⟨w.heap.size + 1 + 1, i, none⟩ v).cell? ⟨w.heap.size, 2, none⟩ = some (.int .u64 (wd x 2 : Int)) ∧ (w'.setCell ⟨w.heap.size + 1 + 1, i, none⟩ v).cell? ⟨w.heap.size, 3, none⟩ = some (.int .u64 (wd x 3 : Int)) :=
  Nm.cell ((Below.heap_setCell w' ⟨w.heap.size + 1 + 1, i, none⟩ v w.heap.size (by simp; omega)).trans h.2.1)
theorem word_sh (x : Nat) (i : Int) (w w' : World) (a b c d : Value) (h : Sh w x a b c d w') :
    Calls Tryd.prog 95 #[num x, .int .i64 i] w' fun e w2 => e = .returned (.int .u64 (wi x i : Int)) ∧ Sh w x a b c d w2 :=
  (word_any x i w').mono fun e w2 ⟨he, hb⟩ => ⟨he, h.on hb⟩

set_option maxRecDepth 100000 in
set_option maxHeartbeats 800000 in
theorem shift_any (x : Nat) (n : Int) (w : World) (hx : x < 2 ^ 256) (h0 : -9223372036854775808 ≤ n) (h1 : n ≤ 9223372036854775807) :
    Calls Tryd.prog 86 #[num x, .int .i64 n] w fun e w' => e = .returned (num (shf x n)) ∧ Below w.heap.size w w' := by
  obtain ⟨q, p, h, hp⟩ : ∃ (q : Int) (p : Nat), n = 64 * q + p ∧ p < 64 := ⟨n / 64, (n % 64).toNat, by omega, by omega⟩
  have hq0 : -144115188075855872 ≤ q := by omega
  have hq1 : q ≤ 144115188075855871 := by omega
  have H := hid h
  have V0 : Hid (bits .or .u64 (IntKind.u64.wrap ((wi x (-q) : Int) * 2 ^ p)) ((wi x (-q - 1) : Int) / 2 ^ (64 - p)) = (wd (shf x n) 0 : Int)) := hid (shf_or x p 0 n q hx h hp (by decide) _ _ (by first | rfl | (congr 1; omega)) (by first | rfl | (congr 1; omega)))
  have V1 : Hid (bits .or .u64 (IntKind.u64.wrap ((wi x (1 - q) : Int) * 2 ^ p)) ((wi x (1 - q - 1) : Int) / 2 ^ (64 - p)) = (wd (shf x n) 1 : Int)) := hid (shf_or x p 1 n q hx h hp (by decide) _ _ (by first | rfl | (congr 1; omega)) (by first | rfl | (congr 1; omega)))
  have V2 : Hid (bits .or .u64 (IntKind.u64.wrap ((wi x (2 - q) : Int) * 2 ^ p)) ((wi x (2 - q - 1) : Int) / 2 ^ (64 - p)) = (wd (shf x n) 2 : Int)) := hid (shf_or x p 2 n q hx h hp (by decide) _ _ (by first | rfl | (congr 1; omega)) (by first | rfl | (congr 1; omega)))
  have V3 : Hid (bits .or .u64 (IntKind.u64.wrap ((wi x (3 - q) : Int) * 2 ^ p)) ((wi x (3 - q - 1) : Int) / 2 ^ (64 - p)) = (wd (shf x n) 3 : Int)) := hid (shf_or x p 3 n q hx h hp (by decide) _ _ (by first | rfl | (congr 1; omega)) (by first | rfl | (congr 1; omega)))
  clear h
  go_enter Tryd.func86, Tryd.ntmps86
  go_wp2_with fail
  refine (apart_at n q p _ H.out hp h0 h1).mono ?_
  rintro e w' ⟨rfl, rfl⟩
  go_wp2
  have HS := hid (Sh.init w x)
  generalize (((w.alloc (.cells (cls x) 26)).alloc (.cells #[.int .u64 0, .int .u64 0, .int .u64 0, .int .u64 0] 26)).alloc (.cells #[.int .u64 0, .int .u64 0, .int .u64 0, .int .u64 0] 26)) = w0 at *
  refine wp_loop_rounds 5 ?_
  rw [rounds_succ]
  go_wp2_with fail
  have HD := hid HS.out.drew
  have cs := HS.out.cell
  have s0 : IntKind.i64.wrap (-q) = -q := IntWalk.i64_in _ (by omega)
  have s1 : IntKind.i64.wrap (-q - 1) = -q - 1 := IntWalk.i64_in _ (by omega)
  have s2 : IntKind.u64.wrap (64 - (p : Int)) = ((64 - p : Nat) : Int) := by rw [IntWalk.u64_in _ (by omega)]; omega
  go_region_held3 (fun w' => w'.cell? ⟨w.heap.size, 0, none⟩ = some (.int .u64 (wd x 0 : Int)) ∧ w'.cell? ⟨w.heap.size, 1, none⟩ = some (.int .u64 (wd x 1 : Int)) ∧ w'.cell? ⟨w.heap.size, 2, none⟩ = some (.int .u64 (wd x 2 : Int)) ∧ w'.cell? ⟨w.heap.size, 3, none⟩ = some (.int .u64 (wd x 3 : Int)))
    (first | exact cs | exact Sh.cell (by assumption) | exact Sh.kept (by assumption) _ _)
    (first | (go_at_call 95; refine (word_sh x _ w _ _ _ _ _ (by first | exact Hid.out (by assumption) | assumption)).mono ?_; rintro e w1 ⟨rfl, hs⟩; have cc := hs.2.2.2.cell.1; have cf := hs.2.2.2.frozen 0))
  rw [V0.out]
  have HS1 := hid (hs.put _ (hs.2.2.2.set0 (.int .u64 (wd (shf x n) 0 : Int))))
  generalize w1.setCell ⟨w.heap.size + 1 + 1, 0, none⟩ (.int .u64 (wd (shf x n) 0 : Int)) = wn1 at *
  clear HS HD cs s0 s1 s2 V0 hs cc cf
  go_wp2
  rw [rounds_succ]
  go_wp2_with fail
  have HD := hid HS1.out.drew
  have cs := HS1.out.cell
  have s0 : IntKind.i64.wrap (1 - q) = 1 - q := IntWalk.i64_in _ (by omega)
  have s1 : IntKind.i64.wrap (1 - q - 1) = 1 - q - 1 := IntWalk.i64_in _ (by omega)
  have s2 : IntKind.u64.wrap (64 - (p : Int)) = ((64 - p : Nat) : Int) := by rw [IntWalk.u64_in _ (by omega)]; omega
  go_region_held3 (fun w' => w'.cell? ⟨w.heap.size, 0, none⟩ = some (.int .u64 (wd x 0 : Int)) ∧ w'.cell? ⟨w.heap.size, 1, none⟩ = some (.int .u64 (wd x 1 : Int)) ∧ w'.cell? ⟨w.heap.size, 2, none⟩ = some (.int .u64 (wd x 2 : Int)) ∧ w'.cell? ⟨w.heap.size, 3, none⟩ = some (.int .u64 (wd x 3 : Int)))
    (first | exact cs | exact Sh.cell (by assumption) | exact Sh.kept (by assumption) _ _)
    (first | (go_at_call 95; refine (word_sh x _ w _ _ _ _ _ (by first | exact Hid.out (by assumption) | assumption)).mono ?_; rintro e w1 ⟨rfl, hs⟩; have cc := hs.2.2.2.cell.2.1; have cf := hs.2.2.2.frozen 1))
  rw [V1.out]
  have HS2 := hid (hs.put _ (hs.2.2.2.set1 (.int .u64 (wd (shf x n) 1 : Int))))
  generalize w1.setCell ⟨w.heap.size + 1 + 1, 1, none⟩ (.int .u64 (wd (shf x n) 1 : Int)) = wn2 at *
  clear HS1 HD cs s0 s1 s2 V1 hs cc cf
  go_wp2
  rw [rounds_succ]
  go_wp2_with fail
  have HD := hid HS2.out.drew
  have cs := HS2.out.cell
  have s0 : IntKind.i64.wrap (2 - q) = 2 - q := IntWalk.i64_in _ (by omega)
  have s1 : IntKind.i64.wrap (2 - q - 1) = 2 - q - 1 := IntWalk.i64_in _ (by omega)
  have s2 : IntKind.u64.wrap (64 - (p : Int)) = ((64 - p : Nat) : Int) := by rw [IntWalk.u64_in _ (by omega)]; omega
  go_region_held3 (fun w' => w'.cell? ⟨w.heap.size, 0, none⟩ = some (.int .u64 (wd x 0 : Int)) ∧ w'.cell? ⟨w.heap.size, 1, none⟩ = some (.int .u64 (wd x 1 : Int)) ∧ w'.cell? ⟨w.heap.size, 2, none⟩ = some (.int .u64 (wd x 2 : Int)) ∧ w'.cell? ⟨w.heap.size, 3, none⟩ = some (.int .u64 (wd x 3 : Int)))
    (first | exact cs | exact Sh.cell (by assumption) | exact Sh.kept (by assumption) _ _)
    (first | (go_at_call 95; refine (word_sh x _ w _ _ _ _ _ (by first | exact Hid.out (by assumption) | assumption)).mono ?_; rintro e w1 ⟨rfl, hs⟩; have cc := hs.2.2.2.cell.2.2.1; have cf := hs.2.2.2.frozen 2))
  rw [V2.out]
  have HS3 := hid (hs.put _ (hs.2.2.2.set2 (.int .u64 (wd (shf x n) 2 : Int))))
  generalize w1.setCell ⟨w.heap.size + 1 + 1, 2, none⟩ (.int .u64 (wd (shf x n) 2 : Int)) = wn3 at *
  clear HS2 HD cs s0 s1 s2 V2 hs cc cf
  go_wp2
  rw [rounds_succ]
  go_wp2_with fail
  have HD := hid HS3.out.drew
  have cs := HS3.out.cell
  have s0 : IntKind.i64.wrap (3 - q) = 3 - q := IntWalk.i64_in _ (by omega)
  have s1 : IntKind.i64.wrap (3 - q - 1) = 3 - q - 1 := IntWalk.i64_in _ (by omega)
  have s2 : IntKind.u64.wrap (64 - (p : Int)) = ((64 - p : Nat) : Int) := by rw [IntWalk.u64_in _ (by omega)]; omega
  go_region_held3 (fun w' => w'.cell? ⟨w.heap.size, 0, none⟩ = some (.int .u64 (wd x 0 : Int)) ∧ w'.cell? ⟨w.heap.size, 1, none⟩ = some (.int .u64 (wd x 1 : Int)) ∧ w'.cell? ⟨w.heap.size, 2, none⟩ = some (.int .u64 (wd x 2 : Int)) ∧ w'.cell? ⟨w.heap.size, 3, none⟩ = some (.int .u64 (wd x 3 : Int)))
    (first | exact cs | exact Sh.cell (by assumption) | exact Sh.kept (by assumption) _ _)
    (first | (go_at_call 95; refine (word_sh x _ w _ _ _ _ _ (by first | exact Hid.out (by assumption) | assumption)).mono ?_; rintro e w1 ⟨rfl, hs⟩; have cc := hs.2.2.2.cell.2.2.2; have cf := hs.2.2.2.frozen 3))
  rw [V3.out]
  have HS4 := hid (hs.put _ (hs.2.2.2.set3 (.int .u64 (wd (shf x n) 3 : Int))))
  generalize w1.setCell ⟨w.heap.size + 1 + 1, 3, none⟩ (.int .u64 (wd (shf x n) 3 : Int)) = wn4 at *
  clear HS3 HD cs s0 s1 s2 V3 hs cc cf
  go_wp2
  have c0 := HS4.out.2.2.2.cell.1
  have c1 := HS4.out.2.2.2.cell.2.1
  have c2 := HS4.out.2.2.2.cell.2.2.1
  have c3 := HS4.out.2.2.2.cell.2.2.2
  have d0 := HS4.out.2.2.1.cell.1
  have d1 := HS4.out.2.2.1.cell.2.1
  have d2 := HS4.out.2.2.1.cell.2.2.1
  have d3 := HS4.out.2.2.1.cell.2.2.2
  have f0 := HS4.out.2.2.1.frozen
  rw [rounds_succ]
  go_wp2
  have HF := hid ((((HS4.out.2.2.1.set0 (.int .u64 (wd (shf x n) 0 : Int))).set1 (.int .u64 (wd (shf x n) 1 : Int))).set2 (.int .u64 (wd (shf x n) 2 : Int))).set3 (.int .u64 (wd (shf x n) 3 : Int)))
  have HB := hid ((((HS4.out.1.setCell (p := ⟨w.heap.size + 1, 0, none⟩) (by simp) (.int .u64 (wd (shf x n) 0 : Int))).setCell (p := ⟨w.heap.size + 1, 1, none⟩) (by simp) (.int .u64 (wd (shf x n) 1 : Int))).setCell (p := ⟨w.heap.size + 1, 2, none⟩) (by simp) (.int .u64 (wd (shf x n) 2 : Int))).setCell (p := ⟨w.heap.size + 1, 3, none⟩) (by simp) (.int .u64 (wd (shf x n) 3 : Int)))
  generalize (((wn4.setCell ⟨w.heap.size + 1, 0, none⟩ (.int .u64 (wd (shf x n) 0 : Int))).setCell ⟨w.heap.size + 1, 1, none⟩ (.int .u64 (wd (shf x n) 1 : Int))).setCell ⟨w.heap.size + 1, 2, none⟩ (.int .u64 (wd (shf x n) 2 : Int))).setCell ⟨w.heap.size + 1, 3, none⟩ (.int .u64 (wd (shf x n) 3 : Int)) = wz at *
  obtain ⟨g0, g1, g2, g3⟩ := HF.out.cell
  exact bodyPost_ret (v := num (shf x n)) (by simp [results, Tryd.results86, go_sem, g0, g1, g2, g3]) rfl ⟨rfl, HB.out⟩
end Go.Proofs.YtcijnoapjicliaaDoor
namespace Go.Proofs.YtcijnoapjicliaaDoor
open Go.RowKit
set_option linter.unusedVariables false

/-- half i of a number's words -/
def hf (x i : Nat) : Nat := x / 4294967296 ^ i % 4294967296
theorem hf_lt (x i : Nat) : hf x i < 4294967296 := Nat.mod_lt _ (by decide)
theorem hf_even (x i : Nat) : wd x i % 4294967296 = hf x (2 * i) := by
  unfold wd hf
  rw [show (18446744073709551616 : Nat) = 4294967296 * 4294967296 by decide, Nat.mod_mul_right_mod, Nat.pow_mul]
theorem hf_odd (x i : Nat) : wd x i / 4294967296 = hf x (2 * i + 1) := by
  unfold wd hf
  rw [show (18446744073709551616 : Nat) = 4294967296 * 4294967296 by decide, Nat.mod_mul_right_div_self, Nat.pow_succ, ← Nat.div_div_eq_div_mul, Nat.pow_mul]
theorem wd_halves (x i : Nat) : wd x i = hf x (2 * i + 1) * 4294967296 + hf x (2 * i) := by
  rw [← hf_even, ← hf_odd]
  have := wd_lt x i
  omega
/-- a number's halves, as a value -/
abbrev hcls (x : Nat) : Array Value := #[.int .u32 (hf x 0 : Int), .int .u32 (hf x 1 : Int), .int .u32 (hf x 2 : Int), .int .u32 (hf x 3 : Int), .int .u32 (hf x 4 : Int), .int .u32 (hf x 5 : Int), .int .u32 (hf x 6 : Int), .int .u32 (hf x 7 : Int)]

theorem lo32 (x i : Nat) : (wd x i : Int) % 4294967296 = (hf x (2 * i) : Int) := by
  rw [← hf_even]; simp
theorem hi32 (x i : Nat) : (wd x i : Int) / 4294967296 % 4294967296 = (hf x (2 * i + 1) : Int) := by
  have := wd_lt x i
  rw [← hf_odd]; omega
theorem join32 (x i : Nat) : bits .or .u64 (IntKind.u64.wrap (IntKind.u64.wrap (hf x (2 * i + 1) : Int) * 4294967296)) (IntKind.u64.wrap (hf x (2 * i) : Int)) = (wd x i : Int) := by
  have h1 := hf_lt x (2 * i + 1)
  have h0 := hf_lt x (2 * i)
  rw [IntWalk.u64_in (hf x (2 * i + 1) : Int) (by omega), IntWalk.u64_in _ (by omega), IntWalk.u64_in (hf x (2 * i) : Int) (by omega), wd_halves x i]
  have := u64_or_nat (hf x (2 * i + 1) * 4294967296) (hf x (2 * i)) (by omega) (by omega)
  rw [nat_join 32 _ _ (by omega) (by omega)] at this
  simpa using this

set_option maxRecDepth 100000 in
set_option maxHeartbeats 800000 in
theorem split_ex (x : Nat) (w : World) : Calls Tryd.prog 31 #[num x] w fun e w' => e = .returned (.agg (hcls x)) ∧ w' = (w.alloc (.cells (cls x) 26)).alloc (.cells (hcls x) 66) := by
  have a0 : (wd x 0 : Int) % 4294967296 = (hf x 0 : Int) := lo32 x 0
  have b0 : (wd x 0 : Int) / 4294967296 % 4294967296 = (hf x 1 : Int) := hi32 x 0
  have a1 : (wd x 1 : Int) % 4294967296 = (hf x 2 : Int) := lo32 x 1
  have b1 : (wd x 1 : Int) / 4294967296 % 4294967296 = (hf x 3 : Int) := hi32 x 1
  have a2 : (wd x 2 : Int) % 4294967296 = (hf x 4 : Int) := lo32 x 2
  have b2 : (wd x 2 : Int) / 4294967296 % 4294967296 = (hf x 5 : Int) := hi32 x 2
  have a3 : (wd x 3 : Int) % 4294967296 = (hf x 6 : Int) := lo32 x 3
  have b3 : (wd x 3 : Int) / 4294967296 % 4294967296 = (hf x 7 : Int) := hi32 x 3
  go_enter Tryd.func31, Tryd.ntmps31
  go_wp2
  refine bodyPost_ret (v := .agg (hcls x)) (by simp [results, Tryd.results31, go_sem]) rfl ⟨rfl, rfl⟩

theorem split_any (x : Nat) (w : World) : Calls Tryd.prog 31 #[num x] w fun e w' => e = .returned (.agg (hcls x)) ∧ Below w.heap.size w w' :=
  (split_ex x w).mono fun e w' ⟨he, hw⟩ => ⟨he, by rw [hw]; exact bal (bal (Below.refl _ _) _) _⟩

end Go.Proofs.YtcijnoapjicliaaDoor
namespace Go.Proofs.YtcijnoapjicliaaDoor
open Go.RowKit
set_option linter.unusedVariables false

/-- the number that digits tell, the lowest first -/
def val : List Nat → Nat
  | [] => 0
  | d :: r => d + 4294967296 * val r
theorem val_set (l : List Nat) (k v : Nat) (hk : k < l.length) : val (l.set k v) + l[k] * 4294967296 ^ k = val l + v * 4294967296 ^ k := by
  induction l generalizing k with
  | nil => simp at hk
  | cons d r ih =>
    match k with
    | 0 => simp [val]; omega
    | k + 1 =>
      have h := ih k (by simpa using hk)
      simp only [List.set_cons_succ, val, List.getElem_cons_succ]
      rw [Nat.pow_succ, ← Nat.mul_assoc, ← Nat.mul_assoc]
      omega
theorem val_digit (l : List Nat) (h : ∀ d ∈ l, d < 4294967296) (k : Nat) (hk : k < l.length) : l[k] = hf (val l) k := by
  induction l generalizing k with
  | nil => simp at hk
  | cons d r ih =>
    have hd := h d (by simp)
    match k with
    | 0 =>
      simp only [List.getElem_cons_zero, val, hf, Nat.pow_zero, Nat.div_one]
      omega
    | k + 1 =>
      simp only [List.getElem_cons_succ]
      rw [ih (fun d hd => h d (by simp [hd])) k (by simpa using hk)]
      simp only [val, hf]
      rw [Nat.pow_succ, Nat.mul_comm (4294967296 ^ k), ← Nat.div_div_eq_div_mul]
      congr 2
      omega
theorem val_zero (n : Nat) : val (List.replicate n 0) = 0 := by
  induction n with
  | zero => rfl
  | succ n ih => rw [List.replicate_succ, val, ih]
theorem mod_step (y j : Nat) : y % 4294967296 ^ (j + 1) = y % 4294967296 ^ j + 4294967296 ^ j * hf y j := by
  unfold hf
  rw [Nat.pow_succ, Nat.mod_mul]
/-- a round within -/
theorem in_step (ps : List Nat) (N p c y i j t : Nat) (hk : i + j < ps.length) (ht : t = c + (p * hf y j + ps[i + j]))
    (h : val ps + c * 4294967296 ^ (i + j) = N + p * (y % 4294967296 ^ j) * 4294967296 ^ i) :
    val (ps.set (i + j) (t % 4294967296)) + t / 4294967296 * 4294967296 ^ (i + (j + 1)) = N + p * (y % 4294967296 ^ (j + 1)) * 4294967296 ^ i := by
  have a := val_set ps (i + j) (t % 4294967296) hk
  have b : t / 4294967296 * 4294967296 ^ (i + (j + 1)) + t % 4294967296 * 4294967296 ^ (i + j) = t * 4294967296 ^ (i + j) := by
    rw [show i + (j + 1) = (i + j) + 1 by omega, Nat.pow_succ, ← Nat.mul_assoc, Nat.mul_right_comm, ← Nat.add_mul]
    congr 1
    omega
  have e : p * (y % 4294967296 ^ (j + 1)) * 4294967296 ^ i = p * (y % 4294967296 ^ j) * 4294967296 ^ i + p * hf y j * 4294967296 ^ (i + j) := by
    rw [mod_step, Nat.mul_add, Nat.add_mul, Nat.pow_add]
    congr 1
    rw [Nat.mul_comm (4294967296 ^ j) (hf y j), ← Nat.mul_assoc, Nat.mul_assoc, Nat.mul_comm (4294967296 ^ j)]
  have g : t * 4294967296 ^ (i + j) = c * 4294967296 ^ (i + j) + p * hf y j * 4294967296 ^ (i + j) + ps[i + j] * 4294967296 ^ (i + j) := by
    rw [ht, Nat.add_mul, Nat.add_mul, Nat.add_assoc]
  rw [e]
  omega
/-- a round without -/
theorem out_step (ps : List Nat) (x y c i : Nat) (hy : y < 2 ^ 256) (hk : i + 8 < ps.length) (hz : ps[i + 8] = 0)
    (h : val ps + c * 4294967296 ^ (i + 8) = x % 4294967296 ^ i * y + hf x i * (y % 4294967296 ^ 8) * 4294967296 ^ i) :
    val (ps.set (i + 8) c) = x % 4294967296 ^ (i + 1) * y := by
  have a := val_set ps (i + 8) c hk
  rw [hz, Nat.zero_mul, Nat.add_zero, h, Nat.mod_eq_of_lt hy] at a
  rw [a, mod_step, Nat.add_mul]
  congr 1
  rw [Nat.mul_comm (4294967296 ^ i) (hf x i), Nat.mul_right_comm]
theorem pq_le {p q : Nat} (hp : p < 4294967296) (hq : q < 4294967296) : p * q ≤ 18446744065119617025 := by
  have := Nat.mul_le_mul (Nat.le_of_lt_succ hp) (Nat.le_of_lt_succ hq)
  omega
theorem hf_low (n k : Nat) (hk : k < 8) : hf (n % 2 ^ 256) k = hf n k := by
  unfold hf
  have e : (2 : Nat) ^ 256 = 4294967296 ^ k * (4294967296 * 4294967296 ^ (7 - k)) := by
    rw [← Nat.pow_succ', ← Nat.pow_add, show k + (7 - k).succ = 8 by omega]
  rw [e, Nat.mod_mul_right_div_self, Nat.mod_mul_right_mod]
theorem hf_high (n k : Nat) : hf (n / 2 ^ 256) k = hf n (k + 8) := by
  unfold hf
  rw [show (2 : Nat) ^ 256 = 4294967296 ^ 8 by decide, Nat.div_div_eq_div_mul, ← Nat.pow_add, Nat.add_comm 8 k]
end Go.Proofs.YtcijnoapjicliaaDoor

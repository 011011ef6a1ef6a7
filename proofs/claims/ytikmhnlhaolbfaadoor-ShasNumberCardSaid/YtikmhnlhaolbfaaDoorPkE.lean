/-
  limbs.Add and limbs.Sub, walked. Conditions: none.
  The small calls of limbs, walked. Conditions: none.
  math/bits.Len64 and limbs.Bits, walked. Conditions: none.
  A number moved, word by word: no program stands here. Conditions: none.
  limbs.Shift, walked. Conditions: none.
  limbs.split and limbs.join, walked. Conditions: none.
  limbs.Cmp, walked. Conditions: none.
  A product by halves of words, digit by digit: no program stands here. Conditions: none.
  limbs.Mul, walked. Conditions: none.
  What the calls of limbs answer, with the answers named; the boxes that a law carries. Conditions: none.
  Boxes that hold long numbers, and what is stored into them. Conditions: none.
-/
import Derived.Test.YtikmhnlhaolbfaaDoorPkC
import Derived.Deep.RegionHeld3
import Derived.StillTailTactics
import Derived.RegionTactic
import Derived.Shelf.Strconv.Itoa0
import Derived.ChangeAlike
import Derived.Deep.DeepCutAuto
import Derived.BigQuiet
import Derived.Deep.QuietTactic
import Derived.Deep.RegionWith
namespace Go.Proofs.YtikmhnlhaolbfaaDoor
open Go.RowKit
set_option linter.unusedVariables false

set_option maxRecDepth 100000 in
set_option maxHeartbeats 800000 in
theorem ladd_any (x y : Nat) (w : World) (hx : x < 2 ^ 256) (hy : y < 2 ^ 256) :
    Calls Tryd.prog 111 #[num x, num y] w fun e w' => e = .returned (.tuple #[num ((x + y) % 2 ^ 256), .int .u64 (((x + y) / 2 ^ 256 : Nat) : Int)]) ∧ Below w.heap.size w w' := by
  obtain ⟨t0, k1, r0, e0, l0, m0⟩ := add_word (wd x 0) (wd y 0) 0 (wd_lt _ _) (wd_lt _ _) (by omega)
  obtain ⟨t1, k2, r1, e1, l1, m1⟩ := add_word (wd x 1) (wd y 1) k1 (wd_lt _ _) (wd_lt _ _) m0
  obtain ⟨t2, k3, r2, e2, l2, m2⟩ := add_word (wd x 2) (wd y 2) k2 (wd_lt _ _) (wd_lt _ _) m1
  obtain ⟨t3, k4, r3, e3, l3, m3⟩ := add_word (wd x 3) (wd y 3) k3 (wd_lt _ _) (wd_lt _ _) m2
  have hs := v4_addc e0 e1 e2 e3
  rw [v4_wd x hx, v4_wd y hy, Nat.add_zero] at hs
  obtain ⟨q1, q2⟩ := sum_of l0 l1 l2 l3 hs
  rw [← q1, ← q2]
  have hn := num_of l0 l1 l2 l3
  rw [← hn]
  clear hn q1 q2 hs e0 e1 e2 e3 l0 l1 l2 l3 m0 m1 m2 m3 hx hy
  have r0' : ∀ w : World, (callFunc 124 #[.int .u64 (wd x 0 : Int), .int .u64 (wd y 0 : Int), .int .u64 0]).run Tryd.prog w = .ok (.value (.tuple #[.int .u64 (t0 : Int), .int .u64 (k1 : Int)])) w := r0
  clear r0
  go_enter Tryd.func111, Tryd.ntmps111
  go_wp2
  refine wp_loop_rounds 5 ?_
  rw [rounds_succ]
  go_wp2
  go_region
  go_wp2
  rw [rounds_succ]
  go_wp2
  go_region
  go_wp2
  rw [rounds_succ]
  go_wp2
  go_region
  go_wp2
  rw [rounds_succ]
  go_wp2
  go_region
  go_wp2
  rw [rounds_succ]
  go_wp2
  refine bodyPost_ret (v := .tuple #[.agg #[.int .u64 (t0 : Int), .int .u64 (t1 : Int), .int .u64 (t2 : Int), .int .u64 (t3 : Int)], .int .u64 (k4 : Int)]) (by simp [results, Tryd.results111, go_sem]) rfl ⟨rfl, ?_⟩
  repeat (first | exact Below.refl _ _ | refine Below.drew ?_ | refine bal ?_ _)

set_option maxRecDepth 100000 in
set_option maxHeartbeats 800000 in
theorem sub_any (x y : Nat) (w : World) (hx : x < 2 ^ 256) (hy : y < 2 ^ 256) :
    Calls Tryd.prog 21 #[num x, num y] w fun e w' => e = .returned (.tuple #[num (dif x y), .int .u64 (lent x y : Int)]) ∧ Below w.heap.size w w' := by
  obtain ⟨t0, k1, r0, e0, l0, m0⟩ := sub_word (wd x 0) (wd y 0) 0 (wd_lt _ _) (wd_lt _ _) (by omega)
  obtain ⟨t1, k2, r1, e1, l1, m1⟩ := sub_word (wd x 1) (wd y 1) k1 (wd_lt _ _) (wd_lt _ _) m0
  obtain ⟨t2, k3, r2, e2, l2, m2⟩ := sub_word (wd x 2) (wd y 2) k2 (wd_lt _ _) (wd_lt _ _) m1
  obtain ⟨t3, k4, r3, e3, l3, m3⟩ := sub_word (wd x 3) (wd y 3) k3 (wd_lt _ _) (wd_lt _ _) m2
  have hs := v4_subb e0 e1 e2 e3
  rw [v4_wd x hx, v4_wd y hy, Nat.add_zero] at hs
  obtain ⟨q1, q2⟩ := dif_of hx hy l0 l1 l2 l3 hs m3
  rw [← q1, ← q2]
  have hn := num_of l0 l1 l2 l3
  rw [← hn]
  clear hn q1 q2 hs e0 e1 e2 e3 l0 l1 l2 l3 m0 m1 m2 m3 hx hy
  have r0' : ∀ w : World, (callFunc 72 #[.int .u64 (wd x 0 : Int), .int .u64 (wd y 0 : Int), .int .u64 0]).run Tryd.prog w = .ok (.value (.tuple #[.int .u64 (t0 : Int), .int .u64 (k1 : Int)])) w := r0
  clear r0
  go_enter Tryd.func21, Tryd.ntmps21
  go_wp2
  refine wp_loop_rounds 5 ?_
  rw [rounds_succ]
  go_wp2
  go_region
  go_wp2
  rw [rounds_succ]
  go_wp2
  go_region
  go_wp2
  rw [rounds_succ]
  go_wp2
  go_region
  go_wp2
  rw [rounds_succ]
  go_wp2
  go_region
  go_wp2
  rw [rounds_succ]
  go_wp2
  refine bodyPost_ret (v := .tuple #[.agg #[.int .u64 (t0 : Int), .int .u64 (t1 : Int), .int .u64 (t2 : Int), .int .u64 (t3 : Int)], .int .u64 (k4 : Int)]) (by simp [results, Tryd.results21, go_sem]) rfl ⟨rfl, ?_⟩
  repeat (first | exact Below.refl _ _ | refine Below.drew ?_ | refine bal ?_ _)
end Go.Proofs.YtikmhnlhaolbfaaDoor
namespace Go.Proofs.YtikmhnlhaolbfaaDoor
open Go.RowKit
set_option linter.unusedVariables false

theorem lof_any (n : Nat) (w : World) (h : n < 18446744073709551616) : Calls Tryd.prog 54 #[.int .u64 (n : Int)] w fun e w' => e = .returned (num n) ∧ Below w.heap.size w w' := by
  have hn := hid (num_small n h)
  go_enter Tryd.func54, Tryd.ntmps54
  go_wp2
  refine bodyPost_ret (v := .agg #[.int .u64 (n : Int), .int .u64 0, .int .u64 0, .int .u64 0]) (by simp [results, Tryd.results54, go_sem]) rfl ⟨by rw [hn.out], ?_⟩
  repeat (first | exact Below.refl _ _ | refine Below.drew ?_ | refine bal ?_ _)

theorem num_zero : (.agg #[.int .u64 0, .int .u64 0, .int .u64 0, .int .u64 0] : Value) = num 0 := num_small 0 (by decide)
theorem none_any (w : World) : Calls Tryd.prog 22 #[] w fun e w' => e = .returned (num 0) ∧ Below w.heap.size w w' := by
  go_enter Tryd.func22, Tryd.ntmps22
  go_wp2
  refine bodyPost_ret (v := .agg #[.int .u64 0, .int .u64 0, .int .u64 0, .int .u64 0]) (by simp [results, Tryd.results22, go_sem]) rfl ⟨by rw [num_zero], ?_⟩
  repeat (first | exact Below.refl _ _ | refine Below.drew ?_ | refine bal ?_ _)

theorem apart_at (n q : Int) (p : Nat) (w : World) (h : n = 64 * q + p) (hp : p < 64) (h0 : -9223372036854775808 ≤ n) (h1 : n ≤ 9223372036854775807) :
    Calls Tryd.prog 97 #[.int .i64 n] w fun e w' => e = .returned (.tuple #[.int .i64 q, .int .u64 (p : Int)]) ∧ w = w' := by
  have e1 : n / 64 = q := by omega
  have e2 : (IntKind.u64.wrap n).tmod 64 = (p : Int) := by
    rw [IntKind.wrap_u64, Int.tmod_eq_emod_of_nonneg (by omega)]
    omega
  have E1 := hid e1
  have E2 := hid e2
  clear e1 e2 h
  go_enter Tryd.func97, Tryd.ntmps97
  go_wp2
  go_ret2
  exact ⟨by rw [E1.out, E2.out]; rfl, rfl⟩

/-- a number's word, 0 where there is none -/
def wi (x : Nat) (i : Int) : Nat := if 0 ≤ i ∧ i < 4 then wd x i.toNat else 0
theorem wi_lt (x : Nat) (i : Int) : wi x i < 18446744073709551616 := by
  unfold wi; split
  · exact wd_lt _ _
  · decide
theorem word_any (x : Nat) (i : Int) (w : World) :
    Calls Tryd.prog 98 #[num x, .int .i64 i] w fun e w' => e = .returned (.int .u64 (wi x i : Int)) ∧ Below w.heap.size w w' := by
  by_cases h : 0 ≤ i ∧ i < 4
  · have hw := hid (p := wi x i = wd x i.toNat) (by unfold wi; rw [if_pos h])
    obtain ⟨k, rfl⟩ := Int.eq_ofNat_of_zero_le h.1
    obtain ⟨_, h2⟩ := h
    have : k = 0 ∨ k = 1 ∨ k = 2 ∨ k = 3 := by omega
    clear h2
    rcases this with rfl | rfl | rfl | rfl
    all_goals
      go_enter Tryd.func98, Tryd.ntmps98
      go_wp2
      go_ret
      exact ⟨by rw [hw.out]; rfl, bal (Below.refl _ _) _⟩
  · have hw := hid (p := wi x i = 0) (by unfold wi; rw [if_neg h])
    by_cases h2 : i < 0
    · go_enter Tryd.func98, Tryd.ntmps98
      go_wp2
      go_ret
      exact ⟨by rw [hw.out]; rfl, bal (Below.refl _ _) _⟩
    · have h3 : 4 ≤ i := by omega
      clear h
      go_enter Tryd.func98, Tryd.ntmps98
      go_wp2
      go_ret
      exact ⟨by rw [hw.out]; rfl, bal (Below.refl _ _) _⟩

theorem nan_any (n : Nat) (w : World) : Calls Tryd.prog 120 #[.int .u32 (n : Int)] w fun e w' => e = .returned (.bool false) ∧ w = w' := by
  go_enter Tryd.func120, Tryd.ntmps120
  go_wp2
  go_ret
  exact ⟨by simp, rfl⟩
/-- which is the lower one -/
def cmpN (a b : Nat) : Int := if a < b then -1 else if b < a then 1 else 0
theorem compare_any (a b : Nat) (w : World) : Calls Tryd.prog 95 #[.int .u32 (a : Int), .int .u32 (b : Int)] w fun e w' => e = .returned (.int .i64 (cmpN a b)) ∧ w = w' := by
  rcases Nat.lt_trichotomy a b with h | h | h
  · have hw := hid (p := cmpN a b = -1) (by unfold cmpN; rw [if_pos h])
    go_enter Tryd.func95, Tryd.ntmps95
    go_wp2_with (go_at_call 120; refine (nan_any _ _).mono ?_; rintro e w' ⟨rfl, rfl⟩)
    go_ret
    exact ⟨by rw [hw.out]; rfl, rfl⟩
  · have hw := hid (p := cmpN a b = 0) (by unfold cmpN; rw [if_neg (by omega), if_neg (by omega)])
    subst h
    go_enter Tryd.func95, Tryd.ntmps95
    go_wp2_with (go_at_call 120; refine (nan_any _ _).mono ?_; rintro e w' ⟨rfl, rfl⟩)
    go_ret
    exact ⟨by rw [hw.out]; rfl, rfl⟩
  · have hw := hid (p := cmpN a b = 1) (by unfold cmpN; rw [if_neg (by omega), if_pos h])
    go_enter Tryd.func95, Tryd.ntmps95
    go_wp2_with (go_at_call 120; refine (nan_any _ _).mono ?_; rintro e w' ⟨rfl, rfl⟩)
    go_ret
    exact ⟨by rw [hw.out]; rfl, rfl⟩

/-- the bit at a place, 0 where there is none -/
def bi (x : Nat) (n : Int) : Nat := if n < 0 then 0 else bitAt x n.toNat
theorem bi_word (x p : Nat) (n q : Int) (hx : x < 2 ^ 256) (h : n = 64 * q + p) (hp : p < 64) : wi x q / 2 ^ p % 2 = bi x n := by
  by_cases hq : q < 0
  · rw [wi, if_neg (by omega), bi, if_pos (by omega)]; simp
  · obtain ⟨k, rfl⟩ := Int.eq_ofNat_of_zero_le (by omega : 0 ≤ q)
    have hn : n.toNat = 64 * k + p := by omega
    rw [bi, if_neg (by omega), hn]
    by_cases hk : k < 4
    · rw [wi, if_pos (by omega), Int.toNat_natCast, wd]
      have e1 : bitAt (x / 18446744073709551616 ^ k) p = bitAt (x / 18446744073709551616 ^ k % 18446744073709551616) p := by
        conv => lhs; rw [← Nat.mod_add_div (x / 18446744073709551616 ^ k) 18446744073709551616]
        exact word_bit _ _ p (Nat.mod_lt _ (by decide)) hp
      have e2 : bitAt (x / 18446744073709551616 ^ k) p = bitAt x (64 * k + p) := by
        unfold bitAt
        rw [Nat.div_div_eq_div_mul, Nat.pow_add, Nat.pow_mul]
      rw [← e2, e1]
      rfl
    · rw [wi, if_neg (by omega), bitAt_high x _ 256 hx (by omega)]; simp
theorem bit_any (x : Nat) (n : Int) (w : World) (hx : x < 2 ^ 256) (h0 : -9223372036854775808 ≤ n) (h1 : n ≤ 9223372036854775807) :
    Calls Tryd.prog 101 #[num x, .int .i64 n] w fun e w' => e = .returned (.int .u64 (bi x n : Int)) ∧ Below w.heap.size w w' := by
  obtain ⟨q, p, h, hp⟩ : ∃ (q : Int) (p : Nat), n = 64 * q + p ∧ p < 64 := ⟨n / 64, (n % 64).toNat, by omega, by omega⟩
  have H := hid h
  have E := hid (bi_word x p n q hx h hp)
  have L := hid (wi_lt x q)
  clear h hx
  go_enter Tryd.func101, Tryd.ntmps101
  go_wp2_with fail
  refine (apart_at n q p _ H.out hp h0 h1).mono ?_
  rintro e w' ⟨rfl, rfl⟩
  go_wp2_with fail
  refine (word_any x q _).mono ?_
  rintro e w' ⟨rfl, hb⟩
  go_wp2
  go_ret
  refine ⟨?_, bthen (bal (Below.refl _ _) _) hb⟩
  have e : bits .and .u64 ((wi x q : Int) / 2 ^ p) 1 = (bi x n : Int) := by
    have hl := L.out
    have e1 : ((wi x q : Int) / 2 ^ p) = ((wi x q / 2 ^ p : Nat) : Int) := by simp
    have hd : wi x q / 2 ^ p ≤ wi x q := Nat.div_le_self _ _
    rw [e1, ← E.out]
    have := u64_and_nat (wi x q / 2 ^ p) 1 (by omega) (by decide)
    rw [nat_mask1] at this
    exact this
  rw [← e]
  rfl
end Go.Proofs.YtikmhnlhaolbfaaDoor
namespace Go.Proofs.YtikmhnlhaolbfaaDoor
open Go.RowKit Go.Shelf
set_option linter.unusedVariables false

def len_ren : Go.Shelf.Ren := ⟨fun | 129 => 99 | n => n, fun | 53 => 22 | 3 => 3 | 4 => 4 | 46 => 91 | 5 => 5 | 9 => 9 | n => n, fun | n => n⟩
theorem len_lays : Go.Proofs.Lays.n129 Tryd.prog len_ren := {
  mixed := by kernel_rfl
  f129 := Tryd.func99.trans (congrArg some (by kernel_rfl))
  t3 := Tryd.underlying3
  a3 := Tryd.isAgg3
  z3 := Tryd.sizeOf3
  v3 := Tryd.zeroValue3
  t4 := Tryd.underlying4
  a4 := Tryd.isAgg4
  z4 := Tryd.sizeOf4
  v4 := Tryd.zeroValue4
  t5 := Tryd.underlying5
  a5 := Tryd.isAgg5
  z5 := Tryd.sizeOf5
  v5 := Tryd.zeroValue5
  t9 := Tryd.underlying9
  a9 := Tryd.isAgg9
  z9 := Tryd.sizeOf9
  v9 := Tryd.zeroValue9
  t46 := Tryd.underlying91
  a46 := Tryd.isAgg91
  z46 := Tryd.sizeOf91
  v46 := Tryd.zeroValue91
  t53 := Tryd.underlying22
  a53 := Tryd.isAgg22
  z53 := Tryd.sizeOf22
  v53 := Tryd.zeroValue22 }
theorem nbits_half (x : Nat) (h : x ≠ 0) : nbits x = 1 + nbits (x / 2) := by
  have hp : 0 < x := by omega
  by_cases h1 : x = 1
  · subst h1; decide
  · have h2 : x / 2 ≠ 0 := by omega
    have a := nbits_lt (x / 2)
    have b := nbits_le (x / 2) (by omega)
    have c := nbits_pos (x / 2) (by omega)
    have e : 1 + nbits (x / 2) = nbits (x / 2) + 1 := by omega
    rw [e]
    refine nbits_of x (nbits (x / 2)) ?_ ?_
    · have : 2 ^ nbits (x / 2) = 2 * 2 ^ (nbits (x / 2) - 1) := by
        conv => lhs; rw [show nbits (x / 2) = (nbits (x / 2) - 1) + 1 by omega, Nat.pow_succ, Nat.mul_comm]
      omega
    · rw [Nat.pow_succ]; omega
theorem bitLen_nbits (x : Nat) (h : x < 18446744073709551616) : Lib.bitLen x = nbits x := by
  induction x using Nat.strongRecOn with
  | ind x ih =>
    by_cases h0 : x = 0
    · subst h0; decide
    · rw [Lib.bitLen_half x h0 h, nbits_half x h0, ih (x / 2) (by omega) (by omega)]
theorem len_any (x : Nat) (w : World) (hx : x < 18446744073709551616) : Calls Tryd.prog 99 #[.int .u64 (x : Int)] w fun e w' => e = .returned (.int .i64 (nbits x : Int)) ∧ w = w' := by
  refine (Any.bits_Len64 len_lays (x : Int) w (by omega) (by omega)).mono fun e w' ⟨he, hw⟩ => ?_
  rw [he, hw, Int.toNat_natCast, bitLen_nbits x hx]
  exact ⟨rfl, rfl⟩

theorem nbits_top (y r : Nat) (k : Nat) (hr : r < 2 ^ k) (hy : 0 < y) : nbits (r + 2 ^ k * y) = k + nbits y := by
  have a := nbits_lt y
  have b := nbits_le y hy
  have c := nbits_pos y hy
  rw [show k + nbits y = (k + (nbits y - 1)) + 1 by omega]
  refine nbits_of _ _ ?_ ?_
  · rw [Nat.pow_add]
    have := Nat.mul_le_mul_left (2 ^ k) b
    omega
  · rw [show k + (nbits y - 1) + 1 = k + nbits y by omega, Nat.pow_add]
    have h1 : y + 1 ≤ 2 ^ nbits y := a
    have := Nat.mul_le_mul_left (2 ^ k) h1
    rw [Nat.mul_add] at this
    omega
theorem bits3 (x : Nat) (hx : x < 2 ^ 256) (h : wd x 3 ≠ 0) : nbits x = 192 + nbits (wd x 3) := by
  have e := v4_wd x hx
  have := nbits_top (wd x 3) (wd x 0 + 18446744073709551616 * (wd x 1 + 18446744073709551616 * wd x 2)) 192 (by
    have h0 := wd_lt x 0
    have h1 := wd_lt x 1
    have h2 := wd_lt x 2
    rw [show (2 : Nat) ^ 192 = 6277101735386680763835789423207666416102355444464034512896 by decide]
    omega) (by omega)
  rw [← this]
  conv => lhs; rw [← e]
  unfold v4
  rw [show (2 : Nat) ^ 192 = 6277101735386680763835789423207666416102355444464034512896 by decide]
  congr 1
  omega
theorem bits2 (x : Nat) (hx : x < 2 ^ 256) (h3 : wd x 3 = 0) (h : wd x 2 ≠ 0) : nbits x = 128 + nbits (wd x 2) := by
  have e := v4_wd x hx
  have := nbits_top (wd x 2) (wd x 0 + 18446744073709551616 * wd x 1) 128 (by
    have h0 := wd_lt x 0
    have h1 := wd_lt x 1
    rw [show (2 : Nat) ^ 128 = 340282366920938463463374607431768211456 by decide]
    omega) (by omega)
  rw [← this]
  conv => lhs; rw [← e]
  unfold v4
  rw [h3, show (2 : Nat) ^ 128 = 340282366920938463463374607431768211456 by decide]
  congr 1
  omega
theorem bits1 (x : Nat) (hx : x < 2 ^ 256) (h3 : wd x 3 = 0) (h2 : wd x 2 = 0) (h : wd x 1 ≠ 0) : nbits x = 64 + nbits (wd x 1) := by
  have e := v4_wd x hx
  have := nbits_top (wd x 1) (wd x 0) 64 (wd_lt x 0) (by omega)
  rw [← this]
  conv => lhs; rw [← e]
  unfold v4
  rw [h3, h2]
  congr 1
theorem bits0 (x : Nat) (hx : x < 2 ^ 256) (h3 : wd x 3 = 0) (h2 : wd x 2 = 0) (h1 : wd x 1 = 0) : x = wd x 0 := by
  have e := v4_wd x hx
  unfold v4 at e
  rw [h3, h2, h1] at e
  omega
theorem nbits_256 (x : Nat) (h : x < 2 ^ 256) : nbits x ≤ 256 := nbits_up x 256 h

set_option maxRecDepth 100000 in
set_option maxHeartbeats 800000 in
theorem bits_at3 (x : Nat) (w : World) (hx : x < 2 ^ 256)  (h : wd x 3 ≠ 0) : Calls Tryd.prog 58 #[num x] w fun e w' => e = .returned (.int .i64 (nbits x : Int)) ∧ Below w.heap.size w w' := by
  have E : Hid (nbits x = 192 + nbits (wd x 3)) := hid (bits3 x hx  h)
  have L := hid (wd_lt x 3)
  have hb := nbits_up _ 64 L.out
  have n3 : ((wd x 3 : Int) != 0) = true := by simpa using h
  clear hx h 
  go_enter Tryd.func58, Tryd.ntmps58
  go_wp2
  refine wp_loop_rounds 5 ?_
  rw [rounds_succ]
  go_wp2_with (go_at_call 99; refine (len_any _ _ L.out).mono ?_; rintro e w' ⟨rfl, rfl⟩)
  go_ret
  exact ⟨by rw [E.out]; simp, bal (Below.refl _ _) _⟩

set_option maxRecDepth 100000 in
set_option maxHeartbeats 800000 in
theorem bits_at2 (x : Nat) (w : World) (hx : x < 2 ^ 256) (h3 : wd x 3 = 0) (h : wd x 2 ≠ 0) : Calls Tryd.prog 58 #[num x] w fun e w' => e = .returned (.int .i64 (nbits x : Int)) ∧ Below w.heap.size w w' := by
  have E : Hid (nbits x = 128 + nbits (wd x 2)) := hid (bits2 x hx h3 h)
  have L := hid (wd_lt x 2)
  have hb := nbits_up _ 64 L.out
  have n2 : ((wd x 2 : Int) != 0) = true := by simpa using h
  have z3 : ((wd x 3 : Int) != 0) = false := by simp [h3]
  clear hx h h3
  go_enter Tryd.func58, Tryd.ntmps58
  go_wp2
  refine wp_loop_rounds 5 ?_
  rw [rounds_succ]
  go_wp2
  rw [rounds_succ]
  go_wp2_with (go_at_call 99; refine (len_any _ _ L.out).mono ?_; rintro e w' ⟨rfl, rfl⟩)
  go_ret
  exact ⟨by rw [E.out]; simp, bal (Below.refl _ _) _⟩

set_option maxRecDepth 100000 in
set_option maxHeartbeats 800000 in
theorem bits_at1 (x : Nat) (w : World) (hx : x < 2 ^ 256) (h3 : wd x 3 = 0) (h2 : wd x 2 = 0) (h : wd x 1 ≠ 0) : Calls Tryd.prog 58 #[num x] w fun e w' => e = .returned (.int .i64 (nbits x : Int)) ∧ Below w.heap.size w w' := by
  have E : Hid (nbits x = 64 + nbits (wd x 1)) := hid (bits1 x hx h3 h2 h)
  have L := hid (wd_lt x 1)
  have hb := nbits_up _ 64 L.out
  have n1 : ((wd x 1 : Int) != 0) = true := by simpa using h
  have z3 : ((wd x 3 : Int) != 0) = false := by simp [h3]
  have z2 : ((wd x 2 : Int) != 0) = false := by simp [h2]
  clear hx h h3 h2
  go_enter Tryd.func58, Tryd.ntmps58
  go_wp2
  refine wp_loop_rounds 5 ?_
  rw [rounds_succ]
  go_wp2
  rw [rounds_succ]
  go_wp2
  rw [rounds_succ]
  go_wp2_with (go_at_call 99; refine (len_any _ _ L.out).mono ?_; rintro e w' ⟨rfl, rfl⟩)
  go_ret
  exact ⟨by rw [E.out]; simp, bal (Below.refl _ _) _⟩

set_option maxRecDepth 100000 in
set_option maxHeartbeats 800000 in
theorem bits_at0 (x : Nat) (w : World) (hx : x < 2 ^ 256) (h3 : wd x 3 = 0) (h2 : wd x 2 = 0) (h1 : wd x 1 = 0) (h : wd x 0 ≠ 0) : Calls Tryd.prog 58 #[num x] w fun e w' => e = .returned (.int .i64 (nbits x : Int)) ∧ Below w.heap.size w w' := by
  have E : Hid (nbits x = 0 + nbits (wd x 0)) := hid (by have e := bits0 x hx h3 h2 h1; rw [← e]; omega)
  have L := hid (wd_lt x 0)
  have hb := nbits_up _ 64 L.out
  have n0 : ((wd x 0 : Int) != 0) = true := by simpa using h
  have z3 : ((wd x 3 : Int) != 0) = false := by simp [h3]
  have z2 : ((wd x 2 : Int) != 0) = false := by simp [h2]
  have z1 : ((wd x 1 : Int) != 0) = false := by simp [h1]
  clear hx h h3 h2 h1
  go_enter Tryd.func58, Tryd.ntmps58
  go_wp2
  refine wp_loop_rounds 5 ?_
  rw [rounds_succ]
  go_wp2
  rw [rounds_succ]
  go_wp2
  rw [rounds_succ]
  go_wp2
  rw [rounds_succ]
  go_wp2_with (go_at_call 99; refine (len_any _ _ L.out).mono ?_; rintro e w' ⟨rfl, rfl⟩)
  go_ret
  exact ⟨by rw [E.out]; simp, bal (Below.refl _ _) _⟩

set_option maxRecDepth 100000 in
set_option maxHeartbeats 800000 in
theorem bits_none (w : World) : Calls Tryd.prog 58 #[num 0] w fun e w' => e = .returned (.int .i64 0) ∧ Below w.heap.size w w' := by
  have z0 : ((wd 0 0 : Int) != 0) = false := by decide
  have z1 : ((wd 0 1 : Int) != 0) = false := by decide
  have z2 : ((wd 0 2 : Int) != 0) = false := by decide
  have z3 : ((wd 0 3 : Int) != 0) = false := by decide
  go_enter Tryd.func58, Tryd.ntmps58
  go_wp2
  refine wp_loop_rounds 5 ?_
  rw [rounds_succ]
  go_wp2
  rw [rounds_succ]
  go_wp2
  rw [rounds_succ]
  go_wp2
  rw [rounds_succ]
  go_wp2
  rw [rounds_succ]
  go_wp2
  go_ret
  exact ⟨rfl, bal (Below.refl _ _) _⟩

theorem bits_any (x : Nat) (w : World) (hx : x < 2 ^ 256) : Calls Tryd.prog 58 #[num x] w fun e w' => e = .returned (.int .i64 (nbits x : Int)) ∧ Below w.heap.size w w' := by
  by_cases h3 : wd x 3 = 0
  · by_cases h2 : wd x 2 = 0
    · by_cases h1 : wd x 1 = 0
      · by_cases h0 : wd x 0 = 0
        · have e := bits0 x hx h3 h2 h1
          rw [h0] at e
          subst e
          exact bits_none w
        · exact bits_at0 x w hx h3 h2 h1 h0
      · exact bits_at1 x w hx h3 h2 h1
    · exact bits_at2 x w hx h3 h2
  · exact bits_at3 x w hx h3
end Go.Proofs.YtikmhnlhaolbfaaDoor
namespace Go.Proofs.YtikmhnlhaolbfaaDoor
open Go.RowKit
set_option linter.unusedVariables false

/-- each bit n places higher; what would stand outside is lost -/
def shf (x : Nat) (n : Int) : Nat := if 0 ≤ n then x * 2 ^ n.toNat % 2 ^ 256 else x / 2 ^ (-n).toNat
theorem shf_lt (x : Nat) (n : Int) (hx : x < 2 ^ 256) : shf x n < 2 ^ 256 := by
  unfold shf
  split
  · exact Nat.mod_lt _ (Nat.two_pow_pos 256)
  · exact Nat.lt_of_le_of_lt (Nat.div_le_self _ _) hx
theorem p64 : (18446744073709551616 : Nat) = 2 ^ 64 := by decide
theorem wd_mul0 (x p : Nat) : wd (x * 2 ^ p) 0 = wd x 0 * 2 ^ p % 18446744073709551616 := by
  unfold wd
  rw [Nat.pow_zero, Nat.div_one, Nat.div_one, Nat.mod_mul_mod]
theorem two_split (p : Nat) (hp : p ≤ 64) : (18446744073709551616 : Nat) = 2 ^ p * 2 ^ (64 - p) := by
  rw [p64, ← Nat.pow_add]; congr 1; omega
theorem low_lt (a p : Nat) (hp : p ≤ 64) (ha : a < 18446744073709551616) : a / 2 ^ (64 - p) < 2 ^ p := by
  rw [Nat.div_lt_iff_lt_mul (Nat.two_pow_pos _), ← two_split p hp]; exact ha
theorem up_mod (a p : Nat) (hp : p ≤ 64) : a * 2 ^ p % 18446744073709551616 % 2 ^ p = 0 := by
  rw [two_split p hp, Nat.mod_mul_right_mod, Nat.mul_mod_left]
theorem up_room (a b p : Nat) (hp : p ≤ 64) (hb : b < 2 ^ p) : a * 2 ^ p % 18446744073709551616 + b < 18446744073709551616 := by
  rw [two_split p hp, Nat.mul_comm (2 ^ p) (2 ^ (64 - p)), Nat.mul_mod_mul_right]
  have h := Nat.mod_lt a (Nat.two_pow_pos (64 - p))
  have : (a % 2 ^ (64 - p) + 1) * 2 ^ p ≤ 2 ^ (64 - p) * 2 ^ p := Nat.mul_le_mul_right _ h
  rw [Nat.add_mul] at this
  omega
theorem wd_mul (x p j : Nat) (hp : p < 64) : wd (x * 2 ^ p) (j + 1) = wd x (j + 1) * 2 ^ p % 18446744073709551616 + wd x j / 2 ^ (64 - p) := by
  unfold wd
  have e1 : x * 2 ^ p / 18446744073709551616 ^ (j + 1) = x / 18446744073709551616 ^ j / 2 ^ (64 - p) := by
    rw [Nat.pow_succ, Nat.div_div_eq_div_mul]
    have : (18446744073709551616 : Nat) ^ j * 18446744073709551616 = 18446744073709551616 ^ j * 2 ^ (64 - p) * 2 ^ p := by
      rw [Nat.mul_assoc, Nat.mul_comm (2 ^ (64 - p)), ← two_split p (by omega)]
    rw [this, Nat.mul_div_mul_right _ _ (Nat.two_pow_pos p)]
  rw [e1]
  have e2 : x / 18446744073709551616 ^ (j + 1) = x / 18446744073709551616 ^ j / 18446744073709551616 := by rw [Nat.pow_succ, Nat.div_div_eq_div_mul]
  rw [e2]
  generalize x / 18446744073709551616 ^ j = z
  have hz := Nat.mod_add_div z 18446744073709551616
  have hb := low_lt (z % 18446744073709551616) p (by omega) (Nat.mod_lt _ (by decide))
  have hr := up_room (z / 18446744073709551616 % 18446744073709551616) _ p (by omega) hb
  have e3 : z / 2 ^ (64 - p) = z % 18446744073709551616 / 2 ^ (64 - p) + z / 18446744073709551616 * 2 ^ p := by
    conv => lhs; rw [← hz]
    conv => lhs; lhs; rhs; rw [two_split p (by omega), Nat.mul_comm (2 ^ p), Nat.mul_assoc]
    rw [Nat.add_mul_div_left _ _ (Nat.two_pow_pos _)]
    congr 1
    rw [Nat.mul_comm (2 ^ (64 - p)) (2 ^ p), ← two_split p (by omega), Nat.mul_comm]
  rw [e3, Nat.add_comm, Nat.add_mod, Nat.mod_mul_mod, Nat.mod_eq_of_lt (a := z % 18446744073709551616 / 2 ^ (64 - p)) (by have := Nat.div_le_self (z % 18446744073709551616) (2 ^ (64 - p)); omega)]
  rw [Nat.mod_mul_mod] at hr
  exact Nat.mod_eq_of_lt hr
theorem wd_high (x j : Nat) (hx : x < 2 ^ 256) (hj : 4 ≤ j) : wd x j = 0 := by
  unfold wd
  have h : x < 18446744073709551616 ^ j := by
    refine Nat.lt_of_lt_of_le hx ?_
    rw [show (2 : Nat) ^ 256 = 18446744073709551616 ^ 4 by decide]
    exact Nat.pow_le_pow_right (by decide) hj
  rw [Nat.div_eq_of_lt h]
theorem wi_nat (x j : Nat) (hx : x < 2 ^ 256) : wi x (j : Int) = wd x j := by
  unfold wi
  split
  · rw [Int.toNat_natCast]
  · rw [wd_high x j hx (by omega)]
theorem wi_neg (x : Nat) (i : Int) (h : i < 0) : wi x i = 0 := by unfold wi; rw [if_neg (by omega)]
theorem wd_up (y k i : Nat) (hi : i < 4) : wd (y * 18446744073709551616 ^ k % 2 ^ 256) i = if k ≤ i then wd y (i - k) else 0 := by
  unfold wd
  have e : (2 : Nat) ^ 256 = 18446744073709551616 ^ i * 18446744073709551616 ^ (4 - i) := by
    rw [← Nat.pow_add, show i + (4 - i) = 4 by omega]
  have e' : (18446744073709551616 : Nat) ^ (4 - i) = 18446744073709551616 * 18446744073709551616 ^ (3 - i) := by
    rw [show 4 - i = (3 - i) + 1 by omega, Nat.pow_succ, Nat.mul_comm]
  rw [e, Nat.mod_mul_right_div_self, e', Nat.mod_mul_right_mod]
  split
  · rename_i hk
    have : (18446744073709551616 : Nat) ^ i = 18446744073709551616 ^ (i - k) * 18446744073709551616 ^ k := by rw [← Nat.pow_add]; congr 1; omega
    rw [this, Nat.mul_div_mul_right _ _ (Nat.pow_pos (by decide))]
  · rename_i hk
    have : (18446744073709551616 : Nat) ^ k = 18446744073709551616 ^ (k - i - 1) * 18446744073709551616 * 18446744073709551616 ^ i := by
      rw [← Nat.pow_succ, ← Nat.pow_add]; congr 1; omega
    rw [this, ← Nat.mul_assoc, Nat.mul_div_cancel _ (Nat.pow_pos (by decide)), ← Nat.mul_assoc, Nat.mul_mod_left]
theorem wd_down (y k i : Nat) : wd (y / 18446744073709551616 ^ k) i = wd y (i + k) := by
  unfold wd
  rw [Nat.div_div_eq_div_mul, ← Nat.pow_add, Nat.add_comm k i]
theorem wd_pair (x p j : Nat) (hx : x < 2 ^ 256) (hp : p < 64) : wd (x * 2 ^ p) j = wi x (j : Int) * 2 ^ p % 18446744073709551616 + wi x ((j : Int) - 1) / 2 ^ (64 - p) := by
  match j with
  | 0 => rw [wd_mul0, wi_nat x 0 hx, wi_neg x _ (by decide)]; simp
  | j + 1 =>
    rw [wd_mul x p j hp, wi_nat x (j + 1) hx, show (((j + 1 : Nat) : Int) - 1) = (j : Int) by omega, wi_nat x j hx]
theorem shf_word (x p i : Nat) (n q : Int) (hx : x < 2 ^ 256) (h : n = 64 * q + p) (hp : p < 64) (hi : i < 4) :
    wd (shf x n) i = wi x ((i : Int) - q) * 2 ^ p % 18446744073709551616 + wi x ((i : Int) - q - 1) / 2 ^ (64 - p) := by
  by_cases hq : 0 ≤ q
  · obtain ⟨k, rfl⟩ := Int.eq_ofNat_of_zero_le hq
    have hn : n.toNat = p + 64 * k := by omega
    rw [shf, if_pos (by omega), hn, Nat.pow_add, Nat.pow_mul, ← Nat.mul_assoc, ← p64, wd_up _ _ _ hi]
    split
    · rename_i hk
      rw [wd_pair x p (i - k) hx hp, show ((i - k : Nat) : Int) = (i : Int) - k by omega]
    · rw [wi_neg _ _ (by omega), wi_neg _ _ (by omega)]; simp
  · obtain ⟨k, hk⟩ := Int.eq_ofNat_of_zero_le (by omega : 0 ≤ -q)
    have hn : (-n).toNat = 64 * k - p := by omega
    rw [shf, if_neg (by omega), hn]
    have e : x / 2 ^ (64 * k - p) = x * 2 ^ p / 18446744073709551616 ^ k := by
      rw [p64, ← Nat.pow_mul]
      have : (2 : Nat) ^ (64 * k) = 2 ^ (64 * k - p) * 2 ^ p := by rw [← Nat.pow_add]; congr 1; omega
      rw [this, Nat.mul_div_mul_right _ _ (Nat.two_pow_pos p)]
    rw [e, wd_down, wd_pair x p (i + k) hx hp, show ((i + k : Nat) : Int) = (i : Int) - q by omega]
/-- a word of the moved number, as the program reckons it -/
theorem shf_or (x p i : Nat) (n q : Int) (hx : x < 2 ^ 256) (h : n = 64 * q + p) (hp : p < 64) (hi : i < 4) (a b : Nat) (ha : a = wi x ((i : Int) - q)) (hb : b = wi x ((i : Int) - q - 1)) :
    bits .or .u64 (IntKind.u64.wrap ((a : Int) * 2 ^ p)) ((b : Int) / 2 ^ (64 - p)) = (wd (shf x n) i : Int) := by
  have hbl : b < 18446744073709551616 := hb ▸ wi_lt _ _
  have hl := low_lt b p (by omega) hbl
  have hr := up_room a _ p (by omega) hl
  have e1 : IntKind.u64.wrap ((a : Int) * 2 ^ p) = ((a * 2 ^ p % 18446744073709551616 : Nat) : Int) := by
    rw [IntKind.wrap_u64]; simp
  have e2 : ((b : Int) / 2 ^ (64 - p)) = ((b / 2 ^ (64 - p) : Nat) : Int) := by simp
  rw [e1, e2, u64_or_nat _ _ (by omega) (by omega), nat_join p _ _ (up_mod a p (by omega)) hl, shf_word x p i n q hx h hp hi, ha, hb]
end Go.Proofs.YtikmhnlhaolbfaaDoor
namespace Go.Proofs.YtikmhnlhaolbfaaDoor
open Go.RowKit
set_option linter.unusedVariables false

/-- block g holds these four cells -/
def Fr (w : World) (g : Nat) (a b c d : Value) : Prop := w.heap[g]? = some (.cells #[a, b, c, d] 24 (0, 0))
theorem Fr.lt {w : World} {g : Nat} {a b c d : Value} (h : Fr w g a b c d) : g < w.heap.size := lt_of_block h
theorem Fr.on {w w' : World} {g : Nat} {a b c d : Value} (h : Fr w g a b c d) (hb : Below w.heap.size w w') : Fr w' g a b c d := (hb.block g h.lt).trans h
theorem Fr.cell {w : World} {g : Nat} {a b c d : Value} (h : Fr w g a b c d) : w.cell? ⟨g, 0, none⟩ = some a ∧ w.cell? ⟨g, 1, none⟩ = some b ∧ w.cell? ⟨g, 2, none⟩ = some c ∧ w.cell? ⟨g, 3, none⟩ = some d := by
  refine ⟨?_, ?_, ?_, ?_⟩ <;> (rw [cell_of_row w g _ _ 24 (0, 0) h]; rfl)
theorem Fr.frozen {w : World} {g : Nat} {a b c d : Value} (h : Fr w g a b c d) (i : Nat) : w.frozen? ⟨g, i, none⟩ = false := by
  unfold Fr at h; simp [World.frozen?, h]

theorem Fr.new (w : World) (a b c d : Value) : Fr (w.alloc (.cells #[a, b, c, d] 24)) w.heap.size a b c d := heap_alloc_new _ _
theorem Fr.alloc {w : World} {g : Nat} {a b c d : Value} (h : Fr w g a b c d) (o : Obj) : Fr (w.alloc o) g a b c d := h.on ((Below.refl w.heap.size w).alloc (Nat.le_refl _) o)
theorem Fr.set0 {w : World} {g : Nat} {a b c d : Value} (h : Fr w g a b c d) (v : Value) : Fr (w.setCell ⟨g, 0, none⟩ v) g v b c d := by unfold Fr at h ⊢; simp [World.setCell, Array.getElem?_modify, h]
theorem Fr.set1 {w : World} {g : Nat} {a b c d : Value} (h : Fr w g a b c d) (v : Value) : Fr (w.setCell ⟨g, 1, none⟩ v) g a v c d := by unfold Fr at h ⊢; simp [World.setCell, Array.getElem?_modify, h]
theorem Fr.set2 {w : World} {g : Nat} {a b c d : Value} (h : Fr w g a b c d) (v : Value) : Fr (w.setCell ⟨g, 2, none⟩ v) g a b v d := by unfold Fr at h ⊢; simp [World.setCell, Array.getElem?_modify, h]
theorem Fr.set3 {w : World} {g : Nat} {a b c d : Value} (h : Fr w g a b c d) (v : Value) : Fr (w.setCell ⟨g, 3, none⟩ v) g a b c v := by unfold Fr at h ⊢; simp [World.setCell, Array.getElem?_modify, h]
theorem Fr.setOther {w : World} {g g' i : Nat} {a b c d : Value} (h : Fr w g a b c d) (v : Value) (hne : g ≠ g') : Fr (w.setCell ⟨g', i, none⟩ v) g a b c d := (Below.heap_setCell w ⟨g', i, none⟩ v g hne).trans h

/-- what stands while a number is moved: its box, the answer's, what is made so far -/
def Sh (w : World) (x : Nat) (a b c d : Value) (w' : World) : Prop :=
  Below w.heap.size w w' ∧ Nm w' w.heap.size x ∧ Fr w' (w.heap.size + 1) (.int .u64 0) (.int .u64 0) (.int .u64 0) (.int .u64 0) ∧ Fr w' (w.heap.size + 1 + 1) a b c d
theorem Sh.init (w : World) (x : Nat) : Sh w x (.int .u64 0) (.int .u64 0) (.int .u64 0) (.int .u64 0)
    (((w.alloc (.cells (cls x) 24)).alloc (.cells #[.int .u64 0, .int .u64 0, .int .u64 0, .int .u64 0] 24)).alloc (.cells #[.int .u64 0, .int .u64 0, .int .u64 0, .int .u64 0] 24)) := by
  refine ⟨bal (bal (bal (Below.refl _ _) _) _) _, ((Nm.new w x).alloc _).alloc _, ?_, ?_⟩
  · have := (Fr.new (w.alloc (.cells (cls x) 24)) (.int .u64 0) (.int .u64 0) (.int .u64 0) (.int .u64 0)).alloc (.cells #[.int .u64 0, .int .u64 0, .int .u64 0, .int .u64 0] 24)
    simpa using this
  · have := Fr.new ((w.alloc (.cells (cls x) 24)).alloc (.cells #[.int .u64 0, .int .u64 0, .int .u64 0, .int .u64 0] 24)) (.int .u64 0) (.int .u64 0) (.int .u64 0) (.int .u64 0)
    simpa using this
theorem Sh.drew {w w' : World} {x : Nat} {a b c d : Value} (h : Sh w x a b c d w') : Sh w x a b c d w'.drew := ⟨h.1.drew, h.2.1, h.2.2.1, h.2.2.2⟩
theorem Sh.on {w w' w2 : World} {x : Nat} {a b c d : Value} (h : Sh w x a b c d w') (hb : Below w'.heap.size w' w2) : Sh w x a b c d w2 :=
  ⟨bthen h.1 hb, h.2.1.on hb, h.2.2.1.on hb, h.2.2.2.on hb⟩
theorem Sh.cell {w w' : World} {x : Nat} {a b c d : Value} (h : Sh w x a b c d w') : w'.cell? ⟨w.heap.size, 0, none⟩ = some (.int .u64 (wd x 0 : Int)) ∧ w'.cell? ⟨w.heap.size, 1, none⟩ = some (.int .u64 (wd x 1 : Int)) ∧ w'.cell? ⟨w.heap.size, 2, none⟩ = some (.int .u64 (wd x 2 : Int)) ∧ w'.cell? ⟨w.heap.size, 3, none⟩ = some (.int .u64 (wd x 3 : Int)) := h.2.1.cell
theorem Sh.put {w w' : World} {x i : Nat} {a b c d a' b' c' d' : Value} (h : Sh w x a b c d w') (v : Value) (hf : Fr (w'.setCell ⟨w.heap.size + 1 + 1, i, none⟩ v) (w.heap.size + 1 + 1) a' b' c' d') : Sh w x a' b' c' d' (w'.setCell ⟨w.heap.size + 1 + 1, i, none⟩ v) :=
  ⟨h.1.setCell (by simp; omega) v, (Below.heap_setCell w' ⟨w.heap.size + 1 + 1, i, none⟩ v w.heap.size (by simp; omega)).trans h.2.1, h.2.2.1.setOther v (by omega), hf⟩
theorem Sh.kept {w w' : World} {x : Nat} {a b c d : Value} (h : Sh w x a b c d w') (i : Nat) (v : Value) : (w'.setCell ⟨w.heap.size + 1 + 1, i, none⟩ v).cell? ⟨w.heap.size, 0, none⟩ = some (.int .u64 (wd x 0 : Int)) ∧ (w'.setCell ⟨w.heap.size + 1 + 1, i, none⟩ v).cell? ⟨w.heap.size, 1, none⟩ = some (.int .u64 (wd x 1 : Int)) ∧ (w'.setCell ⟨w.heap.size + 1 + 1, i, none⟩ v).cell? ⟨w.heap.size, 2, none⟩ = some (.int .u64 (wd x 2 : Int)) ∧ (w'.setCell ⟨w.heap.size + 1 + 1, i, none⟩ v).cell? ⟨w.heap.size, 3, none⟩ = some (.int .u64 (wd x 3 : Int)) :=
  Nm.cell ((Below.heap_setCell w' ⟨w.heap.size + 1 + 1, i, none⟩ v w.heap.size (by simp; omega)).trans h.2.1)
theorem word_sh (x : Nat) (i : Int) (w w' : World) (a b c d : Value) (h : Sh w x a b c d w') :
    Calls Tryd.prog 98 #[num x, .int .i64 i] w' fun e w2 => e = .returned (.int .u64 (wi x i : Int)) ∧ Sh w x a b c d w2 :=
  (word_any x i w').mono fun e w2 ⟨he, hb⟩ => ⟨he, h.on hb⟩

set_option maxRecDepth 100000 in
set_option maxHeartbeats 800000 in
theorem shift_any (x : Nat) (n : Int) (w : World) (hx : x < 2 ^ 256) (h0 : -9223372036854775808 ≤ n) (h1 : n ≤ 9223372036854775807) :
    Calls Tryd.prog 57 #[num x, .int .i64 n] w fun e w' => e = .returned (num (shf x n)) ∧ Below w.heap.size w w' := by
  obtain ⟨q, p, h, hp⟩ : ∃ (q : Int) (p : Nat), n = 64 * q + p ∧ p < 64 := ⟨n / 64, (n % 64).toNat, by omega, by omega⟩
  have hq0 : -144115188075855872 ≤ q := by omega
  have hq1 : q ≤ 144115188075855871 := by omega
  have H := hid h
  have V0 : Hid (bits .or .u64 (IntKind.u64.wrap ((wi x (-q) : Int) * 2 ^ p)) ((wi x (-q - 1) : Int) / 2 ^ (64 - p)) = (wd (shf x n) 0 : Int)) := hid (shf_or x p 0 n q hx h hp (by decide) _ _ (by first | rfl | (congr 1; omega)) (by first | rfl | (congr 1; omega)))
  have V1 : Hid (bits .or .u64 (IntKind.u64.wrap ((wi x (1 - q) : Int) * 2 ^ p)) ((wi x (1 - q - 1) : Int) / 2 ^ (64 - p)) = (wd (shf x n) 1 : Int)) := hid (shf_or x p 1 n q hx h hp (by decide) _ _ (by first | rfl | (congr 1; omega)) (by first | rfl | (congr 1; omega)))
  have V2 : Hid (bits .or .u64 (IntKind.u64.wrap ((wi x (2 - q) : Int) * 2 ^ p)) ((wi x (2 - q - 1) : Int) / 2 ^ (64 - p)) = (wd (shf x n) 2 : Int)) := hid (shf_or x p 2 n q hx h hp (by decide) _ _ (by first | rfl | (congr 1; omega)) (by first | rfl | (congr 1; omega)))
  have V3 : Hid (bits .or .u64 (IntKind.u64.wrap ((wi x (3 - q) : Int) * 2 ^ p)) ((wi x (3 - q - 1) : Int) / 2 ^ (64 - p)) = (wd (shf x n) 3 : Int)) := hid (shf_or x p 3 n q hx h hp (by decide) _ _ (by first | rfl | (congr 1; omega)) (by first | rfl | (congr 1; omega)))
  clear h
  go_enter Tryd.func57, Tryd.ntmps57
  go_wp2_with fail
  refine (apart_at n q p _ H.out hp h0 h1).mono ?_
  rintro e w' ⟨rfl, rfl⟩
  go_wp2
  have HS := hid (Sh.init w x)
  generalize (((w.alloc (.cells (cls x) 24)).alloc (.cells #[.int .u64 0, .int .u64 0, .int .u64 0, .int .u64 0] 24)).alloc (.cells #[.int .u64 0, .int .u64 0, .int .u64 0, .int .u64 0] 24)) = w0 at *
  refine wp_loop_rounds 5 ?_
  rw [rounds_succ]
  go_wp2_with fail
  have HD := hid HS.out.drew
  have cs := HS.out.cell
  have s0 : IntKind.i64.wrap (-q) = -q := IntWalk.i64_in _ (by omega)
  have s1 : IntKind.i64.wrap (-q - 1) = -q - 1 := IntWalk.i64_in _ (by omega)
  have s2 : IntKind.u64.wrap (64 - (p : Int)) = ((64 - p : Nat) : Int) := by rw [IntWalk.u64_in _ (by omega)]; omega
  go_region_held3 (fun w' => w'.cell? ⟨w.heap.size, 0, none⟩ = some (.int .u64 (wd x 0 : Int)) ∧ w'.cell? ⟨w.heap.size, 1, none⟩ = some (.int .u64 (wd x 1 : Int)) ∧ w'.cell? ⟨w.heap.size, 2, none⟩ = some (.int .u64 (wd x 2 : Int)) ∧ w'.cell? ⟨w.heap.size, 3, none⟩ = some (.int .u64 (wd x 3 : Int)))
    (first | exact cs | exact Sh.cell (by assumption) | exact Sh.kept (by assumption) _ _)
    (first | (go_at_call 98; refine (word_sh x _ w _ _ _ _ _ (by first | exact Hid.out (by assumption) | assumption)).mono ?_; rintro e w1 ⟨rfl, hs⟩; have cc := hs.2.2.2.cell.1; have cf := hs.2.2.2.frozen 0))
  rw [V0.out]
  have HS1 := hid (hs.put _ (hs.2.2.2.set0 (.int .u64 (wd (shf x n) 0 : Int))))
  generalize w1.setCell ⟨w.heap.size + 1 + 1, 0, none⟩ (.int .u64 (wd (shf x n) 0 : Int)) = wn1 at *
  clear HS HD cs s0 s1 s2 V0 hs cc cf
  go_wp2
  rw [rounds_succ]
  go_wp2_with fail
  have HD := hid HS1.out.drew
  have cs := HS1.out.cell
  have s0 : IntKind.i64.wrap (1 - q) = 1 - q := IntWalk.i64_in _ (by omega)
  have s1 : IntKind.i64.wrap (1 - q - 1) = 1 - q - 1 := IntWalk.i64_in _ (by omega)
  have s2 : IntKind.u64.wrap (64 - (p : Int)) = ((64 - p : Nat) : Int) := by rw [IntWalk.u64_in _ (by omega)]; omega
  go_region_held3 (fun w' => w'.cell? ⟨w.heap.size, 0, none⟩ = some (.int .u64 (wd x 0 : Int)) ∧ w'.cell? ⟨w.heap.size, 1, none⟩ = some (.int .u64 (wd x 1 : Int)) ∧ w'.cell? ⟨w.heap.size, 2, none⟩ = some (.int .u64 (wd x 2 : Int)) ∧ w'.cell? ⟨w.heap.size, 3, none⟩ = some (.int .u64 (wd x 3 : Int)))
    (first | exact cs | exact Sh.cell (by assumption) | exact Sh.kept (by assumption) _ _)
    (first | (go_at_call 98; refine (word_sh x _ w _ _ _ _ _ (by first | exact Hid.out (by assumption) | assumption)).mono ?_; rintro e w1 ⟨rfl, hs⟩; have cc := hs.2.2.2.cell.2.1; have cf := hs.2.2.2.frozen 1))
  rw [V1.out]
  have HS2 := hid (hs.put _ (hs.2.2.2.set1 (.int .u64 (wd (shf x n) 1 : Int))))
  generalize w1.setCell ⟨w.heap.size + 1 + 1, 1, none⟩ (.int .u64 (wd (shf x n) 1 : Int)) = wn2 at *
  clear HS1 HD cs s0 s1 s2 V1 hs cc cf
  go_wp2
  rw [rounds_succ]
  go_wp2_with fail
  have HD := hid HS2.out.drew
  have cs := HS2.out.cell
  have s0 : IntKind.i64.wrap (2 - q) = 2 - q := IntWalk.i64_in _ (by omega)
  have s1 : IntKind.i64.wrap (2 - q - 1) = 2 - q - 1 := IntWalk.i64_in _ (by omega)
  have s2 : IntKind.u64.wrap (64 - (p : Int)) = ((64 - p : Nat) : Int) := by rw [IntWalk.u64_in _ (by omega)]; omega
  go_region_held3 (fun w' => w'.cell? ⟨w.heap.size, 0, none⟩ = some (.int .u64 (wd x 0 : Int)) ∧ w'.cell? ⟨w.heap.size, 1, none⟩ = some (.int .u64 (wd x 1 : Int)) ∧ w'.cell? ⟨w.heap.size, 2, none⟩ = some (.int .u64 (wd x 2 : Int)) ∧ w'.cell? ⟨w.heap.size, 3, none⟩ = some (.int .u64 (wd x 3 : Int)))
    (first | exact cs | exact Sh.cell (by assumption) | exact Sh.kept (by assumption) _ _)
    (first | (go_at_call 98; refine (word_sh x _ w _ _ _ _ _ (by first | exact Hid.out (by assumption) | assumption)).mono ?_; rintro e w1 ⟨rfl, hs⟩; have cc := hs.2.2.2.cell.2.2.1; have cf := hs.2.2.2.frozen 2))
  rw [V2.out]
  have HS3 := hid (hs.put _ (hs.2.2.2.set2 (.int .u64 (wd (shf x n) 2 : Int))))
  generalize w1.setCell ⟨w.heap.size + 1 + 1, 2, none⟩ (.int .u64 (wd (shf x n) 2 : Int)) = wn3 at *
  clear HS2 HD cs s0 s1 s2 V2 hs cc cf
  go_wp2
  rw [rounds_succ]
  go_wp2_with fail
  have HD := hid HS3.out.drew
  have cs := HS3.out.cell
  have s0 : IntKind.i64.wrap (3 - q) = 3 - q := IntWalk.i64_in _ (by omega)
  have s1 : IntKind.i64.wrap (3 - q - 1) = 3 - q - 1 := IntWalk.i64_in _ (by omega)
  have s2 : IntKind.u64.wrap (64 - (p : Int)) = ((64 - p : Nat) : Int) := by rw [IntWalk.u64_in _ (by omega)]; omega
  go_region_held3 (fun w' => w'.cell? ⟨w.heap.size, 0, none⟩ = some (.int .u64 (wd x 0 : Int)) ∧ w'.cell? ⟨w.heap.size, 1, none⟩ = some (.int .u64 (wd x 1 : Int)) ∧ w'.cell? ⟨w.heap.size, 2, none⟩ = some (.int .u64 (wd x 2 : Int)) ∧ w'.cell? ⟨w.heap.size, 3, none⟩ = some (.int .u64 (wd x 3 : Int)))
    (first | exact cs | exact Sh.cell (by assumption) | exact Sh.kept (by assumption) _ _)
    (first | (go_at_call 98; refine (word_sh x _ w _ _ _ _ _ (by first | exact Hid.out (by assumption) | assumption)).mono ?_; rintro e w1 ⟨rfl, hs⟩; have cc := hs.2.2.2.cell.2.2.2; have cf := hs.2.2.2.frozen 3))
  rw [V3.out]
  have HS4 := hid (hs.put _ (hs.2.2.2.set3 (.int .u64 (wd (shf x n) 3 : Int))))
  generalize w1.setCell ⟨w.heap.size + 1 + 1, 3, none⟩ (.int .u64 (wd (shf x n) 3 : Int)) = wn4 at *
  clear HS3 HD cs s0 s1 s2 V3 hs cc cf
  go_wp2
  have c0 := HS4.out.2.2.2.cell.1
  have c1 := HS4.out.2.2.2.cell.2.1
  have c2 := HS4.out.2.2.2.cell.2.2.1
  have c3 := HS4.out.2.2.2.cell.2.2.2
  have d0 := HS4.out.2.2.1.cell.1
  have d1 := HS4.out.2.2.1.cell.2.1
  have d2 := HS4.out.2.2.1.cell.2.2.1
  have d3 := HS4.out.2.2.1.cell.2.2.2
  have f0 := HS4.out.2.2.1.frozen
  rw [rounds_succ]
  go_wp2
  have HF := hid ((((HS4.out.2.2.1.set0 (.int .u64 (wd (shf x n) 0 : Int))).set1 (.int .u64 (wd (shf x n) 1 : Int))).set2 (.int .u64 (wd (shf x n) 2 : Int))).set3 (.int .u64 (wd (shf x n) 3 : Int)))
  have HB := hid ((((HS4.out.1.setCell (p := ⟨w.heap.size + 1, 0, none⟩) (by simp) (.int .u64 (wd (shf x n) 0 : Int))).setCell (p := ⟨w.heap.size + 1, 1, none⟩) (by simp) (.int .u64 (wd (shf x n) 1 : Int))).setCell (p := ⟨w.heap.size + 1, 2, none⟩) (by simp) (.int .u64 (wd (shf x n) 2 : Int))).setCell (p := ⟨w.heap.size + 1, 3, none⟩) (by simp) (.int .u64 (wd (shf x n) 3 : Int)))
  generalize (((wn4.setCell ⟨w.heap.size + 1, 0, none⟩ (.int .u64 (wd (shf x n) 0 : Int))).setCell ⟨w.heap.size + 1, 1, none⟩ (.int .u64 (wd (shf x n) 1 : Int))).setCell ⟨w.heap.size + 1, 2, none⟩ (.int .u64 (wd (shf x n) 2 : Int))).setCell ⟨w.heap.size + 1, 3, none⟩ (.int .u64 (wd (shf x n) 3 : Int)) = wz at *
  obtain ⟨g0, g1, g2, g3⟩ := HF.out.cell
  exact bodyPost_ret (v := num (shf x n)) (by simp [results, Tryd.results57, go_sem, g0, g1, g2, g3]) rfl ⟨rfl, HB.out⟩
end Go.Proofs.YtikmhnlhaolbfaaDoor
namespace Go.Proofs.YtikmhnlhaolbfaaDoor
open Go.RowKit
set_option linter.unusedVariables false

/-- half i of a number's words -/
def hf (x i : Nat) : Nat := x / 4294967296 ^ i % 4294967296
theorem hf_lt (x i : Nat) : hf x i < 4294967296 := Nat.mod_lt _ (by decide)
theorem hf_even (x i : Nat) : wd x i % 4294967296 = hf x (2 * i) := by
  unfold wd hf
  rw [show (18446744073709551616 : Nat) = 4294967296 * 4294967296 by decide, Nat.mod_mul_right_mod, Nat.pow_mul]
theorem hf_odd (x i : Nat) : wd x i / 4294967296 = hf x (2 * i + 1) := by
  unfold wd hf
  rw [show (18446744073709551616 : Nat) = 4294967296 * 4294967296 by decide, Nat.mod_mul_right_div_self, Nat.pow_succ, ← Nat.div_div_eq_div_mul, Nat.pow_mul]
theorem wd_halves (x i : Nat) : wd x i = hf x (2 * i + 1) * 4294967296 + hf x (2 * i) := by
  rw [← hf_even, ← hf_odd]
  have := wd_lt x i
  omega
/-- a number's halves, as a value -/
abbrev hcls (x : Nat) : Array Value := #[.int .u32 (hf x 0 : Int), .int .u32 (hf x 1 : Int), .int .u32 (hf x 2 : Int), .int .u32 (hf x 3 : Int), .int .u32 (hf x 4 : Int), .int .u32 (hf x 5 : Int), .int .u32 (hf x 6 : Int), .int .u32 (hf x 7 : Int)]

theorem lo32 (x i : Nat) : (wd x i : Int) % 4294967296 = (hf x (2 * i) : Int) := by
  rw [← hf_even]; simp
theorem hi32 (x i : Nat) : (wd x i : Int) / 4294967296 % 4294967296 = (hf x (2 * i + 1) : Int) := by
  have := wd_lt x i
  rw [← hf_odd]; omega
theorem join32 (x i : Nat) : bits .or .u64 (IntKind.u64.wrap (IntKind.u64.wrap (hf x (2 * i + 1) : Int) * 4294967296)) (IntKind.u64.wrap (hf x (2 * i) : Int)) = (wd x i : Int) := by
  have h1 := hf_lt x (2 * i + 1)
  have h0 := hf_lt x (2 * i)
  rw [IntWalk.u64_in (hf x (2 * i + 1) : Int) (by omega), IntWalk.u64_in _ (by omega), IntWalk.u64_in (hf x (2 * i) : Int) (by omega), wd_halves x i]
  have := u64_or_nat (hf x (2 * i + 1) * 4294967296) (hf x (2 * i)) (by omega) (by omega)
  rw [nat_join 32 _ _ (by omega) (by omega)] at this
  simpa using this

set_option maxRecDepth 100000 in
set_option maxHeartbeats 800000 in
theorem split_ex (x : Nat) (w : World) : Calls Tryd.prog 93 #[num x] w fun e w' => e = .returned (.agg (hcls x)) ∧ w' = (w.alloc (.cells (cls x) 24)).alloc (.cells (hcls x) 113) := by
  have a0 : (wd x 0 : Int) % 4294967296 = (hf x 0 : Int) := lo32 x 0
  have b0 : (wd x 0 : Int) / 4294967296 % 4294967296 = (hf x 1 : Int) := hi32 x 0
  have a1 : (wd x 1 : Int) % 4294967296 = (hf x 2 : Int) := lo32 x 1
  have b1 : (wd x 1 : Int) / 4294967296 % 4294967296 = (hf x 3 : Int) := hi32 x 1
  have a2 : (wd x 2 : Int) % 4294967296 = (hf x 4 : Int) := lo32 x 2
  have b2 : (wd x 2 : Int) / 4294967296 % 4294967296 = (hf x 5 : Int) := hi32 x 2
  have a3 : (wd x 3 : Int) % 4294967296 = (hf x 6 : Int) := lo32 x 3
  have b3 : (wd x 3 : Int) / 4294967296 % 4294967296 = (hf x 7 : Int) := hi32 x 3
  go_enter Tryd.func93, Tryd.ntmps93
  go_wp2
  refine bodyPost_ret (v := .agg (hcls x)) (by simp [results, Tryd.results93, go_sem]) rfl ⟨rfl, rfl⟩

theorem split_any (x : Nat) (w : World) : Calls Tryd.prog 93 #[num x] w fun e w' => e = .returned (.agg (hcls x)) ∧ Below w.heap.size w w' :=
  (split_ex x w).mono fun e w' ⟨he, hw⟩ => ⟨he, by rw [hw]; exact bal (bal (Below.refl _ _) _) _⟩

set_option maxRecDepth 100000 in
set_option maxHeartbeats 800000 in
theorem join_ex (x : Nat) (w : World) : Calls Tryd.prog 94 #[.agg (hcls x)] w fun e w' => e = .returned (num x) ∧ w' = (((w.alloc (.cells (hcls x) 113)).alloc (.cells (cls x) 24)).alloc (.cells (cls x) 24)).drew.drew.drew.drew := by
  have v0 : bits .or .u64 (IntKind.u64.wrap (IntKind.u64.wrap (hf x 1 : Int) * 4294967296)) (IntKind.u64.wrap (hf x 0 : Int)) = (wd x 0 : Int) := join32 x 0
  have v1 : bits .or .u64 (IntKind.u64.wrap (IntKind.u64.wrap (hf x 3 : Int) * 4294967296)) (IntKind.u64.wrap (hf x 2 : Int)) = (wd x 1 : Int) := join32 x 1
  have v2 : bits .or .u64 (IntKind.u64.wrap (IntKind.u64.wrap (hf x 5 : Int) * 4294967296)) (IntKind.u64.wrap (hf x 4 : Int)) = (wd x 2 : Int) := join32 x 2
  have v3 : bits .or .u64 (IntKind.u64.wrap (IntKind.u64.wrap (hf x 7 : Int) * 4294967296)) (IntKind.u64.wrap (hf x 6 : Int)) = (wd x 3 : Int) := join32 x 3
  go_enter Tryd.func94, Tryd.ntmps94
  go_wp2
  refine wp_loop_rounds 5 ?_
  rw [rounds_succ]
  go_wp2
  go_region
  go_wp2
  rw [rounds_succ]
  go_wp2
  go_region
  go_wp2
  rw [rounds_succ]
  go_wp2
  go_region
  go_wp2
  rw [rounds_succ]
  go_wp2
  go_region
  go_wp2
  rw [rounds_succ]
  go_wp2
  exact bodyPost_ret (v := num x) (by simp [results, Tryd.results94, go_sem]) rfl ⟨rfl, rfl⟩
theorem join_any (x : Nat) (w : World) : Calls Tryd.prog 94 #[.agg (hcls x)] w fun e w' => e = .returned (num x) ∧ Below w.heap.size w w' :=
  (join_ex x w).mono fun e w' ⟨he, hw⟩ => ⟨he, by rw [hw]; exact (bal (bal (bal (Below.refl _ _) _) _) _).drew.drew.drew.drew⟩
end Go.Proofs.YtikmhnlhaolbfaaDoor
namespace Go.Proofs.YtikmhnlhaolbfaaDoor
open Go.RowKit
set_option linter.unusedVariables false

/-- two numbers' boxes -/
def LTw (w : World) (x y : Nat) (w' : World) : Prop := Below w.heap.size w w' ∧ Nm w' w.heap.size x ∧ Nm w' (w.heap.size + 1) y
theorem LTw.init (w : World) (x y : Nat) : LTw w x y ((w.alloc (.cells (cls x) 24)).alloc (.cells (cls y) 24)) := by
  refine ⟨bal (bal (Below.refl _ _) _) _, (Nm.new w x).alloc _, ?_⟩
  have := Nm.new (w.alloc (.cells (cls x) 24)) y
  simpa using this
theorem LTw.drew {w w' : World} {x y : Nat} (h : LTw w x y w') : LTw w x y w'.drew := ⟨h.1.drew, h.2.1, h.2.2⟩
theorem LTw.on {w w' w2 : World} {x y : Nat} (h : LTw w x y w') (hb : Below w'.heap.size w' w2) : LTw w x y w2 := ⟨bthen h.1 hb, h.2.1.on hb, h.2.2.on hb⟩
theorem LTw.alloc {w w' : World} {x y : Nat} (h : LTw w x y w') (o : Obj) : LTw w x y (w'.alloc o) := h.on (bal (Below.refl _ _) o)
theorem LTw.cell {w w' : World} {x y : Nat} (h : LTw w x y w') : w'.cell? ⟨w.heap.size, 0, none⟩ = some (.int .u64 (wd x 0 : Int)) ∧ w'.cell? ⟨w.heap.size, 1, none⟩ = some (.int .u64 (wd x 1 : Int)) ∧ w'.cell? ⟨w.heap.size, 2, none⟩ = some (.int .u64 (wd x 2 : Int)) ∧ w'.cell? ⟨w.heap.size, 3, none⟩ = some (.int .u64 (wd x 3 : Int)) ∧ w'.cell? ⟨w.heap.size + 1, 0, none⟩ = some (.int .u64 (wd y 0 : Int)) ∧ w'.cell? ⟨w.heap.size + 1, 1, none⟩ = some (.int .u64 (wd y 1 : Int)) ∧ w'.cell? ⟨w.heap.size + 1, 2, none⟩ = some (.int .u64 (wd y 2 : Int)) ∧ w'.cell? ⟨w.heap.size + 1, 3, none⟩ = some (.int .u64 (wd y 3 : Int)) := by
  obtain ⟨a, b, c, d⟩ := h.2.1.cell
  obtain ⟨e, f, g, i⟩ := h.2.2.cell
  exact ⟨a, b, c, d, e, f, g, i⟩
theorem LTw.sz {w w' : World} {x y : Nat} (h : LTw w x y w') : w.heap.size + 1 < w'.heap.size := h.2.2.lt
theorem LTw.set {w w' : World} {x y : Nat} (h : LTw w x y w') (g i : Nat) (v : Value) (hg : w.heap.size + 1 < g) : LTw w x y (w'.setCell ⟨g, i, none⟩ v) :=
  ⟨h.1.setCell (by simp; omega) v, (Below.heap_setCell w' ⟨g, i, none⟩ v w.heap.size (by simp; omega)).trans h.2.1, (Below.heap_setCell w' ⟨g, i, none⟩ v (w.heap.size + 1) (by simp; omega)).trans h.2.2⟩
theorem bcell {W w1 : World} (hb : Below W.heap.size W w1) : (∀ b o, b < W.heap.size → w1.cell? ⟨b, o, none⟩ = W.cell? ⟨b, o, none⟩) ∧ (∀ b o, b < W.heap.size → w1.frozen? ⟨b, o, none⟩ = W.frozen? ⟨b, o, none⟩) :=
  ⟨fun b o h => hb.cell (p := ⟨b, o, none⟩) h, fun b o h => hb.frozen (p := ⟨b, o, none⟩) h⟩
/-- what was there reads as it did, and lies below what is made next -/
def Kept (W w : World) : Prop := (∀ b o, b < W.heap.size → w.cell? ⟨b, o, none⟩ = W.cell? ⟨b, o, none⟩) ∧ (∀ b o, b < W.heap.size → w.frozen? ⟨b, o, none⟩ = W.frozen? ⟨b, o, none⟩) ∧ (∀ b, b < W.heap.size → (b < w.heap.size) = True) ∧ (∀ b, b < W.heap.size → (b = w.heap.size) = False) ∧ (∀ b, b < W.heap.size → (w.heap.size = b) = False)
theorem Kept.of {W w : World} (hb : Below W.heap.size W w) : Kept W w :=
  ⟨(bcell hb).1, (bcell hb).2, fun b h => eq_true (Nat.lt_of_lt_of_le h hb.size), fun b h => eq_false (by have := hb.size; omega), fun b h => eq_false (by have := hb.size; omega)⟩
theorem split_tw (x y z : Nat) (w w' : World) (h : LTw w x y w') : Calls Tryd.prog 93 #[num z] w' fun e w2 => e = .returned (.agg (hcls z)) ∧ LTw w x y w2 ∧ Kept w' w2 :=
  (split_any z w').mono fun e w2 ⟨he, hb⟩ => ⟨he, h.on hb, Kept.of hb⟩
theorem hf_step (x k : Nat) : x / 4294967296 ^ k = x / 4294967296 ^ (k + 1) * 4294967296 + hf x k := by
  unfold hf
  rw [Nat.pow_succ, ← Nat.div_div_eq_div_mul]
  omega
theorem hf_top (x y : Nat) (hx : x < 2 ^ 256) (hy : y < 2 ^ 256) (k : Nat) (h : ∀ j, k ≤ j → j < 8 → hf x j = hf y j) (hk : k ≤ 8) : x / 4294967296 ^ k = y / 4294967296 ^ k := by
  induction hd : 8 - k generalizing k with
  | zero =>
    have : k = 8 := by omega
    subst this
    rw [Nat.div_eq_of_lt hx, Nat.div_eq_of_lt hy]
  | succ d ih =>
    rw [hf_step x k, hf_step y k, h k (Nat.le_refl _) (by omega), ih (k + 1) (fun j hj => h j (by omega)) (by omega) (by omega)]
theorem hf_all (x y : Nat) (hx : x < 2 ^ 256) (hy : y < 2 ^ 256) (h : ∀ j, j < 8 → hf x j = hf y j) : x = y := by
  have := hf_top x y hx hy 0 (fun j _ hj => h j hj) (by omega)
  simpa using this
theorem hf_less (x y k : Nat) (e : x / 4294967296 ^ (k + 1) = y / 4294967296 ^ (k + 1)) (h : hf x k < hf y k) : x < y := by
  have h2 : x / 4294967296 ^ k < y / 4294967296 ^ k := by rw [hf_step x k, hf_step y k, e]; omega
  rcases Nat.lt_or_ge x y with h3 | h3
  · exact h3
  · have := Nat.div_le_div_right (c := 4294967296 ^ k) h3
    omega
theorem cmp_half (x y k : Nat) (hx : x < 2 ^ 256) (hy : y < 2 ^ 256) (hk : k < 8) (h : ∀ j, k < j → j < 8 → hf x j = hf y j) (hne : hf x k ≠ hf y k) : cmpN (hf x k) (hf y k) = cmpN x y := by
  have e := hf_top x y hx hy (k + 1) (fun j hj => h j hj) (by omega)
  unfold cmpN
  rcases Nat.lt_or_gt_of_ne hne with h1 | h1
  · rw [if_pos h1, if_pos (hf_less x y k e h1)]
  · have := hf_less y x k e.symm h1
    rw [if_neg (by omega), if_pos h1, if_neg (by omega), if_pos this]

theorem below_drewN {B : Nat} {W w' : World} (h : Below B W w') (n : Nat) : Below B W (w'.drewN n) := by
  induction n with
  | zero => exact h
  | succ n ih => exact ih.drew
/-- these eight cells lie there -/
def H8 (w : World) (g x : Nat) : Prop := w.cell? ⟨g, 0, none⟩ = some (.int .u32 (hf x 0 : Int)) ∧ w.cell? ⟨g, 1, none⟩ = some (.int .u32 (hf x 1 : Int)) ∧ w.cell? ⟨g, 2, none⟩ = some (.int .u32 (hf x 2 : Int)) ∧ w.cell? ⟨g, 3, none⟩ = some (.int .u32 (hf x 3 : Int)) ∧ w.cell? ⟨g, 4, none⟩ = some (.int .u32 (hf x 4 : Int)) ∧ w.cell? ⟨g, 5, none⟩ = some (.int .u32 (hf x 5 : Int)) ∧ w.cell? ⟨g, 6, none⟩ = some (.int .u32 (hf x 6 : Int)) ∧ w.cell? ⟨g, 7, none⟩ = some (.int .u32 (hf x 7 : Int))
theorem H8.at {w : World} {g x : Nat} (h : H8 w g x) (k : Nat) (hk : k < 8) : w.cell? ⟨g, k, none⟩ = some (.int .u32 (hf x k : Int)) := by
  obtain ⟨h0, h1, h2, h3, h4, h5, h6, h7⟩ := h
  match k, hk with
  | 0, _ => exact h0
  | 1, _ => exact h1
  | 2, _ => exact h2
  | 3, _ => exact h3
  | 4, _ => exact h4
  | 5, _ => exact h5
  | 6, _ => exact h6
  | 7, _ => exact h7
theorem eq8_yes (a b c d e f g h : Int) (w : World) : (Op.equalIn 10000 113 (.agg #[.int .u32 a, .int .u32 b, .int .u32 c, .int .u32 d, .int .u32 e, .int .u32 f, .int .u32 g, .int .u32 h]) (.agg #[.int .u32 a, .int .u32 b, .int .u32 c, .int .u32 d, .int .u32 e, .int .u32 f, .int .u32 g, .int .u32 h])).run Tryd.prog w = .ok true w := by
  have u3 := Tryd.underlying32
  have a3 := Tryd.isAgg32
  have z3 := Tryd.sizeOf32
  rw [show (10000 : Nat) = 9999 + 1 from rfl, Op.equalIn]
  simp only [Sem.run_bind, run_underlying Tryd.underlying113, Result.andThen_ok]
  simp only [Std.Legacy.Range.forIn_eq_forIn_range', Std.Legacy.Range.size, Nat.sub_zero, Nat.add_sub_cancel, Nat.div_one, List.range'_succ, List.range'_zero, List.forIn_cons, List.forIn_nil]
  go_simp
theorem eq8_no (a b c d e f g h a' b' c' d' e' f' g' h' : Int) (hne : ¬ (a = a' ∧ b = b' ∧ c = c' ∧ d = d' ∧ e = e' ∧ f = f' ∧ g = g' ∧ h = h')) (w : World) : (Op.equalIn 10000 113 (.agg #[.int .u32 a, .int .u32 b, .int .u32 c, .int .u32 d, .int .u32 e, .int .u32 f, .int .u32 g, .int .u32 h]) (.agg #[.int .u32 a', .int .u32 b', .int .u32 c', .int .u32 d', .int .u32 e', .int .u32 f', .int .u32 g', .int .u32 h'])).run Tryd.prog w = .ok false w := by
  have u3 := Tryd.underlying32
  have a3 := Tryd.isAgg32
  have z3 := Tryd.sizeOf32
  rw [show (10000 : Nat) = 9999 + 1 from rfl, Op.equalIn]
  simp only [Sem.run_bind, run_underlying Tryd.underlying113, Result.andThen_ok]
  simp only [Std.Legacy.Range.forIn_eq_forIn_range', Std.Legacy.Range.size, Nat.sub_zero, Nat.add_sub_cancel, Nat.div_one, List.range'_succ, List.range'_zero, List.forIn_cons, List.forIn_nil]
  go_simp
  by_cases h1 : a = a'
  · by_cases h2 : b = b'
    · by_cases h3 : c = c'
      · by_cases h4 : d = d'
        · by_cases h5 : e = e'
          · by_cases h6 : f = f'
            · by_cases h7 : g = g'
              · by_cases h8 : h = h'
                · exact absurd ⟨h1, h2, h3, h4, h5, h6, h7, h8⟩ hne
                · simp [h1, h2, h3, h4, h5, h6, h7, h8]
              · simp [h1, h2, h3, h4, h5, h6, h7]
            · simp [h1, h2, h3, h4, h5, h6]
          · simp [h1, h2, h3, h4, h5]
        · simp [h1, h2, h3, h4]
      · simp [h1, h2, h3]
    · simp [h1, h2]
  · simp [h1]
theorem eq8_nums (x y : Nat) (hx : x < 2 ^ 256) (hy : y < 2 ^ 256) (hne : x ≠ y) (w : World) : (Op.equalIn 10000 113 (.agg (hcls x)) (.agg (hcls y))).run Tryd.prog w = .ok false w := by
  refine eq8_no _ _ _ _ _ _ _ _ _ _ _ _ _ _ _ _ (fun h => hne (hf_all x y hx hy ?_)) w
  obtain ⟨h0, h1, h2, h3, h4, h5, h6, h7⟩ := h
  intro j hj
  match j, hj with
  | 0, _ => exact_mod_cast h0
  | 1, _ => exact_mod_cast h1
  | 2, _ => exact_mod_cast h2
  | 3, _ => exact_mod_cast h3
  | 4, _ => exact_mod_cast h4
  | 5, _ => exact_mod_cast h5
  | 6, _ => exact_mod_cast h6
  | 7, _ => exact_mod_cast h7

set_option maxRecDepth 100000 in
set_option maxHeartbeats 1600000 in
theorem cmp_any (x y : Nat) (w : World) (hx : x < 2 ^ 256) (hy : y < 2 ^ 256) : Calls Tryd.prog 55 #[num x, num y] w fun e w' => e = .returned (.int .i64 (cmpN x y)) ∧ Below w.heap.size w w' := by
  go_enter Tryd.func55, Tryd.ntmps55
  go_upto_region 1 with fail
  have HT := hid (LTw.init w x y)
  generalize (w.alloc (.cells (cls x) 24)).alloc (.cells (cls y) 24) = w0 at *
  go_cut [5, 6] (fun s5 s6 wx => ∃ g5 g6 : Nat, s5 = .pointer (some ⟨g5, 0, none⟩) ∧ s6 = .pointer (some ⟨g6, 0, none⟩) ∧ Hid (H8 wx g5 x) ∧ Hid (H8 wx g6 y) ∧ Hid (LTw w x y wx))
  case first =>
    have cs := HT.out.cell
    have hz0 := HT.out.sz
    go_region_held3 (fun w' => w'.cell? ⟨w.heap.size, 0, none⟩ = some (.int .u64 (wd x 0 : Int)) ∧ w'.cell? ⟨w.heap.size, 1, none⟩ = some (.int .u64 (wd x 1 : Int)) ∧ w'.cell? ⟨w.heap.size, 2, none⟩ = some (.int .u64 (wd x 2 : Int)) ∧ w'.cell? ⟨w.heap.size, 3, none⟩ = some (.int .u64 (wd x 3 : Int)) ∧ w'.cell? ⟨w.heap.size + 1, 0, none⟩ = some (.int .u64 (wd y 0 : Int)) ∧ w'.cell? ⟨w.heap.size + 1, 1, none⟩ = some (.int .u64 (wd y 1 : Int)) ∧ w'.cell? ⟨w.heap.size + 1, 2, none⟩ = some (.int .u64 (wd y 2 : Int)) ∧ w'.cell? ⟨w.heap.size + 1, 3, none⟩ = some (.int .u64 (wd y 3 : Int)))
      (first | exact cs | exact LTw.cell (by repeat (first | exact HT.out | refine LTw.alloc ?_ _ | refine LTw.drew ?_)))
      (first | (go_at_call 93; refine (split_ex _ _).mono ?_; rintro e w1 ⟨rfl, rfl⟩))
    all_goals
      go_wp2_with fail
      go_meet
      refine ⟨_, _, rfl, rfl, hid ?_, hid ?_, hid ?_⟩
      · unfold H8; go_simp
      · unfold H8; go_simp
      · repeat (first | exact HT.out | refine LTw.alloc ?_ _ | refine LTw.drew ?_)
  case rest =>
    obtain ⟨g5, g6, rfl, rfl, HX, HY, HW⟩ := hcut
    clear HT
    obtain ⟨x0, x1, x2, x3, x4, x5, x6, x7⟩ := HX.out
    obtain ⟨y0, y1, y2, y3, y4, y5, y6, y7⟩ := HY.out
    by_cases hxy : x = y
    · subst hxy
      have heq := eq8_yes (hf x 0 : Int) (hf x 1 : Int) (hf x 2 : Int) (hf x 3 : Int) (hf x 4 : Int) (hf x 5 : Int) (hf x 6 : Int) (hf x 7 : Int)
      have HE := hid (p := cmpN x x = 0) (by unfold cmpN; simp)
      go_wp2
      go_ret
      exact ⟨by rw [HE.out]; rfl, HW.out.1⟩
    · have heq := eq8_nums x y hx hy hxy
      have HN := hid hxy
      have HLx := hid hx
      have HLy := hid hy
      clear hxy hx hy
      go_wp2
      clear x0 x1 x2 x3 x4 x5 x6 x7 y0 y1 y2 y3 y4 y5 y6 y7 heq
      go_loopw [7] (fun i wr => ∃ k : Nat, k < 8 ∧ i = .int .i64 k ∧ Hid (∀ j, k < j → j < 8 → hf x j = hf y j) ∧ Hid (H8 wr g5 x) ∧ Hid (H8 wr g6 y) ∧ Hid (Below w.heap.size w wr)) (fun i _ => (intOf i).toNat)
      case atStart => exact ⟨7, by omega, rfl, hid (fun j h1 h2 => by omega), HX, HY, hid HW.out.1⟩
      case round =>
        obtain ⟨k, hk, rfl, HJ, HX, HY, HB⟩ := hrel
        have cx := HX.out.at k hk
        have cy := HY.out.at k hk
        by_cases hq : hf x k = hf y k
        · have hk1 : 1 ≤ k := by
            rcases Nat.eq_zero_or_pos k with h | h
            · subst h
              exact absurd (hf_all x y HLx.out HLy.out (fun j hj => by
                rcases Nat.eq_zero_or_pos j with h | h
                · subst h; exact hq
                · exact HJ.out j h hj)) HN.out
            · exact h
          have HQ := hid hq
          rw [← hq] at cy
          clear hq
          go_wp2
          go_quiet (fail)
          go_wp2
          go_roundw
          case rel =>
            refine ⟨k - 1, by omega, by go_num, hid (fun j h1 h2 => ?_), HX, HY, hid ?_⟩
            · rcases Nat.lt_or_ge k j with h | h
              · exact HJ.out j h h2
              · have : j = k := by omega
                subst this; exact HQ.out
            · exact below_drewN HB.out nq
          case measure => simp [intOf]; omega
        · have HC := hid (cmp_half x y k HLx.out HLy.out hk HJ.out hq)
          have hne : ((hf x k : Int) == (hf y k : Int)) = false := by
            have : (hf x k : Int) ≠ (hf y k : Int) := by omega
            simpa using this
          clear hq
          go_wp2
          go_quiet (fail)
          have cx2 : (wr.drewN nq).cell? ⟨g5, k, none⟩ = some (.int .u32 (hf x k : Int)) := cx
          have cy2 : (wr.drewN nq).cell? ⟨g6, k, none⟩ = some (.int .u32 (hf y k : Int)) := cy
          have HB2 := hid (below_drewN HB.out nq)
          clear cx cy HX HY HB
          generalize wr.drewN nq = w2 at *
          go_wp2
          go_quiet ((go_at_call 95; exact Calls.quiet_of_same ((compare_any _ _ _).mono fun _ _ h => ⟨h.1, h.2.symm⟩)))
          go_wp2
          go_ret
          exact ⟨by rw [← HC.out]; rfl, below_drewN HB2.out _⟩
end Go.Proofs.YtikmhnlhaolbfaaDoor
namespace Go.Proofs.YtikmhnlhaolbfaaDoor
open Go.RowKit
set_option linter.unusedVariables false

/-- the number that digits tell, the lowest first -/
def val : List Nat → Nat
  | [] => 0
  | d :: r => d + 4294967296 * val r
theorem val_set (l : List Nat) (k v : Nat) (hk : k < l.length) : val (l.set k v) + l[k] * 4294967296 ^ k = val l + v * 4294967296 ^ k := by
  induction l generalizing k with
  | nil => simp at hk
  | cons d r ih =>
    match k with
    | 0 => simp [val]; omega
    | k + 1 =>
      have h := ih k (by simpa using hk)
      simp only [List.set_cons_succ, val, List.getElem_cons_succ]
      rw [Nat.pow_succ, ← Nat.mul_assoc, ← Nat.mul_assoc]
      omega
theorem val_digit (l : List Nat) (h : ∀ d ∈ l, d < 4294967296) (k : Nat) (hk : k < l.length) : l[k] = hf (val l) k := by
  induction l generalizing k with
  | nil => simp at hk
  | cons d r ih =>
    have hd := h d (by simp)
    match k with
    | 0 =>
      simp only [List.getElem_cons_zero, val, hf, Nat.pow_zero, Nat.div_one]
      omega
    | k + 1 =>
      simp only [List.getElem_cons_succ]
      rw [ih (fun d hd => h d (by simp [hd])) k (by simpa using hk)]
      simp only [val, hf]
      rw [Nat.pow_succ, Nat.mul_comm (4294967296 ^ k), ← Nat.div_div_eq_div_mul]
      congr 2
      omega
theorem val_zero (n : Nat) : val (List.replicate n 0) = 0 := by
  induction n with
  | zero => rfl
  | succ n ih => rw [List.replicate_succ, val, ih]
theorem mod_step (y j : Nat) : y % 4294967296 ^ (j + 1) = y % 4294967296 ^ j + 4294967296 ^ j * hf y j := by
  unfold hf
  rw [Nat.pow_succ, Nat.mod_mul]
/-- a round within -/
theorem in_step (ps : List Nat) (N p c y i j t : Nat) (hk : i + j < ps.length) (ht : t = c + (p * hf y j + ps[i + j]))
    (h : val ps + c * 4294967296 ^ (i + j) = N + p * (y % 4294967296 ^ j) * 4294967296 ^ i) :
    val (ps.set (i + j) (t % 4294967296)) + t / 4294967296 * 4294967296 ^ (i + (j + 1)) = N + p * (y % 4294967296 ^ (j + 1)) * 4294967296 ^ i := by
  have a := val_set ps (i + j) (t % 4294967296) hk
  have b : t / 4294967296 * 4294967296 ^ (i + (j + 1)) + t % 4294967296 * 4294967296 ^ (i + j) = t * 4294967296 ^ (i + j) := by
    rw [show i + (j + 1) = (i + j) + 1 by omega, Nat.pow_succ, ← Nat.mul_assoc, Nat.mul_right_comm, ← Nat.add_mul]
    congr 1
    omega
  have e : p * (y % 4294967296 ^ (j + 1)) * 4294967296 ^ i = p * (y % 4294967296 ^ j) * 4294967296 ^ i + p * hf y j * 4294967296 ^ (i + j) := by
    rw [mod_step, Nat.mul_add, Nat.add_mul, Nat.pow_add]
    congr 1
    rw [Nat.mul_comm (4294967296 ^ j) (hf y j), ← Nat.mul_assoc, Nat.mul_assoc, Nat.mul_comm (4294967296 ^ j)]
  have g : t * 4294967296 ^ (i + j) = c * 4294967296 ^ (i + j) + p * hf y j * 4294967296 ^ (i + j) + ps[i + j] * 4294967296 ^ (i + j) := by
    rw [ht, Nat.add_mul, Nat.add_mul, Nat.add_assoc]
  rw [e]
  omega
/-- a round without -/
theorem out_step (ps : List Nat) (x y c i : Nat) (hy : y < 2 ^ 256) (hk : i + 8 < ps.length) (hz : ps[i + 8] = 0)
    (h : val ps + c * 4294967296 ^ (i + 8) = x % 4294967296 ^ i * y + hf x i * (y % 4294967296 ^ 8) * 4294967296 ^ i) :
    val (ps.set (i + 8) c) = x % 4294967296 ^ (i + 1) * y := by
  have a := val_set ps (i + 8) c hk
  rw [hz, Nat.zero_mul, Nat.add_zero, h, Nat.mod_eq_of_lt hy] at a
  rw [a, mod_step, Nat.add_mul]
  congr 1
  rw [Nat.mul_comm (4294967296 ^ i) (hf x i), Nat.mul_right_comm]
theorem pq_le {p q : Nat} (hp : p < 4294967296) (hq : q < 4294967296) : p * q ≤ 18446744065119617025 := by
  have := Nat.mul_le_mul (Nat.le_of_lt_succ hp) (Nat.le_of_lt_succ hq)
  omega
theorem hf_low (n k : Nat) (hk : k < 8) : hf (n % 2 ^ 256) k = hf n k := by
  unfold hf
  have e : (2 : Nat) ^ 256 = 4294967296 ^ k * (4294967296 * 4294967296 ^ (7 - k)) := by
    rw [← Nat.pow_succ', ← Nat.pow_add, show k + (7 - k).succ = 8 by omega]
  rw [e, Nat.mod_mul_right_div_self, Nat.mod_mul_right_mod]
theorem hf_high (n k : Nat) : hf (n / 2 ^ 256) k = hf n (k + 8) := by
  unfold hf
  rw [show (2 : Nat) ^ 256 = 4294967296 ^ 8 by decide, Nat.div_div_eq_div_mul, ← Nat.pow_add, Nat.add_comm 8 k]
end Go.Proofs.YtikmhnlhaolbfaaDoor
namespace Go.Proofs.YtikmhnlhaolbfaaDoor
open Go.RowKit
set_option linter.unusedVariables false

/-- what stands while two numbers are multiplied: their boxes, the answers' -/
def LFo (w : World) (x y : Nat) (w' : World) : Prop :=
  Below w.heap.size w w' ∧ Nm w' w.heap.size x ∧ Nm w' (w.heap.size + 1) y ∧ Fr w' (w.heap.size + 1 + 1) (.int .u64 0) (.int .u64 0) (.int .u64 0) (.int .u64 0) ∧ Fr w' (w.heap.size + 1 + 1 + 1) (.int .u64 0) (.int .u64 0) (.int .u64 0) (.int .u64 0)
theorem LFo.init (w : World) (x y : Nat) : LFo w x y ((((w.alloc (.cells (cls x) 24)).alloc (.cells (cls y) 24)).alloc (.cells #[.int .u64 0, .int .u64 0, .int .u64 0, .int .u64 0] 24)).alloc (.cells #[.int .u64 0, .int .u64 0, .int .u64 0, .int .u64 0] 24)) := by
  refine ⟨bal (bal (bal (bal (Below.refl _ _) _) _) _) _, (((Nm.new w x).alloc _).alloc _).alloc _, ?_, ?_, ?_⟩
  · have := ((Nm.new (w.alloc (.cells (cls x) 24)) y).alloc (.cells #[.int .u64 0, .int .u64 0, .int .u64 0, .int .u64 0] 24)).alloc (.cells #[.int .u64 0, .int .u64 0, .int .u64 0, .int .u64 0] 24)
    simpa using this
  · have := (Fr.new ((w.alloc (.cells (cls x) 24)).alloc (.cells (cls y) 24)) (.int .u64 0) (.int .u64 0) (.int .u64 0) (.int .u64 0)).alloc (.cells #[.int .u64 0, .int .u64 0, .int .u64 0, .int .u64 0] 24)
    simpa using this
  · have := Fr.new (((w.alloc (.cells (cls x) 24)).alloc (.cells (cls y) 24)).alloc (.cells #[.int .u64 0, .int .u64 0, .int .u64 0, .int .u64 0] 24)) (.int .u64 0) (.int .u64 0) (.int .u64 0) (.int .u64 0)
    simpa using this
theorem LFo.drew {w w' : World} {x y : Nat} (h : LFo w x y w') : LFo w x y w'.drew := ⟨h.1.drew, h.2.1, h.2.2.1, h.2.2.2.1, h.2.2.2.2⟩
theorem LFo.on {w w' w2 : World} {x y : Nat} (h : LFo w x y w') (hb : Below w'.heap.size w' w2) : LFo w x y w2 := ⟨bthen h.1 hb, h.2.1.on hb, h.2.2.1.on hb, h.2.2.2.1.on hb, h.2.2.2.2.on hb⟩
theorem LFo.alloc {w w' : World} {x y : Nat} (h : LFo w x y w') (o : Obj) : LFo w x y (w'.alloc o) := h.on (bal (Below.refl _ _) o)
theorem LFo.sz {w w' : World} {x y : Nat} (h : LFo w x y w') : w.heap.size + 1 + 1 + 1 < w'.heap.size := h.2.2.2.2.lt
theorem LFo.cell {w w' : World} {x y : Nat} (h : LFo w x y w') : w'.cell? ⟨w.heap.size, 0, none⟩ = some (.int .u64 (wd x 0 : Int)) ∧ w'.cell? ⟨w.heap.size, 1, none⟩ = some (.int .u64 (wd x 1 : Int)) ∧ w'.cell? ⟨w.heap.size, 2, none⟩ = some (.int .u64 (wd x 2 : Int)) ∧ w'.cell? ⟨w.heap.size, 3, none⟩ = some (.int .u64 (wd x 3 : Int)) ∧ w'.cell? ⟨w.heap.size + 1, 0, none⟩ = some (.int .u64 (wd y 0 : Int)) ∧ w'.cell? ⟨w.heap.size + 1, 1, none⟩ = some (.int .u64 (wd y 1 : Int)) ∧ w'.cell? ⟨w.heap.size + 1, 2, none⟩ = some (.int .u64 (wd y 2 : Int)) ∧ w'.cell? ⟨w.heap.size + 1, 3, none⟩ = some (.int .u64 (wd y 3 : Int)) := by
  obtain ⟨a, b, c, d⟩ := h.2.1.cell
  obtain ⟨e, f, g, i⟩ := h.2.2.1.cell
  exact ⟨a, b, c, d, e, f, g, i⟩
theorem LFo.set {w w' : World} {x y : Nat} (h : LFo w x y w') (g i : Nat) (v : Value) (hg : w.heap.size + 1 + 1 + 1 < g) : LFo w x y (w'.setCell ⟨g, i, none⟩ v) :=
  ⟨h.1.setCell (by simp; omega) v, (Below.heap_setCell w' ⟨g, i, none⟩ v w.heap.size (by simp; omega)).trans h.2.1, (Below.heap_setCell w' ⟨g, i, none⟩ v (w.heap.size + 1) (by simp; omega)).trans h.2.2.1, h.2.2.2.1.setOther v (by omega), h.2.2.2.2.setOther v (by omega)⟩

/-- digits as cells -/
def dvs (ps : List Nat) : List Value := ps.map fun (d : Nat) => .int .u32 (d : Int)
/-- block g holds these digits -/
def Pr (w : World) (g : Nat) (ps : List Nat) : Prop := w.heap[g]? = some (.cells (dvs ps).toArray 115 (0, 0))
theorem Pr.lt {w : World} {g : Nat} {ps : List Nat} (h : Pr w g ps) : g < w.heap.size := lt_of_block h
theorem Pr.cell {w : World} {g : Nat} {ps : List Nat} (h : Pr w g ps) (k : Nat) (hk : k < ps.length) : w.cell? ⟨g, k, none⟩ = some (.int .u32 (ps[k] : Int)) := by
  rw [cell_of_row w g k _ 115 (0, 0) h]; simp [dvs, hk]
theorem Pr.frozen {w : World} {g : Nat} {ps : List Nat} (h : Pr w g ps) (i : Nat) : w.frozen? ⟨g, i, none⟩ = false := by
  unfold Pr at h; simp [World.frozen?, h]
theorem Pr.set {w : World} {g : Nat} {ps : List Nat} (h : Pr w g ps) (k v : Nat) : Pr (w.setCell ⟨g, k, none⟩ (.int .u32 (v : Int))) g (ps.set k v) := by
  unfold Pr at h ⊢; simp [World.setCell, Array.getElem?_modify, h, dvs, List.map_set]
/-- the second one's halves stay where they are -/
theorem H8.set {w : World} {g g' x i : Nat} (h : H8 w g x) (hne : g' ≠ g) (v : Value) : H8 (w.setCell ⟨g', i, none⟩ v) g x := by
  obtain ⟨h0, h1, h2, h3, h4, h5, h6, h7⟩ := h
  unfold H8
  refine ⟨?_, ?_, ?_, ?_, ?_, ?_, ?_, ?_⟩ <;> rw [World.cell?_setCell_far _ _ _ _ hne] <;> assumption

theorem H8.lt {w : World} {g x : Nat} (h : H8 w g x) : g < w.heap.size := World.block_lt_of_cell? w ⟨g, 0, none⟩ h.1
theorem H8.alloc {w : World} {g x : Nat} (h : H8 w g x) (o : Obj) : H8 (w.alloc o) g x := by
  have hl := h.lt
  obtain ⟨h0, h1, h2, h3, h4, h5, h6, h7⟩ := h
  unfold H8
  refine ⟨?_, ?_, ?_, ?_, ?_, ?_, ?_, ?_⟩ <;> rw [World.cell?_alloc_lt _ _ _ hl] <;> assumption
theorem idx8_0 (x : Nat) (w : World) : (Instr.index 113 (.agg (hcls x)) (.int .i64 0)).run Tryd.prog w = .ok (.int .u32 (hf x 0 : Int)) w := by kernel_rfl
theorem idx8_1 (x : Nat) (w : World) : (Instr.index 113 (.agg (hcls x)) (.int .i64 1)).run Tryd.prog w = .ok (.int .u32 (hf x 1 : Int)) w := by kernel_rfl
theorem idx8_2 (x : Nat) (w : World) : (Instr.index 113 (.agg (hcls x)) (.int .i64 2)).run Tryd.prog w = .ok (.int .u32 (hf x 2 : Int)) w := by kernel_rfl
theorem idx8_3 (x : Nat) (w : World) : (Instr.index 113 (.agg (hcls x)) (.int .i64 3)).run Tryd.prog w = .ok (.int .u32 (hf x 3 : Int)) w := by kernel_rfl
theorem idx8_4 (x : Nat) (w : World) : (Instr.index 113 (.agg (hcls x)) (.int .i64 4)).run Tryd.prog w = .ok (.int .u32 (hf x 4 : Int)) w := by kernel_rfl
theorem idx8_5 (x : Nat) (w : World) : (Instr.index 113 (.agg (hcls x)) (.int .i64 5)).run Tryd.prog w = .ok (.int .u32 (hf x 5 : Int)) w := by kernel_rfl
theorem idx8_6 (x : Nat) (w : World) : (Instr.index 113 (.agg (hcls x)) (.int .i64 6)).run Tryd.prog w = .ok (.int .u32 (hf x 6 : Int)) w := by kernel_rfl
theorem idx8_7 (x : Nat) (w : World) : (Instr.index 113 (.agg (hcls x)) (.int .i64 7)).run Tryd.prog w = .ok (.int .u32 (hf x 7 : Int)) w := by kernel_rfl
theorem idx8 (x k : Nat) (hk : k < 8) (w : World) : (Instr.index 113 (.agg (hcls x)) (.int .i64 (k : Int))).run Tryd.prog w = .ok (.int .u32 (hf x k : Int)) w := by
  match k, hk with
  | 0, _ => exact idx8_0 x w
  | 1, _ => exact idx8_1 x w
  | 2, _ => exact idx8_2 x w
  | 3, _ => exact idx8_3 x w
  | 4, _ => exact idx8_4 x w
  | 5, _ => exact idx8_5 x w
  | 6, _ => exact idx8_6 x w
  | 7, _ => exact idx8_7 x w
theorem step_copy8 {ops : Array Oper} {o : Oper} {a : Act} {w : World} {K : Act → World → Prop} {Q : Exit → Act → World → Prop} {E : Prop} (hgd : o.guard = none) (d s : Operand)
    (ho : o.op = .call { callee := .builtin .copy, args := #[d, s], argTypes := #[101, 101] }) (g gs off sC : Nat) (hd : a.eval d = .slice (some ⟨g, 0, none⟩) 8 8) (hs : a.eval s = .slice (some ⟨gs, off, none⟩) 8 sC)
    (cs : List Nat) (hlen : cs.length = 8) (cur : List Value) (hcur : cur.length = 8) (hg : w.heap[g]? = some (.cells cur.toArray 113 (0, 0))) (hsrc : ∀ j, (h : j < cs.length) → w.cell? ⟨gs, off + j, none⟩ = some (.int .u32 (cs[j] : Int)))
    (h : K (a.put o.dst (goInt 8)) (w.setRow g (dvs cs).toArray)) :
    if Region.wanted o (yielded ops a.tmps) = true then Oper.wp Tryd.prog o a w K Q else E := by
  have hw : Region.wanted o (yielded ops a.tmps) = true := by simp [Region.wanted, hgd]
  rw [if_pos hw]
  have hl : (dvs cs).length = 8 := by simp [dvs, hlen]
  have hrun := run_copy_row (P := Tryd.prog) w 101 101 o.type 32 g 0 8 8 ⟨gs, off, none⟩ 8 sC cur.toArray 113 (dvs cs) Tryd.underlying101 (by kernel_rfl) hg (by rw [hl]; rfl) (fun j v hv => by
    have hj : j < cs.length := by
      rcases Nat.lt_or_ge j cs.length with h | h
      · exact h
      · rw [List.getElem?_eq_none (by simpa [dvs] using h)] at hv; cases hv
    simp [dvs, hj] at hv
    rw [add_plain, hsrc j hj, hv]) (by simp [hl, hcur]) (by
      intro v hv
      simp only [dvs, List.mem_map] at hv
      obtain ⟨b, _, rfl⟩ := hv
      rfl)
  have e : (cur.toArray.toList.take 0 ++ dvs cs ++ cur.toArray.toList.drop (0 + (dvs cs).length)) = dvs cs := by
    rw [hl, List.drop_eq_nil_of_le (by simp [hcur])]; simp
  rw [e, hl] at hrun
  unfold Oper.wp
  simp [execOp, ho, resolve, invoke, builtin, hd, hs, hrun, Result.andThen]
  exact h
theorem LFo.row {w w' : World} {x y : Nat} (h : LFo w x y w') (g : Nat) (cs : Array Value) (hg : w.heap.size + 1 + 1 + 1 < g) : LFo w x y (w'.setRow g cs) :=
  ⟨below_setRow h.1 (by omega) cs, (setRow_other w' g w.heap.size cs (by omega)).trans h.2.1, (setRow_other w' g (w.heap.size + 1) cs (by omega)).trans h.2.2.1, (setRow_other w' g (w.heap.size + 1 + 1) cs (by omega)).trans h.2.2.2.1, (setRow_other w' g (w.heap.size + 1 + 1 + 1) cs (by omega)).trans h.2.2.2.2⟩
/-- eight digits of a number in a block are its halves -/
theorem H8.of {w : World} {g n : Nat} {cs : List Nat} (hlen : cs.length = 8) (hc : ∀ k, (h : k < cs.length) → cs[k] = hf n k) (hg : w.heap[g]? = some (.cells (dvs cs).toArray 113 (0, 0))) : H8 w g n := by
  have key : ∀ k, k < 8 → w.cell? ⟨g, k, none⟩ = some (.int .u32 (hf n k : Int)) := by
    intro k hk
    rw [cell_of_row w g k _ 113 (0, 0) hg, ← hc k (by omega)]
    simp [dvs, hlen, hk]
  exact ⟨key 0 (by omega), key 1 (by omega), key 2 (by omega), key 3 (by omega), key 4 (by omega), key 5 (by omega), key 6 (by omega), key 7 (by omega)⟩
theorem H8.drew {w : World} {g x : Nat} (h : H8 w g x) : H8 w.drew g x := h
theorem both8 {w : World} {gA lo hi : Nat} (h1 : H8 w gA lo) (h2 : H8 w (gA + 1) hi) : w.cell? ⟨gA, 0, none⟩ = some (.int .u32 (hf lo 0 : Int)) ∧ w.cell? ⟨gA, 1, none⟩ = some (.int .u32 (hf lo 1 : Int)) ∧ w.cell? ⟨gA, 2, none⟩ = some (.int .u32 (hf lo 2 : Int)) ∧ w.cell? ⟨gA, 3, none⟩ = some (.int .u32 (hf lo 3 : Int)) ∧ w.cell? ⟨gA, 4, none⟩ = some (.int .u32 (hf lo 4 : Int)) ∧ w.cell? ⟨gA, 5, none⟩ = some (.int .u32 (hf lo 5 : Int)) ∧ w.cell? ⟨gA, 6, none⟩ = some (.int .u32 (hf lo 6 : Int)) ∧ w.cell? ⟨gA, 7, none⟩ = some (.int .u32 (hf lo 7 : Int)) ∧ w.cell? ⟨gA + 1, 0, none⟩ = some (.int .u32 (hf hi 0 : Int)) ∧ w.cell? ⟨gA + 1, 1, none⟩ = some (.int .u32 (hf hi 1 : Int)) ∧ w.cell? ⟨gA + 1, 2, none⟩ = some (.int .u32 (hf hi 2 : Int)) ∧ w.cell? ⟨gA + 1, 3, none⟩ = some (.int .u32 (hf hi 3 : Int)) ∧ w.cell? ⟨gA + 1, 4, none⟩ = some (.int .u32 (hf hi 4 : Int)) ∧ w.cell? ⟨gA + 1, 5, none⟩ = some (.int .u32 (hf hi 5 : Int)) ∧ w.cell? ⟨gA + 1, 6, none⟩ = some (.int .u32 (hf hi 6 : Int)) ∧ w.cell? ⟨gA + 1, 7, none⟩ = some (.int .u32 (hf hi 7 : Int)) := by
  obtain ⟨a0, a1, a2, a3, a4, a5, a6, a7⟩ := h1
  obtain ⟨b0, b1, b2, b3, b4, b5, b6, b7⟩ := h2
  exact ⟨a0, a1, a2, a3, a4, a5, a6, a7, b0, b1, b2, b3, b4, b5, b6, b7⟩
/-- what the loops carry: the digits so far, the second one's halves, all that stands besides -/
def Lp (w : World) (x y g7 g8 : Nat) (ps : List Nat) (w' : World) : Prop := Pr w' g8 ps ∧ H8 w' g7 y ∧ LFo w x y w' ∧ g8 ≠ g7 ∧ w.heap.size + 1 + 1 + 1 < g8 ∧ ps.length = 16 ∧ ∀ d ∈ ps, d < 4294967296
theorem Lp.init {w w' : World} {x y g7 : Nat} (hy : H8 w' g7 y) (hf : LFo w x y w') : Lp w x y g7 w'.heap.size (List.replicate 16 0) (w'.alloc (.cells #[.int .u32 0, .int .u32 0, .int .u32 0, .int .u32 0, .int .u32 0, .int .u32 0, .int .u32 0, .int .u32 0, .int .u32 0, .int .u32 0, .int .u32 0, .int .u32 0, .int .u32 0, .int .u32 0, .int .u32 0, .int .u32 0] 115)) :=
  ⟨heap_alloc_new _ _, hy.alloc _, hf.alloc _, by have := hy.lt; omega, hf.sz, by simp, by simp⟩
theorem Lp.set {w w' : World} {x y g7 g8 : Nat} {ps : List Nat} (h : Lp w x y g7 g8 ps w') (k v : Nat) (hv : v < 4294967296) : Lp w x y g7 g8 (ps.set k v) (w'.setCell ⟨g8, k, none⟩ (.int .u32 (v : Int))) := by
  obtain ⟨h1, h2, h3, h4, h5, h6, h7⟩ := h
  refine ⟨h1.set k v, h2.set h4 _, h3.set _ _ _ h5, h4, h5, by simpa using h6, fun d hd => ?_⟩
  rcases List.mem_or_eq_of_mem_set hd with h | h
  · exact h7 d h
  · omega

set_option maxRecDepth 100000 in
set_option maxHeartbeats 1600000 in
theorem mul_any (x y : Nat) (w : World) (hx : x < 2 ^ 256) (hy : y < 2 ^ 256) :
    Calls Tryd.prog 53 #[num x, num y] w fun e w' => e = .returned (.tuple #[num (x * y % 2 ^ 256), num (x * y / 2 ^ 256)]) ∧ Below w.heap.size w w' := by
  go_enter Tryd.func53, Tryd.ntmps53
  go_upto_region 1 with fail
  have HT := hid (LFo.init w x y)
  generalize (((w.alloc (.cells (cls x) 24)).alloc (.cells (cls y) 24)).alloc (.cells #[.int .u64 0, .int .u64 0, .int .u64 0, .int .u64 0] 24)).alloc (.cells #[.int .u64 0, .int .u64 0, .int .u64 0, .int .u64 0] 24) = w0 at *
  go_cut [6, 7] (fun s6 s7 wx => ∃ g6 g7 : Nat, s6 = .pointer (some ⟨g6, 0, none⟩) ∧ s7 = .pointer (some ⟨g7, 0, none⟩) ∧ Hid (H8 wx g6 x) ∧ Hid (H8 wx g7 y) ∧ Hid (LFo w x y wx))
  case first =>
    have cs := HT.out.cell
    have hz0 := HT.out.sz
    go_region_held3 (fun w' => w'.cell? ⟨w.heap.size, 0, none⟩ = some (.int .u64 (wd x 0 : Int)) ∧ w'.cell? ⟨w.heap.size, 1, none⟩ = some (.int .u64 (wd x 1 : Int)) ∧ w'.cell? ⟨w.heap.size, 2, none⟩ = some (.int .u64 (wd x 2 : Int)) ∧ w'.cell? ⟨w.heap.size, 3, none⟩ = some (.int .u64 (wd x 3 : Int)) ∧ w'.cell? ⟨w.heap.size + 1, 0, none⟩ = some (.int .u64 (wd y 0 : Int)) ∧ w'.cell? ⟨w.heap.size + 1, 1, none⟩ = some (.int .u64 (wd y 1 : Int)) ∧ w'.cell? ⟨w.heap.size + 1, 2, none⟩ = some (.int .u64 (wd y 2 : Int)) ∧ w'.cell? ⟨w.heap.size + 1, 3, none⟩ = some (.int .u64 (wd y 3 : Int)))
      (first | exact cs | exact LFo.cell (by repeat (first | exact HT.out | refine LFo.alloc ?_ _ | refine LFo.drew ?_)))
      (first | (go_at_call 93; refine (split_ex _ _).mono ?_; rintro e w1 ⟨rfl, rfl⟩))
    all_goals
      go_wp2_with fail
      go_meet
      refine ⟨_, _, rfl, rfl, hid ?_, hid ?_, hid ?_⟩
      · unfold H8; go_simp
      · unfold H8; go_simp
      · repeat (first | exact HT.out | refine LFo.alloc ?_ _ | refine LFo.drew ?_)
  case rest =>
    obtain ⟨g6, g7, rfl, rfl, HX, HY, HW⟩ := hcut
    clear HT
    obtain ⟨x0, x1, x2, x3, x4, x5, x6, x7⟩ := HX.out
    have hg6 := HX.out.lt
    have HL := hid (Lp.init HY.out HW.out)
    go_wp2
    clear x0 x1 x2 x3 x4 x5 x6 x7 HX HY HW hg6
    generalize wc.alloc (.cells #[.int .u32 0, .int .u32 0, .int .u32 0, .int .u32 0, .int .u32 0, .int .u32 0, .int .u32 0, .int .u32 0, .int .u32 0, .int .u32 0, .int .u32 0, .int .u32 0, .int .u32 0, .int .u32 0, .int .u32 0, .int .u32 0] 115) = w8 at *
    generalize wc.heap.size = g8 at *
    have HV := hid (val_zero 16)
    have HLy := hid hy
    have HLx := hid hx
    clear hx hy
    go_loopw [21] (fun i wr => ∃ (k : Nat) (ps : List Nat), k ≤ 8 ∧ i = .int .i64 k ∧ Hid (Lp w x y g7 g8 ps wr) ∧ Hid (∀ m, k + 8 ≤ m → (h : m < ps.length) → ps[m] = 0) ∧ Hid (val ps = x % 4294967296 ^ k * y)) (fun i _ => 8 - (intOf i).toNat)
    case atStart => exact ⟨0, List.replicate 16 0, by omega, rfl, HL, hid (fun m _ h => List.getElem_replicate ..), hid (by rw [HV.out, Nat.pow_zero, Nat.mod_one, Nat.zero_mul])⟩
    case round =>
      obtain ⟨k, ps, hk, rfl, HL, HZ, HV⟩ := hrel
      by_cases hlt : k < 8
      · obtain ⟨y0, y1, y2, y3, y4, y5, y6, y7⟩ := HL.out.2.1
        have hix := idx8 x k hlt
        go_wp2
        clear y0 y1 y2 y3 y4 y5 y6 y7 hix
        have hp := hf_lt x k
        go_loopw [11, 26] (fun c j wi => ∃ (m cy : Nat) (qs : List Nat), m ≤ 8 ∧ j = .int .i64 m ∧ c = .int .u64 cy ∧ cy < 4294967296 ∧ Hid (Lp w x y g7 g8 qs wi) ∧ Hid (∀ m, k + 8 ≤ m → (h : m < qs.length) → qs[m] = 0) ∧ Hid (val qs + cy * 4294967296 ^ (k + m) = x % 4294967296 ^ k * y + hf x k * (y % 4294967296 ^ m) * 4294967296 ^ k)) (fun _ j _ => 8 - (intOf j).toNat)
        case atStart => exact ⟨0, 0, ps, by omega, rfl, rfl, by omega, HL, HZ, hid (by rw [HV.out, Nat.pow_zero, Nat.mod_one, Nat.zero_mul, Nat.mul_zero, Nat.zero_mul])⟩
        case round =>
          obtain ⟨m, cy, qs, hm, rfl, rfl, hc, HL, HZ, HV⟩ := hrel
          by_cases hlt2 : m < 8
          · have hix := idx8 y m hlt2
            have hq := hf_lt y m
            have hlen := HL.out.2.2.2.2.2.1
            have hkm : k + m < qs.length := by omega
            have cd := HL.out.1.cell (k + m) hkm
            have hd := HL.out.2.2.2.2.2.2 _ (List.getElem_mem hkm)
            have cf := HL.out.1.frozen (k + m)
            have hpq := pq_le hp hq
            have hb0 : (0 : Int) ≤ (hf x k : Int) * (hf y m : Int) := Int.mul_nonneg (by omega) (by omega)
            have hb1 : (hf x k : Int) * (hf y m : Int) ≤ 18446744065119617025 := by rw [← Int.natCast_mul]; omega
            generalize hde : qs[k + m] = d at *
            have HD := hid hde
            clear hde
            have HK := hid hkm
            have HP := hid hpq
            clear hlen hpq
            go_wp2
            go_roundw
            case rel =>
              obtain ⟨t, ht⟩ : ∃ t : Nat, t = cy + (hf x k * hf y m + d) := ⟨_, rfl⟩
              have hti : (cy : Int) + ((hf x k : Int) * (hf y m : Int) + (d : Int)) = (t : Int) := by rw [ht]; simp
              have htl : t < 18446744073709551616 := by have := HP.out; omega
              have hk := HK.out
              have hst := in_step qs (x % 4294967296 ^ k * y) (hf x k) cy y k m t hk (by rw [ht, HD.out]) HV.out
              refine ⟨m + 1, t / 4294967296, qs.set (k + m) (t % 4294967296), by omega, by go_num, ?_, by omega, hid ?_, hid ?_, hid hst⟩
              · rw [hti]; simp
              · rw [hti]
                have := HL.out.set (k + m) (t % 4294967296) (by omega)
                simpa using this
              · intro n hn h
                rw [List.getElem_set, if_neg (by omega)]
                exact HZ.out n hn (by simpa using h)
            case measure => simp [intOf]; omega
          · obtain rfl : m = 8 := by omega
            have hlen := HL.out.2.2.2.2.2.1
            have hkm : k + 8 < qs.length := by omega
            have cd := HL.out.1.cell (k + 8) hkm
            have cf := HL.out.1.frozen (k + 8)
            have HK := hid hkm
            generalize qs[k + 8] = d at cd
            clear hlen hkm
            go_wp2
            go_roundw
            case rel =>
              have hk8 := HK.out
              have hz := HZ.out (k + 8) (Nat.le_refl _) hk8
              have hst := out_step qs x y cy k HLy.out hk8 hz HV.out
              refine ⟨k + 1, qs.set (k + 8) cy, by omega, by go_num, hid ?_, hid ?_, hid hst⟩
              · exact HL.out.set (k + 8) cy hc
              · intro n hn h
                rw [List.getElem_set, if_neg (by omega)]
                exact HZ.out n (by omega) (by simpa using h)
            case measure => simp [intOf]; omega
      · obtain rfl : k = 8 := by omega
        go_wp2
        obtain ⟨HA, HB, HF, -, hg8, hlen, hdg⟩ := HL.out
        have HP := hid (p := Pr ((wr.alloc (.cells #[.int .u32 0, .int .u32 0, .int .u32 0, .int .u32 0, .int .u32 0, .int .u32 0, .int .u32 0, .int .u32 0] 113)).alloc (.cells #[.int .u32 0, .int .u32 0, .int .u32 0, .int .u32 0, .int .u32 0, .int .u32 0, .int .u32 0, .int .u32 0] 113)) g8 ps) ((Below.heap_alloc _ _ _ (by have := HA.lt; simp; omega)).trans ((Below.heap_alloc _ _ _ HA.lt).trans HA))
        have HF2 := hid ((HF.alloc (.cells #[.int .u32 0, .int .u32 0, .int .u32 0, .int .u32 0, .int .u32 0, .int .u32 0, .int .u32 0, .int .u32 0] 113)).alloc (.cells #[.int .u32 0, .int .u32 0, .int .u32 0, .int .u32 0, .int .u32 0, .int .u32 0, .int .u32 0, .int .u32 0] 113))
        have HG1 := hid ((Below.heap_alloc (wr.alloc (.cells #[.int .u32 0, .int .u32 0, .int .u32 0, .int .u32 0, .int .u32 0, .int .u32 0, .int .u32 0, .int .u32 0] 113)) (.cells #[.int .u32 0, .int .u32 0, .int .u32 0, .int .u32 0, .int .u32 0, .int .u32 0, .int .u32 0, .int .u32 0] 113) wr.heap.size (by simp)).trans (heap_alloc_new wr (.cells #[.int .u32 0, .int .u32 0, .int .u32 0, .int .u32 0, .int .u32 0, .int .u32 0, .int .u32 0, .int .u32 0] 113)))
        have HG2 : Hid (((wr.alloc (.cells #[.int .u32 0, .int .u32 0, .int .u32 0, .int .u32 0, .int .u32 0, .int .u32 0, .int .u32 0, .int .u32 0] 113)).alloc (.cells #[.int .u32 0, .int .u32 0, .int .u32 0, .int .u32 0, .int .u32 0, .int .u32 0, .int .u32 0, .int .u32 0] 113)).heap[wr.heap.size + 1]? = some (.cells #[.int .u32 0, .int .u32 0, .int .u32 0, .int .u32 0, .int .u32 0, .int .u32 0, .int .u32 0, .int .u32 0] 113)) := hid (by
          have := heap_alloc_new (wr.alloc (.cells #[.int .u32 0, .int .u32 0, .int .u32 0, .int .u32 0, .int .u32 0, .int .u32 0, .int .u32 0, .int .u32 0] 113)) (.cells #[.int .u32 0, .int .u32 0, .int .u32 0, .int .u32 0, .int .u32 0, .int .u32 0, .int .u32 0, .int .u32 0] 113)
          simpa using this)
        have HLt := hid HA.lt
        have HSz := hid HF.sz
        generalize (wr.alloc (.cells #[.int .u32 0, .int .u32 0, .int .u32 0, .int .u32 0, .int .u32 0, .int .u32 0, .int .u32 0, .int .u32 0] 113)).alloc (.cells #[.int .u32 0, .int .u32 0, .int .u32 0, .int .u32 0, .int .u32 0, .int .u32 0, .int .u32 0, .int .u32 0] 113) = wA at *
        generalize wr.heap.size = gA at *
        have HLen := hid hlen
        have HDg := hid hdg
        clear HA HB HF hlen hdg HL HZ
        go_region_law (refine step_copy8 (by rfl) (.tmp 59) (.tmp 60) (by rfl) gA g8 0 16 (by rfl) (by rfl) (ps.take 8) (by have := HLen.out; simp; omega) [.int .u32 0, .int .u32 0, .int .u32 0, .int .u32 0, .int .u32 0, .int .u32 0, .int .u32 0, .int .u32 0] (by rfl) HG1.out (fun j h => by
          have h2 : j < ps.length := by simp at h; omega
          have := HP.out.cell j h2
          rw [Nat.zero_add, List.getElem_take]; exact this) ?_)
        have HP1 := hid (p := Pr (wA.drew.setRow gA (dvs (ps.take 8)).toArray) g8 ps) ((setRow_other wA.drew gA g8 _ (by have := HLt.out; omega)).trans HP.out)
        have HF3 := hid (HF2.out.drew.row gA (dvs (ps.take 8)).toArray HSz.out)
        have HG3 := hid (setRow_heap wA.drew gA _ (dvs (ps.take 8)).toArray 113 (0, 0) HG1.out)
        have HG4 := hid ((setRow_other wA.drew gA (gA + 1) (dvs (ps.take 8)).toArray (by omega)).trans HG2.out)
        clear HP HF2 HG1 HG2
        generalize wA.drew.setRow gA (dvs (ps.take 8)).toArray = wB at *
        go_wp2
        go_region_law (refine step_copy8 (by rfl) (.tmp 62) (.tmp 63) (by rfl) (gA + 1) g8 8 8 (by rfl) (by rfl) (ps.drop 8) (by have := HLen.out; simp; omega) [.int .u32 0, .int .u32 0, .int .u32 0, .int .u32 0, .int .u32 0, .int .u32 0, .int .u32 0, .int .u32 0] (by rfl) HG4.out (fun j h => by
          have h2 : 8 + j < ps.length := by simp at h; omega
          have := HP1.out.cell (8 + j) h2
          rw [List.getElem_drop]; exact this) ?_)
        have HF4 := hid (HF3.out.drew.row (gA + 1) (dvs (ps.drop 8)).toArray (by have := HSz.out; omega))
        have HG5 := hid ((setRow_other wB.drew (gA + 1) gA (dvs (ps.drop 8)).toArray (by omega)).trans HG3.out)
        have HG6 := hid (setRow_heap wB.drew (gA + 1) _ (dvs (ps.drop 8)).toArray 113 (0, 0) HG4.out)
        clear HP1 HF3 HG3 HG4
        generalize wB.drew.setRow (gA + 1) (dvs (ps.drop 8)).toArray = wC at *
        have hv : val ps = x * y := by rw [HV.out]; congr 1; exact Nat.mod_eq_of_lt HLx.out
        have H1 := hid (H8.of (n := x * y % 2 ^ 256) (by have := HLen.out; simp; omega) (fun k h => by
          have hk : k < 8 := by simp at h; omega
          rw [List.getElem_take, val_digit ps HDg.out k (by have := HLen.out; omega), hv, hf_low _ _ hk]) HG5.out)
        have H2 := hid (H8.of (n := x * y / 2 ^ 256) (by have := HLen.out; simp; omega) (fun k h => by
          have hk : k < 8 := by have := HLen.out; simp at h; omega
          rw [List.getElem_drop, val_digit ps HDg.out (8 + k) (by have := HLen.out; omega), hv, hf_high, Nat.add_comm 8 k]) HG6.out)
        clear HG5 HG6 hv HV HDg HLen
        generalize hlo : x * y % 2 ^ 256 = lo at *
        generalize hhi : x * y / 2 ^ 256 = hi at *
        have HLo := hid hlo
        have HHi := hid hhi
        clear hlo hhi
        obtain ⟨a0, a1, a2, a3, a4, a5, a6, a7⟩ := H1.out
        obtain ⟨b0, b1, b2, b3, b4, b5, b6, b7⟩ := H2.out
        obtain ⟨c0, c1, c2, c3⟩ := HF4.out.2.2.2.1.cell
        obtain ⟨d0, d1, d2, d3⟩ := HF4.out.2.2.2.2.cell
        have f4 := HF4.out.2.2.2.1.frozen
        have f5 := HF4.out.2.2.2.2.frozen
        have HR4 := hid HF4.out.2.2.2.1
        have HR5 := hid HF4.out.2.2.2.2
        have l4 := HF4.out.2.2.2.1.lt
        have l5 := HF4.out.2.2.2.2.lt
        have hs := HSz.out
        generalize hr5 : w.heap.size + 1 + 1 + 1 = r5 at *
        generalize hr4 : w.heap.size + 1 + 1 = r4 at *
        have hr45 : (r4 = r5) = False := eq_false (by omega)
        have hr54 : (r5 = r4) = False := eq_false (by omega)
        have hr4g : w.heap.size ≤ r4 := by omega
        have hr5g : w.heap.size ≤ r5 := by omega
        have hs4 : r4 ≠ gA ∧ r4 ≠ gA + 1 := by omega
        have hs5 : r5 ≠ gA ∧ r5 ≠ gA + 1 := by omega
        have HS4 := hid hs4
        have HS5 := hid hs5
        have m1 : r4 < wC.heap.size + 1 := by omega
        have m2 : r4 < wC.heap.size + 1 + 1 := by omega
        have m3 : r4 < wC.heap.size + 1 + 1 + 1 := by omega
        have m4 : r4 < wC.heap.size + 1 + 1 + 1 + 1 := by omega
        have m5 : r4 < wC.heap.size + 1 + 1 + 1 + 1 + 1 := by omega
        have n1 : r5 < wC.heap.size + 1 := by omega
        have n2 : r5 < wC.heap.size + 1 + 1 := by omega
        have n3 : r5 < wC.heap.size + 1 + 1 + 1 := by omega
        have n4 : r5 < wC.heap.size + 1 + 1 + 1 + 1 := by omega
        have n5 : r5 < wC.heap.size + 1 + 1 + 1 + 1 + 1 := by omega
        have HNe := hid (p := r4 ≠ r5) (by omega)
        clear hs hs4 hs5 hr5 hr4
        go_wp2
        go_region_held3 (fun w' => w'.cell? ⟨gA, 0, none⟩ = some (.int .u32 (hf lo 0 : Int)) ∧ w'.cell? ⟨gA, 1, none⟩ = some (.int .u32 (hf lo 1 : Int)) ∧ w'.cell? ⟨gA, 2, none⟩ = some (.int .u32 (hf lo 2 : Int)) ∧ w'.cell? ⟨gA, 3, none⟩ = some (.int .u32 (hf lo 3 : Int)) ∧ w'.cell? ⟨gA, 4, none⟩ = some (.int .u32 (hf lo 4 : Int)) ∧ w'.cell? ⟨gA, 5, none⟩ = some (.int .u32 (hf lo 5 : Int)) ∧ w'.cell? ⟨gA, 6, none⟩ = some (.int .u32 (hf lo 6 : Int)) ∧ w'.cell? ⟨gA, 7, none⟩ = some (.int .u32 (hf lo 7 : Int))
          ∧ w'.cell? ⟨gA + 1, 0, none⟩ = some (.int .u32 (hf hi 0 : Int)) ∧ w'.cell? ⟨gA + 1, 1, none⟩ = some (.int .u32 (hf hi 1 : Int)) ∧ w'.cell? ⟨gA + 1, 2, none⟩ = some (.int .u32 (hf hi 2 : Int)) ∧ w'.cell? ⟨gA + 1, 3, none⟩ = some (.int .u32 (hf hi 3 : Int)) ∧ w'.cell? ⟨gA + 1, 4, none⟩ = some (.int .u32 (hf hi 4 : Int)) ∧ w'.cell? ⟨gA + 1, 5, none⟩ = some (.int .u32 (hf hi 5 : Int)) ∧ w'.cell? ⟨gA + 1, 6, none⟩ = some (.int .u32 (hf hi 6 : Int)) ∧ w'.cell? ⟨gA + 1, 7, none⟩ = some (.int .u32 (hf hi 7 : Int)))
          (exact both8 (by repeat (first | (with_reducible exact H1.out) | (with_reducible refine H8.drew ?_) | (with_reducible refine H8.alloc ?_ _) | ((with_reducible refine H8.set ?_ ?_ _); (rotate_left; first | exact HS4.out.1 | exact HS5.out.1)))) (by repeat (first | (with_reducible exact H2.out) | (with_reducible refine H8.drew ?_) | (with_reducible refine H8.alloc ?_ _) | ((with_reducible refine H8.set ?_ ?_ _); (rotate_left; first | exact HS4.out.2 | exact HS5.out.2)))))
          (first | (go_at_call 94; refine (join_ex _ _).mono ?_; rintro e w1 ⟨rfl, rfl⟩))
        go_wp2
        have K4 := hid (((((((((((((((HR4.out.set0 (.int .u64 (wd lo 0 : Int))).set1 (.int .u64 (wd lo 1 : Int))).set2 (.int .u64 (wd lo 2 : Int))).set3 (.int .u64 (wd lo 3 : Int))).setOther (i := 0) (.int .u64 (wd hi 0 : Int)) HNe.out).setOther (i := 1) (.int .u64 (wd hi 1 : Int)) HNe.out).setOther (i := 2) (.int .u64 (wd hi 2 : Int)) HNe.out).setOther (i := 3) (.int .u64 (wd hi 3 : Int)) HNe.out).alloc (.cells (hcls lo) 113)).alloc (.cells (cls lo) 24)).alloc (.cells (cls lo) 24)).alloc (.cells (hcls hi) 113)).alloc (.cells (cls hi) 24)).alloc (.cells (cls hi) 24)))
        have K5 := hid ((((((((((((((HR5.out.setOther (i := 0) (.int .u64 (wd lo 0 : Int)) (Ne.symm HNe.out)).setOther (i := 1) (.int .u64 (wd lo 1 : Int)) (Ne.symm HNe.out)).setOther (i := 2) (.int .u64 (wd lo 2 : Int)) (Ne.symm HNe.out)).setOther (i := 3) (.int .u64 (wd lo 3 : Int)) (Ne.symm HNe.out)).set0 (.int .u64 (wd hi 0 : Int))).set1 (.int .u64 (wd hi 1 : Int))).set2 (.int .u64 (wd hi 2 : Int))).set3 (.int .u64 (wd hi 3 : Int))).alloc (.cells (hcls lo) 113)).alloc (.cells (cls lo) 24)).alloc (.cells (cls lo) 24)).alloc (.cells (hcls hi) 113)).alloc (.cells (cls hi) 24)).alloc (.cells (cls hi) 24))
        have KB := hid (bal (bal (bal (bal (bal (bal ((((((((HF4.out.1.setCell (p := ⟨r4, 0, none⟩) hr4g (.int .u64 (wd lo 0 : Int))).setCell (p := ⟨r4, 1, none⟩) hr4g (.int .u64 (wd lo 1 : Int))).setCell (p := ⟨r4, 2, none⟩) hr4g (.int .u64 (wd lo 2 : Int))).setCell (p := ⟨r4, 3, none⟩) hr4g (.int .u64 (wd lo 3 : Int))).setCell (p := ⟨r5, 0, none⟩) hr5g (.int .u64 (wd hi 0 : Int))).setCell (p := ⟨r5, 1, none⟩) hr5g (.int .u64 (wd hi 1 : Int))).setCell (p := ⟨r5, 2, none⟩) hr5g (.int .u64 (wd hi 2 : Int))).setCell (p := ⟨r5, 3, none⟩) hr5g (.int .u64 (wd hi 3 : Int))) (.cells (hcls lo) 113)) (.cells (cls lo) 24)) (.cells (cls lo) 24)) (.cells (hcls hi) 113)) (.cells (cls hi) 24)) (.cells (cls hi) 24))
        clear a0 a1 a2 a3 a4 a5 a6 a7 b0 b1 b2 b3 b4 b5 b6 b7 c0 c1 c2 c3 d0 d1 d2 d3 f4 f5 m1 m2 m3 m4 m5 n1 n2 n3 n4 n5
        generalize ((((((((((((((wC.setCell ⟨r4, 0, none⟩ (.int .u64 (wd lo 0 : Int))).setCell ⟨r4, 1, none⟩ (.int .u64 (wd lo 1 : Int))).setCell ⟨r4, 2, none⟩ (.int .u64 (wd lo 2 : Int))).setCell ⟨r4, 3, none⟩ (.int .u64 (wd lo 3 : Int))).setCell ⟨r5, 0, none⟩ (.int .u64 (wd hi 0 : Int))).setCell ⟨r5, 1, none⟩ (.int .u64 (wd hi 1 : Int))).setCell ⟨r5, 2, none⟩ (.int .u64 (wd hi 2 : Int))).setCell ⟨r5, 3, none⟩ (.int .u64 (wd hi 3 : Int))).alloc (.cells (hcls lo) 113)).alloc (.cells (cls lo) 24)).alloc (.cells (cls lo) 24)).alloc (.cells (hcls hi) 113)).alloc (.cells (cls hi) 24)).alloc (.cells (cls hi) 24)) = wz at *
        obtain ⟨k0, k1, k2, k3⟩ := K4.out.cell
        obtain ⟨q0, q1, q2, q3⟩ := K5.out.cell
        refine bodyPost_ret (v := .tuple #[num lo, num hi]) (by simp [results, Tryd.results53, go_sem, k0, k1, k2, k3, q0, q1, q2, q3]) rfl ⟨by rw [HLo.out, HHi.out], ?_⟩
        exact KB.out.drew.drew.drew.drew.drew.drew.drew.drew.drew
end Go.Proofs.YtikmhnlhaolbfaaDoor
namespace Go.Proofs.YtikmhnlhaolbfaaDoor
open Go.RowKit
set_option linter.unusedVariables false

/-- what a law carries: these blocks hold these numbers, and nothing that was there has changed -/
def Env (w : World) (l : List (Nat × Nat)) (w' : World) : Prop := Below w.heap.size w w' ∧ ∀ p ∈ l, Nm w' p.1 p.2
theorem Env.refl (w : World) : Env w [] w := ⟨Below.refl _ _, by simp⟩
theorem Env.on {w w' w2 : World} {l : List (Nat × Nat)} (h : Env w l w') (hb : Below w'.heap.size w' w2) : Env w l w2 := ⟨bthen h.1 hb, fun p hp => (h.2 p hp).on hb⟩
theorem Env.drew {w w' : World} {l : List (Nat × Nat)} (h : Env w l w') : Env w l w'.drew := ⟨h.1.drew, fun p hp => h.2 p hp⟩
theorem Env.new {w w' : World} {l : List (Nat × Nat)} (h : Env w l w') (x : Nat) : Env w ((w'.heap.size, x) :: l) (w'.alloc (.cells (cls x) 24)) := by
  refine ⟨bal h.1 _, fun p hp => ?_⟩
  rcases List.mem_cons.1 hp with rfl | hp
  · exact Nm.new w' x
  · exact (h.2 p hp).alloc _
theorem Env.nm {w w' : World} {l : List (Nat × Nat)} (h : Env w l w') (g x : Nat) (hm : (g, x) ∈ l) : Nm w' g x := h.2 _ hm
theorem Env.cell {w w' : World} {l : List (Nat × Nat)} (h : Env w l w') (g x : Nat) (hm : (g, x) ∈ l) : w'.cell? ⟨g, 0, none⟩ = some (.int .u64 (wd x 0 : Int)) ∧ w'.cell? ⟨g, 1, none⟩ = some (.int .u64 (wd x 1 : Int)) ∧ w'.cell? ⟨g, 2, none⟩ = some (.int .u64 (wd x 2 : Int)) ∧ w'.cell? ⟨g, 3, none⟩ = some (.int .u64 (wd x 3 : Int)) := (h.2 _ hm).cell
theorem Env.lt {w w' : World} {l : List (Nat × Nat)} (h : Env w l w') (g x : Nat) (hm : (g, x) ∈ l) : g < w'.heap.size := (h.2 _ hm).lt

/-- the greatest long number -/
def top : Nat := 2 ^ 256 - 1
theorem top_lt : top < 2 ^ 256 := by decide
theorem Env.new2 {w w' : World} {l : List (Nat × Nat)} (h : Env w l w') (x y : Nat) : Env w ((w'.heap.size + 1, y) :: (w'.heap.size, x) :: l) ((w'.alloc (.cells (cls x) 24)).alloc (.cells (cls y) 24)) := by
  have := (h.new x).new y
  simpa using this

section
variable {w w' : World} {l : List (Nat × Nat)}
theorem lof_at (n : Nat) (z : Int) (h : Env w l w') (hn : n < 18446744073709551616) (hz : (n : Int) = z) : Calls Tryd.prog 54 #[.int .u64 z] w' fun e w2 => e = .returned (num n) ∧ Env w l w2 := by
  subst hz; exact (lof_any n w' hn).mono fun e w2 ⟨he, hb⟩ => ⟨he, h.on hb⟩
theorem lnone_at (h : Env w l w') : Calls Tryd.prog 22 #[] w' fun e w2 => e = .returned (num 0) ∧ Env w l w2 :=
  (none_any w').mono fun e w2 ⟨he, hb⟩ => ⟨he, h.on hb⟩
theorem add_at (x y s : Nat) (k : Int) (h : Env w l w') (hx : x < 2 ^ 256) (hy : y < 2 ^ 256) (hs : (x + y) % 2 ^ 256 = s) (hk : (((x + y) / 2 ^ 256 : Nat) : Int) = k) :
    Calls Tryd.prog 111 #[num x, num y] w' fun e w2 => e = .returned (.tuple #[num s, .int .u64 k]) ∧ Env w l w2 := by
  subst hs; subst hk; exact (ladd_any x y w' hx hy).mono fun e w2 ⟨he, hb⟩ => ⟨he, h.on hb⟩
theorem sub_at (x y s : Nat) (k : Int) (h : Env w l w') (hx : x < 2 ^ 256) (hy : y < 2 ^ 256) (hs : dif x y = s) (hk : ((lent x y : Nat) : Int) = k) :
    Calls Tryd.prog 21 #[num x, num y] w' fun e w2 => e = .returned (.tuple #[num s, .int .u64 k]) ∧ Env w l w2 := by
  subst hs; subst hk; exact (sub_any x y w' hx hy).mono fun e w2 ⟨he, hb⟩ => ⟨he, h.on hb⟩
theorem mul_at (x y lo hi : Nat) (h : Env w l w') (hx : x < 2 ^ 256) (hy : y < 2 ^ 256) (hl : x * y % 2 ^ 256 = lo) (hh : x * y / 2 ^ 256 = hi) :
    Calls Tryd.prog 53 #[num x, num y] w' fun e w2 => e = .returned (.tuple #[num lo, num hi]) ∧ Env w l w2 := by
  subst hl; subst hh; exact (mul_any x y w' hx hy).mono fun e w2 ⟨he, hb⟩ => ⟨he, h.on hb⟩
theorem shift_at (x y : Nat) (n : Int) (h : Env w l w') (hx : x < 2 ^ 256) (h0 : -9223372036854775808 ≤ n) (h1 : n ≤ 9223372036854775807) (hy : shf x n = y) :
    Calls Tryd.prog 57 #[num x, .int .i64 n] w' fun e w2 => e = .returned (num y) ∧ Env w l w2 := by
  subst hy; exact (shift_any x n w' hx h0 h1).mono fun e w2 ⟨he, hb⟩ => ⟨he, h.on hb⟩
theorem bit_at (x : Nat) (n b : Int) (h : Env w l w') (hx : x < 2 ^ 256) (h0 : -9223372036854775808 ≤ n) (h1 : n ≤ 9223372036854775807) (hb : (bi x n : Int) = b) :
    Calls Tryd.prog 101 #[num x, .int .i64 n] w' fun e w2 => e = .returned (.int .u64 b) ∧ Env w l w2 := by
  subst hb; exact (bit_any x n w' hx h0 h1).mono fun e w2 ⟨he, hb⟩ => ⟨he, h.on hb⟩
theorem bits_at (x : Nat) (b : Int) (h : Env w l w') (hx : x < 2 ^ 256) (hb : (nbits x : Int) = b) :
    Calls Tryd.prog 58 #[num x] w' fun e w2 => e = .returned (.int .i64 b) ∧ Env w l w2 := by
  subst hb; exact (bits_any x w' hx).mono fun e w2 ⟨he, hb⟩ => ⟨he, h.on hb⟩
theorem cmp_at (x y : Nat) (c : Int) (h : Env w l w') (hx : x < 2 ^ 256) (hy : y < 2 ^ 256) (hc : cmpN x y = c) :
    Calls Tryd.prog 55 #[num x, num y] w' fun e w2 => e = .returned (.int .i64 c) ∧ Env w l w2 := by
  subst hc; exact (cmp_any x y w' hx hy).mono fun e w2 ⟨he, hb⟩ => ⟨he, h.on hb⟩
end
end Go.Proofs.YtikmhnlhaolbfaaDoor
namespace Go.Proofs.YtikmhnlhaolbfaaDoor
open Go.RowKit
set_option linter.unusedVariables false

/-- x stored into box g -/
abbrev fil (w : World) (g x : Nat) : World := (((w.setCell ⟨g, 0, none⟩ (.int .u64 (wd x 0 : Int))).setCell ⟨g, 1, none⟩ (.int .u64 (wd x 1 : Int))).setCell ⟨g, 2, none⟩ (.int .u64 (wd x 2 : Int))).setCell ⟨g, 3, none⟩ (.int .u64 (wd x 3 : Int))
theorem fil_nm {w : World} {g : Nat} {a b c d : Value} (x : Nat) (h : Fr w g a b c d) : Nm (fil w g x) g x := (((h.set0 _).set1 _).set2 _).set3 _
theorem fil_below {w0 w : World} {g B : Nat} (x : Nat) (hb : Below B w0 w) (hg : B ≤ g) : Below B w0 (fil w g x) := (((hb.setCell (p := ⟨g, 0, none⟩) hg _).setCell (p := ⟨g, 1, none⟩) hg _).setCell (p := ⟨g, 2, none⟩) hg _).setCell (p := ⟨g, 3, none⟩) hg _
theorem Nm.fr {w : World} {g x : Nat} (h : Nm w g x) : Fr w g (.int .u64 (wd x 0 : Int)) (.int .u64 (wd x 1 : Int)) (.int .u64 (wd x 2 : Int)) (.int .u64 (wd x 3 : Int)) := h
theorem fil_other {w : World} {g g' : Nat} (x y : Nat) (h : Nm w g y) (hne : g ≠ g') : Nm (fil w g' x) g y :=
  (((h.fr.setOther _ hne).setOther _ hne).setOther _ hne).setOther _ hne
theorem cls_zero : (#[.int .u64 0, .int .u64 0, .int .u64 0, .int .u64 0] : Array Value) = cls 0 := by have := num_zero; injection this

theorem Env.perm {w w' : World} {l l' : List (Nat × Nat)} (h : Env w l w') (hs : ∀ p ∈ l', p ∈ l) : Env w l' w' := ⟨h.1, fun p hp => h.2 p (hs p hp)⟩
theorem Env.frozen {w w' : World} {l : List (Nat × Nat)} (h : Env w l w') (g x : Nat) (hm : (g, x) ∈ l) (i : Nat) : w'.frozen? ⟨g, i, none⟩ = false := (h.nm g x hm).fr.frozen i
/-- a box is filled anew: the others are as they were -/
theorem Env.set {w w' : World} {l : List (Nat × Nat)} (h : Env w l w') (g x y : Nat) (l' : List (Nat × Nat)) (hm : (g, x) ∈ l) (hg : w.heap.size ≤ g) (hl : ∀ p ∈ l', p ∈ l ∧ p.1 ≠ g) : Env w ((g, y) :: l') (fil w' g y) := by
  refine ⟨fil_below y h.1 hg, fun p hp => ?_⟩
  rcases List.mem_cons.1 hp with rfl | hp
  · exact fil_nm y (h.nm g x hm).fr
  · exact fil_other y p.2 (h.2 p (hl p hp).1) (hl p hp).2
theorem Env.zero {w w' : World} {l : List (Nat × Nat)} (h : Env w l w') : Env w ((w'.heap.size, 0) :: l) (w'.alloc (.cells #[.int .u64 0, .int .u64 0, .int .u64 0, .int .u64 0] 24)) := by
  rw [cls_zero]; exact h.new 0
theorem env_of {w w' : World} {l : List (Nat × Nat)} {f : FuncId} {args : Array Value} {v : Value} (hc : Calls Tryd.prog f args w' fun e w2 => e = .returned v ∧ Below w'.heap.size w' w2) (h : Env w l w') : Calls Tryd.prog f args w' fun e w2 => e = .returned v ∧ Env w l w2 :=
  hc.mono fun e w2 ⟨he, hb⟩ => ⟨he, h.on hb⟩
theorem add_b (x y s : Nat) (k : Int) (w : World) (hx : x < 2 ^ 256) (hy : y < 2 ^ 256) (hs : (x + y) % 2 ^ 256 = s) (hk : (((x + y) / 2 ^ 256 : Nat) : Int) = k) : Calls Tryd.prog 111 #[num x, num y] w fun e w2 => e = .returned (.tuple #[num s, .int .u64 k]) ∧ Below w.heap.size w w2 := by
  subst hs; subst hk; exact ladd_any x y w hx hy
theorem sub_b (x y s : Nat) (k : Int) (w : World) (hx : x < 2 ^ 256) (hy : y < 2 ^ 256) (hs : dif x y = s) (hk : ((lent x y : Nat) : Int) = k) : Calls Tryd.prog 21 #[num x, num y] w fun e w2 => e = .returned (.tuple #[num s, .int .u64 k]) ∧ Below w.heap.size w w2 := by
  subst hs; subst hk; exact sub_any x y w hx hy
end Go.Proofs.YtikmhnlhaolbfaaDoor

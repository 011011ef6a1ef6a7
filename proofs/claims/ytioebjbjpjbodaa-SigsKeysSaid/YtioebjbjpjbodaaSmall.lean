/-
  The small calls of limbs, walked. Conditions: none.
-/
import Derived.Test.YtioebjbjpjbodaaNum
import Derived.Deep.RegionHeld3
import Derived.StillTailTactics
import Derived.RegionTactic
namespace Go.Proofs.Ytioebjbjpjbodaa
open Go.RowKit
set_option linter.unusedVariables false

theorem lof_any (n : Nat) (w : World) (h : n < 18446744073709551616) : Calls Try.prog 13 #[.int .u64 (n : Int)] w fun e w' => e = .returned (num n) ∧ Below w.heap.size w w' := by
  have hn := hid (num_small n h)
  go_enter Try.func13, Try.ntmps13
  go_wp2
  refine bodyPost_ret (v := .agg #[.int .u64 (n : Int), .int .u64 0, .int .u64 0, .int .u64 0]) (by simp [results, Try.results13, go_sem]) rfl ⟨by rw [hn.out], ?_⟩
  repeat (first | exact Below.refl _ _ | refine Below.drew ?_ | refine bal ?_ _)

theorem num_zero : (.agg #[.int .u64 0, .int .u64 0, .int .u64 0, .int .u64 0] : Value) = num 0 := num_small 0 (by decide)
theorem apart_at (n q : Int) (p : Nat) (w : World) (h : n = 64 * q + p) (hp : p < 64) (h0 : -9223372036854775808 ≤ n) (h1 : n ≤ 9223372036854775807) :
    Calls Try.prog 43 #[.int .i64 n] w fun e w' => e = .returned (.tuple #[.int .i64 q, .int .u64 (p : Int)]) ∧ w = w' := by
  have e1 : n / 64 = q := by omega
  have e2 : (IntKind.u64.wrap n).tmod 64 = (p : Int) := by
    rw [IntKind.wrap_u64, Int.tmod_eq_emod_of_nonneg (by omega)]
    omega
  have E1 := hid e1
  have E2 := hid e2
  clear e1 e2 h
  go_enter Try.func43, Try.ntmps43
  go_wp2
  go_ret2
  exact ⟨by rw [E1.out, E2.out]; rfl, rfl⟩

/-- a number's word, 0 where there is none -/
def wi (x : Nat) (i : Int) : Nat := if 0 ≤ i ∧ i < 4 then wd x i.toNat else 0
theorem wi_lt (x : Nat) (i : Int) : wi x i < 18446744073709551616 := by
  unfold wi; split
  · exact wd_lt _ _
  · decide
theorem word_any (x : Nat) (i : Int) (w : World) :
    Calls Try.prog 44 #[num x, .int .i64 i] w fun e w' => e = .returned (.int .u64 (wi x i : Int)) ∧ Below w.heap.size w w' := by
  by_cases h : 0 ≤ i ∧ i < 4
  · have hw := hid (p := wi x i = wd x i.toNat) (by unfold wi; rw [if_pos h])
    obtain ⟨k, rfl⟩ := Int.eq_ofNat_of_zero_le h.1
    obtain ⟨_, h2⟩ := h
    have : k = 0 ∨ k = 1 ∨ k = 2 ∨ k = 3 := by omega
    clear h2
    rcases this with rfl | rfl | rfl | rfl
    all_goals
      go_enter Try.func44, Try.ntmps44
      go_wp2
      go_ret
      exact ⟨by rw [hw.out]; rfl, bal (Below.refl _ _) _⟩
  · have hw := hid (p := wi x i = 0) (by unfold wi; rw [if_neg h])
    by_cases h2 : i < 0
    · go_enter Try.func44, Try.ntmps44
      go_wp2
      go_ret
      exact ⟨by rw [hw.out]; rfl, bal (Below.refl _ _) _⟩
    · have h3 : 4 ≤ i := by omega
      clear h
      go_enter Try.func44, Try.ntmps44
      go_wp2
      go_ret
      exact ⟨by rw [hw.out]; rfl, bal (Below.refl _ _) _⟩

theorem nan_any (n : Nat) (w : World) : Calls Try.prog 23 #[.int .u32 (n : Int)] w fun e w' => e = .returned (.bool false) ∧ w = w' := by
  go_enter Try.func23, Try.ntmps23
  go_wp2
  go_ret
  exact ⟨by simp, rfl⟩
/-- which is the lower one -/
def cmpN (a b : Nat) : Int := if a < b then -1 else if b < a then 1 else 0
theorem compare_any (a b : Nat) (w : World) : Calls Try.prog 16 #[.int .u32 (a : Int), .int .u32 (b : Int)] w fun e w' => e = .returned (.int .i64 (cmpN a b)) ∧ w = w' := by
  rcases Nat.lt_trichotomy a b with h | h | h
  · have hw := hid (p := cmpN a b = -1) (by unfold cmpN; rw [if_pos h])
    go_enter Try.func16, Try.ntmps16
    go_wp2_with (go_at_call 23; refine (nan_any _ _).mono ?_; rintro e w' ⟨rfl, rfl⟩)
    go_ret
    exact ⟨by rw [hw.out]; rfl, rfl⟩
  · have hw := hid (p := cmpN a b = 0) (by unfold cmpN; rw [if_neg (by omega), if_neg (by omega)])
    subst h
    go_enter Try.func16, Try.ntmps16
    go_wp2_with (go_at_call 23; refine (nan_any _ _).mono ?_; rintro e w' ⟨rfl, rfl⟩)
    go_ret
    exact ⟨by rw [hw.out]; rfl, rfl⟩
  · have hw := hid (p := cmpN a b = 1) (by unfold cmpN; rw [if_neg (by omega), if_pos h])
    go_enter Try.func16, Try.ntmps16
    go_wp2_with (go_at_call 23; refine (nan_any _ _).mono ?_; rintro e w' ⟨rfl, rfl⟩)
    go_ret
    exact ⟨by rw [hw.out]; rfl, rfl⟩

/-- the bit at a place, 0 where there is none -/
def bi (x : Nat) (n : Int) : Nat := if n < 0 then 0 else bitAt x n.toNat
theorem bi_word (x p : Nat) (n q : Int) (hx : x < 2 ^ 256) (h : n = 64 * q + p) (hp : p < 64) : wi x q / 2 ^ p % 2 = bi x n := by
  by_cases hq : q < 0
  · rw [wi, if_neg (by omega), bi, if_pos (by omega)]; simp
  · obtain ⟨k, rfl⟩ := Int.eq_ofNat_of_zero_le (by omega : 0 ≤ q)
    have hn : n.toNat = 64 * k + p := by omega
    rw [bi, if_neg (by omega), hn]
    by_cases hk : k < 4
    · rw [wi, if_pos (by omega), Int.toNat_natCast, wd]
      have e1 : bitAt (x / 18446744073709551616 ^ k) p = bitAt (x / 18446744073709551616 ^ k % 18446744073709551616) p := by
        conv => lhs; rw [← Nat.mod_add_div (x / 18446744073709551616 ^ k) 18446744073709551616]
        exact word_bit _ _ p (Nat.mod_lt _ (by decide)) hp
      have e2 : bitAt (x / 18446744073709551616 ^ k) p = bitAt x (64 * k + p) := by
        unfold bitAt
        rw [Nat.div_div_eq_div_mul, Nat.pow_add, Nat.pow_mul]
      rw [← e2, e1]
      rfl
    · rw [wi, if_neg (by omega), bitAt_high x _ 256 hx (by omega)]; simp
theorem bit_any (x : Nat) (n : Int) (w : World) (hx : x < 2 ^ 256) (h0 : -9223372036854775808 ≤ n) (h1 : n ≤ 9223372036854775807) :
    Calls Try.prog 35 #[num x, .int .i64 n] w fun e w' => e = .returned (.int .u64 (bi x n : Int)) ∧ Below w.heap.size w w' := by
  obtain ⟨q, p, h, hp⟩ : ∃ (q : Int) (p : Nat), n = 64 * q + p ∧ p < 64 := ⟨n / 64, (n % 64).toNat, by omega, by omega⟩
  have H := hid h
  have E := hid (bi_word x p n q hx h hp)
  have L := hid (wi_lt x q)
  clear h hx
  go_enter Try.func35, Try.ntmps35
  go_wp2_with fail
  refine (apart_at n q p _ H.out hp h0 h1).mono ?_
  rintro e w' ⟨rfl, rfl⟩
  go_wp2_with fail
  refine (word_any x q _).mono ?_
  rintro e w' ⟨rfl, hb⟩
  go_wp2
  go_ret
  refine ⟨?_, bthen (bal (Below.refl _ _) _) hb⟩
  have e : bits .and .u64 ((wi x q : Int) / 2 ^ p) 1 = (bi x n : Int) := by
    have hl := L.out
    have e1 : ((wi x q : Int) / 2 ^ p) = ((wi x q / 2 ^ p : Nat) : Int) := by simp
    have hd : wi x q / 2 ^ p ≤ wi x q := Nat.div_le_self _ _
    rw [e1, ← E.out]
    have := u64_and_nat (wi x q / 2 ^ p) 1 (by omega) (by decide)
    rw [nat_mask1] at this
    exact this
  rw [← e]
  rfl
end Go.Proofs.Ytioebjbjpjbodaa

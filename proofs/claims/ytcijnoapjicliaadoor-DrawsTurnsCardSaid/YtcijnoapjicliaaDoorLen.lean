/-
  math/bits.Len64 and limbs.Bits, walked. Conditions: none.
-/
import Derived.Test.YtcijnoapjicliaaDoorPkM
import Derived.Shelf.Strconv.Itoa0
namespace Go.Proofs.YtcijnoapjicliaaDoor
open Go.RowKit Go.Shelf
set_option linter.unusedVariables false

def len_ren : Go.Shelf.Ren := ⟨fun | 129 => 93 | n => n, fun | 53 => 24 | 3 => 3 | 4 => 4 | 46 => 77 | 5 => 5 | 9 => 9 | n => n, fun | n => n⟩
theorem len_lays : Go.Proofs.Lays.n129 Tryd.prog len_ren := {
  mixed := by kernel_rfl
  f129 := Tryd.func93.trans (congrArg some (by kernel_rfl))
  t3 := Tryd.underlying3
  a3 := Tryd.isAgg3
  z3 := Tryd.sizeOf3
  v3 := Tryd.zeroValue3
  t4 := Tryd.underlying4
  a4 := Tryd.isAgg4
  z4 := Tryd.sizeOf4
  v4 := Tryd.zeroValue4
  t5 := Tryd.underlying5
  a5 := Tryd.isAgg5
  z5 := Tryd.sizeOf5
  v5 := Tryd.zeroValue5
  t9 := Tryd.underlying9
  a9 := Tryd.isAgg9
  z9 := Tryd.sizeOf9
  v9 := Tryd.zeroValue9
  t46 := Tryd.underlying77
  a46 := Tryd.isAgg77
  z46 := Tryd.sizeOf77
  v46 := Tryd.zeroValue77
  t53 := Tryd.underlying24
  a53 := Tryd.isAgg24
  z53 := Tryd.sizeOf24
  v53 := Tryd.zeroValue24 }
theorem nbits_half (x : Nat) (h : x ≠ 0) : nbits x = 1 + nbits (x / 2) := by
  have hp : 0 < x := by omega
  by_cases h1 : x = 1
  · subst h1; decide
  · have h2 : x / 2 ≠ 0 := by omega
    have a := nbits_lt (x / 2)
    have b := nbits_le (x / 2) (by omega)
    have c := nbits_pos (x / 2) (by omega)
    have e : 1 + nbits (x / 2) = nbits (x / 2) + 1 := by omega
    rw [e]
    refine nbits_of x (nbits (x / 2)) ?_ ?_
    · have : 2 ^ nbits (x / 2) = 2 * 2 ^ (nbits (x / 2) - 1) := by
        conv => lhs; rw [show nbits (x / 2) = (nbits (x / 2) - 1) + 1 by omega, Nat.pow_succ, Nat.mul_comm]
      omega
    · rw [Nat.pow_succ]; omega
theorem bitLen_nbits (x : Nat) (h : x < 18446744073709551616) : Lib.bitLen x = nbits x := by
  induction x using Nat.strongRecOn with
  | ind x ih =>
    by_cases h0 : x = 0
    · subst h0; decide
    · rw [Lib.bitLen_half x h0 h, nbits_half x h0, ih (x / 2) (by omega) (by omega)]
theorem len_any (x : Nat) (w : World) (hx : x < 18446744073709551616) : Calls Tryd.prog 93 #[.int .u64 (x : Int)] w fun e w' => e = .returned (.int .i64 (nbits x : Int)) ∧ w = w' := by
  refine (Any.bits_Len64 len_lays (x : Int) w (by omega) (by omega)).mono fun e w' ⟨he, hw⟩ => ?_
  rw [he, hw, Int.toNat_natCast, bitLen_nbits x hx]
  exact ⟨rfl, rfl⟩

theorem nbits_top (y r : Nat) (k : Nat) (hr : r < 2 ^ k) (hy : 0 < y) : nbits (r + 2 ^ k * y) = k + nbits y := by
  have a := nbits_lt y
  have b := nbits_le y hy
  have c := nbits_pos y hy
  rw [show k + nbits y = (k + (nbits y - 1)) + 1 by omega]
  refine nbits_of _ _ ?_ ?_
  · rw [Nat.pow_add]
    have := Nat.mul_le_mul_left (2 ^ k) b
    omega
  · rw [show k + (nbits y - 1) + 1 = k + nbits y by omega, Nat.pow_add]
    have h1 : y + 1 ≤ 2 ^ nbits y := a
    have := Nat.mul_le_mul_left (2 ^ k) h1
    rw [Nat.mul_add] at this
    omega
theorem bits3 (x : Nat) (hx : x < 2 ^ 256) (h : wd x 3 ≠ 0) : nbits x = 192 + nbits (wd x 3) := by
  have e := v4_wd x hx
  have := nbits_top (wd x 3) (wd x 0 + 18446744073709551616 * (wd x 1 + 18446744073709551616 * wd x 2)) 192 (by
    have h0 := wd_lt x 0
    have h1 := wd_lt x 1
    have h2 := wd_lt x 2
    rw [show (2 : Nat) ^ 192 = 6277101735386680763835789423207666416102355444464034512896 by decide]
    omega) (by omega)
  rw [← this]
  conv => lhs; rw [← e]
  unfold v4
  rw [show (2 : Nat) ^ 192 = 6277101735386680763835789423207666416102355444464034512896 by decide]
  congr 1
  omega
theorem bits2 (x : Nat) (hx : x < 2 ^ 256) (h3 : wd x 3 = 0) (h : wd x 2 ≠ 0) : nbits x = 128 + nbits (wd x 2) := by
  have e := v4_wd x hx
  have := nbits_top (wd x 2) (wd x 0 + 18446744073709551616 * wd x 1) 128 (by
    have h0 := wd_lt x 0
    have h1 := wd_lt x 1
    rw [show (2 : Nat) ^ 128 = 340282366920938463463374607431768211456 by decide]
    omega) (by omega)
  rw [← this]
  conv => lhs; rw [← e]
  unfold v4
  rw [h3, show (2 : Nat) ^ 128 = 340282366920938463463374607431768211456 by decide]
  congr 1
  omega
theorem bits1 (x : Nat) (hx : x < 2 ^ 256) (h3 : wd x 3 = 0) (h2 : wd x 2 = 0) (h : wd x 1 ≠ 0) : nbits x = 64 + nbits (wd x 1) := by
  have e := v4_wd x hx
  have := nbits_top (wd x 1) (wd x 0) 64 (wd_lt x 0) (by omega)
  rw [← this]
  conv => lhs; rw [← e]
  unfold v4
  rw [h3, h2]
  congr 1
theorem bits0 (x : Nat) (hx : x < 2 ^ 256) (h3 : wd x 3 = 0) (h2 : wd x 2 = 0) (h1 : wd x 1 = 0) : x = wd x 0 := by
  have e := v4_wd x hx
  unfold v4 at e
  rw [h3, h2, h1] at e
  omega
theorem nbits_256 (x : Nat) (h : x < 2 ^ 256) : nbits x ≤ 256 := nbits_up x 256 h

set_option maxRecDepth 100000 in
set_option maxHeartbeats 800000 in
theorem bits_at3 (x : Nat) (w : World) (hx : x < 2 ^ 256)  (h : wd x 3 ≠ 0) : Calls Tryd.prog 85 #[num x] w fun e w' => e = .returned (.int .i64 (nbits x : Int)) ∧ Below w.heap.size w w' := by
  have E : Hid (nbits x = 192 + nbits (wd x 3)) := hid (bits3 x hx  h)
  have L := hid (wd_lt x 3)
  have hb := nbits_up _ 64 L.out
  have n3 : ((wd x 3 : Int) != 0) = true := by simpa using h
  clear hx h 
  go_enter Tryd.func85, Tryd.ntmps85
  go_wp2
  refine wp_loop_rounds 5 ?_
  rw [rounds_succ]
  go_wp2_with (go_at_call 93; refine (len_any _ _ L.out).mono ?_; rintro e w' ⟨rfl, rfl⟩)
  go_ret
  exact ⟨by rw [E.out]; simp, bal (Below.refl _ _) _⟩

set_option maxRecDepth 100000 in
set_option maxHeartbeats 800000 in
theorem bits_at2 (x : Nat) (w : World) (hx : x < 2 ^ 256) (h3 : wd x 3 = 0) (h : wd x 2 ≠ 0) : Calls Tryd.prog 85 #[num x] w fun e w' => e = .returned (.int .i64 (nbits x : Int)) ∧ Below w.heap.size w w' := by
  have E : Hid (nbits x = 128 + nbits (wd x 2)) := hid (bits2 x hx h3 h)
  have L := hid (wd_lt x 2)
  have hb := nbits_up _ 64 L.out
  have n2 : ((wd x 2 : Int) != 0) = true := by simpa using h
  have z3 : ((wd x 3 : Int) != 0) = false := by simp [h3]
  clear hx h h3
  go_enter Tryd.func85, Tryd.ntmps85
  go_wp2
  refine wp_loop_rounds 5 ?_
  rw [rounds_succ]
  go_wp2
  rw [rounds_succ]
  go_wp2_with (go_at_call 93; refine (len_any _ _ L.out).mono ?_; rintro e w' ⟨rfl, rfl⟩)
  go_ret
  exact ⟨by rw [E.out]; simp, bal (Below.refl _ _) _⟩

set_option maxRecDepth 100000 in
set_option maxHeartbeats 800000 in
theorem bits_at1 (x : Nat) (w : World) (hx : x < 2 ^ 256) (h3 : wd x 3 = 0) (h2 : wd x 2 = 0) (h : wd x 1 ≠ 0) : Calls Tryd.prog 85 #[num x] w fun e w' => e = .returned (.int .i64 (nbits x : Int)) ∧ Below w.heap.size w w' := by
  have E : Hid (nbits x = 64 + nbits (wd x 1)) := hid (bits1 x hx h3 h2 h)
  have L := hid (wd_lt x 1)
  have hb := nbits_up _ 64 L.out
  have n1 : ((wd x 1 : Int) != 0) = true := by simpa using h
  have z3 : ((wd x 3 : Int) != 0) = false := by simp [h3]
  have z2 : ((wd x 2 : Int) != 0) = false := by simp [h2]
  clear hx h h3 h2
  go_enter Tryd.func85, Tryd.ntmps85
  go_wp2
  refine wp_loop_rounds 5 ?_
  rw [rounds_succ]
  go_wp2
  rw [rounds_succ]
  go_wp2
  rw [rounds_succ]
  go_wp2_with (go_at_call 93; refine (len_any _ _ L.out).mono ?_; rintro e w' ⟨rfl, rfl⟩)
  go_ret
  exact ⟨by rw [E.out]; simp, bal (Below.refl _ _) _⟩

set_option maxRecDepth 100000 in
set_option maxHeartbeats 800000 in
theorem bits_at0 (x : Nat) (w : World) (hx : x < 2 ^ 256) (h3 : wd x 3 = 0) (h2 : wd x 2 = 0) (h1 : wd x 1 = 0) (h : wd x 0 ≠ 0) : Calls Tryd.prog 85 #[num x] w fun e w' => e = .returned (.int .i64 (nbits x : Int)) ∧ Below w.heap.size w w' := by
  have E : Hid (nbits x = 0 + nbits (wd x 0)) := hid (by have e := bits0 x hx h3 h2 h1; rw [← e]; omega)
  have L := hid (wd_lt x 0)
  have hb := nbits_up _ 64 L.out
  have n0 : ((wd x 0 : Int) != 0) = true := by simpa using h
  have z3 : ((wd x 3 : Int) != 0) = false := by simp [h3]
  have z2 : ((wd x 2 : Int) != 0) = false := by simp [h2]
  have z1 : ((wd x 1 : Int) != 0) = false := by simp [h1]
  clear hx h h3 h2 h1
  go_enter Tryd.func85, Tryd.ntmps85
  go_wp2
  refine wp_loop_rounds 5 ?_
  rw [rounds_succ]
  go_wp2
  rw [rounds_succ]
  go_wp2
  rw [rounds_succ]
  go_wp2
  rw [rounds_succ]
  go_wp2_with (go_at_call 93; refine (len_any _ _ L.out).mono ?_; rintro e w' ⟨rfl, rfl⟩)
  go_ret
  exact ⟨by rw [E.out]; simp, bal (Below.refl _ _) _⟩

set_option maxRecDepth 100000 in
set_option maxHeartbeats 800000 in
theorem bits_none (w : World) : Calls Tryd.prog 85 #[num 0] w fun e w' => e = .returned (.int .i64 0) ∧ Below w.heap.size w w' := by
  have z0 : ((wd 0 0 : Int) != 0) = false := by decide
  have z1 : ((wd 0 1 : Int) != 0) = false := by decide
  have z2 : ((wd 0 2 : Int) != 0) = false := by decide
  have z3 : ((wd 0 3 : Int) != 0) = false := by decide
  go_enter Tryd.func85, Tryd.ntmps85
  go_wp2
  refine wp_loop_rounds 5 ?_
  rw [rounds_succ]
  go_wp2
  rw [rounds_succ]
  go_wp2
  rw [rounds_succ]
  go_wp2
  rw [rounds_succ]
  go_wp2
  rw [rounds_succ]
  go_wp2
  go_ret
  exact ⟨rfl, bal (Below.refl _ _) _⟩

theorem bits_any (x : Nat) (w : World) (hx : x < 2 ^ 256) : Calls Tryd.prog 85 #[num x] w fun e w' => e = .returned (.int .i64 (nbits x : Int)) ∧ Below w.heap.size w w' := by
  by_cases h3 : wd x 3 = 0
  · by_cases h2 : wd x 2 = 0
    · by_cases h1 : wd x 1 = 0
      · by_cases h0 : wd x 0 = 0
        · have e := bits0 x hx h3 h2 h1
          rw [h0] at e
          subst e
          exact bits_none w
        · exact bits_at0 x w hx h3 h2 h1 h0
      · exact bits_at1 x w hx h3 h2 h1
    · exact bits_at2 x w hx h3 h2
  · exact bits_at3 x w hx h3
end Go.Proofs.YtcijnoapjicliaaDoor

/-
  burrowref09.times, turn, walked. Conditions: none.
-/
import Derived.Test.YtbccnkjfjlmflaaGreatDoorCih
import Derived.BigQuiet
import Derived.Deep.DeepCutAuto
namespace Go.Proofs.YtbccnkjfjlmflaaGreatDoor
open Go.RowKit
set_option linter.unusedVariables false
set_option linter.unusedSimpArgs false

theorem xt_top (a : UInt8) : xt a = if a &&& 128 = 0 then a <<< 1 else (a <<< 1) ^^^ 27 := by
  unfold xt
  split
  · rw [UInt8.xor_zero]
  · rfl
theorem shl_eq (a : UInt8) : iv a * (2 : Int) % (256 : Int) = iv (a <<< 1) := all_u8 (p := fun a => iv a * (2 : Int) % (256 : Int) = iv (a <<< 1)) (by decide +kernel) a
theorem top_eq (a : UInt8) : bits .and .u8 (iv a) (128 : Int) = iv (a &&& 128) := all_u8 (p := fun a => bits .and .u8 (iv a) (128 : Int) = iv (a &&& 128)) (by decide +kernel) a
theorem one_eq (b : UInt8) (i : Nat) (hi : i < 8) : bits .and .u8 (iv b / (2 : Int) ^ i) (1 : Int) = ((b.toNat / 2 ^ i % 2 : Nat) : Int) := by
  have H : ∀ i, i < 8 → ∀ k, k < 256 → bits .and .u8 (iv (UInt8.ofNat k) / (2 : Int) ^ i) (1 : Int) = (((UInt8.ofNat k).toNat / 2 ^ i % 2 : Nat) : Int) := by decide +kernel
  exact all_u8 (p := fun b => bits .and .u8 (iv b / (2 : Int) ^ i) (1 : Int) = ((b.toNat / 2 ^ i % 2 : Nat) : Int)) (H i hi) b
set_option maxRecDepth 100000 in
set_option maxHeartbeats 4000000 in
theorem times_any (a b : UInt8) (w : World) : Calls Tryz.prog 77 #[bv a, bv b] w fun e w' => e = .returned (bv (tm a b)) ∧ w = w' := by
  go_enter Tryz.func77, Tryz.ntmps77
  go_wp2_with fail
  go_loopw [0, 5, 6] (fun x o i wr => ∃ n : Nat, n ≤ 8 ∧ i = .int .i64 n ∧ x = bv (xts a n) ∧ o = bv (tmn a b n) ∧ wr = w) (fun _ _ i _ => 8 - (intOf i).toNat)
  case atStart => exact ⟨0, by decide, rfl, rfl, rfl, rfl⟩
  case round =>
    obtain ⟨n, hn, rfl, rfl, rfl, rfl⟩ := hrel
    by_cases hlt : n < 8
    · by_cases hb : b.toNat / 2 ^ n % 2 = 1
      · by_cases ht : xts a n &&& 128 = 0
        · skip
          have h1 : bits .and .u8 (iv b / (2 : Int) ^ n) (1 : Int) = 1 := by rw [one_eq b n hlt]; rw [hb]; rfl
          have h2 := top_eq (xts a n)
          have h3 := shl_eq (xts a n)
          have h4 := xor_u8 (xts a n <<< 1) 27
          have h4 : bits .xor .u8 (iv (xts a n <<< 1)) (27 : Int) = iv (xts a n <<< 1 ^^^ 27) := h4
          have h5 := xor_u8 (tmn a b n) (xts a n)
          rw [ht] at h2
          have h2 : bits .and .u8 (iv (xts a n)) (128 : Int) = 0 := h2
          have HX := hid (p := xts a (n + 1) = xts a n <<< 1) (by rw [xts, xt_top, if_pos ht])
          have HO := hid (p := tmn a b (n + 1) = tmn a b n ^^^ xts a n) (by rw [tmn, if_pos hb])
          go_wp2
          go_roundw
          case rel => exact ⟨n + 1, by omega, by go_num, by first | (rw [HX.out]; done) | (rw [HX.out]; exact congrArg (Value.int .u8) h3), by rw [HO.out], trivial⟩
          case measure => simp [intOf]; omega
        · skip
          have h1 : bits .and .u8 (iv b / (2 : Int) ^ n) (1 : Int) = 1 := by rw [one_eq b n hlt]; rw [hb]; rfl
          have h2 := top_eq (xts a n)
          have h3 := shl_eq (xts a n)
          have h4 := xor_u8 (xts a n <<< 1) 27
          have h4 : bits .xor .u8 (iv (xts a n <<< 1)) (27 : Int) = iv (xts a n <<< 1 ^^^ 27) := h4
          have h5 := xor_u8 (tmn a b n) (xts a n)
          have h6 := iv_zero _ ht
          skip
          have HX := hid (p := xts a (n + 1) = xts a n <<< 1 ^^^ 27) (by rw [xts, xt_top, if_neg ht])
          have HO := hid (p := tmn a b (n + 1) = tmn a b n ^^^ xts a n) (by rw [tmn, if_pos hb])
          go_wp2
          go_roundw
          case rel => exact ⟨n + 1, by omega, by go_num, by first | (rw [HX.out]; done) | (rw [HX.out]; exact congrArg (Value.int .u8) h3), by rw [HO.out], trivial⟩
          case measure => simp [intOf]; omega
      · by_cases ht : xts a n &&& 128 = 0
        · skip
          have h1 : bits .and .u8 (iv b / (2 : Int) ^ n) (1 : Int) = 0 := by rw [one_eq b n hlt]; have := Nat.mod_lt (b.toNat / 2 ^ n) (show 0 < 2 by decide); omega
          have h2 := top_eq (xts a n)
          have h3 := shl_eq (xts a n)
          have h4 := xor_u8 (xts a n <<< 1) 27
          have h4 : bits .xor .u8 (iv (xts a n <<< 1)) (27 : Int) = iv (xts a n <<< 1 ^^^ 27) := h4
          have h5 := xor_u8 (tmn a b n) (xts a n)
          rw [ht] at h2
          have h2 : bits .and .u8 (iv (xts a n)) (128 : Int) = 0 := h2
          have HX := hid (p := xts a (n + 1) = xts a n <<< 1) (by rw [xts, xt_top, if_pos ht])
          have HO := hid (p := tmn a b (n + 1) = tmn a b n) (by rw [tmn, if_neg hb])
          go_wp2
          go_roundw
          case rel => exact ⟨n + 1, by omega, by go_num, by first | (rw [HX.out]; done) | (rw [HX.out]; exact congrArg (Value.int .u8) h3), by rw [HO.out], trivial⟩
          case measure => simp [intOf]; omega
        · skip
          have h1 : bits .and .u8 (iv b / (2 : Int) ^ n) (1 : Int) = 0 := by rw [one_eq b n hlt]; have := Nat.mod_lt (b.toNat / 2 ^ n) (show 0 < 2 by decide); omega
          have h2 := top_eq (xts a n)
          have h3 := shl_eq (xts a n)
          have h4 := xor_u8 (xts a n <<< 1) 27
          have h4 : bits .xor .u8 (iv (xts a n <<< 1)) (27 : Int) = iv (xts a n <<< 1 ^^^ 27) := h4
          have h5 := xor_u8 (tmn a b n) (xts a n)
          have h6 := iv_zero _ ht
          skip
          have HX := hid (p := xts a (n + 1) = xts a n <<< 1 ^^^ 27) (by rw [xts, xt_top, if_neg ht])
          have HO := hid (p := tmn a b (n + 1) = tmn a b n) (by rw [tmn, if_neg hb])
          go_wp2
          go_roundw
          case rel => exact ⟨n + 1, by omega, by go_num, by first | (rw [HX.out]; done) | (rw [HX.out]; exact congrArg (Value.int .u8) h3), by rw [HO.out], trivial⟩
          case measure => simp [intOf]; omega
    · obtain rfl : n = 8 := by omega
      go_wp2
      go_ret
      exact ⟨rfl, rfl⟩
set_option maxRecDepth 100000 in
set_option maxHeartbeats 4000000 in
theorem turn_1 (y : UInt8) (w : World) : Calls Tryz.prog 113 #[bv y, .int .i64 1] w fun e w' => e = .returned (bv (tl y 1)) ∧ ∃ k, w' = w.drewN k := by
  have h : bits .or .u8 (iv y * 2 % 256) (iv y / 128) = iv (tl y 1) := rot8_eq y 1 (by decide)
  go_enter Tryz.func113, Tryz.ntmps113
  go_wp2
  go_quiet (fail)
  go_wp2
  go_ret
  exact ⟨rfl, nq, rfl⟩
set_option maxRecDepth 100000 in
set_option maxHeartbeats 4000000 in
theorem turn_2 (y : UInt8) (w : World) : Calls Tryz.prog 113 #[bv y, .int .i64 2] w fun e w' => e = .returned (bv (tl y 2)) ∧ ∃ k, w' = w.drewN k := by
  have h : bits .or .u8 (iv y * 4 % 256) (iv y / 64) = iv (tl y 2) := rot8_eq y 2 (by decide)
  go_enter Tryz.func113, Tryz.ntmps113
  go_wp2
  go_quiet (fail)
  go_wp2
  go_ret
  exact ⟨rfl, nq, rfl⟩
set_option maxRecDepth 100000 in
set_option maxHeartbeats 4000000 in
theorem turn_3 (y : UInt8) (w : World) : Calls Tryz.prog 113 #[bv y, .int .i64 3] w fun e w' => e = .returned (bv (tl y 3)) ∧ ∃ k, w' = w.drewN k := by
  have h : bits .or .u8 (iv y * 8 % 256) (iv y / 32) = iv (tl y 3) := rot8_eq y 3 (by decide)
  go_enter Tryz.func113, Tryz.ntmps113
  go_wp2
  go_quiet (fail)
  go_wp2
  go_ret
  exact ⟨rfl, nq, rfl⟩
set_option maxRecDepth 100000 in
set_option maxHeartbeats 4000000 in
theorem turn_4 (y : UInt8) (w : World) : Calls Tryz.prog 113 #[bv y, .int .i64 4] w fun e w' => e = .returned (bv (tl y 4)) ∧ ∃ k, w' = w.drewN k := by
  have h : bits .or .u8 (iv y * 16 % 256) (iv y / 16) = iv (tl y 4) := rot8_eq y 4 (by decide)
  go_enter Tryz.func113, Tryz.ntmps113
  go_wp2
  go_quiet (fail)
  go_wp2
  go_ret
  exact ⟨rfl, nq, rfl⟩
end Go.Proofs.YtbccnkjfjlmflaaGreatDoor

/-
  ciphers.twice, mix, smeared, ahead, walked. Conditions: none.
-/
import Derived.Test.YtbccnkjfjlmflaaGreatDoorBx
import Derived.Test.YtbccnkjfjlmflaaGreatDoorAet
import Derived.Deep.Cut
namespace Go.Proofs.YtbccnkjfjlmflaaGreatDoor
open Go.RowKit
set_option linter.unusedVariables false
set_option linter.unusedSimpArgs false

theorem twice_eq (x : UInt8) : bits .xor .u8 (iv x * 2 % 256) (iv x / 128 * 27 % 256) = iv (xt x) :=
  all_u8 (p := fun x => bits .xor .u8 (iv x * 2 % 256) (iv x / 128 * 27 % 256) = iv (xt x)) (by decide +kernel) x
theorem twice_any (x : UInt8) (w : World) : Calls Tryz.prog 68 #[bv x] w fun e w' => e = .returned (bv (xt x)) ∧ w = w' := by
  have h := twice_eq x
  go_enter Tryz.func68, Tryz.ntmps68
  go_wp2
  go_ret
  exact ⟨rfl, rfl⟩
/-- mix: 2a + 3b + c + d -/
def mx (a b c d : UInt8) : UInt8 := xt (a ^^^ b) ^^^ b ^^^ c ^^^ d
theorem tm_two (x : UInt8) : tm x 2 = xt x := all_u8 (p := fun x => tm x 2 = xt x) (by decide +kernel) x
theorem tm_three (x : UInt8) : tm x 3 = xt x ^^^ x := all_u8 (p := fun x => tm x 3 = xt x ^^^ x) (by decide +kernel) x
theorem mx_eq (a b c d : UInt8) : mx a b c d = tm a 2 ^^^ tm b 3 ^^^ c ^^^ d := by
  rw [mx, tm_two, tm_three, xt_xor, ← UInt8.xor_assoc (xt a)]
theorem mix_any (a b c d : UInt8) (w : World) : Calls Tryz.prog 112 #[bv a, bv b, bv c, bv d] w fun e w' => e = .returned (bv (mx a b c d)) ∧ w = w' := by
  have h1 := xor_u8 a b
  have h2 := xor_u8 (xt (a ^^^ b)) b
  have h3 := xor_u8 (xt (a ^^^ b) ^^^ b) c
  have h4 := xor_u8 (xt (a ^^^ b) ^^^ b ^^^ c) d
  go_enter Tryz.func112, Tryz.ntmps112
  go_wp2_with fail
  refine (twice_any (a ^^^ b) w).mono ?_
  rintro e w1 ⟨rfl, rfl⟩
  go_wp2
  go_ret
  exact ⟨rfl, rfl⟩
theorem rot8_eq (x : UInt8) (n : Nat) (h : n < 8) : bits .or .u8 (iv x * ((2 ^ n : Nat) : Int) % 256) (iv x / ((2 ^ (8 - n) : Nat) : Int)) = iv (tl x n) := by
  have H : ∀ n, n < 8 → ∀ i, i < 256 → bits .or .u8 (iv (UInt8.ofNat i) * ((2 ^ n : Nat) : Int) % 256) (iv (UInt8.ofNat i) / ((2 ^ (8 - n) : Nat) : Int)) = iv (tl (UInt8.ofNat i) n) := by decide +kernel
  exact all_u8 (p := fun x => bits .or .u8 (iv x * ((2 ^ n : Nat) : Int) % 256) (iv x / ((2 ^ (8 - n) : Nat) : Int)) = iv (tl x n)) (H n h) x
theorem rotl8_1 (x : UInt8) (w : World) : Calls Tryz.prog 110 #[bv x, .int .i64 1] w fun e w' => e = .returned (bv (tl x 1)) ∧ w = w' := by
  have h : bits .or .u8 (iv x * 2 % 256) (iv x / 128) = iv (tl x 1) := rot8_eq x 1 (by decide)
  have hb : bits BinOp.and IntKind.u64 1 7 = 1 := by decide +kernel
  go_enter Tryz.func110, Tryz.ntmps110
  go_wp2
  go_ret
  exact ⟨rfl, rfl⟩
theorem rotl8_2 (x : UInt8) (w : World) : Calls Tryz.prog 110 #[bv x, .int .i64 2] w fun e w' => e = .returned (bv (tl x 2)) ∧ w = w' := by
  have h : bits .or .u8 (iv x * 4 % 256) (iv x / 64) = iv (tl x 2) := rot8_eq x 2 (by decide)
  have hb : bits BinOp.and IntKind.u64 2 7 = 2 := by decide +kernel
  go_enter Tryz.func110, Tryz.ntmps110
  go_wp2
  go_ret
  exact ⟨rfl, rfl⟩
theorem rotl8_3 (x : UInt8) (w : World) : Calls Tryz.prog 110 #[bv x, .int .i64 3] w fun e w' => e = .returned (bv (tl x 3)) ∧ w = w' := by
  have h : bits .or .u8 (iv x * 8 % 256) (iv x / 32) = iv (tl x 3) := rot8_eq x 3 (by decide)
  have hb : bits BinOp.and IntKind.u64 3 7 = 3 := by decide +kernel
  go_enter Tryz.func110, Tryz.ntmps110
  go_wp2
  go_ret
  exact ⟨rfl, rfl⟩
theorem rotl8_4 (x : UInt8) (w : World) : Calls Tryz.prog 110 #[bv x, .int .i64 4] w fun e w' => e = .returned (bv (tl x 4)) ∧ w = w' := by
  have h : bits .or .u8 (iv x * 16 % 256) (iv x / 16) = iv (tl x 4) := rot8_eq x 4 (by decide)
  have hb : bits BinOp.and IntKind.u64 4 7 = 4 := by decide +kernel
  go_enter Tryz.func110, Tryz.ntmps110
  go_wp2
  go_ret
  exact ⟨rfl, rfl⟩
theorem rotl8_any (x : UInt8) (n : Nat) (h1 : 1 ≤ n) (h4 : n ≤ 4) (w : World) : Calls Tryz.prog 110 #[bv x, .int .i64 (n : Int)] w fun e w' => e = .returned (bv (tl x n)) ∧ w = w' := by
  match n, h1, h4 with
  | 1, _, _ => exact rotl8_1 x w
  | 2, _, _ => exact rotl8_2 x w
  | 3, _, _ => exact rotl8_3 x w
  | 4, _, _ => exact rotl8_4 x w
/-- the first n turns taken against y and 99 -/
def sma (y : UInt8) : Nat → UInt8
  | 0 => y ^^^ 99
  | n + 1 => sma y n ^^^ tl y (n + 1)
/-- S of the byte with which y makes 1 -/
def sm (y : UInt8) : UInt8 := sma y 4
set_option maxHeartbeats 1000000 in
theorem smeared_any (y : UInt8) (w : World) : Calls Tryz.prog 69 #[bv y] w fun e w' => e = .returned (bv (sm y)) ∧ w = w' := by
  have h0 : bits .xor .u8 (iv y) 99 = iv (sma y 0) := xor_u8 y 99
  go_enter Tryz.func69, Tryz.ntmps69
  go_wp2_with fail
  go_loopw [3, 4] (fun a i wr => ∃ n : Nat, 1 ≤ n ∧ n ≤ 5 ∧ i = .int .i64 n ∧ a = bv (sma y (n - 1)) ∧ wr = w) (fun _ i _ => 5 - (intOf i).toNat)
  case atStart => exact ⟨1, by decide, by decide, rfl, rfl, rfl⟩
  case round =>
    obtain ⟨n, hn1, hn5, rfl, rfl, rfl⟩ := hrel
    by_cases hlt : n ≤ 4
    · have hx := xor_u8 (sma y (n - 1)) (tl y n)
      have HN := hid (show sma y (n - 1) ^^^ tl y n = sma y n by obtain ⟨m, rfl⟩ : ∃ m, n = m + 1 := ⟨n - 1, by omega⟩; rfl)
      go_wp2_with fail
      refine (rotl8_any y n hn1 hlt wr).mono ?_
      rintro e w1 ⟨rfl, rfl⟩
      go_wp2
      go_roundw
      case rel => exact ⟨n + 1, by omega, by omega, by go_num, by rw [HN.out]; rfl, trivial⟩
      case measure => simp [intOf]; omega
    · obtain rfl : n = 5 := by omega
      go_wp2
      go_ret
      exact ⟨rfl, rfl⟩
theorem ahead_any (i : Nat) (h : i < 16) (w : World) : Calls Tryz.prog 111 #[.int .i64 (i : Int)] w fun e w' => e = .returned (.int .i64 (((i + 4 * (i % 4)) % 16 : Nat) : Int)) ∧ w = w' := by
  have HH := hid (p := ((i : Int) + (i : Int) % 4 * 4) % 16 = (((i + 4 * (i % 4)) % 16 : Nat) : Int)) (by omega)
  go_enter Tryz.func111, Tryz.ntmps111
  go_wp2
  go_ret
  exact ⟨congrArg (fun z => Ending.returned (.int .i64 z)) HH.out, rfl⟩
end Go.Proofs.YtbccnkjfjlmflaaGreatDoor

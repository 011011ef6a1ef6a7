/-
  burrowlaw05.text, walked: a sum as digits of 16. Conditions: none.
-/
import Derived.Test.YtbloejlebikecaaGreatDoorTell
import Derived.BigQuiet
namespace Go.Proofs.YtbloejlebikecaaGreatDoor
open Go.RowKit
set_option linter.unusedVariables false
set_option linter.unusedSimpArgs false

/-- a digit of 16 -/
def dig (n : Nat) : ByteArray := ⟨#[([48, 49, 50, 51, 52, 53, 54, 55, 56, 57, 97, 98, 99, 100, 101, 102] : List UInt8).getD n 0]⟩
/-- bytes as digits of 16, the first n of them -/
def hexs (b : List UInt8) : Nat → ByteArray
  | 0 => ⟨#[]⟩
  | n + 1 => (hexs b n ++ dig ((b.getD n 0).toNat / 16)) ++ dig ((b.getD n 0).toNat % 16)
theorem dig_0 (w : World) : (Instr.sliceAt 9 (.string { data := #[48, 49, 50, 51, 52, 53, 54, 55, 56, 57, 97, 98, 99, 100, 101, 102] }) (some (.int .u8 0)) (some (.int .u8 1)) none).run Tryz.prog w = .ok (.string (dig 0)) w := by kernel_rfl
theorem dig_1 (w : World) : (Instr.sliceAt 9 (.string { data := #[48, 49, 50, 51, 52, 53, 54, 55, 56, 57, 97, 98, 99, 100, 101, 102] }) (some (.int .u8 1)) (some (.int .u8 2)) none).run Tryz.prog w = .ok (.string (dig 1)) w := by kernel_rfl
theorem dig_2 (w : World) : (Instr.sliceAt 9 (.string { data := #[48, 49, 50, 51, 52, 53, 54, 55, 56, 57, 97, 98, 99, 100, 101, 102] }) (some (.int .u8 2)) (some (.int .u8 3)) none).run Tryz.prog w = .ok (.string (dig 2)) w := by kernel_rfl
theorem dig_3 (w : World) : (Instr.sliceAt 9 (.string { data := #[48, 49, 50, 51, 52, 53, 54, 55, 56, 57, 97, 98, 99, 100, 101, 102] }) (some (.int .u8 3)) (some (.int .u8 4)) none).run Tryz.prog w = .ok (.string (dig 3)) w := by kernel_rfl
theorem dig_4 (w : World) : (Instr.sliceAt 9 (.string { data := #[48, 49, 50, 51, 52, 53, 54, 55, 56, 57, 97, 98, 99, 100, 101, 102] }) (some (.int .u8 4)) (some (.int .u8 5)) none).run Tryz.prog w = .ok (.string (dig 4)) w := by kernel_rfl
theorem dig_5 (w : World) : (Instr.sliceAt 9 (.string { data := #[48, 49, 50, 51, 52, 53, 54, 55, 56, 57, 97, 98, 99, 100, 101, 102] }) (some (.int .u8 5)) (some (.int .u8 6)) none).run Tryz.prog w = .ok (.string (dig 5)) w := by kernel_rfl
theorem dig_6 (w : World) : (Instr.sliceAt 9 (.string { data := #[48, 49, 50, 51, 52, 53, 54, 55, 56, 57, 97, 98, 99, 100, 101, 102] }) (some (.int .u8 6)) (some (.int .u8 7)) none).run Tryz.prog w = .ok (.string (dig 6)) w := by kernel_rfl
theorem dig_7 (w : World) : (Instr.sliceAt 9 (.string { data := #[48, 49, 50, 51, 52, 53, 54, 55, 56, 57, 97, 98, 99, 100, 101, 102] }) (some (.int .u8 7)) (some (.int .u8 8)) none).run Tryz.prog w = .ok (.string (dig 7)) w := by kernel_rfl
theorem dig_8 (w : World) : (Instr.sliceAt 9 (.string { data := #[48, 49, 50, 51, 52, 53, 54, 55, 56, 57, 97, 98, 99, 100, 101, 102] }) (some (.int .u8 8)) (some (.int .u8 9)) none).run Tryz.prog w = .ok (.string (dig 8)) w := by kernel_rfl
theorem dig_9 (w : World) : (Instr.sliceAt 9 (.string { data := #[48, 49, 50, 51, 52, 53, 54, 55, 56, 57, 97, 98, 99, 100, 101, 102] }) (some (.int .u8 9)) (some (.int .u8 10)) none).run Tryz.prog w = .ok (.string (dig 9)) w := by kernel_rfl
theorem dig_10 (w : World) : (Instr.sliceAt 9 (.string { data := #[48, 49, 50, 51, 52, 53, 54, 55, 56, 57, 97, 98, 99, 100, 101, 102] }) (some (.int .u8 10)) (some (.int .u8 11)) none).run Tryz.prog w = .ok (.string (dig 10)) w := by kernel_rfl
theorem dig_11 (w : World) : (Instr.sliceAt 9 (.string { data := #[48, 49, 50, 51, 52, 53, 54, 55, 56, 57, 97, 98, 99, 100, 101, 102] }) (some (.int .u8 11)) (some (.int .u8 12)) none).run Tryz.prog w = .ok (.string (dig 11)) w := by kernel_rfl
theorem dig_12 (w : World) : (Instr.sliceAt 9 (.string { data := #[48, 49, 50, 51, 52, 53, 54, 55, 56, 57, 97, 98, 99, 100, 101, 102] }) (some (.int .u8 12)) (some (.int .u8 13)) none).run Tryz.prog w = .ok (.string (dig 12)) w := by kernel_rfl
theorem dig_13 (w : World) : (Instr.sliceAt 9 (.string { data := #[48, 49, 50, 51, 52, 53, 54, 55, 56, 57, 97, 98, 99, 100, 101, 102] }) (some (.int .u8 13)) (some (.int .u8 14)) none).run Tryz.prog w = .ok (.string (dig 13)) w := by kernel_rfl
theorem dig_14 (w : World) : (Instr.sliceAt 9 (.string { data := #[48, 49, 50, 51, 52, 53, 54, 55, 56, 57, 97, 98, 99, 100, 101, 102] }) (some (.int .u8 14)) (some (.int .u8 15)) none).run Tryz.prog w = .ok (.string (dig 14)) w := by kernel_rfl
theorem dig_15 (w : World) : (Instr.sliceAt 9 (.string { data := #[48, 49, 50, 51, 52, 53, 54, 55, 56, 57, 97, 98, 99, 100, 101, 102] }) (some (.int .u8 15)) (some (.int .u8 16)) none).run Tryz.prog w = .ok (.string (dig 15)) w := by kernel_rfl
theorem dig_at (n : Nat) (h : n < 16) (w : World) : (Instr.sliceAt 9 (.string { data := #[48, 49, 50, 51, 52, 53, 54, 55, 56, 57, 97, 98, 99, 100, 101, 102] }) (some (.int .u8 (n : Int))) (some (.int .u8 ((n : Int) + 1))) none).run Tryz.prog w = .ok (.string (dig n)) w := by
  match n, h with
  | 0, _ => exact dig_0 w
  | 1, _ => exact dig_1 w
  | 2, _ => exact dig_2 w
  | 3, _ => exact dig_3 w
  | 4, _ => exact dig_4 w
  | 5, _ => exact dig_5 w
  | 6, _ => exact dig_6 w
  | 7, _ => exact dig_7 w
  | 8, _ => exact dig_8 w
  | 9, _ => exact dig_9 w
  | 10, _ => exact dig_10 w
  | 11, _ => exact dig_11 w
  | 12, _ => exact dig_12 w
  | 13, _ => exact dig_13 w
  | 14, _ => exact dig_14 w
  | 15, _ => exact dig_15 w
  | n + 16, h => exact absurd h (by omega)
theorem dig_size (n : Nat) : (dig n).size = 1 := rfl
theorem hexs_size (b : List UInt8) (n : Nat) : (hexs b n).size = 2 * n := by
  induction n with
  | zero => rfl
  | succ n ih => rw [hexs, ByteArray.size_append, ByteArray.size_append, ih, dig_size, dig_size]; omega
theorem and15 (x : Nat) (h : x < 256) : bits BinOp.and IntKind.u8 (x : Int) 15 = ((x % 16 : Nat) : Int) := by
  have e : bits BinOp.and IntKind.u8 (x : Int) ((15 : Nat) : Int) = ((x &&& 15 : Nat) : Int) := u8_and_nat x 15 h (by decide)
  rw [show x % 16 = x &&& 15 from (Nat.and_two_pow_sub_one_eq_mod x 4).symm]
  exact e
end Go.Proofs.YtbloejlebikecaaGreatDoor

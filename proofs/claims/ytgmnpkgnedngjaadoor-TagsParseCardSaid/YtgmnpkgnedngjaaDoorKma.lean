/-
  A chain of sums, each of the one ahead of it and its number; its beginnings. No program in it; the sum is a letter. Conditions: a sum has 32 bytes.
-/
import Derived.IntWalk
namespace Go.Proofs.YtgmnpkgnedngjaaDoor
set_option linter.unusedVariables false

/-- the text between a sum and its number -/
def lane : List UInt8 := [108, 97, 110, 101]
section
variable (H : List UInt8 → List UInt8)
/-- the n-th sum; the ones up to it -/
def lk : Nat → List UInt8
  | 0 => []
  | n + 1 => H (lk n ++ lane ++ [UInt8.ofNat (n + 1)])
def lks : Nat → List UInt8
  | 0 => []
  | n + 1 => lks n ++ lk H (n + 1)
/-- so many bytes of it -/
def mat (m : Nat) : List UInt8 := (lks H ((m + 31) / 32)).take m
variable (hH : ∀ x, (H x).length = 32)
include hH
theorem lk_length (n : Nat) : (lk H (n + 1)).length = 32 := hH _
theorem lks_length (n : Nat) : (lks H n).length = 32 * n := by
  induction n with
  | zero => rfl
  | succ n ih => rw [lks, List.length_append, ih, lk_length H hH]; omega
theorem lks_take (n k : Nat) : (lks H (n + k)).take (32 * n) = lks H n := by
  induction k with
  | zero => exact List.take_of_length_le (by rw [Nat.add_zero, lks_length H hH]; exact Nat.le_refl _)
  | succ k ih => rw [← Nat.add_assoc, lks, List.take_append_of_le_length (by rw [lks_length H hH]; omega), ih]
theorem lks_le (n k m : Nat) (h : m ≤ 32 * n) : (lks H (n + k)).take m = (lks H n).take m := by
  rw [← lks_take H hH n k, List.take_take, Nat.min_eq_left h]
theorem mat_length (m : Nat) : (mat H m).length = m := by
  rw [mat, List.length_take, lks_length H hH]; omega
/-- of any number of sums that is great enough -/
theorem mat_of (m n : Nat) (h : m ≤ 32 * n) : (lks H n).take m = mat H m := by
  obtain ⟨k, rfl⟩ : ∃ k, n = (m + 31) / 32 + k := ⟨n - (m + 31) / 32, by omega⟩
  exact lks_le H hH _ k m (by omega)
/-- fewer bytes are the beginning of more -/
theorem mat_take (a b : Nat) (h : a ≤ b) : (mat H b).take a = mat H a := by
  rw [← mat_of H hH a ((b + 31) / 32) (by omega), mat, List.take_take, Nat.min_eq_left h]
/-- the bytes from 32 times n on are the sum behind the n-th -/
theorem mat_at (n m : Nat) (h : 32 * n + 32 ≤ m) : ((mat H m).drop (32 * n)).take 32 = lk H (n + 1) := by
  have e : (mat H m).take (32 * (n + 1)) = lks H (n + 1) := by
    rw [mat_take H hH _ _ (by omega), ← mat_of H hH _ (n + 1) (Nat.le_refl _)]
    exact List.take_of_length_le (by rw [lks_length H hH]; exact Nat.le_refl _)
  have f := congrArg (fun l => (l.drop (32 * n)).take 32) e
  simp only [List.drop_take] at f
  rw [show 32 * (n + 1) - 32 * n = 32 by omega, List.take_take, Nat.min_self] at f
  rw [f, lks, List.drop_append_of_le_length (by rw [lks_length H hH]; exact Nat.le_refl _), List.drop_of_length_le (by rw [lks_length H hH]; exact Nat.le_refl _), List.nil_append]
  exact List.take_of_length_le (by rw [lk_length H hH]; exact Nat.le_refl _)
/-- a sum is of the one ahead of it -/
theorem mat_chain (n m : Nat) (hn : 1 ≤ n) (h : 32 * n + 32 ≤ m) : ((mat H m).drop (32 * n)).take 32 = H (((mat H m).drop (32 * n - 32)).take 32 ++ lane ++ [UInt8.ofNat (n + 1)]) := by
  obtain ⟨k, rfl⟩ : ∃ k, n = k + 1 := ⟨n - 1, by omega⟩
  rw [mat_at H hH (k + 1) m h, show 32 * (k + 1) - 32 = 32 * k by omega, mat_at H hH k m (by omega), lk]
end
end Go.Proofs.YtgmnpkgnedngjaaDoor

/-
  mods.Exp of any exponent. Conditions: none.
-/
import Derived.Test.YtaggegknnnembaaExl
import Derived.Test.YtaggegknnnembaaExe
namespace Go.Proofs.Ytaggegknnnembaa
open Go.RowKit
theorem mexp_full_at (a n m r : Nat) {w w' : World} {l : List (Nat × Nat)} (h : Env w l w') (hn : n < 2 ^ 256) (hm : m < 2 ^ 256) (h1 : 1 < m) (ha : a < m) (hr : a ^ n % m = r) : Calls Try.prog 25 #[num a, num n, num m] w' fun e w2 => e = .returned (.tuple #[num r, .int .i64 0]) ∧ Env w l w2 := by
  subst hr
  rcases Nat.lt_or_ge 16 (nbits n) with hc | hc
  · rcases Nat.mod_two_eq_zero_or_one m with ho | ho
    · exact env_of (mexp_even a n m w' hn hm ⟨h1, ha⟩ hc ho) h
    · exact env_of (mexp_odd a n m w' hn hm ⟨h1, ha⟩ hc ho) h
  · exact env_of (mexp_short a n m w' hn hm ⟨h1, ha⟩ hc) h
theorem mexp_arg_at (a n m : Nat) {w w' : World} {l : List (Nat × Nat)} (h : Env w l w') (ha : a < 2 ^ 256) (hn : n < 2 ^ 256) (hm : m < 2 ^ 256) (hv : ¬ (1 < m ∧ a < m)) : Calls Try.prog 25 #[num a, num n, num m] w' fun e w2 => e = .returned (.tuple #[num 0, .int .i64 1]) ∧ Env w l w2 :=
  env_of (mexp_arg a n m w' ha hn hm hv) h
end Go.Proofs.Ytaggegknnnembaa

/-
  mods.Exp of any exponent. Conditions: none.
-/
import Derived.Test.YtioebjbjpjbodaaExl
import Derived.Test.YtioebjbjpjbodaaExe
namespace Go.Proofs.Ytioebjbjpjbodaa
open Go.RowKit
theorem mexp_full_at (a n m r : Nat) {w w' : World} {l : List (Nat × Nat)} (h : Env w l w') (hn : n < 2 ^ 256) (hm : m < 2 ^ 256) (h1 : 1 < m) (ha : a < m) (hr : a ^ n % m = r) : Calls Try.prog 36 #[num a, num n, num m] w' fun e w2 => e = .returned (.tuple #[num r, .int .i64 0]) ∧ Env w l w2 := by
  subst hr
  rcases Nat.lt_or_ge 16 (nbits n) with hc | hc
  · rcases Nat.mod_two_eq_zero_or_one m with ho | ho
    · exact env_of (mexp_even a n m w' hn hm ⟨h1, ha⟩ hc ho) h
    · exact env_of (mexp_odd a n m w' hn hm ⟨h1, ha⟩ hc ho) h
  · exact env_of (mexp_short a n m w' hn hm ⟨h1, ha⟩ hc) h
end Go.Proofs.Ytioebjbjpjbodaa

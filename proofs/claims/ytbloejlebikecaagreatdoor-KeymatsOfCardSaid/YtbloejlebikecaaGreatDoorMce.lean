/-
  macs.Same, walked: whether both are the same bytes. Condition: 2^47 bytes at most.
-/
import Derived.Test.YtbloejlebikecaaGreatDoorMca
import Derived.BigQuiet
namespace Go.Proofs.YtbloejlebikecaaGreatDoor
open Go.RowKit
set_option linter.unusedVariables false
set_option linter.unusedSimpArgs false

theorem wrap_pos (n : Nat) (h : n < 9223372036854775808) : IntKind.i64.wrap (n : Int) = (n : Int) := by rw [IntKind.wrap_i64]; omega
theorem i64_xor_nat (a b : Nat) (ha : a < 9223372036854775808) (hb : b < 9223372036854775808) : bits .xor .i64 (a : Int) (b : Int) = ((a ^^^ b : Nat) : Int) := by
  have hx : a ^^^ b < 2 ^ 63 := Nat.xor_lt_two_pow (by omega) (by omega)
  show IntKind.i64.wrap ((BitVec.ofInt 64 (a : Int) ^^^ BitVec.ofInt 64 (b : Int)).toNat : Int) = _
  rw [BitVec.toNat_xor, ofInt_u64 a (by omega), ofInt_u64 b (by omega)]
  exact wrap_pos _ (by omega)
theorem i64_or_nat (a b : Nat) (ha : a < 9223372036854775808) (hb : b < 9223372036854775808) : bits .or .i64 (a : Int) (b : Int) = ((a ||| b : Nat) : Int) := by
  have hx : a ||| b < 2 ^ 63 := Nat.or_lt_two_pow (by omega) (by omega)
  show IntKind.i64.wrap ((BitVec.ofInt 64 (a : Int) ||| BitVec.ofInt 64 (b : Int)).toNat : Int) = _
  rw [BitVec.toNat_or, ofInt_u64 a (by omega), ofInt_u64 b (by omega)]
  exact wrap_pos _ (by omega)
/-- where two lists part, looked at up to here -/
def ap (a b : List UInt8) : Nat → Nat
  | 0 => a.length ^^^ b.length
  | j + 1 => ap a b j ||| (a.getD j 0 ^^^ b.getD j 0).toNat
theorem ap_lt (a b : List UInt8) (ha : a.length < 9223372036854775808) (hb : b.length < 9223372036854775808) (j : Nat) : ap a b j < 9223372036854775808 := by
  induction j with
  | zero => have : a.length ^^^ b.length < 2 ^ 63 := Nat.xor_lt_two_pow (by omega) (by omega); rw [ap]; omega
  | succ j ih => have : ap a b j ||| (a.getD j 0 ^^^ b.getD j 0).toNat < 2 ^ 63 := Nat.or_lt_two_pow (by omega) (by have := (a.getD j 0 ^^^ b.getD j 0).toNat_lt; omega); rw [ap]; omega
theorem xor_none (a b : Nat) : a ^^^ b = 0 ↔ a = b := by
  constructor
  · intro h
    have : a ^^^ b ^^^ b = 0 ^^^ b := by rw [h]
    rwa [Nat.xor_assoc, Nat.xor_self, Nat.xor_zero, Nat.zero_xor] at this
  · rintro rfl; exact Nat.xor_self a
theorem or_none (a b : Nat) : a ||| b = 0 ↔ a = 0 ∧ b = 0 := by
  constructor
  · intro h
    have h1 : a ≤ a ||| b := Nat.left_le_or
    have h2 : b ≤ a ||| b := Nat.right_le_or
    omega
  · rintro ⟨rfl, rfl⟩; rfl
theorem ap_none (a b : List UInt8) (j : Nat) : ap a b j = 0 ↔ a.length = b.length ∧ ∀ i, i < j → a.getD i 0 = b.getD i 0 := by
  induction j with
  | zero => rw [ap, xor_none]; exact ⟨fun h => ⟨h, fun i hi => absurd hi (Nat.not_lt_zero _)⟩, fun h => h.1⟩
  | succ j ih =>
    have e : (a.getD j 0 ^^^ b.getD j 0).toNat = 0 ↔ a.getD j 0 = b.getD j 0 := by
      rw [UInt8.toNat_xor, xor_none]; exact ⟨fun h => UInt8.toNat.inj h, fun h => by rw [h]⟩
    rw [ap, or_none, ih, e]
    constructor
    · rintro ⟨⟨h1, h2⟩, h3⟩
      refine ⟨h1, fun i hi => ?_⟩
      rcases Nat.lt_or_ge i j with h | h
      · exact h2 i h
      · obtain rfl : i = j := by omega
        exact h3
    · rintro ⟨h1, h2⟩
      exact ⟨⟨h1, fun i hi => h2 i (by omega)⟩, h2 j (by omega)⟩
theorem ap_all (a b : List UInt8) : ap a b (min a.length b.length) = 0 ↔ a = b := by
  rw [ap_none]
  constructor
  · rintro ⟨h1, h2⟩
    apply List.ext_getElem h1
    intro i hi1 hi2
    have := h2 i (by omega)
    rwa [List.getD_eq_getElem?_getD, List.getD_eq_getElem?_getD, List.getElem?_eq_getElem hi1, List.getElem?_eq_getElem hi2] at this
  · rintro rfl; exact ⟨rfl, fun i _ => rfl⟩
theorem Rd.cellD {w : World} {A : Option Addr} {bs : List UInt8} (h : Rd w A bs) (j : Nat) (hj : j < bs.length) : ∃ g o, A = some ⟨g, o, none⟩ ∧ w.cell? ⟨g, o + j, none⟩ = some (.int .u8 (((bs.getD j 0).toNat : Nat) : Int)) := by
  obtain ⟨g, o, h1, _, h2⟩ := h (by omega)
  refine ⟨g, o, h1, ?_⟩
  rw [h2 j hj, List.getD_eq_getElem?_getD, List.getElem?_eq_getElem hj]; rfl
end Go.Proofs.YtbloejlebikecaaGreatDoor

/-
  What a byte makes 1 with, and S of it by the words of the chapter: no program in it. Conditions: none.
-/
import Derived.Test.YtbccnkjfjlmflaaGreatDoorAes
namespace Go.Proofs.YtbccnkjfjlmflaaGreatDoor
set_option linter.unusedVariables false
set_option linter.unusedSimpArgs false

/-- what a byte makes 1 with, 0 for 0 -/
def YB : List UInt8 := [0, 1, 141, 246, 203, 82, 123, 209, 232, 79, 41, 192, 176, 225, 229, 199, 116, 180, 170, 75, 153, 43, 96, 95, 88, 63, 253, 204, 255, 64, 238, 178, 58, 110, 90, 241, 85, 77, 168, 201, 193, 10, 152, 21, 48, 68, 162, 194, 44, 69, 146, 108, 243, 57, 102, 66, 242, 53, 32, 111, 119, 187, 89, 25, 29, 254, 55, 103, 45, 49, 245, 105, 167, 100, 171, 19, 84, 37, 233, 9, 237, 92, 5, 202, 76, 36, 135, 191, 24, 62, 34, 240, 81, 236, 97, 23, 22, 94, 175, 211, 73, 166, 54, 67, 244, 71, 145, 223, 51, 147, 33, 59, 121, 183, 151, 133, 16, 181, 186, 60, 182, 112, 208, 6, 161, 250, 129, 130, 131, 126, 127, 128, 150, 115, 190, 86, 155, 158, 149, 217, 247, 2, 185, 164, 222, 106, 50, 109, 216, 138, 132, 114, 42, 20, 159, 136, 249, 220, 137, 154, 251, 124, 46, 195, 143, 184, 101, 72, 38, 200, 18, 74, 206, 231, 210, 98, 12, 224, 31, 239, 17, 117, 120, 113, 165, 142, 118, 61, 189, 188, 134, 87, 11, 40, 47, 163, 218, 212, 228, 15, 169, 39, 83, 4, 27, 252, 172, 230, 122, 7, 174, 99, 197, 219, 226, 234, 148, 139, 196, 213, 157, 248, 144, 107, 177, 13, 214, 235, 198, 14, 207, 173, 8, 78, 215, 227, 93, 80, 30, 179, 91, 35, 56, 52, 104, 70, 3, 140, 221, 156, 125, 160, 205, 26, 65, 28]
def yb (x : UInt8) : UInt8 := YB.getD x.toNat 0
/-- a byte's bits, turned round to the left -/
def tl (b : UInt8) (n : Nat) : UInt8 := UInt8.ofNat (b.toNat * 2 ^ n % 256 + b.toNat / 2 ^ (8 - n))
theorem sb_yb (x : UInt8) : sbb x = yb x ^^^ tl (yb x) 1 ^^^ tl (yb x) 2 ^^^ tl (yb x) 3 ^^^ tl (yb x) 4 ^^^ 99 :=
  all_u8 (p := fun x => sbb x = yb x ^^^ tl (yb x) 1 ^^^ tl (yb x) 2 ^^^ tl (yb x) 3 ^^^ tl (yb x) 4 ^^^ 99) (by decide +kernel) x
theorem bit_xor (b c n : Nat) : (b ^^^ c) / 2 ^ n % 2 = (b / 2 ^ n % 2 + c / 2 ^ n % 2) % 2 := by
  have e : ∀ x : Nat, x / 2 ^ n % 2 = if x.testBit n then 1 else 0 := fun x => by
    rw [Nat.testBit_eq_decide_div_mod_eq]
    rcases Nat.mod_two_eq_zero_or_one (x / 2 ^ n) with h | h <;> simp [h]
  rw [e, e, e, Nat.testBit_xor]
  cases b.testBit n <;> cases c.testBit n <;> rfl
theorem tmn_xor2 (a b c : UInt8) (n : Nat) : tmn a (b ^^^ c) n = tmn a b n ^^^ tmn a c n := by
  induction n with
  | zero => simp [tmn]
  | succ n ih =>
    unfold tmn
    rw [ih, UInt8.toNat_xor, bit_xor]
    rcases Nat.mod_two_eq_zero_or_one (b.toNat / 2 ^ n) with h | h <;> rcases Nat.mod_two_eq_zero_or_one (c.toNat / 2 ^ n) with k | k <;> simp only [h, k]
    · simp
    · simp [UInt8.xor_assoc]
    · simp only [Nat.reduceAdd, Nat.reduceMod, if_true, Nat.zero_ne_one, if_false]
      rw [UInt8.xor_assoc, UInt8.xor_assoc, UInt8.xor_comm (xts a n)]
    · have e : tmn a b n ^^^ xts a n ^^^ (tmn a c n ^^^ xts a n) = tmn a b n ^^^ tmn a c n := by rw [xor_mid, UInt8.xor_self, UInt8.xor_zero]
      simp [e]
theorem tm_xor2 (a b c : UInt8) : tm a (b ^^^ c) = tm a b ^^^ tm a c := tmn_xor2 a b c 8
/-- what keeps each bit alone, and sums, keeps all -/
theorem lin_id (f : UInt8 → UInt8) (hf : ∀ x y, f (x ^^^ y) = f x ^^^ f y) (h : ∀ j, j < 8 → f (1 <<< UInt8.ofNat j) = 1 <<< UInt8.ofNat j) (x : UInt8) : f x = x := by
  have h0 : f 0 = 0 := by
    have := hf 0 0
    rw [UInt8.xor_self] at this
    rw [this, UInt8.xor_self]
  have hb : ∀ j, j < 8 → f (x &&& (1 <<< UInt8.ofNat j)) = x &&& (1 <<< UInt8.ofNat j) := by
    intro j hj
    have hc : x &&& (1 <<< UInt8.ofNat j) = 0 ∨ x &&& (1 <<< UInt8.ofNat j) = 1 <<< UInt8.ofNat j := by
      have : ∀ j, j < 8 → ∀ i, i < 256 → (UInt8.ofNat i &&& (1 <<< UInt8.ofNat j) = 0 ∨ UInt8.ofNat i &&& (1 <<< UInt8.ofNat j) = 1 <<< UInt8.ofNat j) := by decide +kernel
      exact all_u8 (p := fun x => x &&& (1 <<< UInt8.ofNat j) = 0 ∨ x &&& (1 <<< UInt8.ofNat j) = 1 <<< UInt8.ofNat j) (this j hj) x
    rcases hc with e | e <;> rw [e]
    · exact h0
    · exact h j hj
  have hx : x = (x &&& (1 <<< UInt8.ofNat 0)) ^^^ (x &&& (1 <<< UInt8.ofNat 1)) ^^^ (x &&& (1 <<< UInt8.ofNat 2)) ^^^ (x &&& (1 <<< UInt8.ofNat 3)) ^^^ (x &&& (1 <<< UInt8.ofNat 4)) ^^^ (x &&& (1 <<< UInt8.ofNat 5)) ^^^ (x &&& (1 <<< UInt8.ofNat 6)) ^^^ (x &&& (1 <<< UInt8.ofNat 7)) :=
    all_u8 (p := fun x => x = (x &&& (1 <<< UInt8.ofNat 0)) ^^^ (x &&& (1 <<< UInt8.ofNat 1)) ^^^ (x &&& (1 <<< UInt8.ofNat 2)) ^^^ (x &&& (1 <<< UInt8.ofNat 3)) ^^^ (x &&& (1 <<< UInt8.ofNat 4)) ^^^ (x &&& (1 <<< UInt8.ofNat 5)) ^^^ (x &&& (1 <<< UInt8.ofNat 6)) ^^^ (x &&& (1 <<< UInt8.ofNat 7))) (by decide +kernel) x
  have hs := congrArg f hx
  rw [hf, hf, hf, hf, hf, hf, hf, hb 0 (by decide), hb 1 (by decide), hb 2 (by decide), hb 3 (by decide), hb 4 (by decide), hb 5 (by decide), hb 6 (by decide), hb 7 (by decide), ← hx] at hs
  exact hs
theorem yb_back (x k : UInt8) (hx : x ≠ 0) : tm (yb x) (tm x k) = k := by
  have h : ∀ i, i < 256 → UInt8.ofNat i ≠ 0 → ∀ j, j < 8 → tm (yb (UInt8.ofNat i)) (tm (UInt8.ofNat i) (1 <<< UInt8.ofNat j)) = 1 <<< UInt8.ofNat j := by decide +kernel
  exact lin_id (fun k => tm (yb x) (tm x k)) (fun a b => by simp only [tm_xor2]) (all_u8 (p := fun x => x ≠ 0 → ∀ j, j < 8 → tm (yb x) (tm x (1 <<< UInt8.ofNat j)) = 1 <<< UInt8.ofNat j) h x hx) k
theorem tm_one (x : UInt8) : tm x 1 = x := all_u8 (p := fun x => tm x 1 = x) (by decide +kernel) x
theorem tm_yb (x : UInt8) (hx : x ≠ 0) : tm x (yb x) = 1 := by
  have h : ∀ i, i < 256 → UInt8.ofNat i ≠ 0 → tm (UInt8.ofNat i) (yb (UInt8.ofNat i)) = 1 := by decide +kernel
  exact all_u8 (p := fun x => x ≠ 0 → tm x (yb x) = 1) h x hx
/-- a byte that is not 0 makes 1 with one byte alone -/
theorem tm_is_one (x k : UInt8) (hx : x ≠ 0) : tm x k = 1 ↔ k = yb x := by
  constructor
  · intro h
    have := yb_back x k hx
    rw [h, tm_one] at this
    exact this.symm
  · rintro rfl; exact tm_yb x hx
theorem yb_ne (x : UInt8) (hx : x ≠ 0) : yb x ≠ 0 := by
  have h : ∀ i, i < 256 → UInt8.ofNat i ≠ 0 → yb (UInt8.ofNat i) ≠ 0 := by decide +kernel
  exact all_u8 (p := fun x => x ≠ 0 → yb x ≠ 0) h x hx
theorem yb_zero : yb 0 = 0 := by decide +kernel
end Go.Proofs.YtbccnkjfjlmflaaGreatDoor

/-
  Plain facts on bytes and the numbers that they tell, with no program in it. Conditions: none.
-/
import Derived.IntWalk
import Derived.Laws.BitsAllLaws
namespace Go.Proofs.YtioebjbjpjbodaaDoor

/-- the number that bytes tell, the highest ahead -/
def tell (bs : List UInt8) : Nat := bs.foldl (fun a b => a * 256 + b.toNat) 0

theorem tell_snoc (bs : List UInt8) (b : UInt8) : tell (bs ++ [b]) = tell bs * 256 + b.toNat := by simp [tell]

theorem tell_lt (bs : List UInt8) : tell bs < 256 ^ bs.length := by
  suffices h : ∀ (l : List UInt8), tell l.reverse < 256 ^ l.length by have := h bs.reverse; simpa using this
  intro l
  induction l with
  | nil => simp [tell]
  | cons b r ih =>
    rw [List.reverse_cons, tell_snoc, List.length_cons, Nat.pow_succ]
    have := b.toNat_lt
    omega

theorem pow256_le {k : Nat} (h : k ≤ 7) : 256 ^ k ≤ 72057594037927936 := by
  calc 256 ^ k ≤ 256 ^ 7 := Nat.pow_le_pow_right (by omega) h
    _ = 72057594037927936 := by decide

theorem or_byte (t x : Nat) (ht : t < 72057594037927936) (hx : x < 256) :
    bits .or .u64 (IntKind.u64.wrap ((t : Int) * 256)) (IntKind.u64.wrap (x : Int)) = ((t * 256 + x : Nat) : Int) := by
  rw [IntWalk.u64_in _ (by omega), IntWalk.u64_in _ (by omega)]
  have e : ((t : Int) * 256) = ((t * 256 : Nat) : Int) := by omega
  rw [e, u64_or_nat _ _ (by omega) (by omega)]
  congr 1
  have h := Nat.shiftLeft_add_eq_or_of_lt (b := x) (i := 8) (by omega) t
  have e8 : (2 : Nat) ^ 8 = 256 := by decide
  rw [Nat.shiftLeft_eq, e8] at h
  omega

theorem tell_take_succ (bs : List UInt8) (k : Nat) (h : k < bs.length) : tell (bs.take (k + 1)) = tell (bs.take k) * 256 + bs[k].toNat := by
  rw [List.take_succ_eq_append_getElem h, tell_snoc]

theorem tell_append (a b : List UInt8) : tell (a ++ b) = tell a * 256 ^ b.length + tell b := by
  suffices h : ∀ (l : List UInt8), tell (a ++ l.reverse) = tell a * 256 ^ l.length + tell l.reverse by have := h b.reverse; simpa using this
  intro l
  induction l with
  | nil => simp [tell]
  | cons x r ih =>
    rw [List.reverse_cons, ← List.append_assoc, tell_snoc, ih, tell_snoc, List.length_cons, Nat.pow_succ]
    rw [Nat.add_mul, Nat.mul_assoc, Nat.add_assoc]

/-- the last bytes of a number, the highest ahead -/
def be (n : Nat) : Nat → List UInt8
  | 0 => []
  | k + 1 => UInt8.ofNat (n / 256 ^ k) :: be n k

theorem be_length (n k : Nat) : (be n k).length = k := by
  induction k with
  | zero => rfl
  | succ k ih => simp [be, ih]

end Go.Proofs.YtioebjbjpjbodaaDoor

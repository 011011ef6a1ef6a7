/-
  Plain facts on bytes and the numbers that they tell, with no program in it. Conditions: none.
-/
import Derived.IntWalk
import Derived.Laws.BitsAllLaws
namespace Go.Proofs.YtbloejlebikecaaGreatDoor

/-- the number that bytes tell, the highest ahead -/
def tell (bs : List UInt8) : Nat := bs.foldl (fun a b => a * 256 + b.toNat) 0

theorem tell_snoc (bs : List UInt8) (b : UInt8) : tell (bs ++ [b]) = tell bs * 256 + b.toNat := by simp [tell]

theorem tell_lt (bs : List UInt8) : tell bs < 256 ^ bs.length := by
  suffices h : ∀ (l : List UInt8), tell l.reverse < 256 ^ l.length by have := h bs.reverse; simpa using this
  intro l
  induction l with
  | nil => simp [tell]
  | cons b r ih =>
    rw [List.reverse_cons, tell_snoc, List.length_cons, Nat.pow_succ]
    have := b.toNat_lt
    omega

theorem pow256_le {k : Nat} (h : k ≤ 7) : 256 ^ k ≤ 72057594037927936 := by
  calc 256 ^ k ≤ 256 ^ 7 := Nat.pow_le_pow_right (by omega) h
    _ = 72057594037927936 := by decide

theorem or_byte (t x : Nat) (ht : t < 72057594037927936) (hx : x < 256) :
    bits .or .u64 (IntKind.u64.wrap ((t : Int) * 256)) (IntKind.u64.wrap (x : Int)) = ((t * 256 + x : Nat) : Int) := by
  rw [IntWalk.u64_in _ (by omega), IntWalk.u64_in _ (by omega)]
  have e : ((t : Int) * 256) = ((t * 256 : Nat) : Int) := by omega
  rw [e, u64_or_nat _ _ (by omega) (by omega)]
  congr 1
  have h := Nat.shiftLeft_add_eq_or_of_lt (b := x) (i := 8) (by omega) t
  have e8 : (2 : Nat) ^ 8 = 256 := by decide
  rw [Nat.shiftLeft_eq, e8] at h
  omega

theorem tell_take_succ (bs : List UInt8) (k : Nat) (h : k < bs.length) : tell (bs.take (k + 1)) = tell (bs.take k) * 256 + bs[k].toNat := by
  rw [List.take_succ_eq_append_getElem h, tell_snoc]

theorem tell_append (a b : List UInt8) : tell (a ++ b) = tell a * 256 ^ b.length + tell b := by
  suffices h : ∀ (l : List UInt8), tell (a ++ l.reverse) = tell a * 256 ^ l.length + tell l.reverse by have := h b.reverse; simpa using this
  intro l
  induction l with
  | nil => simp [tell]
  | cons x r ih =>
    rw [List.reverse_cons, ← List.append_assoc, tell_snoc, ih, tell_snoc, List.length_cons, Nat.pow_succ]
    rw [Nat.add_mul, Nat.mul_assoc, Nat.add_assoc]

/-- the last bytes of a number, the highest ahead -/
def be (n : Nat) : Nat → List UInt8
  | 0 => []
  | k + 1 => UInt8.ofNat (n / 256 ^ k) :: be n k

theorem be_length (n k : Nat) : (be n k).length = k := by
  induction k with
  | zero => rfl
  | succ k ih => simp [be, ih]

theorem be_snoc (n k : Nat) : be n (k + 1) = be (n / 256) k ++ [UInt8.ofNat n] := by
  induction k with
  | zero => simp [be]
  | succ k ih =>
    rw [be, ih, be, List.cons_append, Nat.div_div_eq_div_mul, Nat.pow_succ, Nat.mul_comm 256]

theorem tell_be (n k : Nat) : tell (be n k) = n % 256 ^ k := by
  induction k generalizing n with
  | zero => simp [be, tell, Nat.mod_one]
  | succ k ih =>
    have e8 : (2 : Nat) ^ 8 = 256 := by decide
    have e9 : (256 : Nat) ^ (k + 1) = 256 * 256 ^ k := by rw [Nat.pow_succ, Nat.mul_comm]
    rw [be_snoc, tell_snoc, ih, UInt8.toNat_ofNat', e8, e9, Nat.mod_mul]
    omega

theorem be_add (n j k : Nat) : be n (j + k) = be (n / 256 ^ k) j ++ be n k := by
  induction j with
  | zero => simp [be]
  | succ j ih =>
    have e : j + 1 + k = (j + k) + 1 := by omega
    rw [e, be, ih, be, List.cons_append, Nat.div_div_eq_div_mul, ← Nat.pow_add, Nat.add_comm k j]

theorem be_mod (n k : Nat) : be (n % 256 ^ k) k = be n k := by
  induction k generalizing n with
  | zero => rfl
  | succ k ih =>
    rw [be_snoc, be_snoc]
    have e1 : n % 256 ^ (k + 1) / 256 = n / 256 % 256 ^ k := by
      rw [Nat.pow_succ, Nat.mul_comm, Nat.mod_mul_right_div_self]
    have e2 : UInt8.ofNat (n % 256 ^ (k + 1)) = UInt8.ofNat n := by
      apply UInt8.toNat.inj
      rw [UInt8.toNat_ofNat', UInt8.toNat_ofNat', Nat.pow_succ]
      have : (2 : Nat) ^ 8 = 256 := by decide
      rw [this, Nat.mod_mul_left_mod]
    rw [e1, e2, ih]

theorem be_tell (bs : List UInt8) : be (tell bs) bs.length = bs := by
  suffices h : ∀ (l : List UInt8), be (tell l.reverse) l.length = l.reverse by have := h bs.reverse; simpa using this
  intro l
  induction l with
  | nil => rfl
  | cons b r ih =>
    rw [List.reverse_cons, tell_snoc, List.length_cons, be_snoc]
    have hb := b.toNat_lt
    have e1 : (tell r.reverse * 256 + b.toNat) / 256 = tell r.reverse := by omega
    have e2 : UInt8.ofNat (tell r.reverse * 256 + b.toNat) = b := by
      apply UInt8.toNat.inj
      rw [UInt8.toNat_ofNat']
      have : (2 : Nat) ^ 8 = 256 := by decide
      rw [this]
      omega
    rw [e1, e2, ih]

end Go.Proofs.YtbloejlebikecaaGreatDoor

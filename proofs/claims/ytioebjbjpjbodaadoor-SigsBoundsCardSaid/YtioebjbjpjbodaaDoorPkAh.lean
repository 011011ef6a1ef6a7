/-
  limbs.split and limbs.join, walked. Conditions: none.
  A product by halves of words, digit by digit: no program stands here. Conditions: none.
-/
import Derived.Test.YtioebjbjpjbodaaDoorPkShift
import Derived.ChangeAlike
namespace Go.Proofs.YtioebjbjpjbodaaDoor
open Go.RowKit
set_option linter.unusedVariables false

/-- half i of a number's words -/
def hf (x i : Nat) : Nat := x / 4294967296 ^ i % 4294967296
theorem hf_lt (x i : Nat) : hf x i < 4294967296 := Nat.mod_lt _ (by decide)
theorem hf_even (x i : Nat) : wd x i % 4294967296 = hf x (2 * i) := by
  unfold wd hf
  rw [show (18446744073709551616 : Nat) = 4294967296 * 4294967296 by decide, Nat.mod_mul_right_mod, Nat.pow_mul]
theorem hf_odd (x i : Nat) : wd x i / 4294967296 = hf x (2 * i + 1) := by
  unfold wd hf
  rw [show (18446744073709551616 : Nat) = 4294967296 * 4294967296 by decide, Nat.mod_mul_right_div_self, Nat.pow_succ, ← Nat.div_div_eq_div_mul, Nat.pow_mul]
theorem wd_halves (x i : Nat) : wd x i = hf x (2 * i + 1) * 4294967296 + hf x (2 * i) := by
  rw [← hf_even, ← hf_odd]
  have := wd_lt x i
  omega
/-- a number's halves, as a value -/
abbrev hcls (x : Nat) : Array Value := #[.int .u32 (hf x 0 : Int), .int .u32 (hf x 1 : Int), .int .u32 (hf x 2 : Int), .int .u32 (hf x 3 : Int), .int .u32 (hf x 4 : Int), .int .u32 (hf x 5 : Int), .int .u32 (hf x 6 : Int), .int .u32 (hf x 7 : Int)]

theorem lo32 (x i : Nat) : (wd x i : Int) % 4294967296 = (hf x (2 * i) : Int) := by
  rw [← hf_even]; simp
theorem hi32 (x i : Nat) : (wd x i : Int) / 4294967296 % 4294967296 = (hf x (2 * i + 1) : Int) := by
  have := wd_lt x i
  rw [← hf_odd]; omega
theorem join32 (x i : Nat) : bits .or .u64 (IntKind.u64.wrap (IntKind.u64.wrap (hf x (2 * i + 1) : Int) * 4294967296)) (IntKind.u64.wrap (hf x (2 * i) : Int)) = (wd x i : Int) := by
  have h1 := hf_lt x (2 * i + 1)
  have h0 := hf_lt x (2 * i)
  rw [IntWalk.u64_in (hf x (2 * i + 1) : Int) (by omega), IntWalk.u64_in _ (by omega), IntWalk.u64_in (hf x (2 * i) : Int) (by omega), wd_halves x i]
  have := u64_or_nat (hf x (2 * i + 1) * 4294967296) (hf x (2 * i)) (by omega) (by omega)
  rw [nat_join 32 _ _ (by omega) (by omega)] at this
  simpa using this

set_option maxRecDepth 100000 in
set_option maxHeartbeats 800000 in
theorem split_ex (x : Nat) (w : World) : Calls Tryd.prog 33 #[num x] w fun e w' => e = .returned (.agg (hcls x)) ∧ w' = (w.alloc (.cells (cls x) 24)).alloc (.cells (hcls x) 67) := by
  have a0 : (wd x 0 : Int) % 4294967296 = (hf x 0 : Int) := lo32 x 0
  have b0 : (wd x 0 : Int) / 4294967296 % 4294967296 = (hf x 1 : Int) := hi32 x 0
  have a1 : (wd x 1 : Int) % 4294967296 = (hf x 2 : Int) := lo32 x 1
  have b1 : (wd x 1 : Int) / 4294967296 % 4294967296 = (hf x 3 : Int) := hi32 x 1
  have a2 : (wd x 2 : Int) % 4294967296 = (hf x 4 : Int) := lo32 x 2
  have b2 : (wd x 2 : Int) / 4294967296 % 4294967296 = (hf x 5 : Int) := hi32 x 2
  have a3 : (wd x 3 : Int) % 4294967296 = (hf x 6 : Int) := lo32 x 3
  have b3 : (wd x 3 : Int) / 4294967296 % 4294967296 = (hf x 7 : Int) := hi32 x 3
  go_enter Tryd.func33, Tryd.ntmps33
  go_wp2
  refine bodyPost_ret (v := .agg (hcls x)) (by simp [results, Tryd.results33, go_sem]) rfl ⟨rfl, rfl⟩

set_option maxRecDepth 100000 in
set_option maxHeartbeats 800000 in
theorem join_ex (x : Nat) (w : World) : Calls Tryd.prog 55 #[.agg (hcls x)] w fun e w' => e = .returned (num x) ∧ w' = (((w.alloc (.cells (hcls x) 67)).alloc (.cells (cls x) 24)).alloc (.cells (cls x) 24)).drew.drew.drew.drew := by
  have v0 : bits .or .u64 (IntKind.u64.wrap (IntKind.u64.wrap (hf x 1 : Int) * 4294967296)) (IntKind.u64.wrap (hf x 0 : Int)) = (wd x 0 : Int) := join32 x 0
  have v1 : bits .or .u64 (IntKind.u64.wrap (IntKind.u64.wrap (hf x 3 : Int) * 4294967296)) (IntKind.u64.wrap (hf x 2 : Int)) = (wd x 1 : Int) := join32 x 1
  have v2 : bits .or .u64 (IntKind.u64.wrap (IntKind.u64.wrap (hf x 5 : Int) * 4294967296)) (IntKind.u64.wrap (hf x 4 : Int)) = (wd x 2 : Int) := join32 x 2
  have v3 : bits .or .u64 (IntKind.u64.wrap (IntKind.u64.wrap (hf x 7 : Int) * 4294967296)) (IntKind.u64.wrap (hf x 6 : Int)) = (wd x 3 : Int) := join32 x 3
  go_enter Tryd.func55, Tryd.ntmps55
  go_wp2
  refine wp_loop_rounds 5 ?_
  rw [rounds_succ]
  go_wp2
  go_region
  go_wp2
  rw [rounds_succ]
  go_wp2
  go_region
  go_wp2
  rw [rounds_succ]
  go_wp2
  go_region
  go_wp2
  rw [rounds_succ]
  go_wp2
  go_region
  go_wp2
  rw [rounds_succ]
  go_wp2
  exact bodyPost_ret (v := num x) (by simp [results, Tryd.results55, go_sem]) rfl ⟨rfl, rfl⟩
end Go.Proofs.YtioebjbjpjbodaaDoor
namespace Go.Proofs.YtioebjbjpjbodaaDoor
open Go.RowKit
set_option linter.unusedVariables false

/-- the number that digits tell, the lowest first -/
def val : List Nat → Nat
  | [] => 0
  | d :: r => d + 4294967296 * val r
theorem val_set (l : List Nat) (k v : Nat) (hk : k < l.length) : val (l.set k v) + l[k] * 4294967296 ^ k = val l + v * 4294967296 ^ k := by
  induction l generalizing k with
  | nil => simp at hk
  | cons d r ih =>
    match k with
    | 0 => simp [val]; omega
    | k + 1 =>
      have h := ih k (by simpa using hk)
      simp only [List.set_cons_succ, val, List.getElem_cons_succ]
      rw [Nat.pow_succ, ← Nat.mul_assoc, ← Nat.mul_assoc]
      omega
theorem val_digit (l : List Nat) (h : ∀ d ∈ l, d < 4294967296) (k : Nat) (hk : k < l.length) : l[k] = hf (val l) k := by
  induction l generalizing k with
  | nil => simp at hk
  | cons d r ih =>
    have hd := h d (by simp)
    match k with
    | 0 =>
      simp only [List.getElem_cons_zero, val, hf, Nat.pow_zero, Nat.div_one]
      omega
    | k + 1 =>
      simp only [List.getElem_cons_succ]
      rw [ih (fun d hd => h d (by simp [hd])) k (by simpa using hk)]
      simp only [val, hf]
      rw [Nat.pow_succ, Nat.mul_comm (4294967296 ^ k), ← Nat.div_div_eq_div_mul]
      congr 2
      omega
theorem val_zero (n : Nat) : val (List.replicate n 0) = 0 := by
  induction n with
  | zero => rfl
  | succ n ih => rw [List.replicate_succ, val, ih]
theorem mod_step (y j : Nat) : y % 4294967296 ^ (j + 1) = y % 4294967296 ^ j + 4294967296 ^ j * hf y j := by
  unfold hf
  rw [Nat.pow_succ, Nat.mod_mul]
/-- a round within -/
theorem in_step (ps : List Nat) (N p c y i j t : Nat) (hk : i + j < ps.length) (ht : t = c + (p * hf y j + ps[i + j]))
    (h : val ps + c * 4294967296 ^ (i + j) = N + p * (y % 4294967296 ^ j) * 4294967296 ^ i) :
    val (ps.set (i + j) (t % 4294967296)) + t / 4294967296 * 4294967296 ^ (i + (j + 1)) = N + p * (y % 4294967296 ^ (j + 1)) * 4294967296 ^ i := by
  have a := val_set ps (i + j) (t % 4294967296) hk
  have b : t / 4294967296 * 4294967296 ^ (i + (j + 1)) + t % 4294967296 * 4294967296 ^ (i + j) = t * 4294967296 ^ (i + j) := by
    rw [show i + (j + 1) = (i + j) + 1 by omega, Nat.pow_succ, ← Nat.mul_assoc, Nat.mul_right_comm, ← Nat.add_mul]
    congr 1
    omega
  have e : p * (y % 4294967296 ^ (j + 1)) * 4294967296 ^ i = p * (y % 4294967296 ^ j) * 4294967296 ^ i + p * hf y j * 4294967296 ^ (i + j) := by
    rw [mod_step, Nat.mul_add, Nat.add_mul, Nat.pow_add]
    congr 1
    rw [Nat.mul_comm (4294967296 ^ j) (hf y j), ← Nat.mul_assoc, Nat.mul_assoc, Nat.mul_comm (4294967296 ^ j)]
  have g : t * 4294967296 ^ (i + j) = c * 4294967296 ^ (i + j) + p * hf y j * 4294967296 ^ (i + j) + ps[i + j] * 4294967296 ^ (i + j) := by
    rw [ht, Nat.add_mul, Nat.add_mul, Nat.add_assoc]
  rw [e]
  omega
/-- a round without -/
theorem out_step (ps : List Nat) (x y c i : Nat) (hy : y < 2 ^ 256) (hk : i + 8 < ps.length) (hz : ps[i + 8] = 0)
    (h : val ps + c * 4294967296 ^ (i + 8) = x % 4294967296 ^ i * y + hf x i * (y % 4294967296 ^ 8) * 4294967296 ^ i) :
    val (ps.set (i + 8) c) = x % 4294967296 ^ (i + 1) * y := by
  have a := val_set ps (i + 8) c hk
  rw [hz, Nat.zero_mul, Nat.add_zero, h, Nat.mod_eq_of_lt hy] at a
  rw [a, mod_step, Nat.add_mul]
  congr 1
  rw [Nat.mul_comm (4294967296 ^ i) (hf x i), Nat.mul_right_comm]
theorem pq_le {p q : Nat} (hp : p < 4294967296) (hq : q < 4294967296) : p * q ≤ 18446744065119617025 := by
  have := Nat.mul_le_mul (Nat.le_of_lt_succ hp) (Nat.le_of_lt_succ hq)
  omega
theorem hf_low (n k : Nat) (hk : k < 8) : hf (n % 2 ^ 256) k = hf n k := by
  unfold hf
  have e : (2 : Nat) ^ 256 = 4294967296 ^ k * (4294967296 * 4294967296 ^ (7 - k)) := by
    rw [← Nat.pow_succ', ← Nat.pow_add, show k + (7 - k).succ = 8 by omega]
  rw [e, Nat.mod_mul_right_div_self, Nat.mod_mul_right_mod]
theorem hf_high (n k : Nat) : hf (n / 2 ^ 256) k = hf n (k + 8) := by
  unfold hf
  rw [show (2 : Nat) ^ 256 = 4294967296 ^ 8 by decide, Nat.div_div_eq_div_mul, ← Nat.pow_add, Nat.add_comm 8 k]
end Go.Proofs.YtioebjbjpjbodaaDoor

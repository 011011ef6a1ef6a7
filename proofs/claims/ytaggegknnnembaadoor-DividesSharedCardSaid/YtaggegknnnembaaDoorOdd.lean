/-
  divides.odd, walked. Conditions: the number is not 0; the library's table holds what its text lays.
-/
import Derived.Test.YtaggegknnnembaaDoorTz
import Derived.Test.YtaggegknnnembaaDoorDivNumber
namespace Go.Proofs.YtaggegknnnembaaDoor
open Go.RowKit
set_option linter.unusedVariables false

theorem shf_dn (a c : Nat) (ha : a < 2 ^ 256) : shf a (-(c : Int)) = a / 2 ^ c := by
  unfold shf
  split
  · have : c = 0 := by omega
    subst this
    simp [Nat.mod_eq_of_lt ha]
  · rw [show (-(-(c : Int))).toNat = c by omega]
/-- a number without its twos -/
def od (a : Nat) : Nat := a / 2 ^ tw a
theorem od_spec {a : Nat} (h0 : a ≠ 0) (ha : a < 2 ^ 256) : a = 2 ^ tw a * od a ∧ od a % 2 = 1 ∧ od a ≤ a ∧ od a < 2 ^ 256 ∧ tw a < 256 := by
  obtain ⟨m, hm, ht⟩ := tw_spec a h0 ha
  have e : od a = 2 * m + 1 := by
    unfold od
    conv => lhs; lhs; rw [hm]
    rw [Nat.mul_div_cancel_left _ (Nat.two_pow_pos _)]
  have hle : od a ≤ a := Nat.div_le_self _ _
  refine ⟨by rw [e]; exact hm, by omega, hle, by omega, ht⟩
theorem gcd_pow {x y : Nat} (n : Nat) (hx : x % 2 = 1) : Nat.gcd x (2 ^ n * y) = Nat.gcd x y := by
  induction n with
  | zero => simp
  | succ n ih => rw [Nat.pow_succ', Nat.mul_assoc, gcd_odd' hx, ih]
theorem gcd_pow' {x y : Nat} (n : Nat) (hy : y % 2 = 1) : Nat.gcd (2 ^ n * x) y = Nat.gcd x y := by rw [Nat.gcd_comm, gcd_pow n hy, Nat.gcd_comm]
theorem gcd_od {a b : Nat} (ha0 : a ≠ 0) (ha : a < 2 ^ 256) (hb0 : b ≠ 0) (hb : b < 2 ^ 256) : Nat.gcd a b = 2 ^ min (tw a) (tw b) * Nat.gcd (od a) (od b) := by
  obtain ⟨e1, o1, _⟩ := od_spec ha0 ha
  obtain ⟨e2, o2, _⟩ := od_spec hb0 hb
  generalize od a = x at *
  generalize od b = y at *
  generalize tw a = s at *
  generalize tw b = t at *
  rw [e1, e2]
  rcases Nat.le_total s t with h | h
  · rw [Nat.min_eq_left h, show 2 ^ t = 2 ^ s * 2 ^ (t - s) by rw [← Nat.pow_add]; congr 1; omega, Nat.mul_assoc, Nat.gcd_mul_left, gcd_pow _ o1]
  · rw [Nat.min_eq_right h, show 2 ^ s = 2 ^ t * 2 ^ (s - t) by rw [← Nat.pow_add]; congr 1; omega, Nat.mul_assoc, Nat.gcd_mul_left, gcd_pow' _ o2]
/-- what is common to odd numbers stays so when the less is taken away, and its twos are struck -/
theorem gcd_take {a b : Nat} (ha : a < 2 ^ 256) (hb : b % 2 = 1) (h : b < a) : Nat.gcd (od (a - b)) b = Nat.gcd a b := by
  obtain ⟨e1, _⟩ := od_spec (a := a - b) (by omega) (by omega)
  have := gcd_pow' (x := od (a - b)) (tw (a - b)) hb
  rw [← this, ← e1, gcd_less (by omega)]
theorem twos_at (a : Nat) (t : Int) {w w' : World} {l : List (Nat × Nat)} (h : Env w l w') (h0 : a ≠ 0) (ha : a < 2 ^ 256) (hT : Tab w) (ht : (tw a : Int) = t) : Calls Tryd.prog 31 #[num a] w' fun e w2 => e = .returned (.int .i64 t) ∧ Env w l w2 := by
  subst ht; exact env_of (twos_any a w' h0 ha (hT.on h.1)) h

set_option maxRecDepth 100000 in
set_option maxHeartbeats 1600000 in
theorem odd_any (a : Nat) (w : World) (h0 : a ≠ 0) (ha : a < 2 ^ 256) (hT : Tab w) : Calls Tryd.prog 32 #[num a] w fun e w' => e = .returned (num (od a)) ∧ Below w.heap.size w w' := by
  have ht := (od_spec h0 ha).2.2.2.2
  obtain ⟨t, et⟩ : ∃ t, tw a = t := ⟨_, rfl⟩
  obtain ⟨y, ey⟩ : ∃ y, od a = y := ⟨_, rfl⟩
  have ES := hid (p := shf a (-(t : Int)) = y) (by rw [shf_dn a t ha, ← et, ← ey]; rfl)
  have ET := hid (p := (tw a : Int) = (t : Int)) (by rw [et])
  rw [et] at ht
  rw [ey]
  have W1 : IntKind.i64.wrap (-(t : Int)) = -(t : Int) := IntWalk.i64_in _ (by omega)
  have H0 := hid h0
  have HA := hid ha
  have HT := hid hT
  have HL := hid ht
  clear h0 ha hT ht et ey
  have HE := hid ((((Env.refl w).new a).zero).perm (l' := [(w.heap.size, a), (w.heap.size + 1, 0)]) (by simp))
  have D := hid (show w.heap.size ≤ w.heap.size + 1 by omega)
  go_enter Tryd.func32, Tryd.ntmps32
  go_upto_region 1 with fail
  generalize (w.alloc (.cells (cls a) 24)).alloc (.cells #[.int .u64 0, .int .u64 0, .int .u64 0, .int .u64 0] 24) = w0 at *
  generalize w.heap.size + 1 = g2 at *
  generalize hg1 : w.heap.size = g1 at *
  have hs := HE.out.drew
  obtain ⟨cg1a, cg1b, cg1c, cg1d⟩ := hs.cell g1 (a) (by simp)
  have lg1 := hs.lt g1 (a) (by simp)
  obtain ⟨cg2a, cg2b, cg2c, cg2d⟩ := hs.cell g2 (0) (by simp)
  have lg2 := hs.lt g2 (0) (by simp)
  have fg2 := hs.frozen g2 (0) (by simp)
  go_region_with (first | ((go_at_call 31); (with_reducible refine (twos_at a (t : Int) (by assumption) H0.out HA.out HT.out ET.out).mono ?_); rintro e wn ⟨rfl, hs⟩; obtain ⟨cg1a, cg1b, cg1c, cg1d⟩ := hs.cell g1 (a) (by simp); have lg1 := hs.lt g1 (a) (by simp); obtain ⟨cg2a, cg2b, cg2c, cg2d⟩ := hs.cell g2 (0) (by simp); have lg2 := hs.lt g2 (0) (by simp); have fg2 := hs.frozen g2 (0) (by simp)) | ((go_at_call 33); (with_reducible refine (shift_at a y (-(t : Int)) (by assumption) HA.out (by have := HL.out; omega) (by have := HL.out; omega) ES.out).mono ?_); rintro e wn ⟨rfl, hs⟩; obtain ⟨cg1a, cg1b, cg1c, cg1d⟩ := hs.cell g1 (a) (by simp); have lg1 := hs.lt g1 (a) (by simp); obtain ⟨cg2a, cg2b, cg2c, cg2d⟩ := hs.cell g2 (0) (by simp); have lg2 := hs.lt g2 (0) (by simp); have fg2 := hs.frozen g2 (0) (by simp)))
  all_goals
    have HZ := hid (hs.set g2 0 y [] (by simp) (by rw [hg1]; exact D.out) (by simp))
    go_wp2
    clear cg1a cg1b cg1c cg1d lg1 cg2a cg2b cg2c cg2d lg2 fg2
    change bodyPost _ _ _ _ _ (fil wn g2 y)
    generalize fil wn g2 y = wz at *
    obtain ⟨k0, k1, k2, k3⟩ := HZ.out.cell g2 y (by simp)
    exact bodyPost_ret (v := num y) (by simp [results, Tryd.results32, go_sem, k0, k1, k2, k3]) rfl ⟨rfl, HZ.out.1⟩
theorem odd_at (a y : Nat) {w w' : World} {l : List (Nat × Nat)} (h : Env w l w') (h0 : a ≠ 0) (ha : a < 2 ^ 256) (hT : Tab w) (hy : od a = y) : Calls Tryd.prog 32 #[num a] w' fun e w2 => e = .returned (num y) ∧ Env w l w2 := by
  subst hy; exact env_of (odd_any a w' h0 ha (hT.on h.1)) h
end Go.Proofs.YtaggegknnnembaaDoor

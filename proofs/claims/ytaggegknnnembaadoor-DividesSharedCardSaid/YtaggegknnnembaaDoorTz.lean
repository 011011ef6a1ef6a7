/-
  math/bits.TrailingZeros64 and divides.twos, walked. Conditions: the library's table holds what its text lays.
-/
import Derived.Test.YtaggegknnnembaaDoorBox
import Derived.Laws.Bits64b
import Derived.Lib.TrailingZeros
namespace Go.Proofs.YtaggegknnnembaaDoor
open Go.RowKit
set_option linter.unusedVariables false

/-- the library's table, in its variable -/
def Tab (w : World) : Prop := ∀ j, j < 64 → w.cell? ⟨0, j, none⟩ = some (.int .u8 (Lib.deBruijn64tab.getD j 0 : Nat))
theorem Tab.lt {w : World} (h : Tab w) : 0 < w.heap.size := by
  have h0 := h 0 (by decide)
  rcases Nat.lt_or_ge 0 w.heap.size with h1 | h1
  · exact h1
  · have h2 : w.heap[0]? = none := Array.getElem?_eq_none h1
    simp [World.cell?, h2] at h0
theorem Tab.on {w w' : World} (h : Tab w) (hb : Below w.heap.size w w') : Tab w' := fun j hj => (bcell hb).1 0 j h.lt ▸ h j hj

theorem tz_key (x a : Nat) (hx : x < 18446744073709551616) (hx0 : x ≠ 0) (hlow : x &&& (18446744073709551616 - x) = a) :
    IntKind.u64.wrap (bits BinOp.and IntKind.u64 (x : Int) (IntKind.u64.wrap (-(x : Int))) * 285870213051353865) / 288230376151711744 = ((a * 285870213051353865 % 18446744073709551616 / 288230376151711744 : Nat) : Int) := by
  have e1 : IntKind.u64.wrap (-(x : Int)) = ((18446744073709551616 - x : Nat) : Int) := by rw [IntKind.wrap_u64]; omega
  rw [e1, bits_and_u64_nat x _ hx (by omega), hlow, IntKind.wrap_u64]
  omega
theorem tz_zero (w : World) : Calls Tryd.prog 56 #[.int .u64 0] w fun e w' => e = .returned (.int .i64 64) ∧ w = w' := by
  go_enter Tryd.func56, Tryd.ntmps56
  go_wp2
  go_ret
  exact ⟨rfl, rfl⟩
set_option maxHeartbeats 1000000 in
theorem tz_core (x k idx : Nat) (w : World) (hx0 : ((x : Int) == 0) = false)
    (key : IntKind.u64.wrap (bits BinOp.and IntKind.u64 (x : Int) (IntKind.u64.wrap (-(x : Int))) * 285870213051353865) / 288230376151711744 = (idx : Int))
    (hi : idx < 64) (hk : k < 64) (hcell : w.cell? ⟨0, idx, none⟩ = some (.int .u8 k)) :
    Calls Tryd.prog 56 #[.int .u64 x] w fun e w' => e = .returned (.int .i64 k) ∧ w = w' := by
  go_enter Tryd.func56, Tryd.ntmps56
  go_wp2_with (simp only [key])
  go_ret
  exact ⟨rfl, rfl⟩
theorem tz_some (x k : Nat) (w : World) (hx : x < 18446744073709551616) (hx0 : x ≠ 0) (hT : Tab w) (hk : Lib.ctz 64 x = k) : Calls Tryd.prog 56 #[.int .u64 x] w fun e w' => e = .returned (.int .i64 k) ∧ w = w' := by
  subst hk
  obtain ⟨hlow, hk⟩ := Lib.lowest_bit 64 x hx0 hx
  obtain ⟨hi, htab⟩ := Lib.deBruijn64_at _ hk
  have hcell := hT _ hi
  rw [htab] at hcell
  exact tz_core x _ _ w (by simp; omega) (tz_key x _ hx hx0 hlow) hi hk hcell

/-- how often 2 goes into a number without a rest -/
def tw (a : Nat) : Nat := Lib.ctz 256 a
theorem tw_spec (a : Nat) (h0 : a ≠ 0) (h : a < 2 ^ 256) : ∃ m, a = 2 ^ tw a * (2 * m + 1) ∧ tw a < 256 := by
  unfold tw Lib.ctz
  rw [if_neg h0]
  exact Lib.ctzFrom_spec 256 a (by omega) h
theorem two_once {t s m n : Nat} (h : 2 ^ t * (2 * m + 1) = 2 ^ s * (2 * n + 1)) : t = s := by
  rcases Nat.lt_trichotomy t s with hl | rfl | hl
  · exfalso
    have e : 2 ^ s = 2 ^ t * (2 * 2 ^ (s - t - 1)) := by rw [← Nat.pow_succ', ← Nat.pow_add]; congr 1; omega
    rw [e, Nat.mul_assoc] at h
    have := Nat.eq_of_mul_eq_mul_left (Nat.two_pow_pos t) h
    rw [Nat.mul_assoc] at this
    omega
  · rfl
  · exfalso
    have e : 2 ^ t = 2 ^ s * (2 * 2 ^ (t - s - 1)) := by rw [← Nat.pow_succ', ← Nat.pow_add]; congr 1; omega
    rw [e, Nat.mul_assoc] at h
    have := Nat.eq_of_mul_eq_mul_left (Nat.two_pow_pos s) h
    rw [Nat.mul_assoc] at this
    omega
theorem tw_of {a t m : Nat} (h : a = 2 ^ t * (2 * m + 1)) (hl : a < 2 ^ 256) : tw a = t := by
  have h0 : a ≠ 0 := by
    have : 0 < 2 ^ t * (2 * m + 1) := Nat.mul_pos (Nat.two_pow_pos t) (by omega)
    omega
  obtain ⟨n, hn, _⟩ := tw_spec a h0 hl
  exact two_once (hn.symm.trans h)
/-- a number whose lower words are 0 has its twos from the first word that is not -/
theorem tw_word {x y e : Nat} (hx : x < 18446744073709551616) (hx0 : x ≠ 0) (hl : 18446744073709551616 ^ e * (x + 18446744073709551616 * y) < 2 ^ 256) : tw (18446744073709551616 ^ e * (x + 18446744073709551616 * y)) = 64 * e + Lib.ctz 64 x ∧ Lib.ctz 64 x < 64 := by
  obtain ⟨m, hm, hk⟩ : ∃ m, x = 2 ^ Lib.ctz 64 x * (2 * m + 1) ∧ Lib.ctz 64 x < 64 := by
    unfold Lib.ctz
    rw [if_neg hx0]
    exact Lib.ctzFrom_spec 64 x (by omega) hx
  generalize Lib.ctz 64 x = k at *
  refine ⟨tw_of (m := m + 2 ^ (63 - k) * y) ?_ hl, hk⟩
  have hW : (18446744073709551616 : Nat) = 2 ^ 64 := by decide
  rw [hW, ← Nat.pow_mul, Nat.pow_add, Nat.mul_assoc]
  congr 1
  have e2 : (2 : Nat) ^ 64 = 2 ^ k * (2 * 2 ^ (63 - k)) := by rw [← Nat.pow_succ', ← Nat.pow_add]; congr 1; omega
  conv => lhs; rw [hm, e2, Nat.mul_assoc, ← Nat.mul_add]
  congr 1
  rw [Nat.mul_add 2 m, Nat.mul_assoc]
  omega

set_option maxRecDepth 100000 in
set_option maxHeartbeats 800000 in
theorem twos_0 (x0 x1 x2 x3 k : Nat) (w : World) (h0 : x0 < 18446744073709551616) (hn : x0 ≠ 0) (hT : Tab w) (hk : Lib.ctz 64 x0 = k) (hk2 : k < 64) :
    Calls Tryd.prog 31 #[.agg #[.int .u64 (x0 : Int), .int .u64 (x1 : Int), .int .u64 (x2 : Int), .int .u64 (x3 : Int)]] w fun e w' => e = .returned (.int .i64 ((64 * 0 + k : Nat) : Int)) ∧ Below w.heap.size w w' := by
  have hT2 := hid (hT.on (bal (Below.refl w.heap.size w) (.cells #[.int .u64 (x0 : Int), .int .u64 (x1 : Int), .int .u64 (x2 : Int), .int .u64 (x3 : Int)] 24)))
  have HK := hid hk
  have HN := hid hn
  have hi : ¬ ((x0 : Int) = 0) := by omega
  have i0 : ∀ w, (Instr.index 24 (.agg #[.int .u64 (x0 : Int), .int .u64 (x1 : Int), .int .u64 (x2 : Int), .int .u64 (x3 : Int)]) (.int .i64 0)).run Tryd.prog w = .ok (.int .u64 (x0 : Int)) w := fun _ => by kernel_rfl
  clear hT hk hn
  go_enter Tryd.func31, Tryd.ntmps31
  go_wp2
  refine wp_loop_rounds 5 ?_
  rw [rounds_succ]
  go_wp2_with fail
  refine (tz_some x0 k _ h0 HN.out hT2.out HK.out).mono ?_
  rintro e w' ⟨rfl, rfl⟩
  go_wp2
  go_ret
  exact ⟨by simp, bal (Below.refl _ _) _⟩
set_option maxRecDepth 100000 in
set_option maxHeartbeats 800000 in
theorem twos_1 (x1 x2 x3 k : Nat) (w : World) (h0 : x1 < 18446744073709551616) (hn : x1 ≠ 0) (hT : Tab w) (hk : Lib.ctz 64 x1 = k) (hk2 : k < 64) :
    Calls Tryd.prog 31 #[.agg #[.int .u64 0, .int .u64 (x1 : Int), .int .u64 (x2 : Int), .int .u64 (x3 : Int)]] w fun e w' => e = .returned (.int .i64 ((64 * 1 + k : Nat) : Int)) ∧ Below w.heap.size w w' := by
  have hT2 := hid (hT.on (bal (Below.refl w.heap.size w) (.cells #[.int .u64 0, .int .u64 (x1 : Int), .int .u64 (x2 : Int), .int .u64 (x3 : Int)] 24)))
  have HK := hid hk
  have HN := hid hn
  have hi : ¬ ((x1 : Int) = 0) := by omega
  have i0 : ∀ w, (Instr.index 24 (.agg #[.int .u64 0, .int .u64 (x1 : Int), .int .u64 (x2 : Int), .int .u64 (x3 : Int)]) (.int .i64 0)).run Tryd.prog w = .ok (.int .u64 0) w := fun _ => by kernel_rfl
  have i1 : ∀ w, (Instr.index 24 (.agg #[.int .u64 0, .int .u64 (x1 : Int), .int .u64 (x2 : Int), .int .u64 (x3 : Int)]) (.int .i64 1)).run Tryd.prog w = .ok (.int .u64 (x1 : Int)) w := fun _ => by kernel_rfl
  clear hT hk hn
  go_enter Tryd.func31, Tryd.ntmps31
  go_wp2
  refine wp_loop_rounds 5 ?_
  rw [rounds_succ]
  go_wp2_with fail
  refine (tz_zero _).mono ?_
  rintro e w' ⟨rfl, rfl⟩
  go_wp2
  rw [rounds_succ]
  go_wp2_with fail
  refine (tz_some x1 k _ h0 HN.out hT2.out HK.out).mono ?_
  rintro e w' ⟨rfl, rfl⟩
  go_wp2
  go_ret
  exact ⟨by simp, bal (Below.refl _ _) _⟩
set_option maxRecDepth 100000 in
set_option maxHeartbeats 800000 in
theorem twos_2 (x2 x3 k : Nat) (w : World) (h0 : x2 < 18446744073709551616) (hn : x2 ≠ 0) (hT : Tab w) (hk : Lib.ctz 64 x2 = k) (hk2 : k < 64) :
    Calls Tryd.prog 31 #[.agg #[.int .u64 0, .int .u64 0, .int .u64 (x2 : Int), .int .u64 (x3 : Int)]] w fun e w' => e = .returned (.int .i64 ((64 * 2 + k : Nat) : Int)) ∧ Below w.heap.size w w' := by
  have hT2 := hid (hT.on (bal (Below.refl w.heap.size w) (.cells #[.int .u64 0, .int .u64 0, .int .u64 (x2 : Int), .int .u64 (x3 : Int)] 24)))
  have HK := hid hk
  have HN := hid hn
  have hi : ¬ ((x2 : Int) = 0) := by omega
  have i0 : ∀ w, (Instr.index 24 (.agg #[.int .u64 0, .int .u64 0, .int .u64 (x2 : Int), .int .u64 (x3 : Int)]) (.int .i64 0)).run Tryd.prog w = .ok (.int .u64 0) w := fun _ => by kernel_rfl
  have i1 : ∀ w, (Instr.index 24 (.agg #[.int .u64 0, .int .u64 0, .int .u64 (x2 : Int), .int .u64 (x3 : Int)]) (.int .i64 1)).run Tryd.prog w = .ok (.int .u64 0) w := fun _ => by kernel_rfl
  have i2 : ∀ w, (Instr.index 24 (.agg #[.int .u64 0, .int .u64 0, .int .u64 (x2 : Int), .int .u64 (x3 : Int)]) (.int .i64 2)).run Tryd.prog w = .ok (.int .u64 (x2 : Int)) w := fun _ => by kernel_rfl
  clear hT hk hn
  go_enter Tryd.func31, Tryd.ntmps31
  go_wp2
  refine wp_loop_rounds 5 ?_
  rw [rounds_succ]
  go_wp2_with fail
  refine (tz_zero _).mono ?_
  rintro e w' ⟨rfl, rfl⟩
  go_wp2
  rw [rounds_succ]
  go_wp2_with fail
  refine (tz_zero _).mono ?_
  rintro e w' ⟨rfl, rfl⟩
  go_wp2
  rw [rounds_succ]
  go_wp2_with fail
  refine (tz_some x2 k _ h0 HN.out hT2.out HK.out).mono ?_
  rintro e w' ⟨rfl, rfl⟩
  go_wp2
  go_ret
  exact ⟨by simp, bal (Below.refl _ _) _⟩
set_option maxRecDepth 100000 in
set_option maxHeartbeats 800000 in
theorem twos_3 (x3 k : Nat) (w : World) (h0 : x3 < 18446744073709551616) (hn : x3 ≠ 0) (hT : Tab w) (hk : Lib.ctz 64 x3 = k) (hk2 : k < 64) :
    Calls Tryd.prog 31 #[.agg #[.int .u64 0, .int .u64 0, .int .u64 0, .int .u64 (x3 : Int)]] w fun e w' => e = .returned (.int .i64 ((64 * 3 + k : Nat) : Int)) ∧ Below w.heap.size w w' := by
  have hT2 := hid (hT.on (bal (Below.refl w.heap.size w) (.cells #[.int .u64 0, .int .u64 0, .int .u64 0, .int .u64 (x3 : Int)] 24)))
  have HK := hid hk
  have HN := hid hn
  have hi : ¬ ((x3 : Int) = 0) := by omega
  have i0 : ∀ w, (Instr.index 24 (.agg #[.int .u64 0, .int .u64 0, .int .u64 0, .int .u64 (x3 : Int)]) (.int .i64 0)).run Tryd.prog w = .ok (.int .u64 0) w := fun _ => by kernel_rfl
  have i1 : ∀ w, (Instr.index 24 (.agg #[.int .u64 0, .int .u64 0, .int .u64 0, .int .u64 (x3 : Int)]) (.int .i64 1)).run Tryd.prog w = .ok (.int .u64 0) w := fun _ => by kernel_rfl
  have i2 : ∀ w, (Instr.index 24 (.agg #[.int .u64 0, .int .u64 0, .int .u64 0, .int .u64 (x3 : Int)]) (.int .i64 2)).run Tryd.prog w = .ok (.int .u64 0) w := fun _ => by kernel_rfl
  have i3 : ∀ w, (Instr.index 24 (.agg #[.int .u64 0, .int .u64 0, .int .u64 0, .int .u64 (x3 : Int)]) (.int .i64 3)).run Tryd.prog w = .ok (.int .u64 (x3 : Int)) w := fun _ => by kernel_rfl
  clear hT hk hn
  go_enter Tryd.func31, Tryd.ntmps31
  go_wp2
  refine wp_loop_rounds 5 ?_
  rw [rounds_succ]
  go_wp2_with fail
  refine (tz_zero _).mono ?_
  rintro e w' ⟨rfl, rfl⟩
  go_wp2
  rw [rounds_succ]
  go_wp2_with fail
  refine (tz_zero _).mono ?_
  rintro e w' ⟨rfl, rfl⟩
  go_wp2
  rw [rounds_succ]
  go_wp2_with fail
  refine (tz_zero _).mono ?_
  rintro e w' ⟨rfl, rfl⟩
  go_wp2
  rw [rounds_succ]
  go_wp2_with fail
  refine (tz_some x3 k _ h0 HN.out hT2.out HK.out).mono ?_
  rintro e w' ⟨rfl, rfl⟩
  go_wp2
  go_ret
  exact ⟨by simp, bal (Below.refl _ _) _⟩
theorem twos_any (a : Nat) (w : World) (h0 : a ≠ 0) (ha : a < 2 ^ 256) (hT : Tab w) : Calls Tryd.prog 31 #[num a] w fun e w' => e = .returned (.int .i64 (tw a : Int)) ∧ Below w.heap.size w w' := by
  obtain ⟨x0, x1, x2, x3, rfl, l0, l1, l2, l3⟩ := v4_mk a ha
  rw [← num_of l0 l1 l2 l3]
  unfold v4 at *
  by_cases z0 : x0 = 0
  · subst z0
    by_cases z1 : x1 = 0
    · subst z1
      by_cases z2 : x2 = 0
      · subst z2
        have e : 0 + 18446744073709551616 * (0 + 18446744073709551616 * (0 + 18446744073709551616 * x3)) = 18446744073709551616 ^ 3 * (x3 + 18446744073709551616 * 0) := by
          rw [show (18446744073709551616 : Nat) ^ 3 = 6277101735386680763835789423207666416102355444464034512896 by decide]; omega
        rw [e] at h0 ha ⊢
        have hn : x3 ≠ 0 := by rintro rfl; simp at h0
        obtain ⟨e1, e2⟩ := tw_word l3 hn ha
        rw [e1]
        exact twos_3 x3 _ w l3 hn hT rfl e2
      · have e : 0 + 18446744073709551616 * (0 + 18446744073709551616 * (x2 + 18446744073709551616 * x3)) = 18446744073709551616 ^ 2 * (x2 + 18446744073709551616 * x3) := by
          rw [show (18446744073709551616 : Nat) ^ 2 = 340282366920938463463374607431768211456 by decide]; omega
        rw [e] at h0 ha ⊢
        obtain ⟨e1, e2⟩ := tw_word l2 z2 ha
        rw [e1]
        exact twos_2 x2 x3 _ w l2 z2 hT rfl e2
    · have e : 0 + 18446744073709551616 * (x1 + 18446744073709551616 * (x2 + 18446744073709551616 * x3)) = 18446744073709551616 ^ 1 * (x1 + 18446744073709551616 * (x2 + 18446744073709551616 * x3)) := by
        rw [Nat.pow_one, Nat.zero_add]
      rw [e] at h0 ha ⊢
      obtain ⟨e1, e2⟩ := tw_word l1 z1 ha
      rw [e1]
      exact twos_1 x1 x2 x3 _ w l1 z1 hT rfl e2
  · have e : x0 + 18446744073709551616 * (x1 + 18446744073709551616 * (x2 + 18446744073709551616 * x3)) = 18446744073709551616 ^ 0 * (x0 + 18446744073709551616 * (x1 + 18446744073709551616 * (x2 + 18446744073709551616 * x3))) := by
      rw [Nat.pow_zero, Nat.one_mul]
    rw [e] at h0 ha ⊢
    obtain ⟨e1, e2⟩ := tw_word l0 z0 ha
    rw [e1]
    exact twos_0 x0 x1 x2 x3 _ w l0 z0 hT rfl e2
end Go.Proofs.YtaggegknnnembaaDoor

/-
  divides.Div, walked: how often, and what is left. Conditions: none.
-/
import Derived.Test.YtioebjbjpjbodaaDoorPkBring
namespace Go.Proofs.YtioebjbjpjbodaaDoor
open Go.RowKit
set_option linter.unusedVariables false

theorem shf_down (a c : Nat) (ha : a < 2 ^ 256) : shf a (-(c : Int)) = a / 2 ^ c := by
  unfold shf
  split
  · have : c = 0 := by omega
    subst this
    simp [Nat.mod_eq_of_lt ha]
  · rw [show (-(-(c : Int))).toNat = c by omega]
theorem div_first {a b : Nat} (hb : 0 < b) : a / 2 ^ (nbits a + 1 - nbits b) < b := by
  have h1 := nbits_lt a
  have h2 := nbits_le b hb
  have h3 := nbits_pos b hb
  refine Nat.lt_of_lt_of_le ?_ h2
  rw [Nat.div_lt_iff_lt_mul (Nat.two_pow_pos _), ← Nat.pow_add]
  refine Nat.lt_of_lt_of_le h1 (Nat.pow_le_pow_right (by omega) ?_)
  omega
theorem bring_b (r a c m q s : Nat) (w : World) (hr : r < m) (hm : m < 2 ^ 256) (ha : a < 2 ^ 256) (hc : c ≤ 256) (hq : (r * 2 ^ c + a % 2 ^ c) / m = q) (hs : (r * 2 ^ c + a % 2 ^ c) % m = s) :
    Calls Tryd.prog 57 #[num r, num a, .int .i64 (c : Int), num m] w fun e w' => e = .returned (.tuple #[num q, num s]) ∧ Below w.heap.size w w' := by
  subst hq; subst hs; exact bring_any r a c m w hr hm ha hc
theorem eq_none (x : Nat) (hx : x < 2 ^ 256) (h : x ≠ 0) (w : World) : (Op.equalIn 10000 24 (num x) (.agg #[.int .u64 0, .int .u64 0, .int .u64 0, .int .u64 0])).run Tryd.prog w = .ok false w := by
  rw [num_zero]; exact eq_no x 0 hx (by decide) h w
theorem eq_none_yes (w : World) : (Op.equalIn 10000 24 (num 0) (.agg #[.int .u64 0, .int .u64 0, .int .u64 0, .int .u64 0])).run Tryd.prog w = .ok true w := by
  rw [num_zero]; exact eq_yes 0 0 rfl w

set_option maxRecDepth 100000 in
set_option maxHeartbeats 3200000 in
theorem div_none (a : Nat) (w : World) : Calls Tryd.prog 56 #[num a, num 0] w fun e w' => e = .returned (.tuple #[num 0, num 0, .int .i64 1]) ∧ Below w.heap.size w w' := by
  have q0 := eq_none_yes
  go_enter Tryd.func56, Tryd.ntmps56
  go_wp2
  refine bodyPost_ret (v := .tuple #[.agg #[.int .u64 0, .int .u64 0, .int .u64 0, .int .u64 0], .agg #[.int .u64 0, .int .u64 0, .int .u64 0, .int .u64 0], .int .i64 1]) (by simp [results, Tryd.results56, go_sem]) rfl ⟨by rw [num_zero], ?_⟩
  repeat (first | exact Below.refl _ _ | refine Below.drew ?_ | refine bal ?_ _)

set_option maxRecDepth 100000 in
set_option maxHeartbeats 3200000 in
theorem div_some (a b : Nat) (w : World) (ha : a < 2 ^ 256) (hb : b < 2 ^ 256) (h0 : b ≠ 0) : Calls Tryd.prog 56 #[num a, num b] w fun e w' => e = .returned (.tuple #[num (a / b), num (a % b), .int .i64 0]) ∧ Below w.heap.size w w' := by
  have qb := eq_none b hb h0
  obtain ⟨x, hx⟩ : ∃ x, nbits a = x := ⟨_, rfl⟩
  obtain ⟨y, hy⟩ : ∃ y, nbits b = y := ⟨_, rfl⟩
  have x1 := nbits_up a 256 ha
  have y1 := nbits_up b 256 hb
  have y2 := nbits_pos b (by omega)
  have hf := div_first (a := a) (b := b) (by omega)
  rw [hx] at x1 hf
  rw [hy] at y1 y2 hf
  obtain ⟨c, hc⟩ : ∃ c, x + 1 - y = c := ⟨_, rfl⟩
  rw [hc] at hf
  obtain ⟨r, er⟩ : ∃ r, a / 2 ^ c = r := ⟨_, rfl⟩
  rw [er] at hf
  have K1 := hid (p := (r * 2 ^ c + a % 2 ^ c) / b = a / b) (by rw [← er, down_up])
  have K2 := hid (p := (r * 2 ^ c + a % 2 ^ c) % b = a % b) (by rw [← er, down_up])
  have HX := hid (p := (nbits a : Int) = (x : Int)) (by rw [hx])
  have HY := hid (p := (nbits b : Int) = (y : Int)) (by rw [hy])
  have HR := hid (p := shf a (-(c : Int)) = r) (by rw [shf_down a c ha, er])
  have HF := hid hf
  have HA := hid ha
  have HB := hid hb
  have HC := hid (show c ≤ 256 by omega)
  have W1 : IntKind.i64.wrap ((x : Int) - (y : Int)) = (x : Int) - (y : Int) := IntWalk.i64_in _ (by omega)
  have W2 : IntKind.i64.wrap ((x : Int) - (y : Int) + 1) = (x : Int) - (y : Int) + 1 := IntWalk.i64_in _ (by omega)
  have W3 : max ((x : Int) - (y : Int) + 1) 0 = (c : Int) := by omega
  have W4 : IntKind.i64.wrap (-(c : Int)) = -(c : Int) := IntWalk.i64_in _ (by omega)
  have W5 : (0 : Int) ≤ c := by omega
  clear hx hy x1 y1 y2 hf hc er ha hb h0
  have HE := hid ((((((Env.refl w).new a).new b).zero).zero).perm (l' := [(w.heap.size, a), (w.heap.size + 1, b), (w.heap.size + 1 + 1, 0), (w.heap.size + 1 + 1 + 1, 0)]) (by simp))
  have D := hid (show w.heap.size ≠ w.heap.size + 1 + 1 ∧ w.heap.size ≠ w.heap.size + 1 + 1 + 1 ∧ w.heap.size + 1 ≠ w.heap.size + 1 + 1 ∧ w.heap.size + 1 ≠ w.heap.size + 1 + 1 + 1 ∧ w.heap.size + 1 + 1 ≠ w.heap.size + 1 + 1 + 1 ∧ w.heap.size ≤ w.heap.size + 1 + 1 ∧ w.heap.size ≤ w.heap.size + 1 + 1 + 1 by omega)
  go_enter Tryd.func56, Tryd.ntmps56
  go_upto_region 3 with fail
  generalize (((w.alloc (.cells (cls a) 24)).alloc (.cells (cls b) 24)).alloc (.cells #[.int .u64 0, .int .u64 0, .int .u64 0, .int .u64 0] 24)).alloc (.cells #[.int .u64 0, .int .u64 0, .int .u64 0, .int .u64 0] 24) = w0 at *
  generalize w.heap.size + 1 + 1 + 1 = g5 at *
  generalize w.heap.size + 1 + 1 = g4 at *
  generalize w.heap.size + 1 = g3 at *
  generalize hg2 : w.heap.size = g2 at *
  obtain ⟨cg2a, cg2b, cg2c, cg2d⟩ := HE.out.cell g2 (a) (by simp)
  have lg2 := HE.out.lt g2 (a) (by simp)
  obtain ⟨cg3a, cg3b, cg3c, cg3d⟩ := HE.out.cell g3 (b) (by simp)
  have lg3 := HE.out.lt g3 (b) (by simp)
  go_cut [7] (fun s7 wx => s7 = .int .i64 (c : Int) ∧ Hid (Env w [(g2, a), (g3, b), (g4, 0), (g5, 0)] wx))
  case first =>
    have hs := HE.out.drew
    go_region_with (first | ((go_at_call 12); (with_reducible refine (bits_at a (x : Int) (by assumption) HA.out HX.out).mono ?_); rintro e wn ⟨rfl, hs⟩; obtain ⟨cg2a, cg2b, cg2c, cg2d⟩ := hs.cell g2 (a) (by simp); have lg2 := hs.lt g2 (a) (by simp); obtain ⟨cg3a, cg3b, cg3c, cg3d⟩ := hs.cell g3 (b) (by simp); have lg3 := hs.lt g3 (b) (by simp)) | ((go_at_call 12); (with_reducible refine (bits_at b (y : Int) (by assumption) HB.out HY.out).mono ?_); rintro e wn ⟨rfl, hs⟩; obtain ⟨cg2a, cg2b, cg2c, cg2d⟩ := hs.cell g2 (a) (by simp); have lg2 := hs.lt g2 (a) (by simp); obtain ⟨cg3a, cg3b, cg3c, cg3d⟩ := hs.cell g3 (b) (by simp); have lg3 := hs.lt g3 (b) (by simp)))
    all_goals
      go_wp2_with fail
      go_meet
      exact ⟨rfl, hid hs⟩
  case rest =>
    obtain ⟨rfl, H1⟩ := hcut
    clear cg2a cg2b cg2c cg2d lg2 cg3a cg3b cg3c cg3d lg3 HE
    go_upto_region 4 with fail
    obtain ⟨cg2a, cg2b, cg2c, cg2d⟩ := H1.out.cell g2 (a) (by simp)
    have lg2 := H1.out.lt g2 (a) (by simp)
    obtain ⟨cg3a, cg3b, cg3c, cg3d⟩ := H1.out.cell g3 (b) (by simp)
    have lg3 := H1.out.lt g3 (b) (by simp)
    obtain ⟨cg4a, cg4b, cg4c, cg4d⟩ := H1.out.cell g4 (0) (by simp)
    have lg4 := H1.out.lt g4 (0) (by simp)
    obtain ⟨cg5a, cg5b, cg5c, cg5d⟩ := H1.out.cell g5 (0) (by simp)
    have lg5 := H1.out.lt g5 (0) (by simp)
    have fg4 := H1.out.frozen g4 (0) (by simp)
    have fg5 := H1.out.frozen g5 (0) (by simp)
    go_cut [7] (fun s7 wx => s7 = .int .i64 (c : Int) ∧ Hid (Env w [(g5, a % b), (g4, a / b)] wx))
    case first =>
      have hs := H1.out.drew
      obtain ⟨d1, d2, d3, d4, d5, d6, d7⟩ := D.out
      go_region_with (first | ((go_at_call 69); (with_reducible refine (shift_at a r (-(c : Int)) (by assumption) HA.out (by have := HC.out; omega) (by have := HC.out; omega) HR.out).mono ?_); rintro e wn ⟨rfl, hs⟩; obtain ⟨cg2a, cg2b, cg2c, cg2d⟩ := hs.cell g2 (a) (by simp); have lg2 := hs.lt g2 (a) (by simp); obtain ⟨cg3a, cg3b, cg3c, cg3d⟩ := hs.cell g3 (b) (by simp); have lg3 := hs.lt g3 (b) (by simp); obtain ⟨cg4a, cg4b, cg4c, cg4d⟩ := hs.cell g4 (0) (by simp); have lg4 := hs.lt g4 (0) (by simp); obtain ⟨cg5a, cg5b, cg5c, cg5d⟩ := hs.cell g5 (0) (by simp); have lg5 := hs.lt g5 (0) (by simp); have fg4 := hs.frozen g4 (0) (by simp); have fg5 := hs.frozen g5 (0) (by simp)) | ((go_at_call 57); (with_reducible refine (env_of (bring_b r a c b (a / b) (a % b) _ HF.out HB.out HA.out HC.out K1.out K2.out) (by assumption)).mono ?_); rintro e wn ⟨rfl, hs⟩; obtain ⟨cg2a, cg2b, cg2c, cg2d⟩ := hs.cell g2 (a) (by simp); have lg2 := hs.lt g2 (a) (by simp); obtain ⟨cg3a, cg3b, cg3c, cg3d⟩ := hs.cell g3 (b) (by simp); have lg3 := hs.lt g3 (b) (by simp); obtain ⟨cg4a, cg4b, cg4c, cg4d⟩ := hs.cell g4 (0) (by simp); have lg4 := hs.lt g4 (0) (by simp); obtain ⟨cg5a, cg5b, cg5c, cg5d⟩ := hs.cell g5 (0) (by simp); have lg5 := hs.lt g5 (0) (by simp); have fg4 := hs.frozen g4 (0) (by simp); have fg5 := hs.frozen g5 (0) (by simp)))
      all_goals
        go_wp2_with fail
        go_meet
        exact ⟨rfl, hid ((hs.set g4 0 (a / b) [(g5, 0)] (by simp) (by omega) (by simp; exact Ne.symm d5)).set g5 0 (a % b) [(g4, a / b)] (by simp) (by omega) (by simp; exact d5))⟩
    case rest =>
      obtain ⟨rfl, H2⟩ := hcut
      clear cg2a cg2b cg2c cg2d lg2 cg3a cg3b cg3c cg3d lg3 cg4a cg4b cg4c cg4d lg4 cg5a cg5b cg5c cg5d lg5 fg4 fg5 H1
      obtain ⟨d1, d2, d3, d4, d5, d6, d7⟩ := D.out
      have n1 : (g4 = g5) = False := eq_false d5
      have n2 : (g5 = g4) = False := eq_false (Ne.symm d5)
      obtain ⟨cg4a, cg4b, cg4c, cg4d⟩ := H2.out.cell g4 (a / b) (by simp)
      have lg4 := H2.out.lt g4 (a / b) (by simp)
      obtain ⟨cg5a, cg5b, cg5c, cg5d⟩ := H2.out.cell g5 (a % b) (by simp)
      have lg5 := H2.out.lt g5 (a % b) (by simp)
      have fg4 := H2.out.frozen g4 (a / b) (by simp)
      have fg5 := H2.out.frozen g5 (a % b) (by simp)
      have HZ := hid ((H2.out.set g4 (a / b) (a / b) [(g5, a % b)] (by simp) (by omega) (by simp; exact Ne.symm d5)).set g5 (a % b) (a % b) [(g4, a / b)] (by simp) (by omega) (by simp; exact d5))
      go_wp2
      go_region
      all_goals
        go_wp2
        clear cg4a cg4b cg4c cg4d lg4 cg5a cg5b cg5c cg5d lg5 fg4 fg5
        change bodyPost _ _ _ _ _ (fil (fil wc g4 (a / b)) g5 (a % b)).drew
        generalize fil (fil wc g4 (a / b)) g5 (a % b) = wz at *
        obtain ⟨k0, k1, k2, k3⟩ := HZ.out.cell g4 (a / b) (by simp)
        obtain ⟨j0, j1, j2, j3⟩ := HZ.out.cell g5 (a % b) (by simp)
        exact bodyPost_ret (v := .tuple #[num (a / b), num (a % b), .int .i64 0]) (by simp [results, Tryd.results56, go_sem, k0, k1, k2, k3, j0, j1, j2, j3]) rfl ⟨rfl, HZ.out.1.drew⟩
end Go.Proofs.YtioebjbjpjbodaaDoor

/-
  burrowlaw02.LimbsSquares, walked: it answers true at any two long numbers. Conditions: none.
-/
import Derived.Test.YtmhpeeicclbcmaaAlive
import Derived.Test.YtmhpeeicclbcmaaFacts
namespace Go.Proofs.Ytmhpeeicclbcmaa
open Go.RowKit
set_option linter.unusedVariables false

set_option maxRecDepth 100000 in
set_option maxHeartbeats 1600000 in
theorem squares_any (a b : Nat) (w : World) (ha : a < 2 ^ 256) (hb : b < 2 ^ 256) : Calls Try.prog 7 #[num a, num b] w fun e w' => e = .returned (.bool true) ∧ Below w.heap.size w w' := by
  have HA := hid ha
  have HB := hid hb
  obtain ⟨lo1, e1, n1⟩ : ∃ lo1, Hid (a * a % 2 ^ 256 = lo1) ∧ Hid (lo1 < 2 ^ 256) := ⟨_, hid rfl, hid (Nat.mod_lt _ (Nat.two_pow_pos 256))⟩
  obtain ⟨hi1, e2⟩ : ∃ hi1, Hid (a * a / 2 ^ 256 = hi1) := ⟨_, hid rfl⟩
  obtain ⟨lo2, e3, n3⟩ : ∃ lo2, Hid (b * b % 2 ^ 256 = lo2) ∧ Hid (lo2 < 2 ^ 256) := ⟨_, hid rfl, hid (Nat.mod_lt _ (Nat.two_pow_pos 256))⟩
  obtain ⟨hi2, e4⟩ : ∃ hi2, Hid (b * b / 2 ^ 256 = hi2) := ⟨_, hid rfl⟩
  obtain ⟨k, e5⟩ : ∃ k : Int, Hid ((lent lo1 lo2 : Int) = k) := ⟨_, hid rfl⟩
  obtain ⟨s, e6, n6⟩ : ∃ s, Hid ((a + b) % 2 ^ 256 = s) ∧ Hid (s < 2 ^ 256) := ⟨_, hid rfl, hid (Nat.mod_lt _ (Nat.two_pow_pos 256))⟩
  obtain ⟨k2, e7⟩ : ∃ k : Int, Hid ((((a + b) / 2 ^ 256 : Nat) : Int) = k) := ⟨_, hid rfl⟩
  obtain ⟨d, e8, n8⟩ : ∃ d, Hid (dif a b = d) ∧ Hid (d < 2 ^ 256) := ⟨_, hid rfl, hid (dif_lt ha hb)⟩
  obtain ⟨k3, e9⟩ : ∃ k : Int, Hid ((lent a b : Int) = k) := ⟨_, hid rfl⟩
  obtain ⟨r, e10⟩ : ∃ r, Hid (dif lo1 lo2 = r) := ⟨_, hid rfl⟩
  obtain ⟨hi3, e12⟩ : ∃ hi, Hid (s * d / 2 ^ 256 = hi) := ⟨_, hid rfl⟩
  have e11 : Hid (s * d % 2 ^ 256 = r) := hid (by rw [← e10.out, ← e1.out, ← e3.out, ← e6.out, ← e8.out, dif_mod (Nat.mod_lt _ (Nat.two_pow_pos 256)) (Nat.mod_lt _ (Nat.two_pow_pos 256)), dif_mod ha hb]; exact (squares ha hb).symm)
  clear ha hb
  have H0 := hid ((Env.refl w).new2 a b)
  go_enter Try.func7, Try.ntmps7
  go_wp2_with fail
  generalize (w.alloc (.cells (cls a) 24)).alloc (.cells (cls b) 24) = w0 at *
  generalize w.heap.size + 1 = gb at *
  generalize w.heap.size = ga at *
  refine (mul_at a a lo1 hi1 H0.out HA.out HA.out e1.out e2.out).mono ?_
  rintro e w1 ⟨rfl, h⟩
  have H1 := hid h
  clear h H0
  obtain ⟨c0x1a, c0x1b, c0x1c, c0x1d⟩ := H1.out.cell (gb) (b) (by simp)
  have c0x1l := H1.out.lt (gb) (b) (by simp)
  have c0x1m := Nat.le_of_lt c0x1l
  go_wp2_with fail
  clear c0x1a c0x1b c0x1c c0x1d c0x1l c0x1m
  have H1b := hid (H1.out.new2 lo1 hi1)
  clear H1
  generalize (w1.alloc (.cells (cls lo1) 24)).alloc (.cells (cls hi1) 24) = w1b at *
  generalize w1.heap.size + 1 = g1s at *
  generalize w1.heap.size = g1 at *
  refine (mul_at b b lo2 hi2 H1b.out HB.out HB.out e3.out e4.out).mono ?_
  rintro e w2 ⟨rfl, h⟩
  have H2 := hid h
  clear h H1b
  obtain ⟨c0x2a, c0x2b, c0x2c, c0x2d⟩ := H2.out.cell (g1) (lo1) (by simp)
  have c0x2l := H2.out.lt (g1) (lo1) (by simp)
  have c0x2m := Nat.le_of_lt c0x2l
  go_wp2_with fail
  clear c0x2a c0x2b c0x2c c0x2d c0x2l c0x2m
  have H2b := hid (H2.out.new2 lo2 hi2)
  clear H2
  generalize (w2.alloc (.cells (cls lo2) 24)).alloc (.cells (cls hi2) 24) = w2b at *
  generalize w2.heap.size + 1 = g2s at *
  generalize w2.heap.size = g2 at *
  refine (sub_at lo1 lo2 r k H2b.out n1.out n3.out e10.out e5.out).mono ?_
  rintro e w3 ⟨rfl, h⟩
  have H3 := hid h
  clear h H2b
  obtain ⟨c0x3a, c0x3b, c0x3c, c0x3d⟩ := H3.out.cell (ga) (a) (by simp)
  have c0x3l := H3.out.lt (ga) (a) (by simp)
  have c0x3m := Nat.le_of_lt c0x3l
  obtain ⟨c6x3a, c6x3b, c6x3c, c6x3d⟩ := H3.out.cell (gb) (b) (by simp)
  have c6x3l := H3.out.lt (gb) (b) (by simp)
  have c6x3m := Nat.le_of_lt c6x3l
  go_wp2_with fail
  clear c0x3a c0x3b c0x3c c0x3d c0x3l c0x3m c6x3a c6x3b c6x3c c6x3d c6x3l c6x3m
  have H3b := hid (H3.out.new r)
  clear H3
  generalize w3.alloc (.cells (cls r) 24) = w3b at *
  generalize w3.heap.size = g3 at *
  refine (add_at a b s k2 H3b.out HA.out HB.out e6.out e7.out).mono ?_
  rintro e w4 ⟨rfl, h⟩
  have H4 := hid h
  clear h H3b
  obtain ⟨c0x4a, c0x4b, c0x4c, c0x4d⟩ := H4.out.cell (ga) (a) (by simp)
  have c0x4l := H4.out.lt (ga) (a) (by simp)
  have c0x4m := Nat.le_of_lt c0x4l
  obtain ⟨c6x4a, c6x4b, c6x4c, c6x4d⟩ := H4.out.cell (gb) (b) (by simp)
  have c6x4l := H4.out.lt (gb) (b) (by simp)
  have c6x4m := Nat.le_of_lt c6x4l
  go_wp2_with fail
  clear c0x4a c0x4b c0x4c c0x4d c0x4l c0x4m c6x4a c6x4b c6x4c c6x4d c6x4l c6x4m
  have H4b := hid (H4.out.new s)
  clear H4
  generalize w4.alloc (.cells (cls s) 24) = w4b at *
  generalize w4.heap.size = g4 at *
  refine (sub_at a b d k3 H4b.out HA.out HB.out e8.out e9.out).mono ?_
  rintro e w5 ⟨rfl, h⟩
  have H5 := hid h
  clear h H4b
  obtain ⟨c0x5a, c0x5b, c0x5c, c0x5d⟩ := H5.out.cell (g4) (s) (by simp)
  have c0x5l := H5.out.lt (g4) (s) (by simp)
  have c0x5m := Nat.le_of_lt c0x5l
  go_wp2_with fail
  clear c0x5a c0x5b c0x5c c0x5d c0x5l c0x5m
  have H5b := hid (H5.out.new d)
  clear H5
  generalize w5.alloc (.cells (cls d) 24) = w5b at *
  generalize w5.heap.size = g5 at *
  refine (mul_at s d r hi3 H5b.out n6.out n8.out e11.out e12.out).mono ?_
  rintro e w6 ⟨rfl, h⟩
  have H6 := hid h
  clear h H5b
  go_wp2_with fail
  have H6b := hid (H6.out.new2 r hi3)
  clear H6
  generalize (w6.alloc (.cells (cls r) 24)).alloc (.cells (cls hi3) 24) = w6b at *
  generalize w6.heap.size + 1 = g6s at *
  generalize w6.heap.size = g6 at *
  refine (alive_at H6b.out).mono ?_
  rintro e w7 ⟨rfl, h⟩
  have H7 := hid h
  clear h H6b
  obtain ⟨c0x7a, c0x7b, c0x7c, c0x7d⟩ := H7.out.cell (g3) (r) (by simp)
  have c0x7l := H7.out.lt (g3) (r) (by simp)
  have c0x7m := Nat.le_of_lt c0x7l
  obtain ⟨c6x7a, c6x7b, c6x7c, c6x7d⟩ := H7.out.cell (g6) (r) (by simp)
  have c6x7l := H7.out.lt (g6) (r) (by simp)
  have c6x7m := Nat.le_of_lt c6x7l
  have f12x7 := eq_yes r r rfl
  go_wp2
  go_ret
  exact ⟨rfl, H7.out.1⟩
end Go.Proofs.Ytmhpeeicclbcmaa

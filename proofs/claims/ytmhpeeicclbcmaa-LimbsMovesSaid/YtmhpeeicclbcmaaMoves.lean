/-
  burrowlaw02.LimbsMoves, walked: it answers true at any long number and any two bytes. Conditions: none.
-/
import Derived.Test.YtmhpeeicclbcmaaAlive
import Derived.Test.YtmhpeeicclbcmaaFacts
namespace Go.Proofs.Ytmhpeeicclbcmaa
open Go.RowKit
set_option linter.unusedVariables false

theorem shf_nat (a m : Nat) : shf a (m : Int) = a * 2 ^ m % 2 ^ 256 := by unfold shf; rw [if_pos (by omega), Int.toNat_natCast]
theorem shf_neg (a m : Nat) (ha : a < 2 ^ 256) : shf a (-(m : Int)) = a / 2 ^ m := by
  unfold shf
  by_cases h : m = 0
  · subst h
    rw [if_pos (by omega), show (-((0 : Nat) : Int)).toNat = 0 from rfl, Nat.pow_zero, Nat.mul_one, Nat.div_one]
    exact Nat.mod_eq_of_lt ha
  · rw [if_neg (by omega), show (-(-(m : Int))).toNat = m by omega]
theorem shf_up_up (a m n : Nat) : shf (shf a (m : Int)) (n : Int) = shf a ((m : Int) + (n : Int)) := by
  rw [shf_nat, shf_nat, ← Int.natCast_add, shf_nat, up_up]
theorem shf_down_down (a m n : Nat) (ha : a < 2 ^ 256) : shf (shf a (-(m : Int))) (-(n : Int)) = shf a (-(m : Int) - (n : Int)) := by
  rw [shf_neg a m ha, shf_neg _ n (Nat.lt_of_le_of_lt (Nat.div_le_self _ _) ha), show -(m : Int) - (n : Int) = -((m + n : Nat) : Int) by omega, shf_neg a (m + n) ha, down_down]
theorem shf_one (a : Nat) : shf a 1 = (a + a) % 2 ^ 256 := by
  have := shf_nat a 1
  rw [Nat.pow_one, Nat.mul_two] at this
  exact this
theorem bi_top (a : Nat) (ha : a < 2 ^ 256) : bi a 255 = (a + a) / 2 ^ 256 := by
  unfold bi bitAt
  rw [if_neg (by decide), show (255 : Int).toNat = 255 from rfl, show (2 : Nat) ^ 255 = 57896044618658097711785492504343953926634992332820282019728792003956564819968 by decide]
  rw [p256] at *
  omega
theorem left_low (a m : Nat) (ha : a < 2 ^ 256) (hm : m < 256) : dif a (shf (shf a (-(m : Int))) (m : Int)) = a % 2 ^ m := by
  rw [shf_neg a m ha, shf_nat]
  have h := down_up a m
  have h2 : a / 2 ^ m * 2 ^ m < 2 ^ 256 := by omega
  rw [Nat.mod_eq_of_lt h2]
  unfold dif
  rw [if_neg (by omega)]
  omega
theorem shf_cut (a m : Nat) (hm : m < 256) : shf (shf a (256 - (m : Int))) ((m : Int) - 256) = a % 2 ^ m := by
  rw [show (256 - (m : Int)) = ((256 - m : Nat) : Int) by omega, shf_nat, show (m : Int) - 256 = -((256 - m : Nat) : Int) by omega, shf_neg _ _ (Nat.mod_lt _ (Nat.two_pow_pos 256))]
  exact up_down a m 256 (by omega)

set_option maxRecDepth 100000 in
set_option maxHeartbeats 3200000 in
theorem movesLaw_any (a m n : Nat) (w : World) (ha : a < 2 ^ 256) (hm : m < 256) (hn : n < 256) : Calls Try.prog 9 #[num a, .int .u8 (m : Int), .int .u8 (n : Int)] w fun e w' => e = .returned (.bool true) ∧ Below w.heap.size w w' := by
  have HA := hid ha
  have hm0 : (m : Int) < 256 := by omega
  have hn0 : (n : Int) < 256 := by omega
  obtain ⟨u1, e1, n1⟩ : ∃ y, Hid (shf a (m : Int) = y) ∧ Hid (y < 2 ^ 256) := ⟨_, hid rfl, hid (shf_lt _ _ ha)⟩
  obtain ⟨u2, e2, n2⟩ : ∃ y, Hid (shf u1 (n : Int) = y) ∧ Hid (y < 2 ^ 256) := ⟨_, hid rfl, hid (shf_lt _ _ n1.out)⟩
  obtain ⟨d1, e3, n3⟩ : ∃ y, Hid (shf a (-(m : Int)) = y) ∧ Hid (y < 2 ^ 256) := ⟨_, hid rfl, hid (shf_lt _ _ ha)⟩
  obtain ⟨d2, e4, n4⟩ : ∃ y, Hid (shf d1 (-(n : Int)) = y) ∧ Hid (y < 2 ^ 256) := ⟨_, hid rfl, hid (shf_lt _ _ n3.out)⟩
  obtain ⟨tw, e5, n5⟩ : ∃ y, Hid ((a + a) % 2 ^ 256 = y) ∧ Hid (y < 2 ^ 256) := ⟨_, hid rfl, hid (Nat.mod_lt _ (Nat.two_pow_pos 256))⟩
  obtain ⟨z, e6⟩ : ∃ z : Int, Hid ((((a + a) / 2 ^ 256 : Nat) : Int) = z) := ⟨_, hid rfl⟩
  obtain ⟨c, e7, n7⟩ : ∃ y, Hid (shf d1 (m : Int) = y) ∧ Hid (y < 2 ^ 256) := ⟨_, hid rfl, hid (shf_lt _ _ n3.out)⟩
  obtain ⟨lf, e8, n8⟩ : ∃ y, Hid (dif a c = y) ∧ Hid (y < 2 ^ 256) := ⟨_, hid rfl, hid (dif_lt ha n7.out)⟩
  obtain ⟨k, e9⟩ : ∃ k : Int, Hid ((lent a c : Int) = k) := ⟨_, hid rfl⟩
  obtain ⟨b, e10⟩ : ∃ b : Int, Hid ((nbits lf : Int) = b) := ⟨_, hid rfl⟩
  obtain ⟨v1, e11, n11⟩ : ∃ y, Hid (shf a (256 - (m : Int)) = y) ∧ Hid (y < 2 ^ 256) := ⟨_, hid rfl, hid (shf_lt _ _ ha)⟩
  have f1 : Hid (shf a ((m : Int) + (n : Int)) = u2) := hid (by rw [← e2.out, ← e1.out]; exact (shf_up_up a m n).symm)
  have f2 : Hid (shf a (-(m : Int) - (n : Int)) = d2) := hid (by rw [← e4.out, ← e3.out]; exact (shf_down_down a m n ha).symm)
  have f3 : Hid (shf a 1 = tw) := hid (by rw [← e5.out]; exact shf_one a)
  have f4 : Hid ((bi a 255 : Int) = z) := hid (by rw [← e6.out]; exact_mod_cast bi_top a ha)
  have hl : lf = a % 2 ^ m := by rw [← e8.out, ← e7.out, ← e3.out]; exact left_low a m ha hm
  have f5 : b ≤ (m : Int) := by rw [← e10.out, hl]; exact_mod_cast nbits_up _ m (Nat.mod_lt _ (Nat.two_pow_pos m))
  have f6 : Hid (shf v1 ((m : Int) - 256) = lf) := hid (by rw [← e11.out, hl]; exact shf_cut a m hm)
  clear hl ha
  have H0 := hid ((Env.refl w).new a)
  go_enter Try.func9, Try.ntmps9
  go_wp2_with fail
  generalize w.alloc (.cells (cls a) 24) = w0 at *
  generalize w.heap.size = ga at *
  refine (shift_at a u1 (m : Int) H0.out HA.out (by omega) (by omega) e1.out).mono ?_
  rintro e w1 ⟨rfl, h⟩
  have H1 := hid h
  clear h H0
  go_wp2_with fail
  refine (shift_at u1 u2 (n : Int) H1.out n1.out (by omega) (by omega) e2.out).mono ?_
  rintro e w2 ⟨rfl, h⟩
  have H2 := hid h
  clear h H1
  obtain ⟨c0x2a, c0x2b, c0x2c, c0x2d⟩ := H2.out.cell (ga) (a) (by simp)
  have c0x2l := H2.out.lt (ga) (a) (by simp)
  have c0x2m := Nat.le_of_lt c0x2l
  go_wp2_with fail
  clear c0x2a c0x2b c0x2c c0x2d c0x2l c0x2m
  have H2b := hid (H2.out.new u2)
  clear H2
  generalize w2.alloc (.cells (cls u2) 24) = w2b at *
  generalize w2.heap.size = g7 at *
  refine (shift_at a d1 (-(m : Int)) H2b.out HA.out (by omega) (by omega) e3.out).mono ?_
  rintro e w3 ⟨rfl, h⟩
  have H3 := hid h
  clear h H2b
  go_wp2_with fail
  refine (shift_at d1 d2 (-(n : Int)) H3.out n3.out (by omega) (by omega) e4.out).mono ?_
  rintro e w4 ⟨rfl, h⟩
  have H4 := hid h
  clear h H3
  obtain ⟨c0x4a, c0x4b, c0x4c, c0x4d⟩ := H4.out.cell (ga) (a) (by simp)
  have c0x4l := H4.out.lt (ga) (a) (by simp)
  have c0x4m := Nat.le_of_lt c0x4l
  go_wp2_with fail
  clear c0x4a c0x4b c0x4c c0x4d c0x4l c0x4m
  have H4b := hid (H4.out.new d2)
  clear H4
  generalize w4.alloc (.cells (cls d2) 24) = w4b at *
  generalize w4.heap.size = g8 at *
  refine (add_at a a tw z H4b.out HA.out HA.out e5.out e6.out).mono ?_
  rintro e w5 ⟨rfl, h⟩
  have H5 := hid h
  clear h H4b
  obtain ⟨c0x5a, c0x5b, c0x5c, c0x5d⟩ := H5.out.cell (ga) (a) (by simp)
  have c0x5l := H5.out.lt (ga) (a) (by simp)
  have c0x5m := Nat.le_of_lt c0x5l
  go_wp2_with fail
  clear c0x5a c0x5b c0x5c c0x5d c0x5l c0x5m
  have H5b := hid (H5.out.new tw)
  clear H5
  generalize w5.alloc (.cells (cls tw) 24) = w5b at *
  generalize w5.heap.size = g9 at *
  refine (shift_at a d1 (-(m : Int)) H5b.out HA.out (by omega) (by omega) e3.out).mono ?_
  rintro e w6 ⟨rfl, h⟩
  have H6 := hid h
  clear h H5b
  go_wp2_with fail
  refine (shift_at d1 c (m : Int) H6.out n3.out (by omega) (by omega) e7.out).mono ?_
  rintro e w7 ⟨rfl, h⟩
  have H7 := hid h
  clear h H6
  obtain ⟨c0x7a, c0x7b, c0x7c, c0x7d⟩ := H7.out.cell (ga) (a) (by simp)
  have c0x7l := H7.out.lt (ga) (a) (by simp)
  have c0x7m := Nat.le_of_lt c0x7l
  go_wp2_with fail
  clear c0x7a c0x7b c0x7c c0x7d c0x7l c0x7m
  have H7b := hid (H7.out.new c)
  clear H7
  generalize w7.alloc (.cells (cls c) 24) = w7b at *
  generalize w7.heap.size = g11 at *
  refine (sub_at a c lf k H7b.out HA.out n7.out e8.out e9.out).mono ?_
  rintro e w8 ⟨rfl, h⟩
  have H8 := hid h
  clear h H7b
  go_wp2_with fail
  have H8b := hid (H8.out.new lf)
  clear H8
  generalize w8.alloc (.cells (cls lf) 24) = w8b at *
  generalize w8.heap.size = g12 at *
  have hD := H8b.out.drew
  have q1 := eq_yes u2 u2 rfl
  have q2 := eq_yes d2 d2 rfl
  have q3 := eq_yes tw tw rfl
  have q4 := eq_yes lf lf rfl
  have w1 : IntKind.i64.wrap (m : Int) = (m : Int) := IntWalk.i64_in _ (by omega)
  have w2 : IntKind.i64.wrap (n : Int) = (n : Int) := IntWalk.i64_in _ (by omega)
  have w3 : IntKind.i64.wrap ((m : Int) + (n : Int)) = (m : Int) + (n : Int) := IntWalk.i64_in _ (by omega)
  have w4 : IntKind.i64.wrap (-(m : Int)) = -(m : Int) := IntWalk.i64_in _ (by omega)
  have w5 : IntKind.i64.wrap (-(m : Int) - (n : Int)) = -(m : Int) - (n : Int) := IntWalk.i64_in _ (by omega)
  have w6 : IntKind.i64.wrap (256 - (m : Int)) = 256 - (m : Int) := IntWalk.i64_in _ (by omega)
  have w7 : IntKind.i64.wrap ((m : Int) - 256) = (m : Int) - 256 := IntWalk.i64_in _ (by omega)
  go_region_held3 (fun w' => (w'.cell? ⟨g7, 0, none⟩ = some (.int .u64 (wd u2 0 : Int)) ∧ w'.cell? ⟨g7, 1, none⟩ = some (.int .u64 (wd u2 1 : Int)) ∧ w'.cell? ⟨g7, 2, none⟩ = some (.int .u64 (wd u2 2 : Int)) ∧ w'.cell? ⟨g7, 3, none⟩ = some (.int .u64 (wd u2 3 : Int))) ∧ (w'.cell? ⟨ga, 0, none⟩ = some (.int .u64 (wd a 0 : Int)) ∧ w'.cell? ⟨ga, 1, none⟩ = some (.int .u64 (wd a 1 : Int)) ∧ w'.cell? ⟨ga, 2, none⟩ = some (.int .u64 (wd a 2 : Int)) ∧ w'.cell? ⟨ga, 3, none⟩ = some (.int .u64 (wd a 3 : Int))) ∧ (w'.cell? ⟨g8, 0, none⟩ = some (.int .u64 (wd d2 0 : Int)) ∧ w'.cell? ⟨g8, 1, none⟩ = some (.int .u64 (wd d2 1 : Int)) ∧ w'.cell? ⟨g8, 2, none⟩ = some (.int .u64 (wd d2 2 : Int)) ∧ w'.cell? ⟨g8, 3, none⟩ = some (.int .u64 (wd d2 3 : Int))) ∧ (w'.cell? ⟨g9, 0, none⟩ = some (.int .u64 (wd tw 0 : Int)) ∧ w'.cell? ⟨g9, 1, none⟩ = some (.int .u64 (wd tw 1 : Int)) ∧ w'.cell? ⟨g9, 2, none⟩ = some (.int .u64 (wd tw 2 : Int)) ∧ w'.cell? ⟨g9, 3, none⟩ = some (.int .u64 (wd tw 3 : Int))) ∧ (w'.cell? ⟨g12, 0, none⟩ = some (.int .u64 (wd lf 0 : Int)) ∧ w'.cell? ⟨g12, 1, none⟩ = some (.int .u64 (wd lf 1 : Int)) ∧ w'.cell? ⟨g12, 2, none⟩ = some (.int .u64 (wd lf 2 : Int)) ∧ w'.cell? ⟨g12, 3, none⟩ = some (.int .u64 (wd lf 3 : Int)))) (exact ⟨Env.cell (by assumption) _ _ (by simp), Env.cell (by assumption) _ _ (by simp), Env.cell (by assumption) _ _ (by simp), Env.cell (by assumption) _ _ (by simp), Env.cell (by assumption) _ _ (by simp)⟩) (first | ((go_at_call 29); (with_reducible refine (alive_at (by assumption)).mono ?_); rintro e wn ⟨rfl, hs⟩) | ((go_at_call 16); (with_reducible refine (shift_at a u2 ((m : Int) + (n : Int)) (by assumption) HA.out (by omega) (by omega) f1.out).mono ?_); rintro e wn ⟨rfl, hs⟩) | ((go_at_call 16); (with_reducible refine (shift_at a d2 (-(m : Int) - (n : Int)) (by assumption) HA.out (by omega) (by omega) f2.out).mono ?_); rintro e wn ⟨rfl, hs⟩) | ((go_at_call 16); (with_reducible refine (shift_at a tw 1 (by assumption) HA.out (by omega) (by omega) f3.out).mono ?_); rintro e wn ⟨rfl, hs⟩) | ((go_at_call 18); (with_reducible refine (bit_at a 255 z (by assumption) HA.out (by omega) (by omega) f4.out).mono ?_); rintro e wn ⟨rfl, hs⟩) | ((go_at_call 20); (with_reducible refine (bits_at lf b (by assumption) n8.out e10.out).mono ?_); rintro e wn ⟨rfl, hs⟩) | ((go_at_call 16); (with_reducible refine (shift_at a v1 (256 - (m : Int)) (by assumption) HA.out (by omega) (by omega) e11.out).mono ?_); rintro e wn ⟨rfl, hs⟩) | ((go_at_call 16); (with_reducible refine (shift_at v1 lf ((m : Int) - 256) (by assumption) n11.out (by omega) (by omega) f6.out).mono ?_); rintro e wn ⟨rfl, hs⟩))
  go_wp2
  go_ret
  exact ⟨rfl, hs.1⟩
end Go.Proofs.Ytmhpeeicclbcmaa

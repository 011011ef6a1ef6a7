/-
  burrowlaw02.LimbsReckoned, walked: it answers true at any two long numbers and any int. Conditions: none.
-/
import Derived.Test.YtmhpeeicclbcmaaRefMul
import Derived.Test.YtmhpeeicclbcmaaRefShift
import Derived.Test.YtmhpeeicclbcmaaRefCmp
namespace Go.Proofs.Ytmhpeeicclbcmaa
open Go.RowKit
set_option linter.unusedVariables false

section
variable {w w' : World} {l : List (Nat × Nat)}
theorem radd_at (x y s : Nat) (k : Int) (h : Env w l w') (hx : x < 2 ^ 256) (hy : y < 2 ^ 256) (hs : (x + y) % 2 ^ 256 = s) (hk : (((x + y) / 2 ^ 256 : Nat) : Int) = k) :
    Calls Try.prog 11 #[num x, num y] w' fun e w2 => e = .returned (.tuple #[num s, .int .u64 k]) ∧ Env w l w2 := by
  subst hs; subst hk; exact (radd_any x y w' hx hy).mono fun e w2 ⟨he, hb⟩ => ⟨he, h.on hb⟩
theorem rsub_at (x y s : Nat) (k : Int) (h : Env w l w') (hx : x < 2 ^ 256) (hy : y < 2 ^ 256) (hs : dif x y = s) (hk : ((lent x y : Nat) : Int) = k) :
    Calls Try.prog 13 #[num x, num y] w' fun e w2 => e = .returned (.tuple #[num s, .int .u64 k]) ∧ Env w l w2 := by
  subst hs; subst hk; exact (rsub_any x y w' hx hy).mono fun e w2 ⟨he, hb⟩ => ⟨he, h.on hb⟩
theorem rmul_at (x y lo hi : Nat) (h : Env w l w') (hx : x < 2 ^ 256) (hy : y < 2 ^ 256) (hl : x * y % 2 ^ 256 = lo) (hh : x * y / 2 ^ 256 = hi) :
    Calls Try.prog 15 #[num x, num y] w' fun e w2 => e = .returned (.tuple #[num lo, num hi]) ∧ Env w l w2 := by
  subst hl; subst hh; exact (rmul_any x y w' hx hy).mono fun e w2 ⟨he, hb⟩ => ⟨he, h.on hb⟩
theorem rshift_at (x y : Nat) (n : Int) (h : Env w l w') (hx : x < 2 ^ 256) (hy : shf x n = y) : Calls Try.prog 17 #[num x, .int .i64 n] w' fun e w2 => e = .returned (num y) ∧ Env w l w2 := by
  subst hy; exact (rshift_any x n w' hx).mono fun e w2 ⟨he, hb⟩ => ⟨he, h.on hb⟩
theorem rbit_at (x : Nat) (n b : Int) (h : Env w l w') (hx : x < 2 ^ 256) (hb : (bi x n : Int) = b) : Calls Try.prog 19 #[num x, .int .i64 n] w' fun e w2 => e = .returned (.int .u64 b) ∧ Env w l w2 := by
  subst hb; exact (rbit_any x n w' hx).mono fun e w2 ⟨he, hb⟩ => ⟨he, h.on hb⟩
theorem rbits_at (x : Nat) (b : Int) (h : Env w l w') (hx : x < 2 ^ 256) (hb : (nbits x : Int) = b) : Calls Try.prog 21 #[num x] w' fun e w2 => e = .returned (.int .i64 b) ∧ Env w l w2 := by
  subst hb; exact (rbits_any x w' hx).mono fun e w2 ⟨he, hb⟩ => ⟨he, h.on hb⟩
theorem rcmp_at (x y : Nat) (c : Int) (h : Env w l w') (hx : x < 2 ^ 256) (hy : y < 2 ^ 256) (hc : cmpN x y = c) : Calls Try.prog 23 #[num x, num y] w' fun e w2 => e = .returned (.int .i64 c) ∧ Env w l w2 := by
  subst hc; exact (rcmp_any x y w' hx hy).mono fun e w2 ⟨he, hb⟩ => ⟨he, h.on hb⟩
theorem rof_at (n : Nat) (z : Int) (h : Env w l w') (hn : n < 18446744073709551616) (hz : (n : Int) = z) : Calls Try.prog 25 #[.int .u64 z] w' fun e w2 => e = .returned (num n) ∧ Env w l w2 := by
  subst hz; exact (rof_any n w' hn).mono fun e w2 ⟨he, hb⟩ => ⟨he, h.on hb⟩
end

set_option maxRecDepth 100000 in
set_option maxHeartbeats 12000000 in
theorem reckoned_any (a b : Nat) (n : Int) (w : World) (ha : a < 2 ^ 256) (hb : b < 2 ^ 256) (h0 : -9223372036854775808 ≤ n) (h1 : n ≤ 9223372036854775807) : Calls Try.prog 3 #[num a, num b, .int .i64 n] w fun e w' => e = .returned (.bool true) ∧ Below w.heap.size w w' := by
  have HA := hid ha
  have HB := hid hb
  obtain ⟨s, e1, n1⟩ : ∃ y, Hid ((a + b) % 2 ^ 256 = y) ∧ Hid (y < 2 ^ 256) := ⟨_, hid rfl, hid (Nat.mod_lt _ (Nat.two_pow_pos 256))⟩
  obtain ⟨z, e2⟩ : ∃ z : Int, Hid ((((a + b) / 2 ^ 256 : Nat) : Int) = z) := ⟨_, hid rfl⟩
  obtain ⟨d, e3, n3⟩ : ∃ y, Hid (dif a b = y) ∧ Hid (y < 2 ^ 256) := ⟨_, hid rfl, hid (dif_lt ha hb)⟩
  obtain ⟨u, e4⟩ : ∃ z : Int, Hid ((lent a b : Int) = z) := ⟨_, hid rfl⟩
  obtain ⟨lo, e5⟩ : ∃ y, Hid (a * b % 2 ^ 256 = y) := ⟨_, hid rfl⟩
  obtain ⟨hi, e6⟩ : ∃ y, Hid (a * b / 2 ^ 256 = y) := ⟨_, hid rfl⟩
  obtain ⟨sh, e7⟩ : ∃ y, Hid (shf a n = y) := ⟨_, hid rfl⟩
  obtain ⟨bt, e8⟩ : ∃ z : Int, Hid ((bi a n : Int) = z) := ⟨_, hid rfl⟩
  obtain ⟨nb, e9⟩ : ∃ z : Int, Hid ((nbits a : Int) = z) := ⟨_, hid rfl⟩
  obtain ⟨c, e10⟩ : ∃ z : Int, Hid (cmpN a b = z) := ⟨_, hid rfl⟩
  have n0 := hid (wd_lt a 0)
  clear ha hb
  have H0 := hid ((Env.refl w).new2 a b)
  go_enter Try.func3, Try.ntmps3
  go_wp2_with fail
  generalize (w.alloc (.cells (cls a) 24)).alloc (.cells (cls b) 24) = w0 at *
  generalize w.heap.size + 1 = gb at *
  generalize w.heap.size = ga at *
  refine (add_at a b s z H0.out HA.out HB.out e1.out e2.out).mono ?_
  rintro e w1 ⟨rfl, h⟩
  have H1 := hid h
  clear h H0
  obtain ⟨c0x1a, c0x1b, c0x1c, c0x1d⟩ := H1.out.cell (ga) (a) (by simp)
  have c0x1l := H1.out.lt (ga) (a) (by simp)
  have c0x1m := Nat.le_of_lt c0x1l
  obtain ⟨c6x1a, c6x1b, c6x1c, c6x1d⟩ := H1.out.cell (gb) (b) (by simp)
  have c6x1l := H1.out.lt (gb) (b) (by simp)
  have c6x1m := Nat.le_of_lt c6x1l
  go_wp2_with fail
  clear c0x1a c0x1b c0x1c c0x1d c0x1l c0x1m c6x1a c6x1b c6x1c c6x1d c6x1l c6x1m
  have H1b := hid (H1.out.new s)
  clear H1
  generalize w1.alloc (.cells (cls s) 24) = w1b at *
  generalize w1.heap.size = g7 at *
  refine (radd_at a b s z H1b.out HA.out HB.out e1.out e2.out).mono ?_
  rintro e w2 ⟨rfl, h⟩
  have H2 := hid h
  clear h H1b
  obtain ⟨c0x2a, c0x2b, c0x2c, c0x2d⟩ := H2.out.cell (ga) (a) (by simp)
  have c0x2l := H2.out.lt (ga) (a) (by simp)
  have c0x2m := Nat.le_of_lt c0x2l
  obtain ⟨c6x2a, c6x2b, c6x2c, c6x2d⟩ := H2.out.cell (gb) (b) (by simp)
  have c6x2l := H2.out.lt (gb) (b) (by simp)
  have c6x2m := Nat.le_of_lt c6x2l
  go_wp2_with fail
  clear c0x2a c0x2b c0x2c c0x2d c0x2l c0x2m c6x2a c6x2b c6x2c c6x2d c6x2l c6x2m
  have H2b := hid (H2.out.new s)
  clear H2
  generalize w2.alloc (.cells (cls s) 24) = w2b at *
  generalize w2.heap.size = g9 at *
  refine (sub_at a b d u H2b.out HA.out HB.out e3.out e4.out).mono ?_
  rintro e w3 ⟨rfl, h⟩
  have H3 := hid h
  clear h H2b
  obtain ⟨c0x3a, c0x3b, c0x3c, c0x3d⟩ := H3.out.cell (ga) (a) (by simp)
  have c0x3l := H3.out.lt (ga) (a) (by simp)
  have c0x3m := Nat.le_of_lt c0x3l
  obtain ⟨c6x3a, c6x3b, c6x3c, c6x3d⟩ := H3.out.cell (gb) (b) (by simp)
  have c6x3l := H3.out.lt (gb) (b) (by simp)
  have c6x3m := Nat.le_of_lt c6x3l
  go_wp2_with fail
  clear c0x3a c0x3b c0x3c c0x3d c0x3l c0x3m c6x3a c6x3b c6x3c c6x3d c6x3l c6x3m
  have H3b := hid (H3.out.new d)
  clear H3
  generalize w3.alloc (.cells (cls d) 24) = w3b at *
  generalize w3.heap.size = g11 at *
  refine (rsub_at a b d u H3b.out HA.out HB.out e3.out e4.out).mono ?_
  rintro e w4 ⟨rfl, h⟩
  have H4 := hid h
  clear h H3b
  obtain ⟨c0x4a, c0x4b, c0x4c, c0x4d⟩ := H4.out.cell (ga) (a) (by simp)
  have c0x4l := H4.out.lt (ga) (a) (by simp)
  have c0x4m := Nat.le_of_lt c0x4l
  obtain ⟨c6x4a, c6x4b, c6x4c, c6x4d⟩ := H4.out.cell (gb) (b) (by simp)
  have c6x4l := H4.out.lt (gb) (b) (by simp)
  have c6x4m := Nat.le_of_lt c6x4l
  go_wp2_with fail
  clear c0x4a c0x4b c0x4c c0x4d c0x4l c0x4m c6x4a c6x4b c6x4c c6x4d c6x4l c6x4m
  have H4b := hid (H4.out.new d)
  clear H4
  generalize w4.alloc (.cells (cls d) 24) = w4b at *
  generalize w4.heap.size = g13 at *
  refine (mul_at a b lo hi H4b.out HA.out HB.out e5.out e6.out).mono ?_
  rintro e w5 ⟨rfl, h⟩
  have H5 := hid h
  clear h H4b
  obtain ⟨c0x5a, c0x5b, c0x5c, c0x5d⟩ := H5.out.cell (ga) (a) (by simp)
  have c0x5l := H5.out.lt (ga) (a) (by simp)
  have c0x5m := Nat.le_of_lt c0x5l
  obtain ⟨c6x5a, c6x5b, c6x5c, c6x5d⟩ := H5.out.cell (gb) (b) (by simp)
  have c6x5l := H5.out.lt (gb) (b) (by simp)
  have c6x5m := Nat.le_of_lt c6x5l
  go_wp2_with fail
  clear c0x5a c0x5b c0x5c c0x5d c0x5l c0x5m c6x5a c6x5b c6x5c c6x5d c6x5l c6x5m
  have H5b := hid (H5.out.new2 lo hi)
  clear H5
  generalize (w5.alloc (.cells (cls lo) 24)).alloc (.cells (cls hi) 24) = w5b at *
  generalize w5.heap.size + 1 = g15s at *
  generalize w5.heap.size = g15 at *
  refine (rmul_at a b lo hi H5b.out HA.out HB.out e5.out e6.out).mono ?_
  rintro e w6 ⟨rfl, h⟩
  have H6 := hid h
  clear h H5b
  go_wp2_with fail
  have H6b := hid (H6.out.new2 lo hi)
  clear H6
  generalize (w6.alloc (.cells (cls lo) 24)).alloc (.cells (cls hi) 24) = w6b at *
  generalize w6.heap.size + 1 = g17s at *
  generalize w6.heap.size = g17 at *
  have qs := eq_yes s s rfl
  have qd := eq_yes d d rfl
  have qlo := eq_yes lo lo rfl
  have qhi := eq_yes hi hi rfl
  have qsh := eq_yes sh sh rfl
  have q0 := eq_yes (wd a 0) (wd a 0) rfl
  have hD := H6b.out.drew
  simp only [List.append_eq, List.cons_append, List.nil_append]
  go_region_held3 (fun w' => (w'.cell? ⟨g7, 0, none⟩ = some (.int .u64 (wd s 0 : Int)) ∧ w'.cell? ⟨g7, 1, none⟩ = some (.int .u64 (wd s 1 : Int)) ∧ w'.cell? ⟨g7, 2, none⟩ = some (.int .u64 (wd s 2 : Int)) ∧ w'.cell? ⟨g7, 3, none⟩ = some (.int .u64 (wd s 3 : Int))) ∧ (w'.cell? ⟨g9, 0, none⟩ = some (.int .u64 (wd s 0 : Int)) ∧ w'.cell? ⟨g9, 1, none⟩ = some (.int .u64 (wd s 1 : Int)) ∧ w'.cell? ⟨g9, 2, none⟩ = some (.int .u64 (wd s 2 : Int)) ∧ w'.cell? ⟨g9, 3, none⟩ = some (.int .u64 (wd s 3 : Int))) ∧ (w'.cell? ⟨g11, 0, none⟩ = some (.int .u64 (wd d 0 : Int)) ∧ w'.cell? ⟨g11, 1, none⟩ = some (.int .u64 (wd d 1 : Int)) ∧ w'.cell? ⟨g11, 2, none⟩ = some (.int .u64 (wd d 2 : Int)) ∧ w'.cell? ⟨g11, 3, none⟩ = some (.int .u64 (wd d 3 : Int))) ∧ (w'.cell? ⟨g13, 0, none⟩ = some (.int .u64 (wd d 0 : Int)) ∧ w'.cell? ⟨g13, 1, none⟩ = some (.int .u64 (wd d 1 : Int)) ∧ w'.cell? ⟨g13, 2, none⟩ = some (.int .u64 (wd d 2 : Int)) ∧ w'.cell? ⟨g13, 3, none⟩ = some (.int .u64 (wd d 3 : Int))) ∧ (w'.cell? ⟨g15, 0, none⟩ = some (.int .u64 (wd lo 0 : Int)) ∧ w'.cell? ⟨g15, 1, none⟩ = some (.int .u64 (wd lo 1 : Int)) ∧ w'.cell? ⟨g15, 2, none⟩ = some (.int .u64 (wd lo 2 : Int)) ∧ w'.cell? ⟨g15, 3, none⟩ = some (.int .u64 (wd lo 3 : Int))) ∧ (w'.cell? ⟨g17, 0, none⟩ = some (.int .u64 (wd lo 0 : Int)) ∧ w'.cell? ⟨g17, 1, none⟩ = some (.int .u64 (wd lo 1 : Int)) ∧ w'.cell? ⟨g17, 2, none⟩ = some (.int .u64 (wd lo 2 : Int)) ∧ w'.cell? ⟨g17, 3, none⟩ = some (.int .u64 (wd lo 3 : Int))) ∧ (w'.cell? ⟨g15s, 0, none⟩ = some (.int .u64 (wd hi 0 : Int)) ∧ w'.cell? ⟨g15s, 1, none⟩ = some (.int .u64 (wd hi 1 : Int)) ∧ w'.cell? ⟨g15s, 2, none⟩ = some (.int .u64 (wd hi 2 : Int)) ∧ w'.cell? ⟨g15s, 3, none⟩ = some (.int .u64 (wd hi 3 : Int))) ∧ (w'.cell? ⟨g17s, 0, none⟩ = some (.int .u64 (wd hi 0 : Int)) ∧ w'.cell? ⟨g17s, 1, none⟩ = some (.int .u64 (wd hi 1 : Int)) ∧ w'.cell? ⟨g17s, 2, none⟩ = some (.int .u64 (wd hi 2 : Int)) ∧ w'.cell? ⟨g17s, 3, none⟩ = some (.int .u64 (wd hi 3 : Int))) ∧ (w'.cell? ⟨ga, 0, none⟩ = some (.int .u64 (wd a 0 : Int)) ∧ w'.cell? ⟨ga, 1, none⟩ = some (.int .u64 (wd a 1 : Int)) ∧ w'.cell? ⟨ga, 2, none⟩ = some (.int .u64 (wd a 2 : Int)) ∧ w'.cell? ⟨ga, 3, none⟩ = some (.int .u64 (wd a 3 : Int))) ∧ (w'.cell? ⟨gb, 0, none⟩ = some (.int .u64 (wd b 0 : Int)) ∧ w'.cell? ⟨gb, 1, none⟩ = some (.int .u64 (wd b 1 : Int)) ∧ w'.cell? ⟨gb, 2, none⟩ = some (.int .u64 (wd b 2 : Int)) ∧ w'.cell? ⟨gb, 3, none⟩ = some (.int .u64 (wd b 3 : Int)))) (exact ⟨Env.cell (by assumption) _ _ (by simp), Env.cell (by assumption) _ _ (by simp), Env.cell (by assumption) _ _ (by simp), Env.cell (by assumption) _ _ (by simp), Env.cell (by assumption) _ _ (by simp), Env.cell (by assumption) _ _ (by simp), Env.cell (by assumption) _ _ (by simp), Env.cell (by assumption) _ _ (by simp), Env.cell (by assumption) _ _ (by simp), Env.cell (by assumption) _ _ (by simp)⟩) (first | ((go_at_call 16); (with_reducible refine (shift_at a sh n (by assumption) HA.out h0 h1 e7.out).mono ?_); rintro e wn ⟨rfl, hs⟩) | ((go_at_call 17); (with_reducible refine (rshift_at a sh n (by assumption) HA.out e7.out).mono ?_); rintro e wn ⟨rfl, hs⟩) | ((go_at_call 18); (with_reducible refine (bit_at a n bt (by assumption) HA.out h0 h1 e8.out).mono ?_); rintro e wn ⟨rfl, hs⟩) | ((go_at_call 19); (with_reducible refine (rbit_at a n bt (by assumption) HA.out e8.out).mono ?_); rintro e wn ⟨rfl, hs⟩) | ((go_at_call 20); (with_reducible refine (bits_at a nb (by assumption) HA.out e9.out).mono ?_); rintro e wn ⟨rfl, hs⟩) | ((go_at_call 21); (with_reducible refine (rbits_at a nb (by assumption) HA.out e9.out).mono ?_); rintro e wn ⟨rfl, hs⟩) | ((go_at_call 22); (with_reducible refine (cmp_at a b c (by assumption) HA.out HB.out e10.out).mono ?_); rintro e wn ⟨rfl, hs⟩) | ((go_at_call 23); (with_reducible refine (rcmp_at a b c (by assumption) HA.out HB.out e10.out).mono ?_); rintro e wn ⟨rfl, hs⟩) | ((go_at_call 24); (with_reducible refine (of_at (wd a 0) (wd a 0 : Int) (by assumption) n0.out rfl).mono ?_); rintro e wn ⟨rfl, hs⟩) | ((go_at_call 25); (with_reducible refine (rof_at (wd a 0) (wd a 0 : Int) (by assumption) n0.out rfl).mono ?_); rintro e wn ⟨rfl, hs⟩))
  go_wp2
  go_ret
  exact ⟨rfl, hs.1⟩
end Go.Proofs.Ytmhpeeicclbcmaa

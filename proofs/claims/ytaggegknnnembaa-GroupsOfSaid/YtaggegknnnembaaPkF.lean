/-
  burrowref04.word, Exp, walked. Conditions: none of its own.
  burrowref04.Exp, walked. Conditions: none of its own.
-/
import Derived.Test.YtaggegknnnembaaPkE
import Derived.Test.YtaggegknnnembaaExs
namespace Go.Proofs.Ytaggegknnnembaa
open Go.RowKit
set_option linter.unusedVariables false

theorem rbits_b (x : Nat) (c : Int) (w : World) (hx : x < 2 ^ 256) (hc : (nbits x : Int) = c) : Calls Try.prog 51 #[num x] w fun e w' => e = .returned (.int .i64 c) ∧ Below w.heap.size w w' := by
  subst hc; exact rbits_any x w hx
theorem rep_parts {x y m h l t : Nat} (hx : x < m) (hy : y < m) (hm : m < 18446744073709551616) (eh : x * y / 18446744073709551616 = h) (el : x * y % 18446744073709551616 = l) (et : x * y % m = t) : h < m ∧ l < 18446744073709551616 ∧ (h * 18446744073709551616 + l) % m = t := by
  refine ⟨?_, ?_, ?_⟩
  · rw [← eh]; exact (Nat.div_lt_iff_lt_mul (by decide)).2 (Nat.mul_lt_mul_of_lt_of_le hx (Nat.le_of_lt (Nat.lt_trans hy hm)) (by omega))
  · rw [← el]; exact Nat.mod_lt _ (by decide)
  · rw [← eh, ← el, Nat.div_add_mod']; exact et
theorem bitAt_word {n j q p : Nat} (hn : n < 2 ^ 256) (hq : j / 64 = q) (hp : j % 64 = p) : wd n q / 2 ^ p % 2 = bitAt n j := by
  have e : ((j : Nat) : Int) = 64 * ((q : Nat) : Int) + ((p : Nat) : Int) := by omega
  have hb := bi_word n p (j : Int) (q : Int) hn e (by omega)
  rw [wi_nat n q hn] at hb
  rw [hb]; unfold bi; rw [if_neg (by omega), Int.toNat_natCast]
theorem and_bit {x p b : Nat} (hx : x < 18446744073709551616) (h : x / 2 ^ p % 2 = b) : bits .and .u64 ((x : Int) / 2 ^ p) 1 = (b : Int) := by
  have e0 : ((x : Int) / 2 ^ p) = ((x / 2 ^ p : Nat) : Int) := by simp
  have hl := Nat.div_le_self x (2 ^ p)
  have := u64_and_nat (x / 2 ^ p) 1 (by omega) (by decide)
  rw [nat_mask1, h] at this
  rw [e0]
  exact this
set_option maxRecDepth 100000 in
set_option maxHeartbeats 6400000 in
theorem rword4_any (a n m r : Nat) (w : World) (hm1 : 1 < m) (hm : m < 18446744073709551616) (ha : a < m) (hn : n < 2 ^ 256) (hr : a ^ n % m = r) : Calls Try.prog 50 #[.int .u64 (a : Int), num n, .int .u64 (m : Int)] w fun e w' => e = .returned (.int .u64 (r : Int)) ∧ Below w.heap.size w w' := by
  have hc2 := nbits_up n 256 hn
  have hpf := pow_first a n
  obtain ⟨c, ec⟩ : ∃ c, nbits n = c := ⟨_, rfl⟩
  rw [ec] at hc2 hpf
  have EC := hid (show (nbits n : Int) = (c : Int) by rw [ec])
  have ML := hid hm
  have M1 := hid hm1
  have AM := hid ha
  have NL := hid hn
  have PF0 := hid hpf
  have HR := hid hr
  have hr1 : Int.tmod 1 (m : Int) = 1 := by rw [Int.tmod_eq_emod_of_nonneg (by decide)]; exact Int.emod_eq_of_lt (by decide) (by omega)
  have hm0 : ¬ m = 0 := by omega
  clear hm hm1 ha hn ec hpf hr
  have H0 := hid (((Env.refl w).new n).perm (l' := [(w.heap.size, n)]) (by simp))
  go_enter Try.func50, Try.ntmps50
  go_upto_region 1 with fail
  generalize w.alloc (.cells (cls n) 24) = w0 at *
  generalize eg4 : w.heap.size = g4 at *
  obtain ⟨c0x0a, c0x0b, c0x0c, c0x0d⟩ := H0.out.cell (g4) (n) (by simp)
  have c0x0l := H0.out.lt (g4) (n) (by simp)
  have c0x0m := Nat.le_of_lt c0x0l
  go_wp2_with fail
  clear c0x0a c0x0b c0x0c c0x0d c0x0l c0x0m
  refine (env_of (rbits_b n (c : Int) _ NL.out EC.out) H0.out).mono ?_
  rintro e w1 ⟨rfl, h⟩
  have H1 := hid h
  clear h H0
  have w1i : IntKind.i64.wrap ((c : Int) - 1) = (c : Int) - 1 := IntWalk.i64_in _ (by omega)
  go_wp2_with fail
  go_loopw [7, 8] (fun s7 s8 wr => ∃ (k r : Nat) (z : Int), k ≤ c ∧ Hid (z = (k : Int) - 1) ∧ s8 = .int .i64 z ∧ s7 = .int .u64 (r : Int) ∧ Hid (r = a ^ (n / 2 ^ k) % m) ∧ Hid (Env w [(g4, n)] wr)) (fun _ s _ => (intOf s + 1).toNat)
  case atStart => exact ⟨c, 1, (c : Int) - 1, Nat.le_refl _, hid rfl, rfl, rfl, hid (show 1 = a ^ (n / 2 ^ c) % m by rw [PF0.out, Nat.mod_eq_of_lt M1.out]), H1⟩
  case round =>
    obtain ⟨k, r2, z, hk, hz, rfl, rfl, P, H⟩ := hrel
    clear H1
    have RL := hid (show r2 < m by rw [P.out]; exact Nat.mod_lt _ (by have := M1.out; omega))
    by_cases h0 : k = 0
    · subst h0
      obtain rfl : z = -1 := by have := hz.out; omega
      have PE := hid (show r2 = r by have := P.out; rw [Nat.pow_zero, Nat.div_one] at this; rw [this]; exact HR.out)
      go_wp2
      exact bodyPost_ret (v := .int .u64 (r2 : Int)) (by simp [results, Try.results50, go_sem]) rfl ⟨by rw [PE.out], H.out.1⟩
    · obtain ⟨j, rfl⟩ : ∃ j, k = j + 1 := ⟨k - 1, by omega⟩
      obtain rfl : z = (j : Int) := by have := hz.out; omega
      clear h0 hz
      obtain ⟨t, et⟩ : ∃ x, r2 * r2 % m = x := ⟨_, rfl⟩
      obtain ⟨u, eu⟩ : ∃ x, t * a % m = x := ⟨_, rfl⟩
      have S0 := hid (show bitAt n j = 0 → t = a ^ (n / 2 ^ j) % m from fun hb => by rw [← et, P.out, exp_step0 hb])
      have S1 := hid (show bitAt n j = 1 → u = a ^ (n / 2 ^ j) % m from fun hb => by rw [← eu, ← et, P.out, exp_step1 hb])
      obtain ⟨h1, eh1⟩ : ∃ z, r2 * r2 / 18446744073709551616 = z := ⟨_, rfl⟩
      obtain ⟨l1, el1⟩ : ∃ z, r2 * r2 % 18446744073709551616 = z := ⟨_, rfl⟩
      obtain ⟨h2, eh2⟩ : ∃ z, t * a / 18446744073709551616 = z := ⟨_, rfl⟩
      obtain ⟨l2, el2⟩ : ∃ z, t * a % 18446744073709551616 = z := ⟨_, rfl⟩
      have tm : t < m := by rw [← et]; exact Nat.mod_lt _ (by have := M1.out; omega)
      have R6 := hid (rep_parts RL.out RL.out ML.out eh1 el1 et)
      have U6 := hid (rep_parts tm AM.out ML.out eh2 el2 eu)
      have RW := hid (show r2 < 18446744073709551616 from Nat.lt_trans RL.out ML.out)
      have TW := hid (show t < 18446744073709551616 from Nat.lt_trans tm ML.out)
      have AW := hid (show a < 18446744073709551616 from Nat.lt_trans AM.out ML.out)
      have EH1 := hid eh1
      have EL1 := hid el1
      have EH2 := hid eh2
      have EL2 := hid el2
      clear et eu eh1 el1 eh2 el2 tm
      have y3 : IntKind.i64.wrap ((j : Int) - 1) = (j : Int) - 1 := IntWalk.i64_in _ (by omega)
      obtain ⟨q, eq⟩ : ∃ q, j / 64 = q := ⟨_, rfl⟩
      obtain ⟨p, ep⟩ : ∃ p, j % 64 = p := ⟨_, rfl⟩
      have e1 : (j : Int) / 64 = (q : Int) := by omega
      have e2 : (j : Int) % 64 = (p : Int) := by omega
      have e3 : Int.tdiv (j : Int) 64 = (q : Int) := by rw [Int.tdiv_eq_ediv_of_nonneg (by omega)]; exact e1
      have e4 : Int.tmod (j : Int) 64 = (p : Int) := by rw [Int.tmod_eq_emod_of_nonneg (by omega)]; exact e2
      have hp6 : p < 64 := by omega
      obtain ⟨b, eb⟩ : ∃ b, bitAt n j = b := ⟨_, rfl⟩
      have hb2 : b = 0 ∨ b = 1 := by have := bitAt_lt n j; omega
      have EB := hid (show wd n q / 2 ^ p % 2 = b by rw [← eb, bitAt_word NL.out eq ep])
      rw [eb] at S0 S1
      have hq4 : q = 0 ∨ q = 1 ∨ q = 2 ∨ q = 3 := by omega
      clear eq ep eb
      go_wp2_with fail
      refine (env_of (rmul64_b r2 r2 h1 l1 _ RW.out RW.out EH1.out EL1.out) H.out).mono ?_
      rintro e w2 ⟨rfl, h⟩
      have H2 := hid h
      clear h H
      go_wp2_with fail
      refine (env_of (div64_any h1 l1 m _ t _ R6.out.1 R6.out.2.1 ML.out rfl R6.out.2.2) H2.out).mono ?_
      rintro e w3 ⟨rfl, h⟩
      have H3 := hid h
      clear h H2
      have QB := hid hb2
      clear hb2
      rcases hq4 with rfl | rfl | rfl | rfl
      all_goals
        obtain ⟨c0x3a, c0x3b, c0x3c, c0x3d⟩ := H3.out.cell (g4) (n) (by simp)
        have c0x3l := H3.out.lt (g4) (n) (by simp)
        have c0x3m := Nat.le_of_lt c0x3l
        rcases QB.out with eb2 | eb2
        · subst eb2
          have s0 := S0.out rfl; clear S0 S1
          have ST := hid s0; clear s0
          have ev := and_bit (wd_lt n _) EB.out
          go_wp2_with fail
          clear c0x3a c0x3b c0x3c c0x3d c0x3l c0x3m
          go_roundw
          case measure => first | (simp [intOf]; done) | (simp [intOf]; omega)
          case rel => exact ⟨j, t, (j : Int) - 1, by omega, hid rfl, rfl, rfl, ST, H3⟩
        · subst eb2
          have s0 := S1.out rfl; clear S0 S1
          have ST := hid s0; clear s0
          have ev := and_bit (wd_lt n _) EB.out
          go_wp2_with fail
          clear c0x3a c0x3b c0x3c c0x3d c0x3l c0x3m
          clear ev
          refine (env_of (rmul64_b t a h2 l2 _ TW.out AW.out EH2.out EL2.out) H3.out).mono ?_
          rintro e w4 ⟨rfl, h⟩
          have H4 := hid h
          clear h H3
          go_wp2_with fail
          refine (env_of (div64_any h2 l2 m _ u _ U6.out.1 U6.out.2.1 ML.out rfl U6.out.2.2) H4.out).mono ?_
          rintro e w5 ⟨rfl, h⟩
          have H5 := hid h
          clear h H4
          go_wp2_with fail
          go_roundw
          case measure => first | (simp [intOf]; done) | (simp [intOf]; omega)
          case rel => exact ⟨j, u, (j : Int) - 1, by omega, hid rfl, rfl, rfl, ST, H5⟩
end Go.Proofs.Ytaggegknnnembaa
namespace Go.Proofs.Ytaggegknnnembaa
open Go.RowKit
set_option linter.unusedVariables false

theorem rbit_b (x : Nat) (n b : Int) (w : World) (hx : x < 2 ^ 256) (hb : (bi x n : Int) = b) : Calls Try.prog 52 #[num x, .int .i64 n] w fun e w' => e = .returned (.int .u64 b) ∧ Below w.heap.size w w' := by
  subst hb; exact rbit_any x n w hx
set_option maxRecDepth 100000 in
set_option maxHeartbeats 4000000 in
theorem rmexp_none (a n m : Nat) (w : World) (ha : a < 2 ^ 256) (hn : n < 2 ^ 256) (hm : m < 2 ^ 256) (hv : ¬ (1 < m ∧ a < m)) : Calls Try.prog 30 #[num a, num n, num m] w fun e w' => e = .returned (.tuple #[num 0, .int .i64 1]) ∧ Below w.heap.size w w' := by
  have HA := hid ha
  have HN := hid hn
  have HM := hid hm
  have HV := hid (show decide (1 < m ∧ a < m ∧ a < m) = false from decide_eq_false (fun h => hv ⟨h.1, h.2.1⟩))
  clear ha hn hm hv
  have H0 := hid ((((((Env.refl w).new a).new n).new m).zero).perm (l' := [(w.heap.size + 1 + 1 + 1, 0), (w.heap.size + 1 + 1, m), (w.heap.size + 1, n), (w.heap.size, a)]) (by simp))
  have DZ := hid (show w.heap.size ≤ w.heap.size + 1 + 1 + 1 by omega)
  have DN := hid (show ∀ p ∈ [(w.heap.size, a), (w.heap.size + 1, n), (w.heap.size + 1 + 1, m)], p.1 ≠ w.heap.size + 1 + 1 + 1 by simp; try omega)
  go_enter Try.func30, Try.ntmps30
  go_upto_region 1 with fail
  generalize (((w.alloc (.cells (cls a) 24)).alloc (.cells (cls n) 24)).alloc (.cells (cls m) 24)).alloc (.cells #[.int .u64 0, .int .u64 0, .int .u64 0, .int .u64 0] 24) = w0 at *
  generalize w.heap.size + 1 + 1 + 1 = g_z at *
  generalize w.heap.size + 1 + 1 = g_c at *
  generalize w.heap.size + 1 = g_b at *
  generalize hzg_a : w.heap.size = g_a at *
  obtain ⟨c0x0a, c0x0b, c0x0c, c0x0d⟩ := H0.out.cell (g_a) (a) (by simp)
  have c0x0l := H0.out.lt (g_a) (a) (by simp)
  have c0x0m := Nat.le_of_lt c0x0l
  obtain ⟨c6x0a, c6x0b, c6x0c, c6x0d⟩ := H0.out.cell (g_c) (m) (by simp)
  have c6x0l := H0.out.lt (g_c) (m) (by simp)
  have c6x0m := Nat.le_of_lt c6x0l
  go_wp2_with fail
  clear c0x0a c0x0b c0x0c c0x0d c0x0l c0x0m c6x0a c6x0b c6x0c c6x0d c6x0l c6x0m
  refine (env_of (rmay_any a a m false _ HA.out HA.out HM.out HV.out) H0.out).mono ?_
  rintro e w1 ⟨rfl, h⟩
  have H1 := hid h
  clear h H0
  obtain ⟨z0, z1, z2, z3⟩ := H1.out.cell g_z 0 (by simp)
  have zl := H1.out.lt g_z 0 (by simp)
  have zf := H1.out.frozen g_z 0 (by simp)
  have HZ := hid (H1.out.set g_z 0 (0) [] (by simp) (by rw [hzg_a]; exact DZ.out) (by simp))
  go_wp2
  clear z0 z1 z2 z3 zl zf
  try rw [Exit.noGoto_ret]
  change bodyPost _ _ _ _ _ (fil w1 g_z (0))
  generalize fil w1 g_z (0) = wz at *
  obtain ⟨k0, k1, k2, k3⟩ := HZ.out.cell g_z (0) (by simp)
  exact bodyPost_ret (v := .tuple #[num (0), .int .i64 1]) (by simp [results, Try.results30, go_sem, k0, k1, k2, k3]) rfl ⟨rfl, HZ.out.1⟩
set_option maxRecDepth 100000 in
set_option maxHeartbeats 4000000 in
theorem rmexp_word (a n m r : Nat) (w : World) (ha : a < 2 ^ 256) (hn : n < 2 ^ 256) (hm : m < 2 ^ 256) (hv : 1 < m ∧ a < m) (hr : a ^ n % m = r) (hs : m < 18446744073709551616) : Calls Try.prog 30 #[num a, num n, num m] w fun e w' => e = .returned (.tuple #[num r, .int .i64 0]) ∧ Below w.heap.size w w' := by
  have HA := hid ha
  have HN := hid hn
  have HM := hid hm
  have HV := hid (show decide (1 < m ∧ a < m ∧ a < m) = true from decide_eq_true ⟨hv.1, hv.2, hv.2⟩)
  have M1 := hid hv.1
  have AM := hid hv.2
  have HW := hid (show decide (m < 18446744073709551616) = true from decide_eq_true hs)
  have HE0 := hid (rwd_one hs)
  have HEA := hid (rwd_one (Nat.lt_trans hv.2 hs))
  have HR := hid hr
  have RL := hid (show r < 18446744073709551616 by rw [← hr]; exact Nat.lt_trans (Nat.mod_lt _ (by omega)) hs)
  clear ha hn hm hv hr hs
  have H0 := hid ((((((Env.refl w).new a).new n).new m).zero).perm (l' := [(w.heap.size + 1 + 1 + 1, 0), (w.heap.size + 1 + 1, m), (w.heap.size + 1, n), (w.heap.size, a)]) (by simp))
  have DZ := hid (show w.heap.size ≤ w.heap.size + 1 + 1 + 1 by omega)
  have DN := hid (show ∀ p ∈ [(w.heap.size, a), (w.heap.size + 1, n), (w.heap.size + 1 + 1, m)], p.1 ≠ w.heap.size + 1 + 1 + 1 by simp; try omega)
  go_enter Try.func30, Try.ntmps30
  go_upto_region 1 with fail
  generalize (((w.alloc (.cells (cls a) 24)).alloc (.cells (cls n) 24)).alloc (.cells (cls m) 24)).alloc (.cells #[.int .u64 0, .int .u64 0, .int .u64 0, .int .u64 0] 24) = w0 at *
  generalize w.heap.size + 1 + 1 + 1 = g_z at *
  generalize w.heap.size + 1 + 1 = g_c at *
  generalize w.heap.size + 1 = g_b at *
  generalize hzg_a : w.heap.size = g_a at *
  obtain ⟨c0x0a, c0x0b, c0x0c, c0x0d⟩ := H0.out.cell (g_a) (a) (by simp)
  have c0x0l := H0.out.lt (g_a) (a) (by simp)
  have c0x0m := Nat.le_of_lt c0x0l
  obtain ⟨c6x0a, c6x0b, c6x0c, c6x0d⟩ := H0.out.cell (g_c) (m) (by simp)
  have c6x0l := H0.out.lt (g_c) (m) (by simp)
  have c6x0m := Nat.le_of_lt c6x0l
  go_wp2_with fail
  clear c0x0a c0x0b c0x0c c0x0d c0x0l c0x0m c6x0a c6x0b c6x0c c6x0d c6x0l c6x0m
  refine (env_of (rmay_any a a m true _ HA.out HA.out HM.out HV.out) H0.out).mono ?_
  rintro e w1 ⟨rfl, h⟩
  have H1 := hid h
  clear h H0
  obtain ⟨c0x1a, c0x1b, c0x1c, c0x1d⟩ := H1.out.cell (g_c) (m) (by simp)
  have c0x1l := H1.out.lt (g_c) (m) (by simp)
  have c0x1m := Nat.le_of_lt c0x1l
  go_wp2_with fail
  clear c0x1a c0x1b c0x1c c0x1d c0x1l c0x1m
  refine (env_of (rword_any m true _ HM.out HW.out) H1.out).mono ?_
  rintro e w2 ⟨rfl, h⟩
  have H2 := hid h
  clear h H1
  obtain ⟨c0x2a, c0x2b, c0x2c, c0x2d⟩ := H2.out.cell (g_a) (a) (by simp)
  have c0x2l := H2.out.lt (g_a) (a) (by simp)
  have c0x2m := Nat.le_of_lt c0x2l
  obtain ⟨c6x2a, c6x2b, c6x2c, c6x2d⟩ := H2.out.cell (g_b) (n) (by simp)
  have c6x2l := H2.out.lt (g_b) (n) (by simp)
  have c6x2m := Nat.le_of_lt c6x2l
  obtain ⟨c12x2a, c12x2b, c12x2c, c12x2d⟩ := H2.out.cell (g_c) (m) (by simp)
  have c12x2l := H2.out.lt (g_c) (m) (by simp)
  have c12x2m := Nat.le_of_lt c12x2l
  go_wp2_with fail
  clear c0x2a c0x2b c0x2c c0x2d c0x2l c0x2m c6x2a c6x2b c6x2c c6x2d c6x2l c6x2m c12x2a c12x2b c12x2c c12x2d c12x2l c12x2m
  refine (env_of (rword4_any (wd a 0) n (wd m 0) r _ (by rw [HE0.out]; exact M1.out) (wd_lt m 0) (by rw [HE0.out, HEA.out]; exact AM.out) HN.out (by rw [HE0.out, HEA.out]; exact HR.out)) H2.out).mono ?_
  rintro e w3 ⟨rfl, h⟩
  have H3 := hid h
  clear h H2
  go_wp2_with fail
  refine (env_of (rof_any r _ RL.out) H3.out).mono ?_
  rintro e w4 ⟨rfl, h⟩
  have H4 := hid h
  clear h H3
  obtain ⟨z0, z1, z2, z3⟩ := H4.out.cell g_z 0 (by simp)
  have zl := H4.out.lt g_z 0 (by simp)
  have zf := H4.out.frozen g_z 0 (by simp)
  have HZ := hid (H4.out.set g_z 0 (r) [] (by simp) (by rw [hzg_a]; exact DZ.out) (by simp))
  go_wp2
  clear z0 z1 z2 z3 zl zf
  try rw [Exit.noGoto_ret]
  change bodyPost _ _ _ _ _ (fil w4 g_z (r))
  generalize fil w4 g_z (r) = wz at *
  obtain ⟨k0, k1, k2, k3⟩ := HZ.out.cell g_z (r) (by simp)
  exact bodyPost_ret (v := .tuple #[num (r), .int .i64 0]) (by simp [results, Try.results30, go_sem, k0, k1, k2, k3]) rfl ⟨rfl, HZ.out.1⟩
set_option maxRecDepth 100000 in
set_option maxHeartbeats 4000000 in
theorem rmexp_wide (a n m r : Nat) (w : World) (ha : a < 2 ^ 256) (hn : n < 2 ^ 256) (hm : m < 2 ^ 256) (hv : 1 < m ∧ a < m) (hr : a ^ n % m = r) (hs : ¬ m < 18446744073709551616) : Calls Try.prog 30 #[num a, num n, num m] w fun e w' => e = .returned (.tuple #[num r, .int .i64 0]) ∧ Below w.heap.size w w' := by
  have HA := hid ha
  have HN := hid hn
  have HM := hid hm
  have HV := hid (show decide (1 < m ∧ a < m ∧ a < m) = true from decide_eq_true ⟨hv.1, hv.2, hv.2⟩)
  have M1 := hid hv.1
  have AM := hid hv.2
  have HW := hid (show decide (m < 18446744073709551616) = false from decide_eq_false hs)
  have hc2 := nbits_up n 256 hn
  have hpf := pow_first a n
  obtain ⟨c, ec⟩ : ∃ c, nbits n = c := ⟨_, rfl⟩
  rw [ec] at hc2 hpf
  have EC := hid (show (nbits n : Int) = (c : Int) by rw [ec])
  have PF0 := hid hpf
  have HR := hid hr
  clear ec hpf
  clear ha hn hm hv hr hs
  have H0 := hid ((((((Env.refl w).new a).new n).new m).zero).perm (l' := [(w.heap.size + 1 + 1 + 1, 0), (w.heap.size + 1 + 1, m), (w.heap.size + 1, n), (w.heap.size, a)]) (by simp))
  have DZ := hid (show w.heap.size ≤ w.heap.size + 1 + 1 + 1 by omega)
  have DN := hid (show ∀ p ∈ [(w.heap.size, a), (w.heap.size + 1, n), (w.heap.size + 1 + 1, m)], p.1 ≠ w.heap.size + 1 + 1 + 1 by simp; try omega)
  go_enter Try.func30, Try.ntmps30
  go_upto_region 1 with fail
  generalize (((w.alloc (.cells (cls a) 24)).alloc (.cells (cls n) 24)).alloc (.cells (cls m) 24)).alloc (.cells #[.int .u64 0, .int .u64 0, .int .u64 0, .int .u64 0] 24) = w0 at *
  generalize w.heap.size + 1 + 1 + 1 = g_z at *
  generalize w.heap.size + 1 + 1 = g_c at *
  generalize w.heap.size + 1 = g_b at *
  generalize hzg_a : w.heap.size = g_a at *
  obtain ⟨c0x0a, c0x0b, c0x0c, c0x0d⟩ := H0.out.cell (g_a) (a) (by simp)
  have c0x0l := H0.out.lt (g_a) (a) (by simp)
  have c0x0m := Nat.le_of_lt c0x0l
  obtain ⟨c6x0a, c6x0b, c6x0c, c6x0d⟩ := H0.out.cell (g_c) (m) (by simp)
  have c6x0l := H0.out.lt (g_c) (m) (by simp)
  have c6x0m := Nat.le_of_lt c6x0l
  go_wp2_with fail
  clear c0x0a c0x0b c0x0c c0x0d c0x0l c0x0m c6x0a c6x0b c6x0c c6x0d c6x0l c6x0m
  refine (env_of (rmay_any a a m true _ HA.out HA.out HM.out HV.out) H0.out).mono ?_
  rintro e w1 ⟨rfl, h⟩
  have H1 := hid h
  clear h H0
  obtain ⟨c0x1a, c0x1b, c0x1c, c0x1d⟩ := H1.out.cell (g_c) (m) (by simp)
  have c0x1l := H1.out.lt (g_c) (m) (by simp)
  have c0x1m := Nat.le_of_lt c0x1l
  go_wp2_with fail
  clear c0x1a c0x1b c0x1c c0x1d c0x1l c0x1m
  refine (env_of (rword_any m false _ HM.out HW.out) H1.out).mono ?_
  rintro e w2 ⟨rfl, h⟩
  have H2 := hid h
  clear h H1
  go_wp2_with fail
  refine (env_of (rof_b 1 1 _ (by decide) rfl) H2.out).mono ?_
  rintro e w3 ⟨rfl, h⟩
  have H3 := hid h
  clear h H2
  go_upto_region 6 with fail
  have F8 := hid H3.out.fresh
  have H3b := hid (H3.out.new 1)
  clear H3
  generalize w3.alloc (.cells (cls 1) 24) = w3b at *
  generalize w3.heap.size = g8 at *
  obtain ⟨c0x3a, c0x3b, c0x3c, c0x3d⟩ := H3b.out.cell (g_b) (n) (by simp)
  have c0x3l := H3b.out.lt (g_b) (n) (by simp)
  have c0x3m := Nat.le_of_lt c0x3l
  go_wp2_with fail
  clear c0x3a c0x3b c0x3c c0x3d c0x3l c0x3m
  refine (env_of (rbits_b n (c : Int) _ HN.out EC.out) H3b.out).mono ?_
  rintro e w4 ⟨rfl, h⟩
  have H4 := hid h
  clear h H3b
  have w1i : IntKind.i64.wrap ((c : Int) - 1) = (c : Int) - 1 := IntWalk.i64_in _ (by omega)
  go_wp2_with fail
  go_loopw [9] (fun s9 wr => ∃ (k r2 : Nat) (z : Int), k ≤ c ∧ Hid (z = (k : Int) - 1) ∧ s9 = .int .i64 z ∧ Hid (r2 = a ^ (n / 2 ^ k) % m) ∧ Hid (Env w [(g8, r2), (g_z, 0), (g_c, m), (g_b, n), (g_a, a)] wr)) (fun s _ => (intOf s + 1).toNat)
  case atStart => exact ⟨c, 1, (c : Int) - 1, Nat.le_refl _, hid rfl, rfl, hid (show 1 = a ^ (n / 2 ^ c) % m by rw [PF0.out, Nat.mod_eq_of_lt M1.out]), H4⟩
  case round =>
    obtain ⟨k, r2, z, hk, hz, rfl, P, H⟩ := hrel
    clear H4
    have RL := hid (show r2 < m by rw [P.out]; exact Nat.mod_lt _ (by have := M1.out; omega))
    by_cases h0 : k = 0
    · subst h0
      obtain rfl : z = -1 := by have := hz.out; omega
      have PE := hid (show r2 = r by have := P.out; rw [Nat.pow_zero, Nat.div_one] at this; rw [this]; exact HR.out)
      obtain ⟨c0x20a, c0x20b, c0x20c, c0x20d⟩ := H.out.cell (g8) (r2) (by simp)
      have c0x20l := H.out.lt (g8) (r2) (by simp)
      have c0x20m := Nat.le_of_lt c0x20l
      go_upto_region 12 with fail
      clear c0x20a c0x20b c0x20c c0x20d c0x20l c0x20m
      obtain ⟨c0x20a, c0x20b, c0x20c, c0x20d⟩ := H.out.cell (g8) (r2) (by simp)
      have c0x20l := H.out.lt (g8) (r2) (by simp)
      have c0x20m := Nat.le_of_lt c0x20l
      obtain ⟨z0, z1, z2, z3⟩ := H.out.cell g_z 0 (by simp)
      have zl := H.out.lt g_z 0 (by simp)
      have zf := H.out.frozen g_z 0 (by simp)
      have HZ := hid (H.out.set g_z 0 (r2) [] (by simp) (by rw [hzg_a]; exact DZ.out) (by simp))
      go_wp2
      clear z0 z1 z2 z3 zl zf
      try rw [Exit.noGoto_ret]
      change bodyPost _ _ _ _ _ (fil wr g_z (r2))
      generalize fil wr g_z (r2) = wz at *
      obtain ⟨k0, k1, k2, k3⟩ := HZ.out.cell g_z (r2) (by simp)
      exact bodyPost_ret (v := .tuple #[num (r2), .int .i64 0]) (by simp [results, Try.results30, go_sem, k0, k1, k2, k3]) rfl ⟨(by rw [PE.out]), HZ.out.1⟩
    · obtain ⟨j, rfl⟩ : ∃ j, k = j + 1 := ⟨k - 1, by omega⟩
      obtain rfl : z = (j : Int) := by have := hz.out; omega
      clear h0 hz
      obtain ⟨t, et⟩ : ∃ x, r2 * r2 % m = x := ⟨_, rfl⟩
      obtain ⟨u, eu⟩ : ∃ x, t * a % m = x := ⟨_, rfl⟩
      have S0 := hid (show bitAt n j = 0 → t = a ^ (n / 2 ^ j) % m from fun hb => by rw [← et, P.out, exp_step0 hb])
      have S1 := hid (show bitAt n j = 1 → u = a ^ (n / 2 ^ j) % m from fun hb => by rw [← eu, ← et, P.out, exp_step1 hb])
      have TL := hid (show t < m by rw [← et]; exact Nat.mod_lt _ (by have := M1.out; omega))
      have ET := hid et
      have EU := hid eu
      clear et eu
      have y3 : IntKind.i64.wrap ((j : Int) - 1) = (j : Int) - 1 := IntWalk.i64_in _ (by omega)
      obtain ⟨b, eb⟩ : ∃ b, bitAt n j = b := ⟨_, rfl⟩
      have hb2 : b = 0 ∨ b = 1 := by have := bitAt_lt n j; omega
      have EB := hid (show ((bi n (j : Int) : Nat) : Int) = (b : Int) by unfold bi; rw [if_neg (by omega), Int.toNat_natCast, eb])
      rw [eb] at S0 S1
      clear eb
      have QB := hid hb2
      clear hb2
      obtain ⟨c0x30a, c0x30b, c0x30c, c0x30d⟩ := H.out.cell (g8) (r2) (by simp)
      have c0x30l := H.out.lt (g8) (r2) (by simp)
      have c0x30m := Nat.le_of_lt c0x30l
      obtain ⟨c6x30a, c6x30b, c6x30c, c6x30d⟩ := H.out.cell (g_c) (m) (by simp)
      have c6x30l := H.out.lt (g_c) (m) (by simp)
      have c6x30m := Nat.le_of_lt c6x30l
      go_wp2_with fail
      clear c0x30a c0x30b c0x30c c0x30d c0x30l c0x30m c6x30a c6x30b c6x30c c6x30d c6x30l c6x30m
      refine (env_of (rtimes_any r2 r2 m t _ RL.out RL.out HM.out ET.out) H.out).mono ?_
      rintro e w31 ⟨rfl, h⟩
      have H31 := hid h
      clear h H
      obtain ⟨c0x31a, c0x31b, c0x31c, c0x31d⟩ := H31.out.cell (g8) (r2) (by simp)
      have c0x31l := H31.out.lt (g8) (r2) (by simp)
      have c0x31m := Nat.le_of_lt c0x31l
      have f6x31 := H31.out.frozen g8 r2 (by simp)
      have HS1 := hid (H31.out.set g8 r2 t [(g_z, 0), (g_c, m), (g_b, n), (g_a, a)] (by simp) F8.out.1 (fun p hp => by simp only [List.mem_cons, List.not_mem_nil, or_false] at hp; rcases hp with rfl | rfl | rfl | rfl <;> first | exact ⟨by simp, F8.out.2 (g_z, 0) (by simp)⟩ | exact ⟨by simp, F8.out.2 (g_c, m) (by simp)⟩ | exact ⟨by simp, F8.out.2 (g_b, n) (by simp)⟩ | exact ⟨by simp, F8.out.2 (g_a, a) (by simp)⟩))
      go_upto_region 10 with fail
      clear c0x31a c0x31b c0x31c c0x31d c0x31l c0x31m f6x31
      clear H31
      change Code.wp _ _ _ _ (fil w31 g8 t)
      generalize fil w31 g8 t = ws1 at *
      obtain ⟨c0x31a, c0x31b, c0x31c, c0x31d⟩ := HS1.out.cell (g_b) (n) (by simp)
      have c0x31l := HS1.out.lt (g_b) (n) (by simp)
      have c0x31m := Nat.le_of_lt c0x31l
      go_wp2_with fail
      clear c0x31a c0x31b c0x31c c0x31d c0x31l c0x31m
      rcases QB.out with eb2 | eb2
      · subst eb2
        have s0 := S0.out rfl; clear S0 S1
        have ST := hid s0; clear s0
        refine (env_of (rbit_b n (j : Int) (0 : Int) _ HN.out EB.out) HS1.out).mono ?_
        rintro e w32 ⟨rfl, h⟩
        have H32 := hid h
        clear h HS1
        go_wp2_with fail
        go_roundw
        case measure => first | (simp [intOf]; done) | (simp [intOf]; omega)
        case rel => exact ⟨j, t, (j : Int) - 1, by omega, hid rfl, rfl, ST, H32⟩
      · subst eb2
        have s0 := S1.out rfl; clear S0 S1
        have ST := hid s0; clear s0
        refine (env_of (rbit_b n (j : Int) (1 : Int) _ HN.out EB.out) HS1.out).mono ?_
        rintro e w32 ⟨rfl, h⟩
        have H32 := hid h
        clear h HS1
        obtain ⟨c0x32a, c0x32b, c0x32c, c0x32d⟩ := H32.out.cell (g8) (t) (by simp)
        have c0x32l := H32.out.lt (g8) (t) (by simp)
        have c0x32m := Nat.le_of_lt c0x32l
        obtain ⟨c6x32a, c6x32b, c6x32c, c6x32d⟩ := H32.out.cell (g_a) (a) (by simp)
        have c6x32l := H32.out.lt (g_a) (a) (by simp)
        have c6x32m := Nat.le_of_lt c6x32l
        obtain ⟨c12x32a, c12x32b, c12x32c, c12x32d⟩ := H32.out.cell (g_c) (m) (by simp)
        have c12x32l := H32.out.lt (g_c) (m) (by simp)
        have c12x32m := Nat.le_of_lt c12x32l
        go_wp2_with fail
        clear c0x32a c0x32b c0x32c c0x32d c0x32l c0x32m c6x32a c6x32b c6x32c c6x32d c6x32l c6x32m c12x32a c12x32b c12x32c c12x32d c12x32l c12x32m
        refine (env_of (rtimes_any t a m u _ TL.out AM.out HM.out EU.out) H32.out).mono ?_
        rintro e w33 ⟨rfl, h⟩
        have H33 := hid h
        clear h H32
        obtain ⟨c0x33a, c0x33b, c0x33c, c0x33d⟩ := H33.out.cell (g8) (t) (by simp)
        have c0x33l := H33.out.lt (g8) (t) (by simp)
        have c0x33m := Nat.le_of_lt c0x33l
        have f6x33 := H33.out.frozen g8 t (by simp)
        have HS2 := hid (H33.out.set g8 t u [(g_z, 0), (g_c, m), (g_b, n), (g_a, a)] (by simp) F8.out.1 (fun p hp => by simp only [List.mem_cons, List.not_mem_nil, or_false] at hp; rcases hp with rfl | rfl | rfl | rfl <;> first | exact ⟨by simp, F8.out.2 (g_z, 0) (by simp)⟩ | exact ⟨by simp, F8.out.2 (g_c, m) (by simp)⟩ | exact ⟨by simp, F8.out.2 (g_b, n) (by simp)⟩ | exact ⟨by simp, F8.out.2 (g_a, a) (by simp)⟩))
        go_wp2_with fail
        clear c0x33a c0x33b c0x33c c0x33d c0x33l c0x33m f6x33
        clear H33
        go_roundw
        case measure => first | (simp [intOf]; done) | (simp [intOf]; omega)
        case rel => exact ⟨j, u, (j : Int) - 1, by omega, hid rfl, rfl, ST, HS2⟩
theorem rmexp_some (a n m r : Nat) (w : World) (ha : a < 2 ^ 256) (hn : n < 2 ^ 256) (hm : m < 2 ^ 256) (hv : 1 < m ∧ a < m) (hr : a ^ n % m = r) : Calls Try.prog 30 #[num a, num n, num m] w fun e w' => e = .returned (.tuple #[num r, .int .i64 0]) ∧ Below w.heap.size w w' := by
  by_cases hs : m < 18446744073709551616
  · exact rmexp_word a n m r w ha hn hm hv hr hs
  · exact rmexp_wide a n m r w ha hn hm hv hr hs
end Go.Proofs.Ytaggegknnnembaa

/-
  mods.Exp of any exponent. Conditions: none.
  groups.Exp's two ways, walked. Conditions: none.
-/
import Derived.Test.YtioebjbjpjbodaaDoorPkExl
import Derived.Test.YtioebjbjpjbodaaDoorPkExe
import Derived.Test.YtioebjbjpjbodaaDoorPkAn
namespace Go.Proofs.YtioebjbjpjbodaaDoor
open Go.RowKit
theorem mexp_full_at (a n m r : Nat) {w w' : World} {l : List (Nat × Nat)} (h : Env w l w') (hn : n < 2 ^ 256) (hm : m < 2 ^ 256) (h1 : 1 < m) (ha : a < m) (hr : a ^ n % m = r) : Calls Tryd.prog 48 #[num a, num n, num m] w' fun e w2 => e = .returned (.tuple #[num r, .int .i64 0]) ∧ Env w l w2 := by
  subst hr
  rcases Nat.lt_or_ge 16 (nbits n) with hc | hc
  · rcases Nat.mod_two_eq_zero_or_one m with ho | ho
    · exact env_of (mexp_even a n m w' hn hm ⟨h1, ha⟩ hc ho) h
    · exact env_of (mexp_odd a n m w' hn hm ⟨h1, ha⟩ hc ho) h
  · exact env_of (mexp_short a n m w' hn hm ⟨h1, ha⟩ hc) h
end Go.Proofs.YtioebjbjpjbodaaDoor
namespace Go.Proofs.YtioebjbjpjbodaaDoor
open Go.RowKit
set_option linter.unusedVariables false

theorem wd_one {p : Nat} (h : p < 18446744073709551616) : wd p 0 = p := by
  unfold wd; rw [Nat.pow_zero, Nat.div_one, Nat.mod_eq_of_lt h]
theorem mul64_b (x y h l : Nat) (w : World) (hx : x < 18446744073709551616) (hy : y < 18446744073709551616) (eh : x * y / 18446744073709551616 = h) (el : x * y % 18446744073709551616 = l) : Calls Tryd.prog 58 #[.int .u64 (x : Int), .int .u64 (y : Int)] w fun e w' => e = .returned (.tuple #[.int .u64 (h : Int), .int .u64 (l : Int)]) ∧ Below w.heap.size w w' :=
  (mul64_any x y h l w hx hy eh el).mono fun e w' ⟨he, hw⟩ => ⟨he, by rw [hw]; exact Below.refl _ _⟩
set_option maxRecDepth 100000 in
set_option maxHeartbeats 4000000 in
theorem times_any (p q g a b r : Nat) (w : World) (hp0 : 0 < p) (hp : p < 18446744073709551616) (ha : a < 18446744073709551616) (hb : b < 18446744073709551616) (hr : a * b % p = r) : Calls Tryd.prog 46 #[gv p q g, .int .u64 (a : Int), .int .u64 (b : Int)] w fun e w' => e = .returned (.int .u64 (r : Int)) ∧ Below w.heap.size w w' := by
  have e0 : wd p 0 = p := wd_one hp
  obtain ⟨hi, eh⟩ : ∃ z, a * b / 18446744073709551616 = z := ⟨_, rfl⟩
  obtain ⟨lo, el⟩ : ∃ z, a * b % 18446744073709551616 = z := ⟨_, rfl⟩
  have hlo : lo < 18446744073709551616 := by rw [← el]; exact Nat.mod_lt _ (by decide)
  have hhi : hi < 18446744073709551616 := by rw [← eh]; exact Nat.div_lt_of_lt_mul (Nat.mul_lt_mul'' ha hb)
  have hab : hi * 18446744073709551616 + lo = a * b := by rw [← eh, ← el, Nat.mul_comm]; exact Nat.div_add_mod _ _
  have hr2 : (hi * 18446744073709551616 + lo) % wd p 0 = r := by rw [hab, e0, hr]
  have p2 : 0 < wd p 0 := by rw [e0]; exact hp0
  have AL := hid ha
  have BL := hid hb
  have EH := hid eh
  have EL := hid el
  have LL := hid hlo
  have HL := hid hhi
  have HR := hid hr2
  have P2 := hid p2
  clear hp hp0 ha hb hr e0 eh el hlo hhi hab hr2 p2
  have H0 := hid (Eg.of (Env.refl w) p q g 58)
  go_enter Tryd.func46, Tryd.ntmps46
  go_upto_region 1 with fail
  generalize w.alloc (.cells (gcs p q g) 58) = w0 at *
  go_wp2_with fail
  refine (eg_of (mul64_b a b hi lo _ AL.out BL.out EH.out EL.out) H0.out).mono ?_
  rintro e w1 ⟨rfl, h⟩
  have H1 := hid h
  clear h H0
  obtain ⟨ep1a, ep1b, ep1c, ep1d⟩ := H1.out.gp
  have eg1l := H1.out.gl
  have eg1m := Nat.le_of_lt eg1l
  go_wp2_with fail
  clear ep1a ep1b ep1c ep1d eg1l eg1m
  refine (eg_of (rem64_any hi lo (wd p 0) r _ HL.out LL.out P2.out (wd_lt p 0) HR.out) H1.out).mono ?_
  rintro e w2 ⟨rfl, h⟩
  have H2 := hid h
  clear h H1
  go_wp2
  exact bodyPost_ret (v := .int .u64 (r : Int)) (by simp [results, Tryd.results46, go_sem]) rfl ⟨rfl, H2.out.1.1⟩
set_option maxRecDepth 100000 in
set_option maxHeartbeats 4000000 in
theorem short_any (p q g a n : Nat) (w : World) (hp : p < 18446744073709551616) (hp1 : 1 < p) (ha : a < p) (hn : n < 2 ^ 256) : Calls Tryd.prog 35 #[gv p q g, num a, num n] w fun e w' => e = .returned (num (a ^ n % p)) ∧ Below w.heap.size w w' := by
  have e0 : wd a 0 = a := wd_one (by omega)
  have hc2 := nbits_up n 256 hn
  have hpf := pow_first a n
  obtain ⟨c, ec⟩ : ∃ c, nbits n = c := ⟨_, rfl⟩
  rw [ec] at hc2 hpf
  have EC := hid (show (nbits n : Int) = (c : Int) by rw [ec])
  have PL := hid hp
  have P1 := hid hp1
  have AP := hid ha
  have NL := hid hn
  have PF0 := hid hpf
  have E0 := hid e0
  clear hp hp1 ha hn ec hpf e0
  have H0 := hid ((((((Eg.of (Env.refl w) p q g 58)).new a).new n).zero).perm (l' := [(w.heap.size + 1 + 1 + 1, 0), (w.heap.size + 1 + 1, n), (w.heap.size + 1, a)]) (by simp))
  have DZ := hid (show w.heap.size ≤ w.heap.size + 1 + 1 + 1 ∧ w.heap.size ≠ w.heap.size + 1 + 1 + 1 by omega)
  go_enter Tryd.func35, Tryd.ntmps35
  go_wp2_with fail
  generalize (((w.alloc (.cells (gcs p q g) 58)).alloc (.cells (cls a) 24)).alloc (.cells (cls n) 24)).alloc (.cells #[.int .u64 0, .int .u64 0, .int .u64 0, .int .u64 0] 24) = w0 at *
  generalize w.heap.size + 1 + 1 + 1 = g_z at *
  generalize w.heap.size + 1 + 1 = g_b at *
  generalize w.heap.size + 1 = g_a at *
  generalize hzg_p : w.heap.size = g_p at *
  obtain ⟨c0x0a, c0x0b, c0x0c, c0x0d⟩ := H0.out.cell (g_b) (n) (by simp)
  have c0x0l := H0.out.lt (g_b) (n) (by simp)
  have c0x0m := Nat.le_of_lt c0x0l
  go_wp2_with fail
  clear c0x0a c0x0b c0x0c c0x0d c0x0l c0x0m
  refine (eg_at (bits_at n (c : Int) (Env.refl _) NL.out EC.out) H0.out).mono ?_
  rintro e w1 ⟨rfl, h⟩
  have H1 := hid h
  clear h H0
  go_wp2_with fail
  go_loopw [7, 13] (fun s7 s13 wr => ∃ i k r : Nat, i + k = c ∧ s13 = .int .i64 (i : Int) ∧ s7 = .int .u64 (r : Int) ∧ Hid (r = a ^ (n / 2 ^ k) % p) ∧ Hid (Eg w g_p 58 p q g [(g_z, 0), (g_b, n), (g_a, a)] wr)) (fun _ s _ => c - (intOf s).toNat)
  case atStart => exact ⟨0, c, 1, by omega, rfl, rfl, hid (show 1 = a ^ (n / 2 ^ c) % p by rw [PF0.out, Nat.mod_eq_of_lt P1.out]), H1⟩
  case round =>
    obtain ⟨i, k, r, hk, rfl, rfl, P, H⟩ := hrel
    clear H1
    have RL := hid (show r < p by rw [P.out]; exact Nat.mod_lt _ (by have := P1.out; omega))
    by_cases h0 : k = 0
    · subst h0
      have nlt : ¬ ((i : Int) < (c : Int)) := by omega
      have PE := hid (show r = a ^ n % p by have := P.out; rwa [Nat.pow_zero, Nat.div_one] at this)
      have R2 := hid (show r < 18446744073709551616 by have := RL.out; have := PL.out; omega)
      go_wp2_with fail
      refine (eg_of (lof_any r _ R2.out) H.out).mono ?_
      rintro e w6 ⟨rfl, h⟩
      have H6 := hid h
      clear h H
      obtain ⟨z0, z1, z2, z3⟩ := H6.out.cell g_z 0 (by simp)
      have zl := H6.out.lt g_z 0 (by simp)
      have zf := H6.out.frozen g_z 0 (by simp)
      have HZ := hid (H6.out.1.set g_z 0 (r) [] (by simp) (by rw [hzg_p]; exact DZ.out.1) (by simp))
      go_wp2
      clear z0 z1 z2 z3 zl zf
      try rw [Exit.noGoto_ret]
      change bodyPost _ _ _ _ _ (fil w6 g_z (r))
      generalize fil w6 g_z (r) = wz at *
      obtain ⟨k0, k1, k2, k3⟩ := HZ.out.cell g_z (r) (by simp)
      exact bodyPost_ret (v := num (r)) (by simp [results, Tryd.results35, go_sem, k0, k1, k2, k3]) rfl ⟨by rw [← PE.out], HZ.out.1⟩
    · obtain ⟨j, rfl⟩ : ∃ j, k = j + 1 := ⟨k - 1, by omega⟩
      clear h0
      have A1 : IntKind.i64.wrap ((c : Int) - 1) = (c : Int) - 1 := IntWalk.i64_in _ (by omega)
      have A2 : IntKind.i64.wrap ((c : Int) - 1 - (i : Int)) = (j : Int) := by rw [IntWalk.i64_in _ (by omega)]; omega
      have lt1 : (i : Int) < (c : Int) := by omega
      obtain ⟨t, et⟩ : ∃ x, r * r % p = x := ⟨_, rfl⟩
      have Et := hid et
      clear et
      obtain ⟨u, eu⟩ : ∃ x, r * r % p * a % p = x := ⟨_, rfl⟩
      have Eu := hid eu
      clear eu
      have R2 := hid (show r < 18446744073709551616 by have := RL.out; have := PL.out; omega)
      have P0 := hid (show 0 < p by have := P1.out; omega)
      have TL := hid (show t < 18446744073709551616 by rw [← Et.out]; exact Nat.lt_trans (Nat.mod_lt _ P0.out) PL.out)
      have AW := hid (show wd a 0 < 18446744073709551616 from wd_lt a 0)
      have EU := hid (show t * wd a 0 % p = u by rw [← Eu.out, Et.out, E0.out])
      have S0 := hid (show bitAt n j = 0 → t = a ^ (n / 2 ^ j) % p from fun hb => by rw [← Et.out, P.out, exp_step0 hb])
      have S1 := hid (show bitAt n j = 1 → u = a ^ (n / 2 ^ j) % p from fun hb => by rw [← Eu.out, P.out, exp_step1 hb])
      have JB := hid (show (j : Int) ≤ 9223372036854775807 by omega)
      have hb := bitAt_lt n j
      obtain ⟨b, eb⟩ : ∃ b, bitAt n j = b := ⟨_, rfl⟩
      have hbi : Hid ((bi n (j : Int) : Int) = (b : Int)) := hid (by unfold bi; rw [if_neg (by omega), Int.toNat_natCast, eb])
      rw [eb] at hb
      have EB := hid eb
      clear eb
      obtain ⟨ep6a, ep6b, ep6c, ep6d⟩ := H.out.gp
      obtain ⟨eq6a, eq6b, eq6c, eq6d⟩ := H.out.gq
      obtain ⟨eg6a, eg6b, eg6c, eg6d⟩ := H.out.gg
      have eg6l := H.out.gl
      have eg6m := Nat.le_of_lt eg6l
      go_wp2_with fail
      clear ep6a ep6b ep6c ep6d eq6a eq6b eq6c eq6d eg6a eg6b eg6c eg6d eg6l eg6m
      refine (eg_of (times_any p q g r r t _ P0.out PL.out R2.out R2.out Et.out) H.out).mono ?_
      rintro e w7 ⟨rfl, h⟩
      have H7 := hid h
      clear h H
      obtain ⟨c0x7a, c0x7b, c0x7c, c0x7d⟩ := H7.out.cell (g_b) (n) (by simp)
      have c0x7l := H7.out.lt (g_b) (n) (by simp)
      have c0x7m := Nat.le_of_lt c0x7l
      go_wp2_with fail
      clear c0x7a c0x7b c0x7c c0x7d c0x7l c0x7m
      refine (eg_at (bit_at n (j : Int) (b : Int) (Env.refl _) NL.out (by omega) JB.out hbi.out) H7.out).mono ?_
      rintro e w8 ⟨rfl, h⟩
      have H8 := hid h
      clear h H7
      by_cases hb1 : b = 1
      · subst hb1
        obtain ⟨ep8a, ep8b, ep8c, ep8d⟩ := H8.out.gp
        obtain ⟨eq8a, eq8b, eq8c, eq8d⟩ := H8.out.gq
        obtain ⟨eg8a, eg8b, eg8c, eg8d⟩ := H8.out.gg
        have eg8l := H8.out.gl
        have eg8m := Nat.le_of_lt eg8l
        obtain ⟨c14x8a, c14x8b, c14x8c, c14x8d⟩ := H8.out.cell (g_a) (a) (by simp)
        have c14x8l := H8.out.lt (g_a) (a) (by simp)
        have c14x8m := Nat.le_of_lt c14x8l
        go_wp2_with fail
        clear ep8a ep8b ep8c ep8d eq8a eq8b eq8c eq8d eg8a eg8b eg8c eg8d eg8l eg8m c14x8a c14x8b c14x8c c14x8d c14x8l c14x8m
        refine (eg_of (times_any p q g t (wd a 0) u _ P0.out PL.out TL.out AW.out EU.out) H8.out).mono ?_
        rintro e w9 ⟨rfl, h⟩
        have H9 := hid h
        clear h H8
        go_wp2_with fail
        go_roundw
        case measure => simp [intOf]; omega
        case rel => exact ⟨i + 1, j, u, by omega, by simp, rfl, hid (S1.out EB.out), H9⟩
      · have hb0 : b = 0 := by omega
        subst hb0
        clear hb1
        go_wp2_with fail
        go_roundw
        case measure => simp [intOf]; omega
        case rel => exact ⟨i + 1, j, t, by omega, by simp, rfl, hid (S0.out EB.out), H8⟩
end Go.Proofs.YtioebjbjpjbodaaDoor

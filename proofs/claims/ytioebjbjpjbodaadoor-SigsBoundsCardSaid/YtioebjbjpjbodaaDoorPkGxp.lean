/-
  groups.Exp, walked. Conditions: none.
-/
import Derived.Test.YtioebjbjpjbodaaDoorPkAq
namespace Go.Proofs.YtioebjbjpjbodaaDoor
open Go.RowKit
set_option linter.unusedVariables false

set_option maxRecDepth 100000 in
set_option maxHeartbeats 4000000 in
theorem long_any (p q g a n : Nat) (w : World) (hp : p < 2 ^ 256) (hp1 : 1 < p) (ha : a < p) (hn : n < 2 ^ 256) : Calls Tryd.prog 36 #[gv p q g, num a, num n] w fun e w' => e = .returned (num (a ^ n % p)) ∧ Below w.heap.size w w' := by
  obtain ⟨r, er⟩ : ∃ r, a ^ n % p = r := ⟨_, rfl⟩
  have PL := hid hp
  have P1 := hid hp1
  have AP := hid ha
  have NL := hid hn
  have ER := hid er
  clear hp hp1 ha hn er
  have H0 := hid ((((((Eg.of (Env.refl w) p q g 58)).new a).new n).zero).perm (l' := [(w.heap.size + 1 + 1 + 1, 0), (w.heap.size + 1 + 1, n), (w.heap.size + 1, a)]) (by simp))
  have DZ := hid (show w.heap.size ≤ w.heap.size + 1 + 1 + 1 ∧ w.heap.size ≠ w.heap.size + 1 + 1 + 1 by omega)
  go_enter Tryd.func36, Tryd.ntmps36
  go_wp2_with fail
  generalize (((w.alloc (.cells (gcs p q g) 58)).alloc (.cells (cls a) 24)).alloc (.cells (cls n) 24)).alloc (.cells #[.int .u64 0, .int .u64 0, .int .u64 0, .int .u64 0] 24) = w0 at *
  generalize w.heap.size + 1 + 1 + 1 = g_z at *
  generalize w.heap.size + 1 + 1 = g_b at *
  generalize w.heap.size + 1 = g_a at *
  generalize hzg_p : w.heap.size = g_p at *
  obtain ⟨c0x0a, c0x0b, c0x0c, c0x0d⟩ := H0.out.cell (g_a) (a) (by simp)
  have c0x0l := H0.out.lt (g_a) (a) (by simp)
  have c0x0m := Nat.le_of_lt c0x0l
  obtain ⟨c6x0a, c6x0b, c6x0c, c6x0d⟩ := H0.out.cell (g_b) (n) (by simp)
  have c6x0l := H0.out.lt (g_b) (n) (by simp)
  have c6x0m := Nat.le_of_lt c6x0l
  obtain ⟨ep0a, ep0b, ep0c, ep0d⟩ := H0.out.gp
  have eg0l := H0.out.gl
  have eg0m := Nat.le_of_lt eg0l
  go_wp2_with fail
  clear c0x0a c0x0b c0x0c c0x0d c0x0l c0x0m c6x0a c6x0b c6x0c c6x0d c6x0l c6x0m ep0a ep0b ep0c ep0d eg0l eg0m
  refine (eg_at (mexp_full_at a n p r (Env.refl _) NL.out PL.out P1.out AP.out ER.out) H0.out).mono ?_
  rintro e w1 ⟨rfl, h⟩
  have H1 := hid h
  clear h H0
  go_upto_region 2 with fail
  have H1b := hid (H1.out.new r)
  clear H1
  generalize w1.alloc (.cells (cls r) 24) = w1b at *
  generalize w1.heap.size = g7 at *
  obtain ⟨c0x1a, c0x1b, c0x1c, c0x1d⟩ := H1b.out.cell (g7) (r) (by simp)
  have c0x1l := H1b.out.lt (g7) (r) (by simp)
  have c0x1m := Nat.le_of_lt c0x1l
  obtain ⟨z0, z1, z2, z3⟩ := H1b.out.cell g_z 0 (by simp)
  have zl := H1b.out.lt g_z 0 (by simp)
  have zf := H1b.out.frozen g_z 0 (by simp)
  have HZ := hid (H1b.out.1.set g_z 0 (r) [] (by simp) (by rw [hzg_p]; exact DZ.out.1) (by simp))
  go_wp2
  clear z0 z1 z2 z3 zl zf
  try rw [Exit.noGoto_ret]
  change bodyPost _ _ _ _ _ (fil w1b g_z (r))
  generalize fil w1b g_z (r) = wz at *
  obtain ⟨k0, k1, k2, k3⟩ := HZ.out.cell g_z (r) (by simp)
  exact bodyPost_ret (v := num (r)) (by simp [results, Tryd.results36, go_sem, k0, k1, k2, k3]) rfl ⟨by rw [ER.out], HZ.out.1⟩
set_option maxRecDepth 100000 in
set_option maxHeartbeats 4000000 in
theorem way_short (p q g : Nat) (w : World) (hp : p < 2 ^ 256) (hc : nbits p ≤ 64) : Calls Tryd.prog 27 #[gv p q g] w fun e w' => e = .returned (.func (.func 35) #[gv p q g] #[]) ∧ Below w.heap.size w w' := by
  have hmf : ∀ (fn : Fn) (first cap : Array Value) (w : World), (Instr.makeFunc fn first cap).run Tryd.prog w = .ok (.func fn first cap) w := fun _ _ _ _ => rfl
  obtain ⟨c, ec⟩ : ∃ c, nbits p = c := ⟨_, rfl⟩
  rw [ec] at hc
  have EC := hid (show (nbits p : Int) = (c : Int) by rw [ec])
  have c1 : (c : Int) ≤ 64 := by omega
  have PL := hid hp
  clear hp ec hc
  have H0 := hid (Eg.of (Env.refl w) p q g 58)
  go_enter Tryd.func27, Tryd.ntmps27
  go_upto_region 1 with fail
  generalize w.alloc (.cells (gcs p q g) 58) = w0 at *
  obtain ⟨ep0a, ep0b, ep0c, ep0d⟩ := H0.out.gp
  have eg0l := H0.out.gl
  have eg0m := Nat.le_of_lt eg0l
  go_wp2_with fail
  clear ep0a ep0b ep0c ep0d eg0l eg0m
  refine (eg_at (bits_at p (c : Int) (Env.refl _) PL.out EC.out) H0.out).mono ?_
  rintro e w1 ⟨rfl, h⟩
  have H1 := hid h
  clear h H0
  obtain ⟨ep1a, ep1b, ep1c, ep1d⟩ := H1.out.gp
  obtain ⟨eq1a, eq1b, eq1c, eq1d⟩ := H1.out.gq
  obtain ⟨eg1a, eg1b, eg1c, eg1d⟩ := H1.out.gg
  have eg1l := H1.out.gl
  have eg1m := Nat.le_of_lt eg1l
  go_wp2
  clear ep1a ep1b ep1c ep1d eq1a eq1b eq1c eq1d eg1a eg1b eg1c eg1d eg1l eg1m
  exact bodyPost_ret (v := .func (.func 35) #[gv p q g] #[]) (by simp [results, Tryd.results27, go_sem]) rfl ⟨rfl, H1.out.1.1⟩
set_option maxRecDepth 100000 in
set_option maxHeartbeats 4000000 in
theorem way_long (p q g : Nat) (w : World) (hp : p < 2 ^ 256) (hc : ¬ nbits p ≤ 64) : Calls Tryd.prog 27 #[gv p q g] w fun e w' => e = .returned (.func (.func 36) #[gv p q g] #[]) ∧ Below w.heap.size w w' := by
  have hmf : ∀ (fn : Fn) (first cap : Array Value) (w : World), (Instr.makeFunc fn first cap).run Tryd.prog w = .ok (.func fn first cap) w := fun _ _ _ _ => rfl
  obtain ⟨c, ec⟩ : ∃ c, nbits p = c := ⟨_, rfl⟩
  rw [ec] at hc
  have EC := hid (show (nbits p : Int) = (c : Int) by rw [ec])
  have c1 : ¬ (c : Int) ≤ 64 := by omega
  have PL := hid hp
  clear hp ec hc
  have H0 := hid (Eg.of (Env.refl w) p q g 58)
  go_enter Tryd.func27, Tryd.ntmps27
  go_upto_region 1 with fail
  generalize w.alloc (.cells (gcs p q g) 58) = w0 at *
  obtain ⟨ep0a, ep0b, ep0c, ep0d⟩ := H0.out.gp
  have eg0l := H0.out.gl
  have eg0m := Nat.le_of_lt eg0l
  go_wp2_with fail
  clear ep0a ep0b ep0c ep0d eg0l eg0m
  refine (eg_at (bits_at p (c : Int) (Env.refl _) PL.out EC.out) H0.out).mono ?_
  rintro e w1 ⟨rfl, h⟩
  have H1 := hid h
  clear h H0
  obtain ⟨ep1a, ep1b, ep1c, ep1d⟩ := H1.out.gp
  obtain ⟨eq1a, eq1b, eq1c, eq1d⟩ := H1.out.gq
  obtain ⟨eg1a, eg1b, eg1c, eg1d⟩ := H1.out.gg
  have eg1l := H1.out.gl
  have eg1m := Nat.le_of_lt eg1l
  go_wp2
  clear ep1a ep1b ep1c ep1d eq1a eq1b eq1c eq1d eg1a eg1b eg1c eg1d eg1l eg1m
  exact bodyPost_ret (v := .func (.func 36) #[gv p q g] #[]) (by simp [results, Tryd.results27, go_sem]) rfl ⟨rfl, H1.out.1.1⟩
set_option maxRecDepth 100000 in
set_option maxHeartbeats 4000000 in
theorem gexp_short (p q g a n : Nat) (w : World) (hp : p < 2 ^ 256) (hn : n < 2 ^ 256) (hv : 0 < a ∧ a < p) (hc : nbits p ≤ 64) : Calls Tryd.prog 14 #[gv p q g, num a, num n] w fun e w' => e = .returned (.tuple #[num (a ^ n % p), .int .i64 0]) ∧ Below w.heap.size w w' := by
  have HV : Hid (decide (0 < a ∧ a < p) = true) := hid (by simpa using hv)
  have hp1 : 1 < p := by omega
  have hps : p < 18446744073709551616 := Nat.lt_of_lt_of_le (nbits_lt p) (Nat.pow_le_pow_right (by omega) hc)
  have A1 := hid hv.2
  have P1 := hid hp1
  have PL := hid hp
  have NL := hid hn
  have HC := hid hc
  have A0 := hid (Nat.lt_trans hv.2 hp)
  have PS := hid hps
  clear hv hp1 hp hn hc hps
  have H0 := hid ((((((Eg.of (Env.refl w) p q g 26)).new a).new n).zero).perm (l' := [(w.heap.size + 1 + 1 + 1, 0), (w.heap.size + 1 + 1, n), (w.heap.size + 1, a)]) (by simp))
  have DZ := hid (show w.heap.size ≤ w.heap.size + 1 + 1 + 1 ∧ w.heap.size ≠ w.heap.size + 1 + 1 + 1 by omega)
  go_enter Tryd.func14, Tryd.ntmps14
  go_wp2_with fail
  generalize (((w.alloc (.cells (gcs p q g) 26)).alloc (.cells (cls a) 24)).alloc (.cells (cls n) 24)).alloc (.cells #[.int .u64 0, .int .u64 0, .int .u64 0, .int .u64 0] 24) = w0 at *
  generalize w.heap.size + 1 + 1 + 1 = g_z at *
  generalize w.heap.size + 1 + 1 = g_b at *
  generalize w.heap.size + 1 = g_a at *
  generalize hzg_p : w.heap.size = g_p at *
  obtain ⟨ep0a, ep0b, ep0c, ep0d⟩ := H0.out.gp
  obtain ⟨eq0a, eq0b, eq0c, eq0d⟩ := H0.out.gq
  obtain ⟨eg0a, eg0b, eg0c, eg0d⟩ := H0.out.gg
  have eg0l := H0.out.gl
  have eg0m := Nat.le_of_lt eg0l
  obtain ⟨c14x0a, c14x0b, c14x0c, c14x0d⟩ := H0.out.cell (g_a) (a) (by simp)
  have c14x0l := H0.out.lt (g_a) (a) (by simp)
  have c14x0m := Nat.le_of_lt c14x0l
  go_wp2_with fail
  clear ep0a ep0b ep0c ep0d eq0a eq0b eq0c eq0d eg0a eg0b eg0c eg0d eg0l eg0m c14x0a c14x0b c14x0c c14x0d c14x0l c14x0m
  refine (eg_of (may_any p q g a true _ PL.out A0.out HV.out) H0.out).mono ?_
  rintro e w1 ⟨rfl, h⟩
  have H1 := hid h
  clear h H0
  obtain ⟨ep1a, ep1b, ep1c, ep1d⟩ := H1.out.gp
  obtain ⟨eq1a, eq1b, eq1c, eq1d⟩ := H1.out.gq
  obtain ⟨eg1a, eg1b, eg1c, eg1d⟩ := H1.out.gg
  have eg1l := H1.out.gl
  have eg1m := Nat.le_of_lt eg1l
  go_wp2_with fail
  clear ep1a ep1b ep1c ep1d eq1a eq1b eq1c eq1d eg1a eg1b eg1c eg1d eg1l eg1m
  refine (eg_of (way_short p q g _ PL.out HC.out) H1.out).mono ?_
  rintro e w2 ⟨rfl, h⟩
  have H2 := hid h
  clear h H1
  obtain ⟨c0x2a, c0x2b, c0x2c, c0x2d⟩ := H2.out.cell (g_a) (a) (by simp)
  have c0x2l := H2.out.lt (g_a) (a) (by simp)
  have c0x2m := Nat.le_of_lt c0x2l
  obtain ⟨c6x2a, c6x2b, c6x2c, c6x2d⟩ := H2.out.cell (g_b) (n) (by simp)
  have c6x2l := H2.out.lt (g_b) (n) (by simp)
  have c6x2m := Nat.le_of_lt c6x2l
  go_wp2_with fail
  clear c0x2a c0x2b c0x2c c0x2d c0x2l c0x2m c6x2a c6x2b c6x2c c6x2d c6x2l c6x2m
  refine (eg_of (short_any p q g a n _ PS.out P1.out A1.out NL.out) H2.out).mono ?_
  rintro e w3 ⟨rfl, h⟩
  have H3 := hid h
  clear h H2
  obtain ⟨z0, z1, z2, z3⟩ := H3.out.cell g_z 0 (by simp)
  have zl := H3.out.lt g_z 0 (by simp)
  have zf := H3.out.frozen g_z 0 (by simp)
  have HZ := hid (H3.out.1.set g_z 0 (a ^ n % p) [] (by simp) (by rw [hzg_p]; exact DZ.out.1) (by simp))
  go_wp2
  clear z0 z1 z2 z3 zl zf
  try rw [Exit.noGoto_ret]
  change bodyPost _ _ _ _ _ (fil w3 g_z (a ^ n % p))
  generalize fil w3 g_z (a ^ n % p) = wz at *
  obtain ⟨k0, k1, k2, k3⟩ := HZ.out.cell g_z (a ^ n % p) (by simp)
  exact bodyPost_ret (v := .tuple #[num (a ^ n % p), .int .i64 0]) (by simp [results, Tryd.results14, go_sem, k0, k1, k2, k3]) rfl ⟨rfl, HZ.out.1⟩
set_option maxRecDepth 100000 in
set_option maxHeartbeats 4000000 in
theorem gexp_long (p q g a n : Nat) (w : World) (hp : p < 2 ^ 256) (hn : n < 2 ^ 256) (hv : 0 < a ∧ a < p) (hc : ¬ nbits p ≤ 64) : Calls Tryd.prog 14 #[gv p q g, num a, num n] w fun e w' => e = .returned (.tuple #[num (a ^ n % p), .int .i64 0]) ∧ Below w.heap.size w w' := by
  have HV : Hid (decide (0 < a ∧ a < p) = true) := hid (by simpa using hv)
  have hp1 : 1 < p := by omega
  have A1 := hid hv.2
  have P1 := hid hp1
  have PL := hid hp
  have NL := hid hn
  have HC := hid hc
  have A0 := hid (Nat.lt_trans hv.2 hp)
  clear hv hp1 hp hn hc
  have H0 := hid ((((((Eg.of (Env.refl w) p q g 26)).new a).new n).zero).perm (l' := [(w.heap.size + 1 + 1 + 1, 0), (w.heap.size + 1 + 1, n), (w.heap.size + 1, a)]) (by simp))
  have DZ := hid (show w.heap.size ≤ w.heap.size + 1 + 1 + 1 ∧ w.heap.size ≠ w.heap.size + 1 + 1 + 1 by omega)
  go_enter Tryd.func14, Tryd.ntmps14
  go_wp2_with fail
  generalize (((w.alloc (.cells (gcs p q g) 26)).alloc (.cells (cls a) 24)).alloc (.cells (cls n) 24)).alloc (.cells #[.int .u64 0, .int .u64 0, .int .u64 0, .int .u64 0] 24) = w0 at *
  generalize w.heap.size + 1 + 1 + 1 = g_z at *
  generalize w.heap.size + 1 + 1 = g_b at *
  generalize w.heap.size + 1 = g_a at *
  generalize hzg_p : w.heap.size = g_p at *
  obtain ⟨ep0a, ep0b, ep0c, ep0d⟩ := H0.out.gp
  obtain ⟨eq0a, eq0b, eq0c, eq0d⟩ := H0.out.gq
  obtain ⟨eg0a, eg0b, eg0c, eg0d⟩ := H0.out.gg
  have eg0l := H0.out.gl
  have eg0m := Nat.le_of_lt eg0l
  obtain ⟨c14x0a, c14x0b, c14x0c, c14x0d⟩ := H0.out.cell (g_a) (a) (by simp)
  have c14x0l := H0.out.lt (g_a) (a) (by simp)
  have c14x0m := Nat.le_of_lt c14x0l
  go_wp2_with fail
  clear ep0a ep0b ep0c ep0d eq0a eq0b eq0c eq0d eg0a eg0b eg0c eg0d eg0l eg0m c14x0a c14x0b c14x0c c14x0d c14x0l c14x0m
  refine (eg_of (may_any p q g a true _ PL.out A0.out HV.out) H0.out).mono ?_
  rintro e w1 ⟨rfl, h⟩
  have H1 := hid h
  clear h H0
  obtain ⟨ep1a, ep1b, ep1c, ep1d⟩ := H1.out.gp
  obtain ⟨eq1a, eq1b, eq1c, eq1d⟩ := H1.out.gq
  obtain ⟨eg1a, eg1b, eg1c, eg1d⟩ := H1.out.gg
  have eg1l := H1.out.gl
  have eg1m := Nat.le_of_lt eg1l
  go_wp2_with fail
  clear ep1a ep1b ep1c ep1d eq1a eq1b eq1c eq1d eg1a eg1b eg1c eg1d eg1l eg1m
  refine (eg_of (way_long p q g _ PL.out HC.out) H1.out).mono ?_
  rintro e w2 ⟨rfl, h⟩
  have H2 := hid h
  clear h H1
  obtain ⟨c0x2a, c0x2b, c0x2c, c0x2d⟩ := H2.out.cell (g_a) (a) (by simp)
  have c0x2l := H2.out.lt (g_a) (a) (by simp)
  have c0x2m := Nat.le_of_lt c0x2l
  obtain ⟨c6x2a, c6x2b, c6x2c, c6x2d⟩ := H2.out.cell (g_b) (n) (by simp)
  have c6x2l := H2.out.lt (g_b) (n) (by simp)
  have c6x2m := Nat.le_of_lt c6x2l
  go_wp2_with fail
  clear c0x2a c0x2b c0x2c c0x2d c0x2l c0x2m c6x2a c6x2b c6x2c c6x2d c6x2l c6x2m
  refine (eg_of (long_any p q g a n _ PL.out P1.out A1.out NL.out) H2.out).mono ?_
  rintro e w3 ⟨rfl, h⟩
  have H3 := hid h
  clear h H2
  obtain ⟨z0, z1, z2, z3⟩ := H3.out.cell g_z 0 (by simp)
  have zl := H3.out.lt g_z 0 (by simp)
  have zf := H3.out.frozen g_z 0 (by simp)
  have HZ := hid (H3.out.1.set g_z 0 (a ^ n % p) [] (by simp) (by rw [hzg_p]; exact DZ.out.1) (by simp))
  go_wp2
  clear z0 z1 z2 z3 zl zf
  try rw [Exit.noGoto_ret]
  change bodyPost _ _ _ _ _ (fil w3 g_z (a ^ n % p))
  generalize fil w3 g_z (a ^ n % p) = wz at *
  obtain ⟨k0, k1, k2, k3⟩ := HZ.out.cell g_z (a ^ n % p) (by simp)
  exact bodyPost_ret (v := .tuple #[num (a ^ n % p), .int .i64 0]) (by simp [results, Tryd.results14, go_sem, k0, k1, k2, k3]) rfl ⟨rfl, HZ.out.1⟩
set_option maxRecDepth 100000 in
set_option maxHeartbeats 4000000 in
theorem gexp_none (p q g a n : Nat) (w : World) (hp : p < 2 ^ 256) (ha : a < 2 ^ 256) (hv : ¬ (0 < a ∧ a < p)) : Calls Tryd.prog 14 #[gv p q g, num a, num n] w fun e w' => e = .returned (.tuple #[num 0, .int .i64 1]) ∧ Below w.heap.size w w' := by
  have HV : Hid (decide (0 < a ∧ a < p) = false) := hid (by simpa using hv)
  have PL := hid hp
  have A0 := hid ha
  clear hv hp ha
  have H0 := hid ((((((Eg.of (Env.refl w) p q g 26)).new a).new n).zero).perm (l' := [(w.heap.size + 1 + 1 + 1, 0), (w.heap.size + 1 + 1, n), (w.heap.size + 1, a)]) (by simp))
  have DZ := hid (show w.heap.size ≤ w.heap.size + 1 + 1 + 1 ∧ w.heap.size ≠ w.heap.size + 1 + 1 + 1 by omega)
  go_enter Tryd.func14, Tryd.ntmps14
  go_wp2_with fail
  generalize (((w.alloc (.cells (gcs p q g) 26)).alloc (.cells (cls a) 24)).alloc (.cells (cls n) 24)).alloc (.cells #[.int .u64 0, .int .u64 0, .int .u64 0, .int .u64 0] 24) = w0 at *
  generalize w.heap.size + 1 + 1 + 1 = g_z at *
  generalize w.heap.size + 1 + 1 = g_b at *
  generalize w.heap.size + 1 = g_a at *
  generalize hzg_p : w.heap.size = g_p at *
  obtain ⟨ep0a, ep0b, ep0c, ep0d⟩ := H0.out.gp
  obtain ⟨eq0a, eq0b, eq0c, eq0d⟩ := H0.out.gq
  obtain ⟨eg0a, eg0b, eg0c, eg0d⟩ := H0.out.gg
  have eg0l := H0.out.gl
  have eg0m := Nat.le_of_lt eg0l
  obtain ⟨c14x0a, c14x0b, c14x0c, c14x0d⟩ := H0.out.cell (g_a) (a) (by simp)
  have c14x0l := H0.out.lt (g_a) (a) (by simp)
  have c14x0m := Nat.le_of_lt c14x0l
  go_wp2_with fail
  clear ep0a ep0b ep0c ep0d eq0a eq0b eq0c eq0d eg0a eg0b eg0c eg0d eg0l eg0m c14x0a c14x0b c14x0c c14x0d c14x0l c14x0m
  refine (eg_of (may_any p q g a false _ PL.out A0.out HV.out) H0.out).mono ?_
  rintro e w1 ⟨rfl, h⟩
  have H1 := hid h
  clear h H0
  obtain ⟨z0, z1, z2, z3⟩ := H1.out.cell g_z 0 (by simp)
  have zl := H1.out.lt g_z 0 (by simp)
  have zf := H1.out.frozen g_z 0 (by simp)
  have HZ := hid (H1.out.1.set g_z 0 (0) [] (by simp) (by rw [hzg_p]; exact DZ.out.1) (by simp))
  go_wp2
  clear z0 z1 z2 z3 zl zf
  try rw [Exit.noGoto_ret]
  change bodyPost _ _ _ _ _ (fil w1 g_z (0))
  generalize fil w1 g_z (0) = wz at *
  obtain ⟨k0, k1, k2, k3⟩ := HZ.out.cell g_z (0) (by simp)
  exact bodyPost_ret (v := .tuple #[num (0), .int .i64 1]) (by simp [results, Tryd.results14, go_sem, k0, k1, k2, k3]) rfl ⟨rfl, HZ.out.1⟩
theorem gexp_any (p q g a n r : Nat) (w : World) (hp : p < 2 ^ 256) (hn : n < 2 ^ 256) (hv : 0 < a ∧ a < p) (hr : a ^ n % p = r) : Calls Tryd.prog 14 #[gv p q g, num a, num n] w fun e w' => e = .returned (.tuple #[num r, .int .i64 0]) ∧ Below w.heap.size w w' := by
  subst hr
  by_cases hc : nbits p ≤ 64
  · exact gexp_short p q g a n w hp hn hv hc
  · exact gexp_long p q g a n w hp hn hv hc
end Go.Proofs.YtioebjbjpjbodaaDoor

/-
  burrowlaw03.DividesCuts, walked: it answers true at any two long numbers and any byte. Conditions: the library's table holds what its text lays.
-/
import Derived.Test.YtdjabenccjeooaaDoorAlive
import Derived.Test.YtdjabenccjeooaaDoorHd
namespace Go.Proofs.YtdjabenccjeooaaDoor
open Go.RowKit
set_option linter.unusedVariables false

set_option maxRecDepth 100000 in
set_option maxHeartbeats 3200000 in
theorem cutsLaw_any (lo hi k : Nat) (w : World) (hlo : lo < 2 ^ 256) (hhi : hi < 2 ^ 256) (hk : k < 256) (hT : Tab w) : Calls Tryd.prog 8 #[num lo, num hi, .int .u8 (k : Int)] w fun e w' => e = .returned (.bool true) ∧ Below w.heap.size w w' := by
  have HT := hid hT
  have LO := hid hlo
  have HI := hid hhi
  have HK := hid hk
  have P1 : Hid (shf 1 (k : Int) = 2 ^ k) := hid (by rw [shf_up, Nat.one_mul]; exact Nat.mod_eq_of_lt (Nat.pow_lt_pow_right (by omega) (by omega)))
  have hpl : 2 ^ k < 2 ^ 256 := Nat.pow_lt_pow_right (by omega) (by omega)
  have hp0 : 2 ^ k ≠ 0 := by have := Nat.two_pow_pos k; omega
  have hw : wid lo hi (2 ^ k) = lo % 2 ^ k := wide_cut lo hi 256 k (by omega)
  have hq : shf lo (-(k : Int)) = lo / 2 ^ k := shf_down lo k hlo
  have hs1 : shf lo (256 - (k : Int)) = lo % 2 ^ k * 2 ^ (256 - k) := by
    rw [show (256 - (k : Int)) = ((256 - k : Nat) : Int) by omega, shf_up, show (2 : Nat) ^ 256 = 2 ^ k * 2 ^ (256 - k) by rw [← Nat.pow_add]; congr 1; omega, Nat.mul_mod_mul_right]
  have hsl : lo % 2 ^ k * 2 ^ (256 - k) < 2 ^ 256 := by rw [← hs1]; unfold shf; rw [if_pos (by omega)]; exact Nat.mod_lt _ (by decide)
  have hs2 : shf (lo % 2 ^ k * 2 ^ (256 - k)) ((k : Int) - 256) = lo % 2 ^ k := by
    rw [show ((k : Int) - 256) = -((256 - k : Nat) : Int) by omega, shf_down _ _ hsl, Nat.mul_div_cancel _ (Nat.two_pow_pos _)]
  have h1 : wid lo hi 1 = 0 := Nat.mod_one _
  obtain ⟨p, ep⟩ : ∃ x, 2 ^ k = x := ⟨_, rfl⟩
  have Ep := hid ep
  rw [ep] at hw hq hs1 hsl hs2 hpl hp0 P1
  obtain ⟨r, er⟩ : ∃ x, lo % p = x := ⟨_, rfl⟩
  have Er := hid er
  rw [er] at hw hs1 hsl hs2
  obtain ⟨q, eq⟩ : ∃ x, lo / p = x := ⟨_, rfl⟩
  have Eq := hid eq
  rw [eq] at hq
  obtain ⟨s, es⟩ : ∃ x, r * 2 ^ (256 - k) = x := ⟨_, rfl⟩
  have Es := hid es
  rw [es] at hs1 hsl hs2
  have PL := hid hpl
  have P0 := hid hp0
  have EW := hid hw
  have EQ := hid hq
  have S1 := hid hs1
  have SL := hid hsl
  have S2 := hid hs2
  have W1 := hid h1
  have qr := eq_yes r r rfl
  have qq := eq_yes q q rfl
  have q0 := eq_yes 0 0 rfl
  have w1 : IntKind.i64.wrap (k : Int) = (k : Int) := IntWalk.i64_in _ (by omega)
  have w4 : IntKind.i64.wrap (-(k : Int)) = -(k : Int) := IntWalk.i64_in _ (by omega)
  have w6 : IntKind.i64.wrap (256 - (k : Int)) = 256 - (k : Int) := IntWalk.i64_in _ (by omega)
  have w7 : IntKind.i64.wrap ((k : Int) - 256) = (k : Int) - 256 := IntWalk.i64_in _ (by omega)
  clear hT hlo hhi hk hpl hp0 hw hq hs1 hsl hs2 h1 ep er eq es
  have H0 := hid (((Env.refl w).new2 lo hi))
  go_enter Tryd.func8, Tryd.ntmps8
  go_wp2_with fail
  generalize (w.alloc (.cells (cls lo) 24)).alloc (.cells (cls hi) 24) = w0 at *
  generalize w.heap.size + 1 = g_b at *
  generalize w.heap.size = g_a at *
  refine (ofl_at 1 1 H0.out (by decide) (by decide)).mono ?_
  rintro e w1 ⟨rfl, h⟩
  have H1 := hid h
  clear h H0
  go_wp2_with fail
  refine (shift_at 1 p (k : Int) H1.out (by decide) (by have := HK.out; omega) (by have := HK.out; omega) P1.out).mono ?_
  rintro e w2 ⟨rfl, h⟩
  have H2 := hid h
  clear h H1
  obtain ⟨c0x2a, c0x2b, c0x2c, c0x2d⟩ := H2.out.cell (g_a) (lo) (by simp)
  have c0x2l := H2.out.lt (g_a) (lo) (by simp)
  have c0x2m := Nat.le_of_lt c0x2l
  obtain ⟨c6x2a, c6x2b, c6x2c, c6x2d⟩ := H2.out.cell (g_b) (hi) (by simp)
  have c6x2l := H2.out.lt (g_b) (hi) (by simp)
  have c6x2m := Nat.le_of_lt c6x2l
  go_wp2_with fail
  clear c0x2a c0x2b c0x2c c0x2d c0x2l c0x2m c6x2a c6x2b c6x2c c6x2d c6x2l c6x2m
  have H2b := hid (H2.out.new p)
  clear H2
  generalize w2.alloc (.cells (cls p) 24) = w2b at *
  generalize w2.heap.size = g7 at *
  refine (wide_at lo hi p r H2b.out LO.out HI.out PL.out P0.out EW.out).mono ?_
  rintro e w3 ⟨rfl, h⟩
  have H3 := hid h
  clear h H2b
  obtain ⟨c0x3a, c0x3b, c0x3c, c0x3d⟩ := H3.out.cell (g_a) (lo) (by simp)
  have c0x3l := H3.out.lt (g_a) (lo) (by simp)
  have c0x3m := Nat.le_of_lt c0x3l
  obtain ⟨c6x3a, c6x3b, c6x3c, c6x3d⟩ := H3.out.cell (g7) (p) (by simp)
  have c6x3l := H3.out.lt (g7) (p) (by simp)
  have c6x3m := Nat.le_of_lt c6x3l
  go_wp2_with fail
  clear c0x3a c0x3b c0x3c c0x3d c0x3l c0x3m c6x3a c6x3b c6x3c c6x3d c6x3l c6x3m
  have H3b := hid (H3.out.new r)
  clear H3
  generalize w3.alloc (.cells (cls r) 24) = w3b at *
  generalize w3.heap.size = g8 at *
  refine (div_at lo p q r H3b.out LO.out PL.out P0.out Eq.out Er.out).mono ?_
  rintro e w4 ⟨rfl, h⟩
  have H4 := hid h
  clear h H3b
  obtain ⟨c0x4a, c0x4b, c0x4c, c0x4d⟩ := H4.out.cell (g_a) (lo) (by simp)
  have c0x4l := H4.out.lt (g_a) (lo) (by simp)
  have c0x4m := Nat.le_of_lt c0x4l
  go_wp2_with fail
  clear c0x4a c0x4b c0x4c c0x4d c0x4l c0x4m
  have H4b := hid (H4.out.new2 q r)
  clear H4
  generalize (w4.alloc (.cells (cls q) 24)).alloc (.cells (cls r) 24) = w4b at *
  generalize w4.heap.size + 1 = g10s at *
  generalize w4.heap.size = g10 at *
  refine (shift_at lo s (256 - (k : Int)) H4b.out LO.out (by have := HK.out; omega) (by have := HK.out; omega) S1.out).mono ?_
  rintro e w5 ⟨rfl, h⟩
  have H5 := hid h
  clear h H4b
  go_wp2_with fail
  refine (shift_at s r ((k : Int) - 256) H5.out SL.out (by have := HK.out; omega) (by have := HK.out; omega) S2.out).mono ?_
  rintro e w6 ⟨rfl, h⟩
  have H6 := hid h
  clear h H5
  go_upto_region 5 with fail
  have H6b := hid (H6.out.new r)
  clear H6
  generalize w6.alloc (.cells (cls r) 24) = w6b at *
  generalize w6.heap.size = g13 at *
  go_upto_region 5 with fail
  have HE := H6b
  go_cut [14, 15] (fun s14 s15 wx => ∃ g14 : Nat, s14 = .pointer (some ⟨g14, 0, none⟩) ∧ s15 = .int .i64 0 ∧ Hid (Env w ((g14, 0) :: [(g13, r), (g10s, r), (g10, q), (g8, r), (g7, p), (g_b, hi), (g_a, lo)]) wx))
  case first =>
    have hs := HE.out.drew
    have hE0 := HE.out
    go_region_held3 (fun w' => (w'.cell? ⟨g_a, 0, none⟩ = some (.int .u64 (wd (lo) 0 : Int)) ∧ w'.cell? ⟨g_a, 1, none⟩ = some (.int .u64 (wd (lo) 1 : Int)) ∧ w'.cell? ⟨g_a, 2, none⟩ = some (.int .u64 (wd (lo) 2 : Int)) ∧ w'.cell? ⟨g_a, 3, none⟩ = some (.int .u64 (wd (lo) 3 : Int))) ∧ (w'.cell? ⟨g_b, 0, none⟩ = some (.int .u64 (wd (hi) 0 : Int)) ∧ w'.cell? ⟨g_b, 1, none⟩ = some (.int .u64 (wd (hi) 1 : Int)) ∧ w'.cell? ⟨g_b, 2, none⟩ = some (.int .u64 (wd (hi) 2 : Int)) ∧ w'.cell? ⟨g_b, 3, none⟩ = some (.int .u64 (wd (hi) 3 : Int)))) (first | (with_reducible exact ⟨hs.cell _ _ (by simp), hs.cell _ _ (by simp)⟩) | (with_reducible exact ⟨hs.zero.cell _ _ (by simp), hs.zero.cell _ _ (by simp)⟩) | (with_reducible exact ⟨hE0.zero.drew.cell _ _ (by simp), hE0.zero.drew.cell _ _ (by simp)⟩) | (with_reducible exact ⟨(hs.new (0)).cell _ _ (by simp), (hs.new (0)).cell _ _ (by simp)⟩) | (with_reducible exact ⟨(hs.setHd hfr.out (0)).cell _ _ (by simp), (hs.setHd hfr.out (0)).cell _ _ (by simp)⟩)) (first | ((go_at_call 22); (with_reducible refine (ofl_at 1 1 hs (by decide) (by decide)).mono ?_); rintro e wn ⟨rfl, hs⟩; obtain ⟨⟨z0, z1, z2, z3⟩, zf, zl, zn⟩ := hs.hd) | ((go_at_call 22); (first | (have hfr2 := hfr; have hfr := hid hs.fresh) | have hfr := hid hs.fresh); (with_reducible refine (ofl_at 1 1 hs.zero (by decide) (by decide)).mono ?_); rintro e wn ⟨rfl, hs⟩; obtain ⟨⟨z0, z1, z2, z3⟩, zf, zl, zn⟩ := hs.hd) | ((go_at_call 22); have hfr := hid hE0.fresh; (with_reducible refine (ofl_at 1 1 hE0.zero.drew (by decide) (by decide)).mono ?_); rintro e wn ⟨rfl, hs⟩; obtain ⟨⟨z0, z1, z2, z3⟩, zf, zl, zn⟩ := hs.hd) | ((go_at_call 12); (with_reducible refine (wide_at lo hi 1 0 hs LO.out HI.out (by decide) (by decide) W1.out).mono ?_); rintro e wn ⟨rfl, hs⟩; obtain ⟨⟨z0, z1, z2, z3⟩, zf, zl, zn⟩ := hs.hd) | ((go_at_call 12); (first | (have hfr2 := hfr; have hfr := hid hs.fresh) | have hfr := hid hs.fresh); (with_reducible refine (wide_at lo hi 1 0 hs.zero LO.out HI.out (by decide) (by decide) W1.out).mono ?_); rintro e wn ⟨rfl, hs⟩; obtain ⟨⟨z0, z1, z2, z3⟩, zf, zl, zn⟩ := hs.hd) | ((go_at_call 12); have hfr := hid hE0.fresh; (with_reducible refine (wide_at lo hi 1 0 hE0.zero.drew LO.out HI.out (by decide) (by decide) W1.out).mono ?_); rintro e wn ⟨rfl, hs⟩; obtain ⟨⟨z0, z1, z2, z3⟩, zf, zl, zn⟩ := hs.hd))
    all_goals
      go_wp2_with fail
      go_meet
      first | (with_reducible exact ⟨_, rfl, rfl, hid (hs.new (0))⟩) | (with_reducible exact ⟨_, rfl, rfl, hid (hs.setHd hfr.out (0))⟩)
  case rest =>
    obtain ⟨g14, rfl, rfl, H7⟩ := hcut
    clear HE H6b
    go_wp2_with fail
    have hs := H7.out.drew
    go_region_held3 (fun w' => (w'.cell? ⟨g8, 0, none⟩ = some (.int .u64 (wd (r) 0 : Int)) ∧ w'.cell? ⟨g8, 1, none⟩ = some (.int .u64 (wd (r) 1 : Int)) ∧ w'.cell? ⟨g8, 2, none⟩ = some (.int .u64 (wd (r) 2 : Int)) ∧ w'.cell? ⟨g8, 3, none⟩ = some (.int .u64 (wd (r) 3 : Int))) ∧ (w'.cell? ⟨g13, 0, none⟩ = some (.int .u64 (wd (r) 0 : Int)) ∧ w'.cell? ⟨g13, 1, none⟩ = some (.int .u64 (wd (r) 1 : Int)) ∧ w'.cell? ⟨g13, 2, none⟩ = some (.int .u64 (wd (r) 2 : Int)) ∧ w'.cell? ⟨g13, 3, none⟩ = some (.int .u64 (wd (r) 3 : Int))) ∧ (w'.cell? ⟨g10s, 0, none⟩ = some (.int .u64 (wd (r) 0 : Int)) ∧ w'.cell? ⟨g10s, 1, none⟩ = some (.int .u64 (wd (r) 1 : Int)) ∧ w'.cell? ⟨g10s, 2, none⟩ = some (.int .u64 (wd (r) 2 : Int)) ∧ w'.cell? ⟨g10s, 3, none⟩ = some (.int .u64 (wd (r) 3 : Int))) ∧ (w'.cell? ⟨g10, 0, none⟩ = some (.int .u64 (wd (q) 0 : Int)) ∧ w'.cell? ⟨g10, 1, none⟩ = some (.int .u64 (wd (q) 1 : Int)) ∧ w'.cell? ⟨g10, 2, none⟩ = some (.int .u64 (wd (q) 2 : Int)) ∧ w'.cell? ⟨g10, 3, none⟩ = some (.int .u64 (wd (q) 3 : Int))) ∧ (w'.cell? ⟨g_a, 0, none⟩ = some (.int .u64 (wd (lo) 0 : Int)) ∧ w'.cell? ⟨g_a, 1, none⟩ = some (.int .u64 (wd (lo) 1 : Int)) ∧ w'.cell? ⟨g_a, 2, none⟩ = some (.int .u64 (wd (lo) 2 : Int)) ∧ w'.cell? ⟨g_a, 3, none⟩ = some (.int .u64 (wd (lo) 3 : Int))) ∧ (w'.cell? ⟨g14, 0, none⟩ = some (.int .u64 (wd (0) 0 : Int)) ∧ w'.cell? ⟨g14, 1, none⟩ = some (.int .u64 (wd (0) 1 : Int)) ∧ w'.cell? ⟨g14, 2, none⟩ = some (.int .u64 (wd (0) 2 : Int)) ∧ w'.cell? ⟨g14, 3, none⟩ = some (.int .u64 (wd (0) 3 : Int)))) (exact ⟨Env.cell (by assumption) _ _ (by simp), Env.cell (by assumption) _ _ (by simp), Env.cell (by assumption) _ _ (by simp), Env.cell (by assumption) _ _ (by simp), Env.cell (by assumption) _ _ (by simp), Env.cell (by assumption) _ _ (by simp)⟩) (first | ((go_at_call 17); (with_reducible refine (alive_at (by assumption) HT.out).mono ?_); rintro e wn ⟨rfl, hs⟩) | ((go_at_call 23); (with_reducible refine (shift_at lo q (-(k : Int)) (by assumption) LO.out (by have := HK.out; omega) (by have := HK.out; omega) EQ.out).mono ?_); rintro e wn ⟨rfl, hs⟩) | ((go_at_call 16); (with_reducible refine (none_at (by assumption)).mono ?_); rintro e wn ⟨rfl, hs⟩))
    go_wp2
    go_ret
    exact ⟨rfl, hs.1⟩

end Go.Proofs.YtdjabenccjeooaaDoor

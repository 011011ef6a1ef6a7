/-
  burrowlaw02.LimbsSteps, walked: it answers true at any two long numbers. Conditions: none.
-/
import Derived.Test.YtmhpeeicclbcmaaAlive
import Derived.Test.YtmhpeeicclbcmaaFacts
import Derived.Deep.RegionWith
import Derived.Deep.DeepCutAuto
namespace Go.Proofs.Ytmhpeeicclbcmaa
open Go.RowKit
set_option linter.unusedVariables false

/-- what the loop carries: the two numbers' boxes, and those of what is gathered -/
def Sp (w : World) (ga gb gl gh a b lo hi : Nat) (w' : World) : Prop := Env w [(gh, hi), (gl, lo), (gb, b), (ga, a)] w' ∧ gl ≠ ga ∧ gl ≠ gb ∧ gl ≠ gh ∧ gh ≠ ga ∧ gh ≠ gb ∧ w.heap.size ≤ gl ∧ w.heap.size ≤ gh
section
variable {w w' w2 : World} {ga gb gl gh a b lo hi : Nat}
theorem Sp.on (h : Sp w ga gb gl gh a b lo hi w') (hb : Below w'.heap.size w' w2) : Sp w ga gb gl gh a b lo hi w2 := ⟨h.1.on hb, h.2⟩
theorem Sp.drew (h : Sp w ga gb gl gh a b lo hi w') : Sp w ga gb gl gh a b lo hi w'.drew := ⟨h.1.drew, h.2⟩
theorem Sp.setLo (h : Sp w ga gb gl gh a b lo hi w') (x : Nat) : Sp w ga gb gl gh a b x hi (fil w' gl x) := by
  obtain ⟨⟨hb, hm⟩, h1, h2, h3, h4, h5, h6, h7⟩ := h
  refine ⟨⟨fil_below x hb h6, fun p hp => ?_⟩, h1, h2, h3, h4, h5, h6, h7⟩
  simp only [List.mem_cons, List.not_mem_nil, or_false] at hp
  rcases hp with rfl | rfl | rfl | rfl
  · exact fil_other x hi (hm (gh, hi) (by simp)) (Ne.symm h3)
  · exact fil_nm x (hm (gl, lo) (by simp)).fr
  · exact fil_other x b (hm (gb, b) (by simp)) (Ne.symm h2)
  · exact fil_other x a (hm (ga, a) (by simp)) (Ne.symm h1)
theorem Sp.setHi (h : Sp w ga gb gl gh a b lo hi w') (x : Nat) : Sp w ga gb gl gh a b lo x (fil w' gh x) := by
  obtain ⟨⟨hb, hm⟩, h1, h2, h3, h4, h5, h6, h7⟩ := h
  refine ⟨⟨fil_below x hb h7, fun p hp => ?_⟩, h1, h2, h3, h4, h5, h6, h7⟩
  simp only [List.mem_cons, List.not_mem_nil, or_false] at hp
  rcases hp with rfl | rfl | rfl | rfl
  · exact fil_nm x (hm (gh, hi) (by simp)).fr
  · exact fil_other x lo (hm (gl, lo) (by simp)) h3
  · exact fil_other x b (hm (gb, b) (by simp)) (Ne.symm h5)
  · exact fil_other x a (hm (ga, a) (by simp)) (Ne.symm h4)
theorem sp_of {f : FuncId} {args : Array Value} {v : Value} (hc : Calls Try.prog f args w' fun e w2 => e = .returned v ∧ Below w'.heap.size w' w2) (h : Sp w ga gb gl gh a b lo hi w') : Calls Try.prog f args w' fun e w2 => e = .returned v ∧ Sp w ga gb gl gh a b lo hi w2 :=
  hc.mono fun e w2 ⟨he, hb⟩ => ⟨he, h.on hb⟩
theorem Sp.cells (h : Sp w ga gb gl gh a b lo hi w') : (w'.cell? ⟨ga, 0, none⟩ = some (.int .u64 (wd a 0 : Int)) ∧ w'.cell? ⟨ga, 1, none⟩ = some (.int .u64 (wd a 1 : Int)) ∧ w'.cell? ⟨ga, 2, none⟩ = some (.int .u64 (wd a 2 : Int)) ∧ w'.cell? ⟨ga, 3, none⟩ = some (.int .u64 (wd a 3 : Int)))
    ∧ (w'.cell? ⟨gl, 0, none⟩ = some (.int .u64 (wd lo 0 : Int)) ∧ w'.cell? ⟨gl, 1, none⟩ = some (.int .u64 (wd lo 1 : Int)) ∧ w'.cell? ⟨gl, 2, none⟩ = some (.int .u64 (wd lo 2 : Int)) ∧ w'.cell? ⟨gl, 3, none⟩ = some (.int .u64 (wd lo 3 : Int)))
    ∧ (w'.cell? ⟨gh, 0, none⟩ = some (.int .u64 (wd hi 0 : Int)) ∧ w'.cell? ⟨gh, 1, none⟩ = some (.int .u64 (wd hi 1 : Int)) ∧ w'.cell? ⟨gh, 2, none⟩ = some (.int .u64 (wd hi 2 : Int)) ∧ w'.cell? ⟨gh, 3, none⟩ = some (.int .u64 (wd hi 3 : Int)))
    ∧ (∀ i, w'.frozen? ⟨gl, i, none⟩ = false) ∧ (∀ i, w'.frozen? ⟨gh, i, none⟩ = false) :=
  ⟨h.1.cell ga a (by simp), h.1.cell gl lo (by simp), h.1.cell gh hi (by simp), (h.1.nm gl lo (by simp)).fr.frozen, (h.1.nm gh hi (by simp)).fr.frozen⟩
end
theorem shift_b (x y : Nat) (n : Int) (w : World) (hx : x < 2 ^ 256) (h0 : -9223372036854775808 ≤ n) (h1 : n ≤ 9223372036854775807) (hy : shf x n = y) : Calls Try.prog 16 #[num x, .int .i64 n] w fun e w2 => e = .returned (num y) ∧ Below w.heap.size w w2 := by
  subst hy; exact shift_any x n w hx h0 h1
theorem add_b (x y s : Nat) (k : Int) (w : World) (hx : x < 2 ^ 256) (hy : y < 2 ^ 256) (hs : (x + y) % 2 ^ 256 = s) (hk : (((x + y) / 2 ^ 256 : Nat) : Int) = k) : Calls Try.prog 10 #[num x, num y] w fun e w2 => e = .returned (.tuple #[num s, .int .u64 k]) ∧ Below w.heap.size w w2 := by
  subst hs; subst hk; exact add_any x y w hx hy
theorem cls_zero : (#[.int .u64 0, .int .u64 0, .int .u64 0, .int .u64 0] : Array Value) = cls 0 := by have := num_zero; injection this
theorem Sp.init (w : World) (a b : Nat) : Sp w w.heap.size (w.heap.size + 1) (w.heap.size + 1 + 1) (w.heap.size + 1 + 1 + 1) a b 0 0 ((((w.alloc (.cells (cls a) 24)).alloc (.cells (cls b) 24)).alloc (.cells #[.int .u64 0, .int .u64 0, .int .u64 0, .int .u64 0] 24)).alloc (.cells #[.int .u64 0, .int .u64 0, .int .u64 0, .int .u64 0] 24)) := by
  rw [cls_zero]
  refine ⟨?_, by omega, by omega, by omega, by omega, by omega, by omega, by omega⟩
  have := (((Env.refl w).new2 a b).new 0).new 0
  simpa using this
/-- a round: what is moved up to a bit that is set is gathered -/
theorem round_one {a b lo hi k : Nat} (ha : a < 2 ^ 256) (hb : b < 2 ^ 256) (hk : k < 256) (hl : lo < 2 ^ 256) (h : lo + 2 ^ 256 * hi = a * (b % 2 ^ k)) (hbit : bitAt b k = 1) :
    (hi + (lo + shf a (k : Int)) / 2 ^ 256) % 2 ^ 256 = hi + (lo + shf a (k : Int)) / 2 ^ 256 ∧ (hi + (lo + shf a (k : Int)) / 2 ^ 256 + shf a ((k : Int) - 256)) % 2 ^ 256 = hi + (lo + shf a (k : Int)) / 2 ^ 256 + shf a ((k : Int) - 256)
    ∧ hi + (lo + shf a (k : Int)) / 2 ^ 256 + shf a ((k : Int) - 256) < 2 ^ 256 ∧ hi + (lo + shf a (k : Int)) / 2 ^ 256 < 2 ^ 256
    ∧ (lo + shf a (k : Int)) % 2 ^ 256 + 2 ^ 256 * (hi + (lo + shf a (k : Int)) / 2 ^ 256 + shf a ((k : Int) - 256)) = a * (b % 2 ^ (k + 1)) := by
  have e1 : shf a (k : Int) = a * 2 ^ k % 2 ^ 256 := by unfold shf; rw [if_pos (by omega), Int.toNat_natCast]
  have e2 : shf a ((k : Int) - 256) = a / 2 ^ (256 - k) := by unfold shf; rw [if_neg (by omega), show (-((k : Int) - 256)).toNat = 256 - k by omega]
  have r := steps_round ha hb hk hl h hbit
  rw [e1, e2]
  have hlt : a * (b % 2 ^ (k + 1)) < 2 ^ 256 * 2 ^ 256 := by
    refine Nat.lt_of_le_of_lt (Nat.mul_le_mul_left a (Nat.mod_le b _)) (prod_lt ha hb)
  have hb2 : hi + (lo + a * 2 ^ k % 2 ^ 256) / 2 ^ 256 + a / 2 ^ (256 - k) < 2 ^ 256 := by
    have : 2 ^ 256 * (hi + (lo + a * 2 ^ k % 2 ^ 256) / 2 ^ 256 + a / 2 ^ (256 - k)) < 2 ^ 256 * 2 ^ 256 := by omega
    exact Nat.lt_of_mul_lt_mul_left this
  have hb1 : hi + (lo + a * 2 ^ k % 2 ^ 256) / 2 ^ 256 < 2 ^ 256 := by omega
  exact ⟨Nat.mod_eq_of_lt hb1, Nat.mod_eq_of_lt hb2, hb2, hb1, r⟩
theorem round_none {b k : Nat} (hbit : bitAt b k = 0) : b % 2 ^ (k + 1) = b % 2 ^ k := by rw [low_step, hbit, Nat.mul_zero, Nat.add_zero]

set_option maxRecDepth 100000 in
set_option maxHeartbeats 3200000 in
theorem stepsLaw_any (a b : Nat) (w : World) (ha : a < 2 ^ 256) (hb : b < 2 ^ 256) : Calls Try.prog 5 #[num a, num b] w fun e w' => e = .returned (.bool true) ∧ Below w.heap.size w w' := by
  have HA := hid ha
  have HB := hid hb
  have HS := hid (Sp.init w a b)
  clear ha hb
  go_enter Try.func5, Try.ntmps5
  go_wp2
  generalize (((w.alloc (.cells (cls a) 24)).alloc (.cells (cls b) 24)).alloc (.cells #[.int .u64 0, .int .u64 0, .int .u64 0, .int .u64 0] 24)).alloc (.cells #[.int .u64 0, .int .u64 0, .int .u64 0, .int .u64 0] 24) = w0 at *
  generalize w.heap.size + 1 + 1 + 1 = gh at *
  generalize w.heap.size + 1 + 1 = gl at *
  generalize w.heap.size + 1 = gb at *
  generalize hga : w.heap.size = ga at *
  clear hga
  go_loopw [7] (fun i wr => ∃ k lo hi : Nat, k ≤ 256 ∧ i = .int .i64 k ∧ Hid (lo < 2 ^ 256) ∧ Hid (hi < 2 ^ 256) ∧ Hid (lo + 2 ^ 256 * hi = a * (b % 2 ^ k)) ∧ Hid (Sp w ga gb gl gh a b lo hi wr)) (fun i _ => 256 - (intOf i).toNat)
  case atStart => exact ⟨0, 0, 0, by omega, rfl, hid (by decide), hid (by decide), hid (by rw [Nat.pow_zero, Nat.mod_one]; rfl), HS⟩
  case round =>
    obtain ⟨k, lo, hi, hk, rfl, HL, HH, HV, HS⟩ := hrel
    by_cases hlt : k < 256
    · obtain ⟨b0, b1, b2, b3⟩ := HS.out.1.cell gb b (by simp)
      have hbl := bitAt_lt b k
      rcases (show bitAt b k = 0 ∨ bitAt b k = 1 by omega) with hbit | hbit
      · have hbi : Hid ((bi b (k : Int) : Int) = 0) := hid (by unfold bi; rw [if_neg (by omega), Int.toNat_natCast, hbit]; rfl)
        have HV2 := hid (p := lo + 2 ^ 256 * hi = a * (b % 2 ^ (k + 1))) (by rw [round_none hbit]; exact HV.out)
        clear hbl hbit
        go_wp2_with fail
        refine (sp_of ((bit_any b (k : Int) _ HB.out (by omega) (by omega))) HS.out).mono ?_
        rintro e w1 ⟨rfl, h1⟩
        rw [hbi.out]
        have HS1 := hid h1
        clear h1 b0 b1 b2 b3
        go_wp2
        go_roundw
        case rel => exact ⟨k + 1, lo, hi, by omega, by go_num, HL, HH, HV2, HS1⟩
        case measure => simp [intOf]; omega
      · have hbi : Hid ((bi b (k : Int) : Int) = 1) := hid (by unfold bi; rw [if_neg (by omega), Int.toNat_natCast, hbit]; rfl)
        obtain ⟨r1, r2, r3, r4, r5⟩ := round_one HA.out HB.out hlt HL.out HV.out hbit
        obtain ⟨sh, e1, n1⟩ : ∃ y, Hid (shf a (k : Int) = y) ∧ Hid (y < 2 ^ 256) := ⟨_, hid rfl, hid (shf_lt _ _ HA.out)⟩
        obtain ⟨sh2, e2, n2⟩ : ∃ y, Hid (shf a ((k : Int) - 256) = y) ∧ Hid (y < 2 ^ 256) := ⟨_, hid rfl, hid (shf_lt _ _ HA.out)⟩
        simp only [e1.out, e2.out] at r1 r2 r3 r4 r5
        obtain ⟨s, e3, n3⟩ : ∃ y, Hid ((lo + sh) % 2 ^ 256 = y) ∧ Hid (y < 2 ^ 256) := ⟨_, hid rfl, hid (Nat.mod_lt _ (Nat.two_pow_pos 256))⟩
        obtain ⟨z, e4⟩ : ∃ y, Hid ((lo + sh) / 2 ^ 256 = y) := ⟨_, hid rfl⟩
        simp only [e4.out] at r1 r2 r3 r4 r5
        have R1 := hid r1
        have R2 := hid r2
        have R3 := hid r3
        have R4 := hid r4
        have R5 := hid (p := s + 2 ^ 256 * (hi + z + sh2) = a * (b % 2 ^ (k + 1))) (by rw [← e3.out]; exact r5)
        have hz : z < 18446744073709551616 := by
          have h1 := HL.out; have h2 := n1.out; have h3 := e4.out
          rw [p256] at *
          omega
        have HZ := hid hz
        have HZ2 := hid (p := z < 2 ^ 256) (by rw [p256]; omega)
        have K1 : Hid ((((hi + z) / 2 ^ 256 : Nat) : Int) = 0) := hid (by have := Nat.div_eq_of_lt r4; omega)
        have K2 : Hid ((((hi + z + sh2) / 2 ^ 256 : Nat) : Int) = 0) := hid (by have := Nat.div_eq_of_lt r3; omega)
        clear r1 r2 r3 r4 r5 hz hbl hbit
        go_wp2_with fail
        refine (sp_of ((bit_any b (k : Int) _ HB.out (by omega) (by omega))) HS.out).mono ?_
        rintro e w1 ⟨rfl, h1⟩
        rw [hbi.out]
        have HS1 := hid h1
        clear h1 b0 b1 b2 b3 HS
        go_upto_region 7 with fail
        obtain ⟨⟨a0, a1, a2, a3⟩, ⟨l0, l1, l2, l3⟩, ⟨h0, h1, h2, h3⟩, fl, fh⟩ := HS1.out.cells
        go_cut [8] (fun s8 wx => s8 = .int .u64 (z : Int) ∧ Hid (Sp w ga gb gl gh a b s hi wx))
        case first =>
          have hs := HS1.out.drew
          go_region_with (first | ((go_at_call 16); (with_reducible refine (sp_of (shift_b a sh (k : Int) _ HA.out (by omega) (by omega) e1.out) (by assumption)).mono ?_); rintro e wn ⟨rfl, hs⟩; obtain ⟨⟨a0, a1, a2, a3⟩, ⟨l0, l1, l2, l3⟩, ⟨h0, h1, h2, h3⟩, fl, fh⟩ := hs.cells) | ((go_at_call 10); (with_reducible refine (sp_of (add_b lo sh s (z : Int) _ HL.out n1.out e3.out (by rw [e4.out])) (by assumption)).mono ?_); rintro e wn ⟨rfl, hs⟩; obtain ⟨⟨a0, a1, a2, a3⟩, ⟨l0, l1, l2, l3⟩, ⟨h0, h1, h2, h3⟩, fl, fh⟩ := hs.cells))
          all_goals
            go_wp2_with fail
            go_meet
            exact ⟨rfl, hid (hs.setLo s)⟩
        case rest =>
          obtain ⟨rfl, HS2⟩ := hcut
          clear a0 a1 a2 a3 l0 l1 l2 l3 h0 h1 h2 h3 fl fh HS1
          go_upto_region 8 with fail
          obtain ⟨⟨a0, a1, a2, a3⟩, ⟨l0, l1, l2, l3⟩, ⟨h0, h1, h2, h3⟩, fl, fh⟩ := HS2.out.cells
          go_cut [7] (fun s7 wx => s7 = .int .i64 (k : Int) ∧ Hid (Sp w ga gb gl gh a b s (hi + z) wx))
          case first =>
            have hs := HS2.out.drew
            go_region_with (first | ((go_at_call 24); (with_reducible refine (sp_of (of_any z _ HZ.out) (by assumption)).mono ?_); rintro e wn ⟨rfl, hs⟩; obtain ⟨⟨a0, a1, a2, a3⟩, ⟨l0, l1, l2, l3⟩, ⟨h0, h1, h2, h3⟩, fl, fh⟩ := hs.cells) | ((go_at_call 10); (with_reducible refine (sp_of (add_b hi z (hi + z) 0 _ HH.out HZ2.out R1.out K1.out) (by assumption)).mono ?_); rintro e wn ⟨rfl, hs⟩; obtain ⟨⟨a0, a1, a2, a3⟩, ⟨l0, l1, l2, l3⟩, ⟨h0, h1, h2, h3⟩, fl, fh⟩ := hs.cells))
            all_goals
              go_wp2_with fail
              go_meet
              exact ⟨rfl, hid (hs.setHi (hi + z))⟩
          case rest =>
            obtain ⟨rfl, HS3⟩ := hcut
            clear a0 a1 a2 a3 l0 l1 l2 l3 h0 h1 h2 h3 fl fh HS2
            have w1 : IntKind.i64.wrap ((k : Int) - 256) = (k : Int) - 256 := IntWalk.i64_in _ (by omega)
            go_upto_region 9 with fail
            obtain ⟨⟨a0, a1, a2, a3⟩, ⟨l0, l1, l2, l3⟩, ⟨h0, h1, h2, h3⟩, fl, fh⟩ := HS3.out.cells
            have hs := HS3.out.drew
            go_region_with (first | ((go_at_call 16); (with_reducible refine (sp_of (shift_b a sh2 ((k : Int) - 256) _ HA.out (by omega) (by omega) e2.out) (by assumption)).mono ?_); rintro e wn ⟨rfl, hs⟩; obtain ⟨⟨a0, a1, a2, a3⟩, ⟨l0, l1, l2, l3⟩, ⟨h0, h1, h2, h3⟩, fl, fh⟩ := hs.cells) | ((go_at_call 10); (with_reducible refine (sp_of (add_b (hi + z) sh2 (hi + z + sh2) 0 _ R4.out n2.out R2.out K2.out) (by assumption)).mono ?_); rintro e wn ⟨rfl, hs⟩; obtain ⟨⟨a0, a1, a2, a3⟩, ⟨l0, l1, l2, l3⟩, ⟨h0, h1, h2, h3⟩, fl, fh⟩ := hs.cells))
            all_goals
              have HS4 := hid (hs.setHi (hi + z + sh2))
              clear a0 a1 a2 a3 l0 l1 l2 l3 h0 h1 h2 h3 fl fh w1
              go_wp2
              go_roundw
              case rel => exact ⟨k + 1, s, hi + z + sh2, by omega, by go_num, n3, R3, R5, HS4⟩
              case measure => simp [intOf]; omega
    · obtain rfl : k = 256 := by omega
      have hv := HV.out
      rw [Nat.mod_eq_of_lt HB.out] at hv
      have E1 := hid (p := a * b % 2 ^ 256 = lo) (by rw [← hv, Nat.add_mul_mod_self_left, Nat.mod_eq_of_lt HL.out])
      have E2 := hid (p := a * b / 2 ^ 256 = hi) (by rw [← hv, Nat.add_mul_div_left _ _ (Nat.two_pow_pos 256), Nat.div_eq_of_lt HL.out, Nat.zero_add])
      have H0 := hid HS.out.1
      obtain ⟨a0, a1, a2, a3⟩ := H0.out.cell ga a (by simp)
      obtain ⟨b0, b1, b2, b3⟩ := H0.out.cell gb b (by simp)
      clear hv HV HS
      go_wp2_with fail
      clear a0 a1 a2 a3 b0 b1 b2 b3
      refine (mul_at a b lo hi H0.out HA.out HB.out E1.out E2.out).mono ?_
      rintro e w1 ⟨rfl, h⟩
      have H1 := hid h
      clear h H0
      go_wp2_with fail
      have H2 := hid (H1.out.new2 lo hi)
      clear H1
      generalize (w1.alloc (.cells (cls lo) 24)).alloc (.cells (cls hi) 24) = w2 at *
      generalize w1.heap.size + 1 = gys at *
      generalize w1.heap.size = gy at *
      refine (alive_at H2.out).mono ?_
      rintro e w3 ⟨rfl, h⟩
      have H3 := hid h
      clear h H2
      obtain ⟨c0, c1, c2, c3⟩ := H3.out.cell gy lo (by simp)
      obtain ⟨d0, d1, d2, d3⟩ := H3.out.cell gys hi (by simp)
      obtain ⟨l0, l1, l2, l3⟩ := H3.out.cell gl lo (by simp)
      obtain ⟨h0, h1, h2, h3⟩ := H3.out.cell gh hi (by simp)
      have q1 := eq_yes lo lo rfl
      have q2 := eq_yes hi hi rfl
      go_wp2
      go_ret
      exact ⟨rfl, H3.out.1⟩
end Go.Proofs.Ytmhpeeicclbcmaa

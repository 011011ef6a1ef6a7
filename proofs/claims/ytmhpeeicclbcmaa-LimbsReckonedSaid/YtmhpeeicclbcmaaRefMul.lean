/-
  burrowref02.Mul, walked. Conditions: none.
-/
import Derived.Test.YtmhpeeicclbcmaaSteps
import Derived.Test.YtmhpeeicclbcmaaRefAdd
import Derived.Test.YtmhpeeicclbcmaaRefSmall
namespace Go.Proofs.Ytmhpeeicclbcmaa
open Go.RowKit
set_option linter.unusedVariables false

theorem fil_fr {w : World} {g g' : Nat} {a b c d : Value} (x : Nat) (h : Fr w g a b c d) (hne : g ≠ g') : Fr (fil w g' x) g a b c d :=
  (((h.setOther _ hne).setOther _ hne).setOther _ hne).setOther _ hne
/-- what the loop carries, and the answers' boxes -/
def Sq (w : World) (ga gb g4 g5 gl gh a b lo hi : Nat) (w' : World) : Prop := Sp w ga gb gl gh a b lo hi w' ∧ Fr w' g4 (.int .u64 0) (.int .u64 0) (.int .u64 0) (.int .u64 0) ∧ Fr w' g5 (.int .u64 0) (.int .u64 0) (.int .u64 0) (.int .u64 0) ∧ g4 ≠ gl ∧ g4 ≠ gh ∧ g5 ≠ gl ∧ g5 ≠ gh ∧ g4 ≠ g5 ∧ w.heap.size ≤ g4 ∧ w.heap.size ≤ g5
section
variable {w w' w2 : World} {ga gb g4 g5 gl gh a b lo hi : Nat}
theorem Sq.on (h : Sq w ga gb g4 g5 gl gh a b lo hi w') (hb : Below w'.heap.size w' w2) : Sq w ga gb g4 g5 gl gh a b lo hi w2 := ⟨h.1.on hb, h.2.1.on hb, h.2.2.1.on hb, h.2.2.2⟩
theorem Sq.drew (h : Sq w ga gb g4 g5 gl gh a b lo hi w') : Sq w ga gb g4 g5 gl gh a b lo hi w'.drew := ⟨h.1.drew, h.2⟩
theorem Sq.setLo (h : Sq w ga gb g4 g5 gl gh a b lo hi w') (x : Nat) : Sq w ga gb g4 g5 gl gh a b x hi (fil w' gl x) := ⟨h.1.setLo x, fil_fr x h.2.1 h.2.2.2.1, fil_fr x h.2.2.1 h.2.2.2.2.2.1, h.2.2.2⟩
theorem Sq.setHi (h : Sq w ga gb g4 g5 gl gh a b lo hi w') (x : Nat) : Sq w ga gb g4 g5 gl gh a b lo x (fil w' gh x) := ⟨h.1.setHi x, fil_fr x h.2.1 h.2.2.2.2.1, fil_fr x h.2.2.1 h.2.2.2.2.2.2.1, h.2.2.2⟩
theorem sq_of {f : FuncId} {args : Array Value} {v : Value} (hc : Calls Try.prog f args w' fun e w2 => e = .returned v ∧ Below w'.heap.size w' w2) (h : Sq w ga gb g4 g5 gl gh a b lo hi w') : Calls Try.prog f args w' fun e w2 => e = .returned v ∧ Sq w ga gb g4 g5 gl gh a b lo hi w2 :=
  hc.mono fun e w2 ⟨he, hb⟩ => ⟨he, h.on hb⟩
end
theorem Sq.init (w : World) (a b : Nat) : Sq w w.heap.size (w.heap.size + 1) (w.heap.size + 1 + 1) (w.heap.size + 1 + 1 + 1) (w.heap.size + 1 + 1 + 1 + 1) (w.heap.size + 1 + 1 + 1 + 1 + 1) a b 0 0 ((((((w.alloc (.cells (cls a) 24)).alloc (.cells (cls b) 24)).alloc (.cells #[.int .u64 0, .int .u64 0, .int .u64 0, .int .u64 0] 24)).alloc (.cells #[.int .u64 0, .int .u64 0, .int .u64 0, .int .u64 0] 24)).alloc (.cells #[.int .u64 0, .int .u64 0, .int .u64 0, .int .u64 0] 24)).alloc (.cells #[.int .u64 0, .int .u64 0, .int .u64 0, .int .u64 0] 24)) := by
  have hE := ((((((Env.refl w).new2 a b).new 0).new 0).new 0).new 0)
  simp only [World.size_alloc] at hE
  simp only [← cls_zero] at hE
  refine ⟨⟨⟨hE.1, fun p hp => hE.2 p ?_⟩, by omega, by omega, by omega, by omega, by omega, by omega, by omega⟩, ?_, ?_, by omega, by omega, by omega, by omega, by omega, by omega, by omega⟩
  · simp only [List.mem_cons, List.not_mem_nil, or_false] at hp ⊢
    rcases hp with h | h | h | h <;> simp [h]
  · have := (hE.nm (w.heap.size + 1 + 1) 0 (by simp)).fr
    exact this
  · have := (hE.nm (w.heap.size + 1 + 1 + 1) 0 (by simp)).fr
    exact this
theorem radd_b (x y s : Nat) (k : Int) (w : World) (hx : x < 2 ^ 256) (hy : y < 2 ^ 256) (hs : (x + y) % 2 ^ 256 = s) (hk : (((x + y) / 2 ^ 256 : Nat) : Int) = k) : Calls Try.prog 11 #[num x, num y] w fun e w2 => e = .returned (.tuple #[num s, .int .u64 k]) ∧ Below w.heap.size w w2 := by
  subst hs; subst hk; exact radd_any x y w hx hy
/-- a round: doubled, and what goes beyond taken over -/
theorem dbl_round {lo hi T : Nat} (hl : lo < 2 ^ 256) (h : lo + 2 ^ 256 * hi = T) (hT : 2 * T < 2 ^ 256 * 2 ^ 256) :
    (hi + hi) % 2 ^ 256 = hi + hi ∧ hi + hi < 2 ^ 256 ∧ (lo + lo) / 2 ^ 256 < 18446744073709551616 ∧ (hi + hi + (lo + lo) / 2 ^ 256) % 2 ^ 256 = hi + hi + (lo + lo) / 2 ^ 256 ∧ hi + hi + (lo + lo) / 2 ^ 256 < 2 ^ 256
    ∧ (lo + lo) % 2 ^ 256 + 2 ^ 256 * (hi + hi + (lo + lo) / 2 ^ 256) = 2 * T := by
  obtain ⟨r1, r2, r3⟩ := mul_dbl (Nat.two_pow_pos 256) h hT
  rw [Nat.two_mul, Nat.two_mul] at r1 r2
  rw [Nat.two_mul] at r3
  have hz : (lo + lo) / 2 ^ 256 < 18446744073709551616 := by rw [p256] at *; omega
  exact ⟨Nat.mod_eq_of_lt r3, r3, hz, Nat.mod_eq_of_lt r2, r2, by rw [r1, Nat.two_mul]⟩
theorem add_round {lo hi T a : Nat} (hl : lo < 2 ^ 256) (ha : a < 2 ^ 256) (h : lo + 2 ^ 256 * hi = T) (hT : T + a < 2 ^ 256 * 2 ^ 256) :
    (lo + a) / 2 ^ 256 < 18446744073709551616 ∧ (hi + (lo + a) / 2 ^ 256) % 2 ^ 256 = hi + (lo + a) / 2 ^ 256 ∧ hi + (lo + a) / 2 ^ 256 < 2 ^ 256
    ∧ (lo + a) % 2 ^ 256 + 2 ^ 256 * (hi + (lo + a) / 2 ^ 256) = T + a := by
  obtain ⟨r1, r2⟩ := mul_add (Nat.two_pow_pos 256) h hT
  have hz : (lo + a) / 2 ^ 256 < 18446744073709551616 := by rw [p256] at *; omega
  exact ⟨hz, Nat.mod_eq_of_lt r2, r2, r1⟩
theorem div_zero_of {x : Nat} (h : x < 2 ^ 256) : ((x / 2 ^ 256 : Nat) : Int) = 0 := by have := Nat.div_eq_of_lt h; omega

set_option maxRecDepth 100000 in
set_option maxHeartbeats 6400000 in
theorem rmul_any (a b : Nat) (w : World) (ha : a < 2 ^ 256) (hb : b < 2 ^ 256) : Calls Try.prog 15 #[num a, num b] w fun e w' => e = .returned (.tuple #[num (a * b % 2 ^ 256), num (a * b / 2 ^ 256)]) ∧ Below w.heap.size w w' := by
  have HA := hid ha
  have HB := hid hb
  have HS := hid (Sq.init w a b)
  clear ha hb
  go_enter Try.func15, Try.ntmps15
  go_wp2
  generalize (((((w.alloc (.cells (cls a) 24)).alloc (.cells (cls b) 24)).alloc (.cells #[.int .u64 0, .int .u64 0, .int .u64 0, .int .u64 0] 24)).alloc (.cells #[.int .u64 0, .int .u64 0, .int .u64 0, .int .u64 0] 24)).alloc (.cells #[.int .u64 0, .int .u64 0, .int .u64 0, .int .u64 0] 24)).alloc (.cells #[.int .u64 0, .int .u64 0, .int .u64 0, .int .u64 0] 24) = w0 at *
  generalize w.heap.size + 1 + 1 + 1 + 1 + 1 = gh at *
  generalize w.heap.size + 1 + 1 + 1 + 1 = gl at *
  generalize w.heap.size + 1 + 1 + 1 = g5 at *
  generalize w.heap.size + 1 + 1 = g4 at *
  generalize w.heap.size + 1 = gb at *
  generalize hga : w.heap.size = ga at *
  clear hga
  have ne1 : (gl = gh) = False := eq_false HS.out.1.2.2.2.1
  have ne2 : (gh = gl) = False := eq_false (Ne.symm HS.out.1.2.2.2.1)
  go_loopw [8] (fun i wr => ∃ k lo hi : Nat, k ≤ 256 ∧ i = .int .i64 ((k : Int) - 1) ∧ Hid (lo < 2 ^ 256) ∧ Hid (hi < 2 ^ 256) ∧ Hid (lo + 2 ^ 256 * hi = a * (b / 2 ^ k)) ∧ Hid (Sq w ga gb g4 g5 gl gh a b lo hi wr)) (fun i _ => (intOf i + 1).toNat)
  case atStart => exact ⟨256, 0, 0, by omega, rfl, hid (by decide), hid (by decide), hid (by rw [Nat.div_eq_of_lt HB.out]; rfl), HS⟩
  case round =>
    obtain ⟨k, lo, hi, hk, rfl, HL, HH, HV, HS⟩ := hrel
    by_cases h0 : k = 0
    · subst h0
      have hv := HV.out
      rw [Nat.pow_zero, Nat.div_one] at hv
      have E1 := hid (p := a * b % 2 ^ 256 = lo) (by rw [← hv, Nat.add_mul_mod_self_left, Nat.mod_eq_of_lt HL.out])
      have E2 := hid (p := a * b / 2 ^ 256 = hi) (by rw [← hv, Nat.add_mul_div_left _ _ (Nat.two_pow_pos 256), Nat.div_eq_of_lt HL.out, Nat.zero_add])
      have HR4 := hid HS.out.2.1
      have HR5 := hid HS.out.2.2.1
      have HN := hid HS.out.2.2.2.2.2.2.2.1
      have HB4 := hid (fil_below hi (fil_below lo HS.out.1.1.1 HS.out.2.2.2.2.2.2.2.2.1) HS.out.2.2.2.2.2.2.2.2.2)
      have K4 := hid (fil_other hi lo (fil_nm lo HR4.out) HN.out)
      have K5 := hid (fil_nm hi (fil_fr lo HR5.out (Ne.symm HN.out)))
      have n45 : (g4 = g5) = False := eq_false HN.out
      have n54 : (g5 = g4) = False := eq_false (Ne.symm HN.out)
      have n4l : (g4 = gl) = False := eq_false HS.out.2.2.2.1
      have n4h : (g4 = gh) = False := eq_false HS.out.2.2.2.2.1
      obtain ⟨⟨a0, a1, a2, a3⟩, ⟨l0, l1, l2, l3⟩, ⟨h0, h1, h2, h3⟩, fl, fh⟩ := HS.out.1.cells
      obtain ⟨c0, c1, c2, c3⟩ := HR4.out.cell
      obtain ⟨d0, d1, d2, d3⟩ := HR5.out.cell
      have f4 := HR4.out.frozen
      have f5 := HR5.out.frozen
      clear hv HV
      go_wp2
      go_region
      all_goals
        go_wp2
        clear a0 a1 a2 a3 l0 l1 l2 l3 h0 h1 h2 h3 fl fh c0 c1 c2 c3 d0 d1 d2 d3 f4 f5
        change bodyPost _ _ _ _ _ (fil (fil wr g4 lo) g5 hi).drew
        generalize fil (fil wr g4 lo) g5 hi = wz at *
        obtain ⟨k0, k1, k2, k3⟩ := K4.out.cell
        obtain ⟨q0, q1, q2, q3⟩ := K5.out.cell
        exact bodyPost_ret (v := .tuple #[num lo, num hi]) (by simp [results, Try.results15, go_sem, k0, k1, k2, k3, q0, q1, q2, q3]) rfl ⟨by rw [E1.out, E2.out], HB4.out.drew⟩
    · obtain ⟨m, rfl⟩ : ∃ m, k = m + 1 := ⟨k - 1, by omega⟩
      clear h0
      rw [show (((m + 1 : Nat) : Int) - 1) = (m : Int) by omega]
      have hbits := mul_bits a b m
      have hlt : a * (b / 2 ^ m) < 2 ^ 256 * 2 ^ 256 := Nat.lt_of_le_of_lt (Nat.mul_le_mul_left a (Nat.div_le_self _ _)) (prod_lt HA.out HB.out)
      obtain ⟨r1, r2, r3, r4, r5, r6⟩ := dbl_round HL.out HV.out (by omega)
      obtain ⟨lo1, e1, n1⟩ : ∃ y, Hid ((lo + lo) % 2 ^ 256 = y) ∧ Hid (y < 2 ^ 256) := ⟨_, hid rfl, hid (Nat.mod_lt _ (Nat.two_pow_pos 256))⟩
      obtain ⟨z1, e2⟩ : ∃ y, Hid ((lo + lo) / 2 ^ 256 = y) := ⟨_, hid rfl⟩
      obtain ⟨hi1, d1⟩ : ∃ y, hi + hi = y := ⟨_, rfl⟩
      simp only [e1.out, e2.out, d1] at r1 r2 r3 r4 r5 r6
      obtain ⟨hi2, d2⟩ : ∃ y, hi1 + z1 = y := ⟨_, rfl⟩
      simp only [d2] at r4 r5 r6
      have e3 := hid (p := (hi + hi) % 2 ^ 256 = hi1) (by rw [d1]; exact r1)
      have n3 := hid r2
      have e4 := hid (p := (((hi + hi) / 2 ^ 256 : Nat) : Int) = 0) (by rw [d1]; exact div_zero_of r2)
      have HZ1 := hid r3
      have HZ1b := hid (p := z1 < 2 ^ 256) (by rw [p256]; omega)
      have e5 := hid (p := (hi1 + z1) % 2 ^ 256 = hi2) (by rw [d2]; exact r4)
      have n5 := hid r5
      have e6 := hid (p := (((hi1 + z1) / 2 ^ 256 : Nat) : Int) = 0) (by rw [d2]; exact div_zero_of r5)
      have HV1 := hid r6
      have HBt := hid hbits
      have HLt := hid hlt
      clear r1 r2 r3 r4 r5 r6 hbits hlt d1 d2
      obtain ⟨⟨a0, a1, a2, a3⟩, ⟨l0, l1, l2, l3⟩, ⟨h0, h1, h2, h3⟩, fl, fh⟩ := HS.out.1.cells
      go_wp2_with fail
      clear a0 a1 a2 a3 l0 l1 l2 l3 h0 h1 h2 h3 fl fh
      refine (sq_of (radd_b lo lo lo1 (z1 : Int) _ HL.out HL.out e1.out (by rw [e2.out])) HS.out).mono ?_
      rintro e w1 ⟨rfl, hs1⟩
      have HS1 := hid hs1
      clear hs1 HS
      obtain ⟨⟨a0, a1, a2, a3⟩, ⟨l0, l1, l2, l3⟩, ⟨h0, h1, h2, h3⟩, fl, fh⟩ := HS1.out.1.cells
      go_wp2_with fail
      clear a0 a1 a2 a3 l0 l1 l2 l3 h0 h1 h2 h3 fl fh
      have HS2 := hid (HS1.out.setLo lo1)
      clear HS1
      change Calls _ _ _ (fil w1 gl lo1) _
      generalize fil w1 gl lo1 = w2 at *
      refine (sq_of (radd_b hi hi hi1 0 _ HH.out HH.out e3.out e4.out) HS2.out).mono ?_
      rintro e w3 ⟨rfl, hs3⟩
      have HS3 := hid hs3
      clear hs3 HS2
      obtain ⟨⟨a0, a1, a2, a3⟩, ⟨l0, l1, l2, l3⟩, ⟨h0, h1, h2, h3⟩, fl, fh⟩ := HS3.out.1.cells
      go_upto_region 8 with fail
      clear a0 a1 a2 a3 l0 l1 l2 l3 h0 h1 h2 h3 fl fh
      have HS4 := hid (HS3.out.setHi hi1)
      clear HS3
      change Code.wp _ _ _ _ (fil w3 gh hi1)
      generalize fil w3 gh hi1 = w4 at *
      obtain ⟨⟨a0, a1, a2, a3⟩, ⟨l0, l1, l2, l3⟩, ⟨h0, h1, h2, h3⟩, fl, fh⟩ := HS4.out.1.cells
      go_cut [8] (fun s8 wx => s8 = .int .i64 (m : Int) ∧ Hid (Sq w ga gb g4 g5 gl gh a b lo1 hi2 wx))
      case first =>
        have hs := HS4.out.drew
        go_region_with (first | ((go_at_call 25); (with_reducible refine (sq_of (rof_any z1 _ HZ1.out) (by assumption)).mono ?_); rintro e wn ⟨rfl, hs⟩; obtain ⟨⟨a0, a1, a2, a3⟩, ⟨l0, l1, l2, l3⟩, ⟨h0, h1, h2, h3⟩, fl, fh⟩ := hs.1.cells) | ((go_at_call 11); (with_reducible refine (sq_of (radd_b hi1 z1 hi2 0 _ n3.out HZ1b.out e5.out e6.out) (by assumption)).mono ?_); rintro e wn ⟨rfl, hs⟩; obtain ⟨⟨a0, a1, a2, a3⟩, ⟨l0, l1, l2, l3⟩, ⟨h0, h1, h2, h3⟩, fl, fh⟩ := hs.1.cells))
        all_goals
          go_wp2_with fail
          go_meet
          exact ⟨rfl, hid (hs.setHi hi2)⟩
      case rest =>
        obtain ⟨rfl, HS5⟩ := hcut
        clear a0 a1 a2 a3 l0 l1 l2 l3 h0 h1 h2 h3 fl fh HS4
        obtain ⟨b0, b1, b2, b3⟩ := HS5.out.1.1.cell gb b (by simp)
        have hbl := bitAt_lt b m
        rcases (show bitAt b m = 0 ∨ bitAt b m = 1 by omega) with hbit | hbit
        · have hbi : Hid ((bi b (m : Int) : Int) = 0) := hid (by unfold bi; rw [if_neg (by omega), Int.toNat_natCast, hbit]; rfl)
          have HV2 := hid (p := lo1 + 2 ^ 256 * hi2 = a * (b / 2 ^ m)) (by have h1 := HBt.out; rw [hbit, Nat.mul_zero, Nat.add_zero] at h1; rw [h1]; exact HV1.out)
          clear hbl hbit
          go_wp2_with fail
          refine (sq_of (rbit_any b (m : Int) _ HB.out) HS5.out).mono ?_
          rintro e w6 ⟨rfl, hs6⟩
          rw [hbi.out]
          have HS6 := hid hs6
          clear hs6 b0 b1 b2 b3 HS5
          go_wp2
          go_roundw
          case rel => exact ⟨m, lo1, hi2, by omega, rfl, n1, n5, HV2, HS6⟩
          case measure => simp [intOf]
        · have hbi : Hid ((bi b (m : Int) : Int) = 1) := hid (by unfold bi; rw [if_neg (by omega), Int.toNat_natCast, hbit]; rfl)
          have hb1 : a * (b / 2 ^ m) = 2 * (a * (b / 2 ^ (m + 1))) + a := by have h1 := HBt.out; rw [hbit, Nat.mul_one] at h1; exact h1
          obtain ⟨r1, r2, r3, r4⟩ := add_round n1.out HA.out HV1.out (by rw [← hb1]; exact HLt.out)
          obtain ⟨lo2, c1, n6⟩ : ∃ y, Hid ((lo1 + a) % 2 ^ 256 = y) ∧ Hid (y < 2 ^ 256) := ⟨_, hid rfl, hid (Nat.mod_lt _ (Nat.two_pow_pos 256))⟩
          obtain ⟨z2, c2⟩ : ∃ y, Hid ((lo1 + a) / 2 ^ 256 = y) := ⟨_, hid rfl⟩
          simp only [c1.out, c2.out] at r1 r2 r3 r4
          obtain ⟨hi3, d3⟩ : ∃ y, hi2 + z2 = y := ⟨_, rfl⟩
          simp only [d3] at r2 r3 r4
          have HZ2 := hid r1
          have HZ2b := hid (p := z2 < 2 ^ 256) (by rw [p256]; omega)
          have c3 := hid (p := (hi2 + z2) % 2 ^ 256 = hi3) (by rw [d3]; exact r2)
          have c4 := hid (p := (((hi2 + z2) / 2 ^ 256 : Nat) : Int) = 0) (by rw [d3]; exact div_zero_of r3)
          have n7 := hid r3
          have HV2 := hid (p := lo2 + 2 ^ 256 * hi3 = a * (b / 2 ^ m)) (by rw [hb1]; exact r4)
          clear hbl hbit hb1 r1 r2 r3 r4 d3
          go_wp2_with fail
          refine (sq_of (rbit_any b (m : Int) _ HB.out) HS5.out).mono ?_
          rintro e w6 ⟨rfl, hs6⟩
          rw [hbi.out]
          have HS6 := hid hs6
          clear hs6 b0 b1 b2 b3 HS5
          obtain ⟨⟨a0, a1, a2, a3⟩, ⟨l0, l1, l2, l3⟩, ⟨h0, h1, h2, h3⟩, fl, fh⟩ := HS6.out.1.cells
          go_wp2_with fail
          clear a0 a1 a2 a3 l0 l1 l2 l3 h0 h1 h2 h3 fl fh
          refine (sq_of (radd_b lo1 a lo2 (z2 : Int) _ n1.out HA.out c1.out (by rw [c2.out])) HS6.out).mono ?_
          rintro e w7 ⟨rfl, hs7⟩
          have HS7 := hid hs7
          clear hs7 HS6
          obtain ⟨⟨a0, a1, a2, a3⟩, ⟨l0, l1, l2, l3⟩, ⟨h0, h1, h2, h3⟩, fl, fh⟩ := HS7.out.1.cells
          go_wp2_with fail
          clear a0 a1 a2 a3 l0 l1 l2 l3 h0 h1 h2 h3 fl fh
          have HS8 := hid (HS7.out.setLo lo2)
          clear HS7
          change Code.wp _ _ _ _ (fil w7 gl lo2)
          generalize fil w7 gl lo2 = w8 at *
          obtain ⟨⟨a0, a1, a2, a3⟩, ⟨l0, l1, l2, l3⟩, ⟨h0, h1, h2, h3⟩, fl, fh⟩ := HS8.out.1.cells
          have hs := HS8.out.drew
          go_region_with (first | ((go_at_call 25); (with_reducible refine (sq_of (rof_any z2 _ HZ2.out) (by assumption)).mono ?_); rintro e wn ⟨rfl, hs⟩; obtain ⟨⟨a0, a1, a2, a3⟩, ⟨l0, l1, l2, l3⟩, ⟨h0, h1, h2, h3⟩, fl, fh⟩ := hs.1.cells) | ((go_at_call 11); (with_reducible refine (sq_of (radd_b hi2 z2 hi3 0 _ n5.out HZ2b.out c3.out c4.out) (by assumption)).mono ?_); rintro e wn ⟨rfl, hs⟩; obtain ⟨⟨a0, a1, a2, a3⟩, ⟨l0, l1, l2, l3⟩, ⟨h0, h1, h2, h3⟩, fl, fh⟩ := hs.1.cells))
          all_goals
            have HS9 := hid (hs.setHi hi3)
            clear a0 a1 a2 a3 l0 l1 l2 l3 h0 h1 h2 h3 fl fh
            go_wp2
            go_roundw
            case rel => exact ⟨m, lo2, hi3, by omega, rfl, n6, n7, HV2, HS9⟩
            case measure => simp [intOf]
end Go.Proofs.Ytmhpeeicclbcmaa

/-
  burrowref02.Of, Bit and Bits, walked. Conditions: none.
-/
import Derived.Test.YtmhpeeicclbcmaaAt
namespace Go.Proofs.Ytmhpeeicclbcmaa
open Go.RowKit
set_option linter.unusedVariables false

theorem rof_any (n : Nat) (w : World) (h : n < 18446744073709551616) : Calls Try.prog 25 #[.int .u64 (n : Int)] w fun e w' => e = .returned (num n) ∧ Below w.heap.size w w' := by
  have hn := hid (num_small n h)
  go_enter Try.func25, Try.ntmps25
  go_wp2
  refine bodyPost_ret (v := .agg #[.int .u64 (n : Int), .int .u64 0, .int .u64 0, .int .u64 0]) (by simp [results, Try.results25, go_sem]) rfl ⟨by rw [hn.out], ?_⟩
  repeat (first | exact Below.refl _ _ | refine Below.drew ?_ | refine bal ?_ _)

theorem tm2 (a p : Nat) : (((a : Int) / 2 ^ p).tmod 2) = ((a / 2 ^ p % 2 : Nat) : Int) := by
  have e : ((a : Int) / 2 ^ p) = ((a / 2 ^ p : Nat) : Int) := by simp
  rw [e, Int.tmod_eq_emod_of_nonneg (Int.natCast_nonneg _)]
  exact (Int.natCast_emod _ _).symm
theorem rbit_in (x q p : Nat) (n : Int) (w : World) (hq : q < 4) (hp : p < 64) (h : n = 64 * (q : Int) + p) : Calls Try.prog 19 #[num x, .int .i64 n] w fun e w' => e = .returned (.int .u64 ((wd x q / 2 ^ p % 2 : Nat) : Int)) ∧ Below w.heap.size w w' := by
  have h0 : 0 ≤ n := by omega
  have h1 : n < 256 := by omega
  have e1 : n / 64 = (q : Int) := by omega
  have e2 : n % 64 = (p : Int) := by omega
  have HL := hid (wd_lt x q)
  clear h
  have hc : q = 0 ∨ q = 1 ∨ q = 2 ∨ q = 3 := by omega
  clear hq
  rcases hc with rfl | rfl | rfl | rfl
  all_goals
    go_enter Try.func19, Try.ntmps19
    go_wp2
    go_ret
    refine ⟨?_, bal (Below.refl _ _) _⟩
    exact congrArg Ending.returned (congrArg (Value.int IntKind.u64) (tm2 _ p))
theorem rbit_out (x : Nat) (n : Int) (w : World) (h : n < 0 ∨ 256 ≤ n) : Calls Try.prog 19 #[num x, .int .i64 n] w fun e w' => e = .returned (.int .u64 0) ∧ Below w.heap.size w w' := by
  rcases h with h | h
  · go_enter Try.func19, Try.ntmps19
    go_wp2
    go_ret
    exact ⟨rfl, bal (Below.refl _ _) _⟩
  · have h2 : ¬ n < 0 := by omega
    go_enter Try.func19, Try.ntmps19
    go_wp2
    go_ret
    exact ⟨rfl, bal (Below.refl _ _) _⟩
theorem rbit_any (x : Nat) (n : Int) (w : World) (hx : x < 2 ^ 256) : Calls Try.prog 19 #[num x, .int .i64 n] w fun e w' => e = .returned (.int .u64 (bi x n : Int)) ∧ Below w.heap.size w w' := by
  by_cases h : 0 ≤ n ∧ n < 256
  · obtain ⟨k, rfl⟩ := Int.eq_ofNat_of_zero_le h.1
    have e : ((k : Nat) : Int) = 64 * ((k / 64 : Nat) : Int) + ((k % 64 : Nat) : Int) := by omega
    have hb := bi_word x (k % 64) (k : Int) ((k / 64 : Nat) : Int) hx e (Nat.mod_lt _ (by decide))
    rw [wi_nat x (k / 64) hx] at hb
    have := rbit_in x (k / 64) (k % 64) (k : Int) w (by omega) (Nat.mod_lt _ (by decide)) e
    rw [hb] at this
    exact this
  · have hb : bi x n = 0 := by
      unfold bi
      by_cases h2 : n < 0
      · rw [if_pos h2]
      · rw [if_neg h2]
        exact bitAt_high x _ 256 hx (by omega)
    rw [hb]
    exact rbit_out x n w (by omega)

set_option maxRecDepth 100000 in
theorem rbits_any (x : Nat) (w : World) (hx : x < 2 ^ 256) : Calls Try.prog 21 #[num x] w fun e w' => e = .returned (.int .i64 (nbits x : Int)) ∧ Below w.heap.size w w' := by
  have HX := hid hx
  have HE := hid ((Env.refl w).new x)
  clear hx
  go_enter Try.func21, Try.ntmps21
  go_wp2
  generalize w.alloc (.cells (cls x) 24) = w0 at *
  generalize w.heap.size = ga at *
  go_loopw [3] (fun i wr => ∃ k : Nat, k ≤ 256 ∧ i = .int .i64 k ∧ Hid (x < 2 ^ k) ∧ Hid (Env w [(ga, x)] wr)) (fun i _ => (intOf i).toNat)
  case atStart => exact ⟨256, by omega, rfl, HX, HE⟩
  case round =>
    obtain ⟨k, hk, rfl, HL, HE⟩ := hrel
    by_cases h0 : k = 0
    · subst h0
      have hn : nbits x = 0 := by
        have := HL.out
        have e : x = 0 := by simpa using this
        rw [e]; rfl
      have HN := hid hn
      clear hn
      go_wp2
      go_ret
      exact ⟨by rw [HN.out]; rfl, HE.out.1⟩
    · obtain ⟨m, rfl⟩ : ∃ m, k = m + 1 := ⟨k - 1, by omega⟩
      clear h0
      obtain ⟨c0, c1, c2, c3⟩ := HE.out.cell ga x (by simp)
      have hbl := bitAt_lt x m
      have w1 : (((m + 1 : Nat) : Int) - 1) = (m : Int) := by omega
      rcases (show bitAt x m = 0 ∨ bitAt x m = 1 by omega) with hbit | hbit
      · have HB := hid (p := (bi x (m : Int) : Int) = 0) (by unfold bi; rw [if_neg (by omega), Int.toNat_natCast, hbit]; rfl)
        have HL2 := hid (bit_none HL.out hbit)
        clear hbl hbit
        go_wp2_with fail
        refine (rbit_any x (m : Int) wr HX.out).mono ?_
        rintro e w1 ⟨rfl, hb⟩
        rw [HB.out]
        have HE2 := hid (HE.out.on hb)
        clear hb c0 c1 c2 c3
        go_wp2
        go_roundw
        case rel => exact ⟨m, by omega, by go_num, HL2, HE2⟩
        case measure => simp [intOf]
      · have HB := hid (p := (bi x (m : Int) : Int) = 1) (by unfold bi; rw [if_neg (by omega), Int.toNat_natCast, hbit]; rfl)
        have HN := hid (bit_top HL.out hbit)
        clear hbl hbit
        go_wp2_with fail
        refine (rbit_any x (m : Int) wr HX.out).mono ?_
        rintro e w1 ⟨rfl, hb⟩
        rw [HB.out]
        have HE2 := hid (HE.out.on hb)
        clear hb c0 c1 c2 c3
        go_wp2
        go_ret
        exact ⟨by rw [HN.out]; rfl, HE2.out.1⟩
end Go.Proofs.Ytmhpeeicclbcmaa

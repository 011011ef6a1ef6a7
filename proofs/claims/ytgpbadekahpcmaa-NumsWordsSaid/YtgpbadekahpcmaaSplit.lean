/-
  burrowlaw01.NumsSplit, walked: it answers true at every bytes and every counts. Conditions: none.
-/
import Derived.Test.YtgpbadekahpcmaaAlive
namespace Go.Proofs.Ytgpbadekahpcmaa
open Go.RowKit
set_option linter.unusedVariables false

/-- x[k:], wherever it begins, reads as the rest -/
theorem slice_low (w2 : World) (A : Option Addr) (c k : Nat) (bs : List UInt8) (hr : Rd w2 A bs) (hk : k ≤ bs.length) (hc : bs.length ≤ c) :
    ∃ D : Option Addr, (∀ w : World, (Instr.slice 23 (.slice A bs.length c) (some (.int .i64 (k : Int))) none none).run Try.prog w = .ok (.slice D (bs.length - k) (c - k)) w) ∧ Rd w2 D (bs.drop k) := by
  refine ⟨if c = k then A else A.map (·.add (k * 1)), fun w => ?_, ?_⟩
  · rw [run_slice_l (P := Try.prog) w 23 A bs.length c Try.underlying23 .i64 (k : Int) (by omega) (by omega)]
    have h5 : Try.prog.elem 23 = 5 := by kernel_rfl
    have hs : (sizeOf 5).run Try.prog w = .ok 1 w := by kernel_rfl
    rw [h5, hs]
    simp only [Result.andThen, sliced, Int.toNat_natCast]
  · refine hr.cut k _ (fun ad h hk2 => ?_)
    rw [if_neg (by omega), h, Nat.mul_one]
    rfl

theorem get_at (A : Option Addr) (n c K t : Nat) (ki : Int) (bs : List UInt8) (w : World) (hl : bs.length = n) (hki : ki = K) (ht : tell (bs.take K) = t) (hr : Rd w A bs) (hc : n ≤ c) (hc2 : c ≤ 9223372036854775807) (h8 : K ≤ 8) (hk : K ≤ n) :
    Calls Try.prog 13 #[.slice A n c, .int .i64 ki] w fun e w' => e = .returned (.tuple #[.int .u64 (t : Int), .int .i64 0]) ∧ w = w' := by
  subst hl; subst hki; subst ht; exact get_ok A c K bs w hr hc hc2 h8 hk

theorem split_eq (t0 t1 t2 j M : Nat) (he : t0 = t1 * 256 ^ j + t2) (hM : M ≤ 8) (h : t0 < 256 ^ M) : (t0 : Int) = IntKind.u64.wrap (IntKind.u64.wrap ((t1 : Int) * 2 ^ (8 * j)) + (t2 : Int)) := by
  have h8 : t0 < 18446744073709551616 := Nat.lt_of_lt_of_le h (Nat.le_trans (Nat.pow_le_pow_right (by omega) hM) (by decide))
  have e : (t1 : Int) * 2 ^ (8 * j) = ((t1 * 256 ^ j : Nat) : Int) := by
    rw [Int.natCast_mul, ← two_pow_bytes, Int.natCast_pow, Nat.mul_comm j 8]
    rfl
  rw [e]
  clear e h
  generalize t1 * 256 ^ j = x at he
  have ex : IntKind.u64.wrap (x : Int) = (x : Int) := IntWalk.u64_in _ (by omega)
  rw [ex, IntWalk.u64_in _ (by omega)]
  omega
theorem split_whole (t0 t1 t2 : Nat) (he : t0 = t1 * 256 ^ 8 + t2) (h1 : t1 < 256 ^ 0) (h : t0 < 256 ^ 8) : (t0 : Int) = IntKind.u64.wrap ((t1 : Int) + (t2 : Int)) := by
  obtain rfl : t1 = 0 := by simpa using h1
  have h8 : t0 < 18446744073709551616 := h
  rw [IntWalk.u64_in _ (by omega)]
  omega

set_option maxRecDepth 100000 in
set_option maxHeartbeats 1600000 in
theorem split_any (A : Option Addr) (c f g : Nat) (bs : List UInt8) (w : World) (hr : Rd w A bs) (hc : bs.length ≤ c) (hc2 : c ≤ 9223372036854775807) (hf : f < 256) (hg : g < 256) :
    Calls Try.prog 5 #[.slice A bs.length c, .int .u8 (f : Int), .int .u8 (g : Int)] w fun e w' => e = .returned (.bool true) ∧ Below w.heap.size w w' := by
  obtain ⟨M, hM⟩ : ∃ M, M = f % 9 := ⟨_, rfl⟩
  obtain ⟨K, hK⟩ : ∃ K, K = g % (M + 1) := ⟨_, rfl⟩
  have HM := hid (p := (f : Int) % 9 = (M : Int)) (by omega)
  have HK := hid (p := (g : Int) % ((M : Int) + 1) = (K : Int)) (by rw [hK]; rfl)
  have hM8 : M ≤ 8 := by omega
  have hKM : K ≤ M := by rw [hK]; exact Nat.le_of_lt_succ (Nat.mod_lt _ (by omega))
  clear hM hK
  go_enter Try.func5, Try.ntmps5
  go_wp2_with fail
  rw [HM.out, HK.out]
  rcases Nat.lt_or_ge bs.length M with hs | hs
  · refine (get_short A bs.length c M w (by omega) (by omega) (by omega)).mono ?_
    rintro e w' ⟨rfl, rfl⟩
    go_wp2_with fail
    refine (alive_any _).mono ?_
    rintro e w3 ⟨rfl, hb3⟩
    go_wp2
    go_ret
    exact ⟨rfl, hb3⟩
  · obtain ⟨D, hsl, hD⟩ := slice_low w A c K bs hr (by omega) hc
    have HD := hid hD
    have HE := hid (p := tell (bs.take M) = tell (bs.take K) * 256 ^ (M - K) + tell ((bs.drop K).take (M - K))) (by
      have e : bs.take M = bs.take K ++ (bs.drop K).take (M - K) := by
        rw [show M = K + (M - K) from by omega, List.take_add]
        congr 2
        omega
      rw [e, tell_append]
      congr 3
      rw [List.length_take, List.length_drop]
      omega)
    obtain ⟨t0, ht0⟩ : ∃ t, tell (bs.take M) = t := ⟨_, rfl⟩
    obtain ⟨t1, ht1⟩ : ∃ t, tell (bs.take K) = t := ⟨_, rfl⟩
    obtain ⟨t2, ht2⟩ : ∃ t, tell ((bs.drop K).take (M - K)) = t := ⟨_, rfl⟩
    have b1 : t1 < 256 ^ K := by have := tell_lt (bs.take K); rw [ht1, List.length_take, Nat.min_eq_left (by omega)] at this; exact this
    have b0 : t0 < 256 ^ M := by have := tell_lt (bs.take M); rw [ht0, List.length_take, Nat.min_eq_left (by omega)] at this; exact this
    rw [ht0, ht1, ht2] at HE
    have T0 := hid ht0
    have T1 := hid ht1
    have T2 := hid ht2
    have B0 := hid b0
    have B1 := hid b1
    clear ht0 ht1 ht2 hD b0 b1
    refine (get_at A bs.length c M t0 M bs w rfl rfl T0.out hr hc hc2 hM8 hs).mono ?_
    rintro e w' ⟨rfl, rfl⟩
    go_wp2_with fail
    refine (get_at A bs.length c K t1 K bs w rfl rfl T1.out hr hc hc2 (by omega) (by omega)).mono ?_
    rintro e w' ⟨rfl, rfl⟩
    go_wp2_with fail
    refine (get_at D _ _ (M - K) t2 _ (bs.drop K) w (by simp) (by omega) T2.out HD.out (by omega) (by omega) (by omega) (by omega)).mono ?_
    rintro e w' ⟨rfl, rfl⟩
    rcases (show M - K < 8 ∨ (K = 0 ∧ M = 8) from by omega) with hj | ⟨rfl, rfl⟩
    · have HF := hid (split_eq t0 t1 t2 (M - K) M HE.out hM8 B0.out)
      go_wp2_with fail
      refine (alive_any _).mono ?_
      rintro e w3 ⟨rfl, hb3⟩
      go_wp2
      go_ret
      refine ⟨?_, hb3⟩
      rw [← HF.out]
      simp
    · have HF := hid (split_whole t0 t1 t2 HE.out B1.out B0.out)
      go_wp2_with fail
      refine (alive_any _).mono ?_
      rintro e w3 ⟨rfl, hb3⟩
      go_wp2
      go_ret
      refine ⟨?_, hb3⟩
      rw [← HF.out]
      simp
end Go.Proofs.Ytgpbadekahpcmaa

/-
  burrowref02.Cmp, walked. Conditions: none.
-/
import Derived.Test.YtaggegknnnembaaDoorAt
import Derived.BigQuiet
import Derived.Deep.QuietTactic
namespace Go.Proofs.YtaggegknnnembaaDoor
open Go.RowKit
set_option linter.unusedVariables false

theorem cmp_mod (x k : Nat) : x % 18446744073709551616 ^ (k + 1) = x % 18446744073709551616 ^ k + 18446744073709551616 ^ k * wd x k := by
  unfold wd
  rw [Nat.pow_succ, Nat.mod_mul]
theorem low_less {r s P A B : Nat} (hr : r < P) (h : A < B) : r + P * A < s + P * B := by
  have := Nat.mul_le_mul_left P h
  rw [Nat.mul_succ] at this
  omega
theorem cmp_less (x y k : Nat) (h : wd x k < wd y k) : cmpN (x % 18446744073709551616 ^ (k + 1)) (y % 18446744073709551616 ^ (k + 1)) = -1 := by
  rw [cmp_mod x k, cmp_mod y k]
  unfold cmpN
  rw [if_pos (low_less (Nat.mod_lt _ (Nat.pow_pos (by decide))) h)]
theorem cmp_more (x y k : Nat) (h : wd y k < wd x k) : cmpN (x % 18446744073709551616 ^ (k + 1)) (y % 18446744073709551616 ^ (k + 1)) = 1 := by
  rw [cmp_mod x k, cmp_mod y k]
  unfold cmpN
  have h1 := low_less (s := x % 18446744073709551616 ^ k) (Nat.mod_lt y (Nat.pow_pos (n := k) (by decide : 0 < 18446744073709551616))) h
  rw [if_neg (by omega), if_pos h1]
theorem cmp_like (x y k : Nat) (h : wd x k = wd y k) : cmpN (x % 18446744073709551616 ^ (k + 1)) (y % 18446744073709551616 ^ (k + 1)) = cmpN (x % 18446744073709551616 ^ k) (y % 18446744073709551616 ^ k) := by
  rw [cmp_mod x k, cmp_mod y k, h]
  generalize x % 18446744073709551616 ^ k = r
  generalize y % 18446744073709551616 ^ k = s
  unfold cmpN
  split <;> split <;> (try split) <;> omega
theorem word_k {w : World} {g x : Nat} (h : Nm w g x) (k : Nat) (hk : k < 4) : w.cell? ⟨g, k, none⟩ = some (.int .u64 (wd x k : Int)) := by
  obtain ⟨h0, h1, h2, h3⟩ := h.cell
  match k, hk with
  | 0, _ => exact h0
  | 1, _ => exact h1
  | 2, _ => exact h2
  | 3, _ => exact h3
theorem Env.drewN {w w' : World} {l : List (Nat × Nat)} (h : Env w l w') (n : Nat) : Env w l (w'.drewN n) := by
  induction n with
  | zero => exact h
  | succ n ih => exact ih.drew

set_option maxRecDepth 100000 in
set_option maxHeartbeats 1600000 in
theorem rcmp_any (x y : Nat) (w : World) (hx : x < 2 ^ 256) (hy : y < 2 ^ 256) : Calls Tryd.prog 44 #[num x, num y] w fun e w' => e = .returned (.int .i64 (cmpN x y)) ∧ Below w.heap.size w w' := by
  have HX := hid hx
  have HY := hid hy
  have HE := hid ((Env.refl w).new2 x y)
  clear hx hy
  go_enter Tryd.func44, Tryd.ntmps44
  go_wp2
  generalize (w.alloc (.cells (cls x) 24)).alloc (.cells (cls y) 24) = w0 at *
  generalize w.heap.size + 1 = gb at *
  generalize w.heap.size = ga at *
  go_loopw [5, 6] (fun o i wr => ∃ (k : Nat) (z : Int), k ≤ 4 ∧ i = .int .i64 k ∧ o = .int .i64 z ∧ Hid (z = cmpN (x % 18446744073709551616 ^ k) (y % 18446744073709551616 ^ k)) ∧ Hid (Env w [(gb, y), (ga, x)] wr)) (fun _ i _ => 4 - (intOf i).toNat)
  case atStart => exact ⟨0, 0, by omega, rfl, rfl, hid (by simp [Nat.mod_one, cmpN]), HE⟩
  case round =>
    obtain ⟨k, z, hk, rfl, rfl, HZ, HE⟩ := hrel
    by_cases hlt : k < 4
    · have ca := word_k (HE.out.nm ga x (by simp)) k hlt
      have cb := word_k (HE.out.nm gb y (by simp)) k hlt
      rcases Nat.lt_trichotomy (wd x k) (wd y k) with g1 | g1 | g1
      · have HC := hid (cmp_less x y k g1)
        have g2 : ¬ wd y k < wd x k := by omega
        have d1 : decide (wd x k < wd y k) = true := by simpa using g1
        have d2 : decide (wd y k < wd x k) = false := by simpa using g2
        go_wp2
        go_quiet (fail)
        have ca2 : (wr.drewN nq).cell? ⟨ga, k, none⟩ = some (.int .u64 (wd x k : Int)) := ca
        have cb2 : (wr.drewN nq).cell? ⟨gb, k, none⟩ = some (.int .u64 (wd y k : Int)) := cb
        have HE2 := hid (HE.out.drewN nq)
        clear ca cb HE
        generalize wr.drewN nq = w2 at *
        go_wp2
        go_quiet (fail)
        go_wp2
        go_roundw
        case rel => exact ⟨k + 1, -1, by omega, by go_num, rfl, hid HC.out.symm, hid (HE2.out.drewN _)⟩
        case measure => simp [intOf]; omega
      · have HC := hid (cmp_like x y k g1)
        have g2 : ¬ wd y k < wd x k := by omega
        have g3 : ¬ wd x k < wd y k := by omega
        have d1 : decide (wd x k < wd y k) = false := by simpa using g3
        have d2 : decide (wd y k < wd x k) = false := by simpa using g2
        clear g1
        go_wp2
        go_quiet (fail)
        have ca2 : (wr.drewN nq).cell? ⟨ga, k, none⟩ = some (.int .u64 (wd x k : Int)) := ca
        have cb2 : (wr.drewN nq).cell? ⟨gb, k, none⟩ = some (.int .u64 (wd y k : Int)) := cb
        have HE2 := hid (HE.out.drewN nq)
        clear ca cb HE
        generalize wr.drewN nq = w2 at *
        go_wp2
        go_quiet (fail)
        go_wp2
        go_roundw
        case rel => exact ⟨k + 1, z, by omega, by go_num, rfl, hid (by rw [HC.out]; exact HZ.out), hid (HE2.out.drewN _)⟩
        case measure => simp [intOf]; omega
      · have HC := hid (cmp_more x y k g1)
        have g3 : ¬ wd x k < wd y k := by omega
        have d1 : decide (wd x k < wd y k) = false := by simpa using g3
        have d2 : decide (wd y k < wd x k) = true := by simpa using g1
        go_wp2
        go_quiet (fail)
        have ca2 : (wr.drewN nq).cell? ⟨ga, k, none⟩ = some (.int .u64 (wd x k : Int)) := ca
        have cb2 : (wr.drewN nq).cell? ⟨gb, k, none⟩ = some (.int .u64 (wd y k : Int)) := cb
        have HE2 := hid (HE.out.drewN nq)
        clear ca cb HE
        generalize wr.drewN nq = w2 at *
        go_wp2
        go_quiet (fail)
        go_wp2
        go_roundw
        case rel => exact ⟨k + 1, 1, by omega, by go_num, rfl, hid HC.out.symm, hid (HE2.out.drewN _)⟩
        case measure => simp [intOf]; omega
    · obtain rfl : k = 4 := by omega
      have HZ2 := hid (p := z = cmpN x y) (by
        have := HZ.out
        rw [show (18446744073709551616 : Nat) ^ 4 = 2 ^ 256 by decide, Nat.mod_eq_of_lt HX.out, Nat.mod_eq_of_lt HY.out] at this
        exact this)
      clear HZ
      go_wp2
      go_ret
      exact ⟨by rw [← HZ2.out]; rfl, HE.out.1⟩
end Go.Proofs.YtaggegknnnembaaDoor

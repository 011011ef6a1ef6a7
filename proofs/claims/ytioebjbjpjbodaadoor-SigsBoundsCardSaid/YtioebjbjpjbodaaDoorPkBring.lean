/-
  divides.bring, walked. Conditions: what is left is below m; 256 bits at the most.
-/
import Derived.Test.YtioebjbjpjbodaaDoorPkAj
import Derived.Test.YtioebjbjpjbodaaDoorPkAb
namespace Go.Proofs.YtioebjbjpjbodaaDoor
open Go.RowKit
set_option linter.unusedVariables false

/-- a word of a box is filled anew -/
theorem Env.word {w w' : World} {l : List (Nat × Nat)} (h : Env w l w') (g x y j : Nat) (l' : List (Nat × Nat)) (hm : (g, x) ∈ l) (hg : w.heap.size ≤ g) (hl : ∀ p ∈ l', p ∈ l ∧ p.1 ≠ g) (hj : j < 4) (ho : ∀ i, i ≠ j → wd y i = wd x i) : Env w ((g, y) :: l') (w'.setCell ⟨g, j, none⟩ (.int .u64 (wd y j : Int))) := by
  refine ⟨h.1.setCell (p := ⟨g, j, none⟩) hg _, fun p hp => ?_⟩
  rcases List.mem_cons.1 hp with rfl | hp
  · have hf := (h.nm g x hm).fr
    have : j = 0 ∨ j = 1 ∨ j = 2 ∨ j = 3 := by omega
    rcases this with rfl | rfl | rfl | rfl
    · have := hf.set0 (.int .u64 (wd y 0 : Int)); rw [← ho 1 (by decide), ← ho 2 (by decide), ← ho 3 (by decide)] at this; exact this
    · have := hf.set1 (.int .u64 (wd y 1 : Int)); rw [← ho 0 (by decide), ← ho 2 (by decide), ← ho 3 (by decide)] at this; exact this
    · have := hf.set2 (.int .u64 (wd y 2 : Int)); rw [← ho 0 (by decide), ← ho 1 (by decide), ← ho 3 (by decide)] at this; exact this
    · have := hf.set3 (.int .u64 (wd y 3 : Int)); rw [← ho 0 (by decide), ← ho 1 (by decide), ← ho 2 (by decide)] at this; exact this
  · exact (Below.heap_setCell w' ⟨g, j, none⟩ _ p.1 (hl p hp).2).trans (h.2 p (hl p hp).1)

/-- a bit that is set where there is none below: just one word changes -/
theorem word_set {Q e p b : Nat} (hp : p < 64) (hb : b ≤ 1) :
    (∀ i, i ≠ e → wd (Q * 2 ^ (64 * e + p + 1) + b * 2 ^ (64 * e + p)) i = wd (Q * 2 ^ (64 * e + p + 1)) i)
    ∧ wd (Q * 2 ^ (64 * e + p + 1) + b * 2 ^ (64 * e + p)) e = wd (Q * 2 ^ (64 * e + p + 1)) e + b * 2 ^ p
    ∧ wd (Q * 2 ^ (64 * e + p + 1)) e % 2 ^ (p + 1) = 0 := by
  have hW : (18446744073709551616 : Nat) = 2 ^ 64 := by decide
  have hlt : b * 2 ^ (64 * e + p) < 2 ^ (64 * e + p + 1) := by
    have := Nat.two_pow_pos (64 * e + p)
    rw [Nat.pow_succ]
    rcases (show b = 0 ∨ b = 1 by omega) with rfl | rfl <;> omega
  have hsplit : ∀ i, 18446744073709551616 ^ i = 2 ^ (64 * i) := fun i => by rw [hW, ← Nat.pow_mul]
  have hlow : Q * 2 ^ (64 * e + p + 1) / 2 ^ (64 * e) = Q * 2 ^ (p + 1) := by
    rw [show 64 * e + p + 1 = (p + 1) + 64 * e by omega, Nat.pow_add, ← Nat.mul_assoc, Nat.mul_div_cancel _ (Nat.two_pow_pos _)]
  have hlow2 : (Q * 2 ^ (64 * e + p + 1) + b * 2 ^ (64 * e + p)) / 2 ^ (64 * e) = Q * 2 ^ (p + 1) + b * 2 ^ p := by
    rw [show 64 * e + p + 1 = (p + 1) + 64 * e by omega, show 64 * e + p = p + 64 * e by omega, Nat.pow_add 2 (p + 1) (64 * e), Nat.pow_add 2 p (64 * e), ← Nat.mul_assoc, ← Nat.mul_assoc, ← Nat.add_mul, Nat.mul_div_cancel _ (Nat.two_pow_pos _)]
  have hm : Q * 2 ^ (p + 1) % 2 ^ 64 = Q % 2 ^ (64 - (p + 1)) * 2 ^ (p + 1) := by
    have : (2 : Nat) ^ 64 = 2 ^ (64 - (p + 1)) * 2 ^ (p + 1) := by rw [← Nat.pow_add]; congr 1; omega
    rw [this, Nat.mul_mod_mul_right]
  refine ⟨fun i hi => ?_, ?_, ?_⟩
  · unfold wd
    rw [hsplit]
    rcases Nat.lt_or_ge i e with h | h
    · have d : ∀ X, X * 2 ^ (64 * e + p) / 2 ^ (64 * i) % 18446744073709551616 = 0 := fun X => by
        rw [hW, show 64 * e + p = (64 * e + p - 64 * i - 64) + 64 + 64 * i by omega, Nat.pow_add, Nat.pow_add, ← Nat.mul_assoc, Nat.mul_div_cancel _ (Nat.two_pow_pos _), ← Nat.mul_assoc, Nat.mul_mod_left]
      have e1 : Q * 2 ^ (64 * e + p + 1) + b * 2 ^ (64 * e + p) = (2 * Q + b) * 2 ^ (64 * e + p) := by rw [Nat.pow_succ, Nat.add_mul, Nat.mul_comm 2 Q, Nat.mul_assoc, Nat.mul_comm 2]
      have e2 : Q * 2 ^ (64 * e + p + 1) = (2 * Q) * 2 ^ (64 * e + p) := by rw [Nat.pow_succ, Nat.mul_comm 2 Q, Nat.mul_assoc, Nat.mul_comm 2]
      rw [e1, e2, d, d]
    · have e1 : ∀ X, X / 2 ^ (64 * i) = X / 2 ^ (64 * e + p + 1) / 2 ^ (64 * i - (64 * e + p + 1)) := fun X => by
        rw [Nat.div_div_eq_div_mul, ← Nat.pow_add, show 64 * e + p + 1 + (64 * i - (64 * e + p + 1)) = 64 * i by omega]
      rw [e1, e1 (Q * 2 ^ (64 * e + p + 1)), Nat.mul_comm Q, Nat.mul_add_div (Nat.two_pow_pos _), Nat.div_eq_of_lt hlt, Nat.add_zero, Nat.mul_div_cancel_left _ (Nat.two_pow_pos _)]
  · unfold wd
    rw [hsplit, hlow2, hlow, hW]
    have hb2 : b * 2 ^ p < 2 ^ (p + 1) := by
      have := Nat.two_pow_pos p
      rw [Nat.pow_succ]
      rcases (show b = 0 ∨ b = 1 by omega) with rfl | rfl <;> omega
    rw [Nat.add_mod, hm, Nat.mod_eq_of_lt (Nat.lt_of_lt_of_le hb2 (Nat.pow_le_pow_right (by omega) (by omega)))]
    refine Nat.mod_eq_of_lt ?_
    have h1 : Q % 2 ^ (64 - (p + 1)) + 1 ≤ 2 ^ (64 - (p + 1)) := Nat.mod_lt _ (Nat.two_pow_pos _)
    have h2 := Nat.mul_le_mul_right (2 ^ (p + 1)) h1
    rw [← Nat.pow_add, show 64 - (p + 1) + (p + 1) = 64 by omega, Nat.add_mul] at h2
    omega
  · unfold wd
    rw [hsplit, hlow, hW, hm, Nat.mul_mod_left]

theorem bring_start {r a c m : Nat} (hr : r < m) : (r * 2 ^ c + a % 2 ^ c) / 2 ^ c / m = 0 ∧ (r * 2 ^ c + a % 2 ^ c) / 2 ^ c % m = r := by
  have hl := Nat.mod_lt a (Nat.two_pow_pos c)
  rw [Nat.mul_comm, Nat.mul_add_div (Nat.two_pow_pos c), Nat.div_eq_of_lt hl, Nat.add_zero, Nat.div_eq_of_lt hr, Nat.mod_eq_of_lt hr]
  exact ⟨rfl, rfl⟩
theorem bring_bit {r a c j : Nat} (hj : j < c) : bitAt (r * 2 ^ c + a % 2 ^ c) j = bitAt a j := by
  unfold bitAt
  have e : r * 2 ^ c + a % 2 ^ c = a % 2 ^ c + 2 ^ (j + 1) * (r * 2 ^ (c - (j + 1))) := by
    have : 2 ^ c = 2 ^ (j + 1) * 2 ^ (c - (j + 1)) := by rw [← Nat.pow_add]; congr 1; omega
    conv => lhs; lhs; rw [this]
    rw [Nat.mul_left_comm, Nat.add_comm]
  have h2 : ∀ X : Nat, X / 2 ^ j % 2 = X % 2 ^ (j + 1) / 2 ^ j := fun X => by rw [Nat.pow_succ, Nat.mod_mul_right_div_self]
  rw [h2, h2, e, Nat.add_mul_mod_self_left, Nat.mod_mod_of_dvd _ (Nat.pow_dvd_pow 2 (by omega))]
theorem bring_step (N m j : Nat) (hm : 0 < m) : (2 * (N / 2 ^ (j + 1) % m) + bitAt N j) % m = N / 2 ^ j % m ∧ N / 2 ^ j / m = 2 * (N / 2 ^ (j + 1) / m) + (2 * (N / 2 ^ (j + 1) % m) + bitAt N j) / m := by
  have h := Nat.div_add_mod (N / 2 ^ (j + 1)) m
  have e : N / 2 ^ j = 2 * (N / 2 ^ (j + 1) % m) + bitAt N j + m * (2 * (N / 2 ^ (j + 1) / m)) := by
    rw [bit_step N j, Nat.mul_left_comm]; omega
  rw [e, Nat.add_mul_mod_self_left, Nat.add_mul_div_left _ _ hm, Nat.add_comm (2 * (N / 2 ^ (j + 1) / m))]
  exact ⟨rfl, rfl⟩
theorem bring_lt {r a c m : Nat} (hr : r < m) : (r * 2 ^ c + a % 2 ^ c) / m < 2 ^ c := by
  have hl := Nat.mod_lt a (Nat.two_pow_pos c)
  rw [Nat.div_lt_iff_lt_mul (by omega), Nat.mul_comm (2 ^ c)]
  have := Nat.mul_le_mul_right (2 ^ c) (Nat.succ_le_of_lt hr)
  rw [Nat.succ_mul] at this
  omega
/-- goes, moved up to its place in its word, and laid into it -/
theorem or_up {x p b : Nat} (hx : x < 18446744073709551616) (hp : p < 64) (hb : b ≤ 1) (h0 : x % 2 ^ (p + 1) = 0) : bits .or .u64 (x : Int) ((b * 2 ^ p : Nat) : Int) = ((x + b * 2 ^ p : Nat) : Int) := by
  have hpp : 2 ^ p * 2 ≤ 18446744073709551616 := by rw [← Nat.pow_succ]; exact Nat.le_trans (Nat.pow_le_pow_right (by omega) (show p + 1 ≤ 64 by omega)) (by decide)
  have hbl : b * 2 ^ p < 2 ^ (p + 1) := by
    have := Nat.two_pow_pos p
    rw [Nat.pow_succ]
    rcases (show b = 0 ∨ b = 1 by omega) with rfl | rfl <;> omega
  have hbl2 : b * 2 ^ p < 18446744073709551616 := by rw [Nat.pow_succ] at hbl; omega
  rw [u64_or_nat _ _ hx hbl2]
  congr 1
  have h := Nat.shiftLeft_add_eq_or_of_lt hbl (x / 2 ^ (p + 1))
  rw [Nat.shiftLeft_eq, Nat.div_mul_cancel (Nat.dvd_of_mod_eq_zero h0)] at h
  omega

theorem take_b (r b m s : Nat) (q : Int) (w : World) (hm : m < 2 ^ 256) (hr : r < m) (hb : b ≤ 1) (hs : (2 * r + b) % m = s) (hq : (((2 * r + b) / m : Nat) : Int) = q) :
    Calls Tryd.prog 70 #[num r, .int .u64 (b : Int), num m] w fun e w' => e = .returned (.tuple #[num s, .int .u64 q]) ∧ Below w.heap.size w w' := by
  subst hs; subst hq; exact dtake_any r b m w hm hr hb
set_option maxRecDepth 100000 in
set_option maxHeartbeats 3200000 in
theorem bring_any (r a c m : Nat) (w : World) (hr : r < m) (hm : m < 2 ^ 256) (ha : a < 2 ^ 256) (hc : c ≤ 256) :
    Calls Tryd.prog 57 #[num r, num a, .int .i64 (c : Int), num m] w fun e w' => e = .returned (.tuple #[num ((r * 2 ^ c + a % 2 ^ c) / m), num ((r * 2 ^ c + a % 2 ^ c) % m)]) ∧ Below w.heap.size w w' := by
  obtain ⟨s1, s2⟩ := bring_start (a := a) (c := c) hr
  have hbits : ∀ j, j < c → bitAt (r * 2 ^ c + a % 2 ^ c) j = bitAt a j := fun j hj => bring_bit hj
  have hql := bring_lt (a := a) (c := c) hr
  generalize r * 2 ^ c + a % 2 ^ c = N at *
  have HM := hid hm
  have HP := hid (show 0 < m by omega)
  have HA := hid ha
  have HB := hid hbits
  have HQ := hid hql
  have HE := hid (((((((Env.refl w).new r).new a).new m).zero).zero).perm (l' := [(w.heap.size + 1 + 1 + 1, N / 2 ^ c / m * 2 ^ c), (w.heap.size, N / 2 ^ c % m), (w.heap.size + 1, a), (w.heap.size + 1 + 1, m), (w.heap.size + 1 + 1 + 1 + 1, 0)]) (by rw [s1, s2]; simp))
  have D := hid (show w.heap.size ≠ w.heap.size + 1 ∧ w.heap.size ≠ w.heap.size + 1 + 1 ∧ w.heap.size ≠ w.heap.size + 1 + 1 + 1 ∧ w.heap.size ≠ w.heap.size + 1 + 1 + 1 + 1 ∧ w.heap.size + 1 ≠ w.heap.size + 1 + 1 + 1 ∧ w.heap.size + 1 + 1 ≠ w.heap.size + 1 + 1 + 1 ∧ w.heap.size + 1 + 1 + 1 + 1 ≠ w.heap.size + 1 + 1 + 1 ∧ w.heap.size ≤ w.heap.size + 1 + 1 + 1 ∧ w.heap.size ≤ w.heap.size + 1 + 1 + 1 + 1 ∧ w.heap.size ≤ w.heap.size by omega)
  clear hm hr ha hbits s1 s2 hql
  go_enter Tryd.func57, Tryd.ntmps57
  go_wp2
  generalize ((((w.alloc (.cells (cls r) 24)).alloc (.cells (cls a) 24)).alloc (.cells (cls m) 24)).alloc (.cells #[.int .u64 0, .int .u64 0, .int .u64 0, .int .u64 0] 24)).alloc (.cells #[.int .u64 0, .int .u64 0, .int .u64 0, .int .u64 0] 24) = w0 at *
  generalize w.heap.size + 1 + 1 + 1 + 1 = g9 at *
  generalize w.heap.size + 1 + 1 + 1 = g8 at *
  generalize w.heap.size + 1 + 1 = g7 at *
  generalize w.heap.size + 1 = g5 at *
  generalize hg4 : w.heap.size = g4 at *
  go_loopw [14] (fun s wr => ∃ i k : Nat, i + k = c ∧ s = .int .i64 (i : Int) ∧ Hid (Env w [(g8, N / 2 ^ k / m * 2 ^ k), (g4, N / 2 ^ k % m), (g5, a), (g7, m), (g9, 0)] wr)) (fun s _ => c - (intOf s).toNat)
  case atStart => exact ⟨0, c, by omega, rfl, HE⟩
  case round =>
    obtain ⟨i, k, hk, rfl, H⟩ := hrel
    clear HE
    by_cases h0 : k = 0
    · subst h0
      have E1 := hid (p := N / 2 ^ 0 / m * 2 ^ 0 = N / m) (by rw [Nat.pow_zero, Nat.div_one, Nat.mul_one])
      have E2 := hid (p := N / 2 ^ 0 % m = N % m) (by rw [Nat.pow_zero, Nat.div_one])
      have H2 := hid (p := Env w [(g8, N / m), (g4, N % m), (g5, a), (g7, m), (g9, 0)] wr) (by have := H.out; rw [E1.out, E2.out] at this; exact this)
      clear H E1 E2
      have hb := hc
      obtain ⟨q0, q1, q2, q3⟩ := H2.out.cell g8 (N / m) (by simp)
      obtain ⟨r0, r1, r2, r3⟩ := H2.out.cell g4 (N % m) (by simp)
      obtain ⟨z0, z1, z2, z3⟩ := H2.out.cell g9 0 (by simp)
      have f8 := H2.out.frozen g8 (N / m) (by simp)
      have f9 := H2.out.frozen g9 0 (by simp)
      obtain ⟨d1, d2, d3, d4, d5, d6, d7, d8, d9, _⟩ := D.out
      have n1 : (g9 = g8) = False := eq_false d7
      have n2 : (g8 = g9) = False := eq_false (Ne.symm d7)
      have n3 : (g4 = g8) = False := eq_false d3
      have n4 : (g4 = g9) = False := eq_false d4
      have HZ := hid ((H2.out.set g8 (N / m) (N / m) [(g4, N % m), (g9, 0)] (by simp) (by omega) (by simp; exact ⟨d3, d7⟩)).set g9 0 (N % m) [(g8, N / m)] (by simp) (by omega) (by simp; exact Ne.symm d7))
      have nlt : ¬ ((i : Int) < (c : Int)) := by omega
      go_wp2
      go_region
      all_goals
        go_wp2
        clear q0 q1 q2 q3 r0 r1 r2 r3 z0 z1 z2 z3 f8 f9
        change bodyPost _ _ _ _ _ (fil (fil wr g8 (N / m)) g9 (N % m)).drew
        generalize fil (fil wr g8 (N / m)) g9 (N % m) = wz at *
        obtain ⟨k0, k1, k2, k3⟩ := HZ.out.cell g8 (N / m) (by simp)
        obtain ⟨j0, j1, j2, j3⟩ := HZ.out.cell g9 (N % m) (by simp)
        exact bodyPost_ret (v := .tuple #[num (N / m), num (N % m)]) (by simp [results, Tryd.results57, go_sem, k0, k1, k2, k3, j0, j1, j2, j3]) rfl ⟨rfl, HZ.out.1.drew⟩
    · obtain ⟨j, rfl⟩ : ∃ j, k = j + 1 := ⟨k - 1, by omega⟩
      clear h0
      have A1 : IntKind.i64.wrap ((c : Int) - 1) = (c : Int) - 1 := IntWalk.i64_in _ (by omega)
      have A2 : IntKind.i64.wrap ((c : Int) - 1 - (i : Int)) = (j : Int) := by rw [IntWalk.i64_in _ (by omega)]; omega
      have lt1 : (i : Int) < (c : Int) := by omega
      obtain ⟨t1, t2⟩ := bring_step N m j HP.out
      rw [HB.out j (by omega)] at t1 t2
      have hbl := bitAt_lt a j
      have hrl := Nat.mod_lt (N / 2 ^ (j + 1)) HP.out
      have hbi : Hid ((bi a (j : Int) : Int) = (bitAt a j : Int)) := hid (by unfold bi; rw [if_neg (by omega), Int.toNat_natCast])
      generalize N / 2 ^ (j + 1) % m = R at *
      generalize N / 2 ^ (j + 1) / m = Q at *
      generalize bitAt a j = b at *
      obtain ⟨g, eg, hg⟩ : ∃ g, (2 * R + b) / m = g ∧ g ≤ 1 := ⟨_, rfl, by
        have : (2 * R + b) / m < 2 := by rw [Nat.div_lt_iff_lt_mul HP.out]; omega
        omega⟩
      rw [eg] at t2
      obtain ⟨R2, ER⟩ : ∃ x, Hid (N / 2 ^ j % m = x) := ⟨_, hid rfl⟩
      have T1 := hid (t1.trans ER.out)
      have T2 := hid t2
      have HR := hid hrl
      have HBl := hid (show b ≤ 1 by omega)
      have EG := hid (show (((2 * R + b) / m : Nat) : Int) = (g : Int) by rw [eg])
      clear t1 t2 hrl hbl eg
      go_upto_region 6 with fail
      obtain ⟨a0, a1, a2, a3⟩ := H.out.cell g5 a (by simp)
      obtain ⟨m0, m1, m2, m3⟩ := H.out.cell g7 m (by simp)
      obtain ⟨r0, r1, r2, r3⟩ := H.out.cell g4 R (by simp)
      have fr := H.out.frozen g4 R (by simp)
      go_cut [12] (fun s12 wx => s12 = .int .u64 (g : Int) ∧ Hid (Env w [(g4, R2), (g8, Q * 2 ^ (j + 1)), (g5, a), (g7, m), (g9, 0)] wx))
      case first =>
        have hs := H.out.drew
        go_region_with (first | ((go_at_call 47); (with_reducible refine (bit_at a (j : Int) (b : Int) (by assumption) HA.out (by omega) (by omega) hbi.out).mono ?_); rintro e wn ⟨rfl, hs⟩; obtain ⟨a0, a1, a2, a3⟩ := hs.cell g5 a (by simp); obtain ⟨m0, m1, m2, m3⟩ := hs.cell g7 m (by simp); obtain ⟨r0, r1, r2, r3⟩ := hs.cell g4 R (by simp); have fr := hs.frozen g4 R (by simp)) | ((go_at_call 70); (with_reducible refine (env_of (take_b R b m R2 (g : Int) _ HM.out HR.out HBl.out T1.out EG.out) (by assumption)).mono ?_); rintro e wn ⟨rfl, hs⟩; obtain ⟨a0, a1, a2, a3⟩ := hs.cell g5 a (by simp); obtain ⟨m0, m1, m2, m3⟩ := hs.cell g7 m (by simp); obtain ⟨r0, r1, r2, r3⟩ := hs.cell g4 R (by simp); have fr := hs.frozen g4 R (by simp)))
        all_goals
          go_wp2_with fail
          go_meet
          exact ⟨rfl, hid (hs.set g4 R R2 _ (by simp) (by omega) (by obtain ⟨d1, d2, d3, d4, d5, d6, d7, _⟩ := D.out; simp; exact ⟨Ne.symm d3, Ne.symm d1, Ne.symm d2, Ne.symm d4⟩))⟩
      case rest =>
        obtain ⟨rfl, H2⟩ := hcut
        clear a0 a1 a2 a3 m0 m1 m2 m3 r0 r1 r2 r3 fr H A1 A2 lt1
        obtain ⟨e, p, hj, hp⟩ : ∃ e p, j = 64 * e + p ∧ p < 64 := ⟨j / 64, j % 64, by omega, Nat.mod_lt _ (by decide)⟩
        have he : e = 0 ∨ e = 1 ∨ e = 2 ∨ e = 3 := by omega
        obtain ⟨q1, q2, q3⟩ := word_set (Q := Q) (e := e) hp hg
        rw [← hj] at q1 q2 q3
        have T3 := hid (p := N / 2 ^ j / m * 2 ^ j = Q * 2 ^ (j + 1) + g * 2 ^ j) (by rw [T2.out, Nat.add_mul, Nat.pow_succ, Nat.mul_comm 2 Q, Nat.mul_assoc, Nat.mul_comm 2])
        have hpp : 2 ^ p * 2 ≤ 18446744073709551616 := by rw [← Nat.pow_succ]; exact Nat.le_trans (Nat.pow_le_pow_right (by omega) (show p + 1 ≤ 64 by omega)) (by decide)
        have Q4 := hid (p := IntKind.u64.wrap ((g : Int) * 2 ^ p) = ((g * 2 ^ p : Nat) : Int)) (by
          have e1 : ((g : Int) * 2 ^ p) = ((g * 2 ^ p : Nat) : Int) := by simp
          rw [e1, IntWalk.u64_in _ ?_]
          have := Nat.mul_le_mul_right (2 ^ p) hg
          omega)
        have Q5 := hid (p := bits .or .u64 (wd (Q * 2 ^ (j + 1)) e : Int) ((g * 2 ^ p : Nat) : Int) = (wd (Q * 2 ^ (j + 1) + g * 2 ^ j) e : Int)) (by rw [or_up (wd_lt _ _) hp hg q3, q2])
        have QO := hid q1
        have HJ := hid hj
        have HP2 := hid hp
        clear q1 q2 q3 hpp hj hp
        obtain ⟨q0', q1', q2', q3'⟩ := H2.out.cell g8 (Q * 2 ^ (j + 1)) (by simp)
        have f8 := H2.out.frozen g8 (Q * 2 ^ (j + 1)) (by simp)
        rcases he with rfl | rfl | rfl | rfl
        · have B1 : (j : Int) / 64 = 0 := by have := HJ.out; have := HP2.out; omega
          have B2 : IntKind.i64.wrap 0 = 0 := by decide
          have B3 : (j : Int) % 64 = (p : Int) := by have := HJ.out; have := HP2.out; omega
          have B4 : IntKind.u64.wrap ((g : Int) * 2 ^ p) = (g : Int) * 2 ^ p := by rw [Q4.out]; simp
          have B5 : bits .or .u64 (wd (Q * 2 ^ (j + 1)) 0 : Int) ((g : Int) * 2 ^ p) = (wd (Q * 2 ^ (j + 1) + g * 2 ^ j) 0 : Int) := by have := Q5.out; rwa [show ((g * 2 ^ p : Nat) : Int) = (g : Int) * 2 ^ p by simp] at this
          go_upto_region 7 with fail
          go_region
          all_goals
            have H3 := hid (Env.drew (H2.out.word g8 (Q * 2 ^ (j + 1)) (Q * 2 ^ (j + 1) + g * 2 ^ j) 0 [(g4, R2), (g5, a), (g7, m), (g9, 0)] (by simp) (by obtain ⟨d1, d2, d3, d4, d5, d6, d7, d8, _⟩ := D.out; omega) (by obtain ⟨d1, d2, d3, d4, d5, d6, d7, _⟩ := D.out; simp; exact ⟨d3, d5, d6, d7⟩) (by decide) QO.out))
            clear q0' q1' q2' q3' f8 B1 B2 B3 B4 B5
            go_wp2
            go_roundw
            case rel => exact ⟨i + 1, j, by omega, by go_num, hid (by rw [T3.out, ER.out]; exact H3.out)⟩
            case measure => simp [intOf]; omega
        · have B1 : (j : Int) / 64 = 1 := by have := HJ.out; have := HP2.out; omega
          have B2 : IntKind.i64.wrap 1 = 1 := by decide
          have B3 : (j : Int) % 64 = (p : Int) := by have := HJ.out; have := HP2.out; omega
          have B4 : IntKind.u64.wrap ((g : Int) * 2 ^ p) = (g : Int) * 2 ^ p := by rw [Q4.out]; simp
          have B5 : bits .or .u64 (wd (Q * 2 ^ (j + 1)) 1 : Int) ((g : Int) * 2 ^ p) = (wd (Q * 2 ^ (j + 1) + g * 2 ^ j) 1 : Int) := by have := Q5.out; rwa [show ((g * 2 ^ p : Nat) : Int) = (g : Int) * 2 ^ p by simp] at this
          go_upto_region 7 with fail
          go_region
          all_goals
            have H3 := hid (Env.drew (H2.out.word g8 (Q * 2 ^ (j + 1)) (Q * 2 ^ (j + 1) + g * 2 ^ j) 1 [(g4, R2), (g5, a), (g7, m), (g9, 0)] (by simp) (by obtain ⟨d1, d2, d3, d4, d5, d6, d7, d8, _⟩ := D.out; omega) (by obtain ⟨d1, d2, d3, d4, d5, d6, d7, _⟩ := D.out; simp; exact ⟨d3, d5, d6, d7⟩) (by decide) QO.out))
            clear q0' q1' q2' q3' f8 B1 B2 B3 B4 B5
            go_wp2
            go_roundw
            case rel => exact ⟨i + 1, j, by omega, by go_num, hid (by rw [T3.out, ER.out]; exact H3.out)⟩
            case measure => simp [intOf]; omega
        · have B1 : (j : Int) / 64 = 2 := by have := HJ.out; have := HP2.out; omega
          have B2 : IntKind.i64.wrap 2 = 2 := by decide
          have B3 : (j : Int) % 64 = (p : Int) := by have := HJ.out; have := HP2.out; omega
          have B4 : IntKind.u64.wrap ((g : Int) * 2 ^ p) = (g : Int) * 2 ^ p := by rw [Q4.out]; simp
          have B5 : bits .or .u64 (wd (Q * 2 ^ (j + 1)) 2 : Int) ((g : Int) * 2 ^ p) = (wd (Q * 2 ^ (j + 1) + g * 2 ^ j) 2 : Int) := by have := Q5.out; rwa [show ((g * 2 ^ p : Nat) : Int) = (g : Int) * 2 ^ p by simp] at this
          go_upto_region 7 with fail
          go_region
          all_goals
            have H3 := hid (Env.drew (H2.out.word g8 (Q * 2 ^ (j + 1)) (Q * 2 ^ (j + 1) + g * 2 ^ j) 2 [(g4, R2), (g5, a), (g7, m), (g9, 0)] (by simp) (by obtain ⟨d1, d2, d3, d4, d5, d6, d7, d8, _⟩ := D.out; omega) (by obtain ⟨d1, d2, d3, d4, d5, d6, d7, _⟩ := D.out; simp; exact ⟨d3, d5, d6, d7⟩) (by decide) QO.out))
            clear q0' q1' q2' q3' f8 B1 B2 B3 B4 B5
            go_wp2
            go_roundw
            case rel => exact ⟨i + 1, j, by omega, by go_num, hid (by rw [T3.out, ER.out]; exact H3.out)⟩
            case measure => simp [intOf]; omega
        · have B1 : (j : Int) / 64 = 3 := by have := HJ.out; have := HP2.out; omega
          have B2 : IntKind.i64.wrap 3 = 3 := by decide
          have B3 : (j : Int) % 64 = (p : Int) := by have := HJ.out; have := HP2.out; omega
          have B4 : IntKind.u64.wrap ((g : Int) * 2 ^ p) = (g : Int) * 2 ^ p := by rw [Q4.out]; simp
          have B5 : bits .or .u64 (wd (Q * 2 ^ (j + 1)) 3 : Int) ((g : Int) * 2 ^ p) = (wd (Q * 2 ^ (j + 1) + g * 2 ^ j) 3 : Int) := by have := Q5.out; rwa [show ((g * 2 ^ p : Nat) : Int) = (g : Int) * 2 ^ p by simp] at this
          go_upto_region 7 with fail
          go_region
          all_goals
            have H3 := hid (Env.drew (H2.out.word g8 (Q * 2 ^ (j + 1)) (Q * 2 ^ (j + 1) + g * 2 ^ j) 3 [(g4, R2), (g5, a), (g7, m), (g9, 0)] (by simp) (by obtain ⟨d1, d2, d3, d4, d5, d6, d7, d8, _⟩ := D.out; omega) (by obtain ⟨d1, d2, d3, d4, d5, d6, d7, _⟩ := D.out; simp; exact ⟨d3, d5, d6, d7⟩) (by decide) QO.out))
            clear q0' q1' q2' q3' f8 B1 B2 B3 B4 B5
            go_wp2
            go_roundw
            case rel => exact ⟨i + 1, j, by omega, by go_num, hid (by rw [T3.out, ER.out]; exact H3.out)⟩
            case measure => simp [intOf]; omega
end Go.Proofs.YtioebjbjpjbodaaDoor

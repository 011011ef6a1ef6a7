/-
  divides.Wide, walked: what is left of twice as many words. Conditions: none.
-/
import Derived.Test.YtioebjbjpjbodaaDiv
namespace Go.Proofs.Ytioebjbjpjbodaa
open Go.RowKit
set_option linter.unusedVariables false

theorem div_b (a b q r : Nat) (w : World) (ha : a < 2 ^ 256) (hb : b < 2 ^ 256) (h0 : b ≠ 0) (hq : a / b = q) (hr : a % b = r) : Calls Try.prog 39 #[num a, num b] w fun e w' => e = .returned (.tuple #[num q, num r, .int .i64 0]) ∧ Below w.heap.size w w' := by
  subst hq; subst hr; exact div_some a b w ha hb h0
theorem div_at (a b q r : Nat) {w w' : World} {l : List (Nat × Nat)} (h : Env w l w') (ha : a < 2 ^ 256) (hb : b < 2 ^ 256) (h0 : b ≠ 0) (hq : a / b = q) (hr : a % b = r) : Calls Try.prog 39 #[num a, num b] w' fun e w2 => e = .returned (.tuple #[num q, num r, .int .i64 0]) ∧ Env w l w2 :=
  env_of (div_b a b q r w' ha hb h0 hq hr) h
theorem bring_at (r a c m q s : Nat) {w w' : World} {l : List (Nat × Nat)} (h : Env w l w') (hr : r < m) (hm : m < 2 ^ 256) (ha : a < 2 ^ 256) (hc : c ≤ 256) (hq : (r * 2 ^ c + a % 2 ^ c) / m = q) (hs : (r * 2 ^ c + a % 2 ^ c) % m = s) :
    Calls Try.prog 40 #[num r, num a, .int .i64 (c : Int), num m] w' fun e w2 => e = .returned (.tuple #[num q, num s]) ∧ Env w l w2 :=
  env_of (bring_b r a c m q s w' hr hm ha hc hq hs) h

/-- what is left of high and low together -/
def wid (lo hi m : Nat) : Nat := (lo + 2 ^ 256 * hi) % m
theorem wid_zero {lo hi m : Nat} (h : hi % m = 0) : wid lo hi m = lo % m := by
  unfold wid
  rw [Nat.add_mod, Nat.mul_mod, h, Nat.mul_zero, Nat.zero_mod, Nat.add_zero, Nat.mod_mod]
theorem wid_some {lo hi m : Nat} (hl : lo < 2 ^ 256) : (hi % m * 2 ^ 256 + lo % 2 ^ 256) % m = wid lo hi m := by
  unfold wid
  rw [Nat.mod_eq_of_lt hl, Nat.add_comm, Nat.add_mod, Nat.mod_mul_mod, ← Nat.add_mod, Nat.mul_comm hi]

set_option maxRecDepth 100000 in
set_option maxHeartbeats 3200000 in
theorem wide_zero (lo hi m : Nat) (w : World) (hlo : lo < 2 ^ 256) (hhi : hi < 2 ^ 256) (hm : m < 2 ^ 256) (h0 : m ≠ 0) (hr : hi % m = 0) : Calls Try.prog 33 #[num lo, num hi, num m] w fun e w' => e = .returned (.tuple #[num (wid lo hi m), .int .i64 0]) ∧ Below w.heap.size w w' := by
  rw [wid_zero hr]
  obtain ⟨s, es⟩ : ∃ s, lo % m = s := ⟨_, rfl⟩
  rw [es]
  have E0 := hid hr
  have qn := eq_none_yes
  obtain ⟨q2, eq2⟩ : ∃ q2, lo / m = q2 := ⟨_, rfl⟩
  obtain ⟨q, eq⟩ : ∃ q, hi / m = q := ⟨_, rfl⟩
  have LO := hid hlo
  have HI := hid hhi
  have HM := hid hm
  have H0 := hid h0
  have EQ := hid eq
  have EQ2 := hid eq2
  have ES := hid es
  clear hlo hhi hm h0 eq eq2 es hr
  have HE := hid ((((((Env.refl w).new lo).new hi).new m).zero).perm (l' := [(w.heap.size, lo), (w.heap.size + 1 + 1, m), (w.heap.size + 1 + 1 + 1, 0)]) (by simp))
  have D := hid (show w.heap.size ≤ w.heap.size + 1 + 1 + 1 by omega)
  go_enter Try.func33, Try.ntmps33
  go_wp2_with fail
  refine (div_at hi m q 0 HE.out HI.out HM.out H0.out EQ.out E0.out).mono ?_
  rintro e u1 ⟨rfl, h⟩
  have H1 := hid h
  clear h HE
  generalize w.heap.size + 1 + 1 + 1 = g6 at *
  generalize w.heap.size + 1 + 1 = g5 at *
  generalize hg3 : w.heap.size = g3 at *
  obtain ⟨a0, a1, a2, a3⟩ := H1.out.cell g3 lo (by simp)
  have l3 := H1.out.lt g3 lo (by simp)
  obtain ⟨m0, m1, m2, m3⟩ := H1.out.cell g5 m (by simp)
  have l5 := H1.out.lt g5 m (by simp)
  go_wp2_with fail
  clear a0 a1 a2 a3 l3 m0 m1 m2 m3 l5 qn
  have H1b := hid (H1.out.new2 q 0)
  have N6 := hid (show g6 ≠ u1.heap.size + 1 by have := H1.out.lt g6 0 (by simp); omega)
  have G9 := hid (show w.heap.size ≤ u1.heap.size + 1 by have := H1.out.1.size; omega)
  clear H1
  generalize (u1.alloc (.cells (cls q) 24)).alloc (.cells (cls 0) 24) = u1b at *
  generalize u1.heap.size = g8 at *
  refine (div_at lo m q2 s H1b.out LO.out HM.out H0.out EQ2.out ES.out).mono ?_
  rintro e u2 ⟨rfl, h⟩
  have H2 := hid h
  clear h H1b
  obtain ⟨a0, a1, a2, a3⟩ := H2.out.cell (g8 + 1) 0 (by simp)
  have l9 := H2.out.lt (g8 + 1) 0 (by simp)
  have f9 := H2.out.frozen (g8 + 1) 0 (by simp)
  obtain ⟨b0, b1, b2, b3⟩ := H2.out.cell g6 0 (by simp)
  have l6 := H2.out.lt g6 0 (by simp)
  have f6 := H2.out.frozen g6 0 (by simp)
  have n6 : g6 ≠ g8 + 1 := N6.out
  have n6' : (g6 = g8 + 1) = False := eq_false n6
  have n6'' : (g8 + 1 = g6) = False := eq_false (Ne.symm n6)
  have HZ := hid ((H2.out.set (g8 + 1) 0 s [(g6, 0)] (by simp) G9.out (by simp; exact n6)).set g6 0 s [] (by simp) (by rw [hg3]; exact D.out) (by simp))
  go_wp2
  clear a0 a1 a2 a3 l9 f9 b0 b1 b2 b3 l6 f6
  change bodyPost _ _ _ _ _ (fil (fil u2 (g8 + 1) s) g6 s)
  generalize fil (fil u2 (g8 + 1) s) g6 s = wz at *
  obtain ⟨k0, k1, k2, k3⟩ := HZ.out.cell g6 s (by simp)
  exact bodyPost_ret (v := .tuple #[num s, .int .i64 0]) (by simp [results, Try.results33, go_sem, k0, k1, k2, k3]) rfl ⟨rfl, HZ.out.1⟩
set_option maxRecDepth 100000 in
set_option maxHeartbeats 3200000 in
theorem wide_rest (lo hi m : Nat) (w : World) (hlo : lo < 2 ^ 256) (hhi : hi < 2 ^ 256) (hm : m < 2 ^ 256) (h0 : m ≠ 0) (hr : hi % m ≠ 0) : Calls Try.prog 33 #[num lo, num hi, num m] w fun e w' => e = .returned (.tuple #[num (wid lo hi m), .int .i64 0]) ∧ Below w.heap.size w w' := by
  have hs := wid_some (m := m) (hi := hi) hlo
  obtain ⟨s, es'⟩ : ∃ s, wid lo hi m = s := ⟨_, rfl⟩
  rw [es'] at hs ⊢
  clear es'
  have hrl := Nat.mod_lt hi (Nat.pos_of_ne_zero h0)
  obtain ⟨r, er⟩ : ∃ r, hi % m = r := ⟨_, rfl⟩
  rw [er] at hr hs hrl
  have es := hs
  have E0 := hid er
  have RL := hid hrl
  have qn := eq_none r (Nat.lt_trans hrl hm) hr
  obtain ⟨q2, eq2⟩ : ∃ q2, (r * 2 ^ 256 + lo % 2 ^ 256) / m = q2 := ⟨_, rfl⟩
  obtain ⟨q, eq⟩ : ∃ q, hi / m = q := ⟨_, rfl⟩
  have LO := hid hlo
  have HI := hid hhi
  have HM := hid hm
  have H0 := hid h0
  have EQ := hid eq
  have EQ2 := hid eq2
  have ES := hid es
  clear hlo hhi hm h0 eq eq2 es hr hs hrl er
  have HE := hid ((((((Env.refl w).new lo).new hi).new m).zero).perm (l' := [(w.heap.size, lo), (w.heap.size + 1 + 1, m), (w.heap.size + 1 + 1 + 1, 0)]) (by simp))
  have D := hid (show w.heap.size ≤ w.heap.size + 1 + 1 + 1 by omega)
  go_enter Try.func33, Try.ntmps33
  go_wp2_with fail
  refine (div_at hi m q r HE.out HI.out HM.out H0.out EQ.out E0.out).mono ?_
  rintro e u1 ⟨rfl, h⟩
  have H1 := hid h
  clear h HE
  generalize w.heap.size + 1 + 1 + 1 = g6 at *
  generalize w.heap.size + 1 + 1 = g5 at *
  generalize hg3 : w.heap.size = g3 at *
  obtain ⟨a0, a1, a2, a3⟩ := H1.out.cell g3 lo (by simp)
  have l3 := H1.out.lt g3 lo (by simp)
  obtain ⟨m0, m1, m2, m3⟩ := H1.out.cell g5 m (by simp)
  have l5 := H1.out.lt g5 m (by simp)
  go_wp2_with fail
  clear a0 a1 a2 a3 l3 m0 m1 m2 m3 l5 qn
  have H1b := hid (H1.out.new2 q r)
  have N6 := hid (show g6 ≠ u1.heap.size + 1 by have := H1.out.lt g6 0 (by simp); omega)
  have G9 := hid (show w.heap.size ≤ u1.heap.size + 1 by have := H1.out.1.size; omega)
  clear H1
  generalize (u1.alloc (.cells (cls q) 24)).alloc (.cells (cls r) 24) = u1b at *
  generalize u1.heap.size = g8 at *
  refine (bring_at r lo 256 m q2 s H1b.out RL.out HM.out LO.out (by decide) EQ2.out ES.out).mono ?_
  rintro e u2 ⟨rfl, h⟩
  have H2 := hid h
  clear h H1b
  obtain ⟨a0, a1, a2, a3⟩ := H2.out.cell (g8 + 1) r (by simp)
  have l9 := H2.out.lt (g8 + 1) r (by simp)
  have f9 := H2.out.frozen (g8 + 1) r (by simp)
  obtain ⟨b0, b1, b2, b3⟩ := H2.out.cell g6 0 (by simp)
  have l6 := H2.out.lt g6 0 (by simp)
  have f6 := H2.out.frozen g6 0 (by simp)
  have n6 : g6 ≠ g8 + 1 := N6.out
  have n6' : (g6 = g8 + 1) = False := eq_false n6
  have n6'' : (g8 + 1 = g6) = False := eq_false (Ne.symm n6)
  have HZ := hid ((H2.out.set (g8 + 1) r s [(g6, 0)] (by simp) G9.out (by simp; exact n6)).set g6 0 s [] (by simp) (by rw [hg3]; exact D.out) (by simp))
  go_wp2
  clear a0 a1 a2 a3 l9 f9 b0 b1 b2 b3 l6 f6
  change bodyPost _ _ _ _ _ (fil (fil u2 (g8 + 1) s) g6 s)
  generalize fil (fil u2 (g8 + 1) s) g6 s = wz at *
  obtain ⟨k0, k1, k2, k3⟩ := HZ.out.cell g6 s (by simp)
  exact bodyPost_ret (v := .tuple #[num s, .int .i64 0]) (by simp [results, Try.results33, go_sem, k0, k1, k2, k3]) rfl ⟨rfl, HZ.out.1⟩
theorem wide_some (lo hi m : Nat) (w : World) (hlo : lo < 2 ^ 256) (hhi : hi < 2 ^ 256) (hm : m < 2 ^ 256) (h0 : m ≠ 0) : Calls Try.prog 33 #[num lo, num hi, num m] w fun e w' => e = .returned (.tuple #[num (wid lo hi m), .int .i64 0]) ∧ Below w.heap.size w w' := by
  by_cases hr : hi % m = 0
  · exact wide_zero lo hi m w hlo hhi hm h0 hr
  · exact wide_rest lo hi m w hlo hhi hm h0 hr
theorem wide_b (lo hi m s : Nat) (w : World) (hlo : lo < 2 ^ 256) (hhi : hi < 2 ^ 256) (hm : m < 2 ^ 256) (h0 : m ≠ 0) (hs : wid lo hi m = s) : Calls Try.prog 33 #[num lo, num hi, num m] w fun e w' => e = .returned (.tuple #[num s, .int .i64 0]) ∧ Below w.heap.size w w' := by
  subst hs; exact wide_some lo hi m w hlo hhi hm h0
theorem wide_at (lo hi m s : Nat) {w w' : World} {l : List (Nat × Nat)} (h : Env w l w') (hlo : lo < 2 ^ 256) (hhi : hi < 2 ^ 256) (hm : m < 2 ^ 256) (h0 : m ≠ 0) (hs : wid lo hi m = s) : Calls Try.prog 33 #[num lo, num hi, num m] w' fun e w2 => e = .returned (.tuple #[num s, .int .i64 0]) ∧ Env w l w2 :=
  env_of (wide_b lo hi m s w' hlo hhi hm h0 hs) h
end Go.Proofs.Ytioebjbjpjbodaa

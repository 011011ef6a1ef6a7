/-
  divides.take, walked. Conditions: what is left is below m, and the bit is 0 or 1.
-/
import Derived.Test.YtioebjbjpjbodaaBox
namespace Go.Proofs.Ytioebjbjpjbodaa
open Go.RowKit
set_option linter.unusedVariables false

theorem even_word {s b : Nat} (he : s % 2 = 0) (hb : b ≤ 1) : wd (s + b) 0 = wd s 0 + b ∧ wd (s + b) 1 = wd s 1 ∧ wd (s + b) 2 = wd s 2 ∧ wd (s + b) 3 = wd s 3 := by
  unfold wd
  have e1 : (18446744073709551616 : Nat) ^ 1 = 18446744073709551616 := by decide
  have e2 : (18446744073709551616 : Nat) ^ 2 = 340282366920938463463374607431768211456 := by decide
  have e3 : (18446744073709551616 : Nat) ^ 3 = 6277101735386680763835789423207666416102355444464034512896 := by decide
  rw [e1, e2, e3, Nat.pow_zero]
  refine ⟨?_, ?_, ?_, ?_⟩ <;> omega
theorem or_bit {s b : Nat} (he : s % 2 = 0) (hb : b ≤ 1) : bits .or .u64 (wd s 0 : Int) (b : Int) = (wd (s + b) 0 : Int) := by
  have hl := wd_lt s 0
  have hw : wd s 0 % 2 = 0 := by unfold wd; rw [Nat.pow_zero]; omega
  rw [(even_word he hb).1, u64_or_nat _ _ hl (by omega)]
  congr 1
  have h := Nat.shiftLeft_add_eq_or_of_lt (b := b) (i := 1) (by omega) (wd s 0 / 2)
  rw [Nat.shiftLeft_eq, Nat.pow_one] at h
  rw [show wd s 0 / 2 * 2 = wd s 0 by omega] at h
  omega
theorem take_num {r b m : Nat} (hm : m < 2 ^ 256) (hr : r < m) (hb : b ≤ 1) :
    (r + r) % 2 ^ 256 % 2 = 0 ∧ (r + r) % 2 ^ 256 + b < 2 ^ 256 ∧
    ((2 * r + b < m ∧ (2 * r + b) % m = (r + r) % 2 ^ 256 + b ∧ (2 * r + b) / m = 0 ∧ (((r + r) / 2 ^ 256 : Nat) : Int) < ((lent ((r + r) % 2 ^ 256 + b) m : Nat) : Int)) ∨
     (m ≤ 2 * r + b ∧ (2 * r + b) % m = dif ((r + r) % 2 ^ 256 + b) m ∧ (2 * r + b) / m = 1 ∧ ¬ ((((r + r) / 2 ^ 256 : Nat) : Int) < ((lent ((r + r) % 2 ^ 256 + b) m : Nat) : Int)))) := by
  rcases Nat.lt_or_ge (2 * r + b) m with h | h
  · have e1 : (2 * r + b) % m = 2 * r + b := Nat.mod_eq_of_lt h
    have e2 : (2 * r + b) / m = 0 := Nat.div_eq_of_lt h
    rw [e1, e2]
    unfold lent
    rw [p256] at *
    refine ⟨by omega, by omega, .inl ⟨h, by omega, rfl, ?_⟩⟩
    rw [if_pos (by omega)]
    omega
  · have e1 : (2 * r + b) % m = 2 * r + b - m := by rw [Nat.mod_eq_sub_mod h, Nat.mod_eq_of_lt (by omega)]
    have e2 : (2 * r + b) / m = 1 := by rw [Nat.div_eq_sub_div (by omega) h, Nat.div_eq_of_lt (by omega)]
    rw [e1, e2]
    unfold lent dif
    rw [p256] at *
    refine ⟨by omega, by omega, .inr ⟨h, ?_, rfl, ?_⟩⟩ <;> split <;> omega

set_option maxRecDepth 100000 in
set_option maxHeartbeats 1600000 in
theorem dtake_any (r b m : Nat) (w : World) (hm : m < 2 ^ 256) (hr : r < m) (hb : b ≤ 1) :
    Calls Try.prog 47 #[num r, .int .u64 (b : Int), num m] w fun e w' => e = .returned (.tuple #[num ((2 * r + b) % m), .int .u64 (((2 * r + b) / m : Nat) : Int)]) ∧ Below w.heap.size w w' := by
  obtain ⟨he, hs, hc⟩ := take_num hm hr hb
  obtain ⟨s, es⟩ : ∃ s, (r + r) % 2 ^ 256 = s := ⟨_, rfl⟩
  obtain ⟨k, ek⟩ : ∃ k : Int, (((r + r) / 2 ^ 256 : Nat) : Int) = k := ⟨_, rfl⟩
  rw [es] at he hs hc
  rw [ek] at hc
  obtain ⟨t, et⟩ : ∃ t, dif (s + b) m = t := ⟨_, rfl⟩
  obtain ⟨l, el⟩ : ∃ l : Int, ((lent (s + b) m : Nat) : Int) = l := ⟨_, rfl⟩
  rw [et, el] at hc
  have ho := or_bit he hb
  obtain ⟨w0, w1, w2, w3⟩ := even_word he hb
  have ES := hid es
  have EK := hid ek
  have ET := hid et
  have EL := hid el
  have HM := hid hm
  have HR := hid (Nat.lt_trans hr hm)
  have HS := hid hs
  have W1 := hid w1
  have W2 := hid w2
  have W3 := hid w3
  have HE := hid (((((Env.refl w).new r).new m).zero).perm (l' := [(w.heap.size + 1 + 1, 0), (w.heap.size + 1, m), (w.heap.size, r)]) (by simp))
  clear es ek et el hm hr hs w0 w1 w2 w3 he hb
  rcases hc with ⟨_, c1, c2, c3⟩ | ⟨_, c1, c2, c3⟩
  · rw [c1, c2]
    clear c1 c2
    go_enter Try.func47, Try.ntmps47
    go_wp2_with fail
    refine (env_of (add_b r r s k _ HR.out HR.out ES.out EK.out) HE.out).mono ?_
    rintro e u1 ⟨rfl, h⟩
    have H1 := hid h
    have G6 := hid (show w.heap.size ≤ w.heap.size + 1 + 1 by omega)
    clear h HE
    generalize w.heap.size + 1 + 1 = g6 at *
    generalize w.heap.size + 1 = g5 at *
    obtain ⟨m0, m1, m2, m3⟩ := H1.out.cell g5 m (by simp)
    have l5 := H1.out.lt g5 m (by simp)
    have l6 := H1.out.lt g6 0 (by simp)
    go_wp2_with fail
    rw [← W1.out, ← W2.out, ← W3.out]
    change Calls _ _ #[num (s + b), num m] (u1.alloc (.cells (cls (s + b)) 24)) _
    have H2 := hid (H1.out.new (s + b))
    have N6 := hid (Nat.ne_of_lt l6)
    clear H1 m0 m1 m2 m3 l5 l6
    refine (env_of (sub_b (s + b) m t l _ HS.out HM.out ET.out EL.out) H2.out).mono ?_
    rintro e u2 ⟨rfl, h⟩
    have H3 := hid h
    clear h H2
    generalize u1.heap.size = g8 at *
    obtain ⟨s0, s1, s2, s3⟩ := H3.out.cell g8 (s + b) (by simp)
    obtain ⟨z0, z1, z2, z3⟩ := H3.out.cell g6 0 (by simp)
    have f6 := H3.out.frozen g6 0 (by simp)
    have l8 := H3.out.lt g8 (s + b) (by simp)
    have l6 := H3.out.lt g6 0 (by simp)
    have n6 := N6.out
    have HZ := hid ((H3.out.set g6 0 (s + b) [] (by simp) G6.out (by simp)).new t)
    go_wp2
    clear s0 s1 s2 s3 z0 z1 z2 z3 f6 l8 l6 n6
    change bodyPost _ _ _ _ _ ((fil u2 g6 (s + b)).alloc (.cells (cls t) 24))
    generalize (fil u2 g6 (s + b)).alloc (.cells (cls t) 24) = wz at *
    obtain ⟨k0, k1, k2, k3⟩ := HZ.out.cell g6 (s + b) (by simp)
    exact bodyPost_ret (v := .tuple #[num (s + b), .int .u64 0]) (by simp [results, Try.results47, go_sem, k0, k1, k2, k3]) rfl ⟨rfl, HZ.out.1⟩
  · rw [c1, c2]
    clear c1 c2
    go_enter Try.func47, Try.ntmps47
    go_wp2_with fail
    refine (env_of (add_b r r s k _ HR.out HR.out ES.out EK.out) HE.out).mono ?_
    rintro e u1 ⟨rfl, h⟩
    have H1 := hid h
    have G6 := hid (show w.heap.size ≤ w.heap.size + 1 + 1 by omega)
    clear h HE
    generalize w.heap.size + 1 + 1 = g6 at *
    generalize w.heap.size + 1 = g5 at *
    obtain ⟨m0, m1, m2, m3⟩ := H1.out.cell g5 m (by simp)
    have l5 := H1.out.lt g5 m (by simp)
    have l6 := H1.out.lt g6 0 (by simp)
    go_wp2_with fail
    rw [← W1.out, ← W2.out, ← W3.out]
    change Calls _ _ #[num (s + b), num m] (u1.alloc (.cells (cls (s + b)) 24)) _
    have H2 := hid (H1.out.new (s + b))
    have N6 := hid (Nat.ne_of_lt l6)
    clear H1 m0 m1 m2 m3 l5 l6
    refine (env_of (sub_b (s + b) m t l _ HS.out HM.out ET.out EL.out) H2.out).mono ?_
    rintro e u2 ⟨rfl, h⟩
    have H3 := hid h
    clear h H2
    generalize u1.heap.size = g8 at *
    obtain ⟨s0, s1, s2, s3⟩ := H3.out.cell g8 (s + b) (by simp)
    obtain ⟨z0, z1, z2, z3⟩ := H3.out.cell g6 0 (by simp)
    have f6 := H3.out.frozen g6 0 (by simp)
    have l8 := H3.out.lt g8 (s + b) (by simp)
    have l6 := H3.out.lt g6 0 (by simp)
    have n6 := N6.out
    have HZ := hid ((H3.out.set g6 0 t [] (by simp) G6.out (by simp)).new t)
    go_wp2
    clear s0 s1 s2 s3 z0 z1 z2 z3 f6 l8 l6 n6
    change bodyPost _ _ _ _ _ ((fil u2 g6 t).alloc (.cells (cls t) 24))
    generalize (fil u2 g6 t).alloc (.cells (cls t) 24) = wz at *
    obtain ⟨k0, k1, k2, k3⟩ := HZ.out.cell g6 t (by simp)
    exact bodyPost_ret (v := .tuple #[num t, .int .u64 1]) (by simp [results, Try.results47, go_sem, k0, k1, k2, k3]) rfl ⟨rfl, HZ.out.1⟩
end Go.Proofs.Ytioebjbjpjbodaa

/-
  What the calls of limbs answer, with the answers named; the boxes that a law carries. Conditions: none.
  Boxes that hold long numbers, and what is stored into them. Conditions: none.
  divides.take, walked. Conditions: what is left is below m, and the bit is 0 or 1.
  Boxes that a region makes while it draws its order: those that stand first among what a law carries. Conditions: none.
-/
import Derived.Test.YtioebjbjpjbodaaDoorPkAc
import Derived.Test.YtioebjbjpjbodaaDoorPkMul
import Derived.Deep.RegionWith
import Derived.Deep.RegionHeld3
import Derived.Deep.DeepCutAuto
namespace Go.Proofs.YtioebjbjpjbodaaDoor
open Go.RowKit
set_option linter.unusedVariables false

/-- what a law carries: these blocks hold these numbers, and nothing that was there has changed -/
def Env (w : World) (l : List (Nat × Nat)) (w' : World) : Prop := Below w.heap.size w w' ∧ ∀ p ∈ l, Nm w' p.1 p.2
theorem Env.refl (w : World) : Env w [] w := ⟨Below.refl _ _, by simp⟩
theorem Env.on {w w' w2 : World} {l : List (Nat × Nat)} (h : Env w l w') (hb : Below w'.heap.size w' w2) : Env w l w2 := ⟨bthen h.1 hb, fun p hp => (h.2 p hp).on hb⟩
theorem Env.drew {w w' : World} {l : List (Nat × Nat)} (h : Env w l w') : Env w l w'.drew := ⟨h.1.drew, fun p hp => h.2 p hp⟩
theorem Env.new {w w' : World} {l : List (Nat × Nat)} (h : Env w l w') (x : Nat) : Env w ((w'.heap.size, x) :: l) (w'.alloc (.cells (cls x) 24)) := by
  refine ⟨bal h.1 _, fun p hp => ?_⟩
  rcases List.mem_cons.1 hp with rfl | hp
  · exact Nm.new w' x
  · exact (h.2 p hp).alloc _
theorem Env.nm {w w' : World} {l : List (Nat × Nat)} (h : Env w l w') (g x : Nat) (hm : (g, x) ∈ l) : Nm w' g x := h.2 _ hm
theorem Env.cell {w w' : World} {l : List (Nat × Nat)} (h : Env w l w') (g x : Nat) (hm : (g, x) ∈ l) : w'.cell? ⟨g, 0, none⟩ = some (.int .u64 (wd x 0 : Int)) ∧ w'.cell? ⟨g, 1, none⟩ = some (.int .u64 (wd x 1 : Int)) ∧ w'.cell? ⟨g, 2, none⟩ = some (.int .u64 (wd x 2 : Int)) ∧ w'.cell? ⟨g, 3, none⟩ = some (.int .u64 (wd x 3 : Int)) := (h.2 _ hm).cell
theorem Env.lt {w w' : World} {l : List (Nat × Nat)} (h : Env w l w') (g x : Nat) (hm : (g, x) ∈ l) : g < w'.heap.size := (h.2 _ hm).lt

/-- the greatest long number -/
def top : Nat := 2 ^ 256 - 1
theorem Env.new2 {w w' : World} {l : List (Nat × Nat)} (h : Env w l w') (x y : Nat) : Env w ((w'.heap.size + 1, y) :: (w'.heap.size, x) :: l) ((w'.alloc (.cells (cls x) 24)).alloc (.cells (cls y) 24)) := by
  have := (h.new x).new y
  simpa using this

section
variable {w w' : World} {l : List (Nat × Nat)}
theorem lof_at (n : Nat) (z : Int) (h : Env w l w') (hn : n < 18446744073709551616) (hz : (n : Int) = z) : Calls Tryd.prog 8 #[.int .u64 z] w' fun e w2 => e = .returned (num n) ∧ Env w l w2 := by
  subst hz; exact (lof_any n w' hn).mono fun e w2 ⟨he, hb⟩ => ⟨he, h.on hb⟩
theorem add_at (x y s : Nat) (k : Int) (h : Env w l w') (hx : x < 2 ^ 256) (hy : y < 2 ^ 256) (hs : (x + y) % 2 ^ 256 = s) (hk : (((x + y) / 2 ^ 256 : Nat) : Int) = k) :
    Calls Tryd.prog 10 #[num x, num y] w' fun e w2 => e = .returned (.tuple #[num s, .int .u64 k]) ∧ Env w l w2 := by
  subst hs; subst hk; exact (ladd_any x y w' hx hy).mono fun e w2 ⟨he, hb⟩ => ⟨he, h.on hb⟩
theorem sub_at (x y s : Nat) (k : Int) (h : Env w l w') (hx : x < 2 ^ 256) (hy : y < 2 ^ 256) (hs : dif x y = s) (hk : ((lent x y : Nat) : Int) = k) :
    Calls Tryd.prog 31 #[num x, num y] w' fun e w2 => e = .returned (.tuple #[num s, .int .u64 k]) ∧ Env w l w2 := by
  subst hs; subst hk; exact (sub_any x y w' hx hy).mono fun e w2 ⟨he, hb⟩ => ⟨he, h.on hb⟩
theorem mul_at (x y lo hi : Nat) (h : Env w l w') (hx : x < 2 ^ 256) (hy : y < 2 ^ 256) (hl : x * y % 2 ^ 256 = lo) (hh : x * y / 2 ^ 256 = hi) :
    Calls Tryd.prog 42 #[num x, num y] w' fun e w2 => e = .returned (.tuple #[num lo, num hi]) ∧ Env w l w2 := by
  subst hl; subst hh; exact (mul_any x y w' hx hy).mono fun e w2 ⟨he, hb⟩ => ⟨he, h.on hb⟩
theorem shift_at (x y : Nat) (n : Int) (h : Env w l w') (hx : x < 2 ^ 256) (h0 : -9223372036854775808 ≤ n) (h1 : n ≤ 9223372036854775807) (hy : shf x n = y) :
    Calls Tryd.prog 69 #[num x, .int .i64 n] w' fun e w2 => e = .returned (num y) ∧ Env w l w2 := by
  subst hy; exact (shift_any x n w' hx h0 h1).mono fun e w2 ⟨he, hb⟩ => ⟨he, h.on hb⟩
theorem bit_at (x : Nat) (n b : Int) (h : Env w l w') (hx : x < 2 ^ 256) (h0 : -9223372036854775808 ≤ n) (h1 : n ≤ 9223372036854775807) (hb : (bi x n : Int) = b) :
    Calls Tryd.prog 47 #[num x, .int .i64 n] w' fun e w2 => e = .returned (.int .u64 b) ∧ Env w l w2 := by
  subst hb; exact (bit_any x n w' hx h0 h1).mono fun e w2 ⟨he, hb⟩ => ⟨he, h.on hb⟩
theorem bits_at (x : Nat) (b : Int) (h : Env w l w') (hx : x < 2 ^ 256) (hb : (nbits x : Int) = b) :
    Calls Tryd.prog 12 #[num x] w' fun e w2 => e = .returned (.int .i64 b) ∧ Env w l w2 := by
  subst hb; exact (bits_any x w' hx).mono fun e w2 ⟨he, hb⟩ => ⟨he, h.on hb⟩
theorem cmp_at (x y : Nat) (c : Int) (h : Env w l w') (hx : x < 2 ^ 256) (hy : y < 2 ^ 256) (hc : cmpN x y = c) :
    Calls Tryd.prog 23 #[num x, num y] w' fun e w2 => e = .returned (.int .i64 c) ∧ Env w l w2 := by
  subst hc; exact (cmp_any x y w' hx hy).mono fun e w2 ⟨he, hb⟩ => ⟨he, h.on hb⟩
end
end Go.Proofs.YtioebjbjpjbodaaDoor
namespace Go.Proofs.YtioebjbjpjbodaaDoor
open Go.RowKit
set_option linter.unusedVariables false

/-- x stored into box g -/
abbrev fil (w : World) (g x : Nat) : World := (((w.setCell ⟨g, 0, none⟩ (.int .u64 (wd x 0 : Int))).setCell ⟨g, 1, none⟩ (.int .u64 (wd x 1 : Int))).setCell ⟨g, 2, none⟩ (.int .u64 (wd x 2 : Int))).setCell ⟨g, 3, none⟩ (.int .u64 (wd x 3 : Int))
theorem fil_nm {w : World} {g : Nat} {a b c d : Value} (x : Nat) (h : Fr w g a b c d) : Nm (fil w g x) g x := (((h.set0 _).set1 _).set2 _).set3 _
theorem fil_below {w0 w : World} {g B : Nat} (x : Nat) (hb : Below B w0 w) (hg : B ≤ g) : Below B w0 (fil w g x) := (((hb.setCell (p := ⟨g, 0, none⟩) hg _).setCell (p := ⟨g, 1, none⟩) hg _).setCell (p := ⟨g, 2, none⟩) hg _).setCell (p := ⟨g, 3, none⟩) hg _
theorem Nm.fr {w : World} {g x : Nat} (h : Nm w g x) : Fr w g (.int .u64 (wd x 0 : Int)) (.int .u64 (wd x 1 : Int)) (.int .u64 (wd x 2 : Int)) (.int .u64 (wd x 3 : Int)) := h
theorem fil_other {w : World} {g g' : Nat} (x y : Nat) (h : Nm w g y) (hne : g ≠ g') : Nm (fil w g' x) g y :=
  (((h.fr.setOther _ hne).setOther _ hne).setOther _ hne).setOther _ hne
theorem cls_zero : (#[.int .u64 0, .int .u64 0, .int .u64 0, .int .u64 0] : Array Value) = cls 0 := by have := num_zero; injection this

theorem Env.perm {w w' : World} {l l' : List (Nat × Nat)} (h : Env w l w') (hs : ∀ p ∈ l', p ∈ l) : Env w l' w' := ⟨h.1, fun p hp => h.2 p (hs p hp)⟩
theorem Env.frozen {w w' : World} {l : List (Nat × Nat)} (h : Env w l w') (g x : Nat) (hm : (g, x) ∈ l) (i : Nat) : w'.frozen? ⟨g, i, none⟩ = false := (h.nm g x hm).fr.frozen i
/-- a box is filled anew: the others are as they were -/
theorem Env.set {w w' : World} {l : List (Nat × Nat)} (h : Env w l w') (g x y : Nat) (l' : List (Nat × Nat)) (hm : (g, x) ∈ l) (hg : w.heap.size ≤ g) (hl : ∀ p ∈ l', p ∈ l ∧ p.1 ≠ g) : Env w ((g, y) :: l') (fil w' g y) := by
  refine ⟨fil_below y h.1 hg, fun p hp => ?_⟩
  rcases List.mem_cons.1 hp with rfl | hp
  · exact fil_nm y (h.nm g x hm).fr
  · exact fil_other y p.2 (h.2 p (hl p hp).1) (hl p hp).2
theorem Env.zero {w w' : World} {l : List (Nat × Nat)} (h : Env w l w') : Env w ((w'.heap.size, 0) :: l) (w'.alloc (.cells #[.int .u64 0, .int .u64 0, .int .u64 0, .int .u64 0] 24)) := by
  rw [cls_zero]; exact h.new 0
theorem env_of {w w' : World} {l : List (Nat × Nat)} {f : FuncId} {args : Array Value} {v : Value} (hc : Calls Tryd.prog f args w' fun e w2 => e = .returned v ∧ Below w'.heap.size w' w2) (h : Env w l w') : Calls Tryd.prog f args w' fun e w2 => e = .returned v ∧ Env w l w2 :=
  hc.mono fun e w2 ⟨he, hb⟩ => ⟨he, h.on hb⟩
theorem add_b (x y s : Nat) (k : Int) (w : World) (hx : x < 2 ^ 256) (hy : y < 2 ^ 256) (hs : (x + y) % 2 ^ 256 = s) (hk : (((x + y) / 2 ^ 256 : Nat) : Int) = k) : Calls Tryd.prog 10 #[num x, num y] w fun e w2 => e = .returned (.tuple #[num s, .int .u64 k]) ∧ Below w.heap.size w w2 := by
  subst hs; subst hk; exact ladd_any x y w hx hy
theorem sub_b (x y s : Nat) (k : Int) (w : World) (hx : x < 2 ^ 256) (hy : y < 2 ^ 256) (hs : dif x y = s) (hk : ((lent x y : Nat) : Int) = k) : Calls Tryd.prog 31 #[num x, num y] w fun e w2 => e = .returned (.tuple #[num s, .int .u64 k]) ∧ Below w.heap.size w w2 := by
  subst hs; subst hk; exact sub_any x y w hx hy
end Go.Proofs.YtioebjbjpjbodaaDoor
namespace Go.Proofs.YtioebjbjpjbodaaDoor
open Go.RowKit
set_option linter.unusedVariables false

theorem even_word {s b : Nat} (he : s % 2 = 0) (hb : b ≤ 1) : wd (s + b) 0 = wd s 0 + b ∧ wd (s + b) 1 = wd s 1 ∧ wd (s + b) 2 = wd s 2 ∧ wd (s + b) 3 = wd s 3 := by
  unfold wd
  have e1 : (18446744073709551616 : Nat) ^ 1 = 18446744073709551616 := by decide
  have e2 : (18446744073709551616 : Nat) ^ 2 = 340282366920938463463374607431768211456 := by decide
  have e3 : (18446744073709551616 : Nat) ^ 3 = 6277101735386680763835789423207666416102355444464034512896 := by decide
  rw [e1, e2, e3, Nat.pow_zero]
  refine ⟨?_, ?_, ?_, ?_⟩ <;> omega
theorem or_bit {s b : Nat} (he : s % 2 = 0) (hb : b ≤ 1) : bits .or .u64 (wd s 0 : Int) (b : Int) = (wd (s + b) 0 : Int) := by
  have hl := wd_lt s 0
  have hw : wd s 0 % 2 = 0 := by unfold wd; rw [Nat.pow_zero]; omega
  rw [(even_word he hb).1, u64_or_nat _ _ hl (by omega)]
  congr 1
  have h := Nat.shiftLeft_add_eq_or_of_lt (b := b) (i := 1) (by omega) (wd s 0 / 2)
  rw [Nat.shiftLeft_eq, Nat.pow_one] at h
  rw [show wd s 0 / 2 * 2 = wd s 0 by omega] at h
  omega
theorem take_num {r b m : Nat} (hm : m < 2 ^ 256) (hr : r < m) (hb : b ≤ 1) :
    (r + r) % 2 ^ 256 % 2 = 0 ∧ (r + r) % 2 ^ 256 + b < 2 ^ 256 ∧
    ((2 * r + b < m ∧ (2 * r + b) % m = (r + r) % 2 ^ 256 + b ∧ (2 * r + b) / m = 0 ∧ (((r + r) / 2 ^ 256 : Nat) : Int) < ((lent ((r + r) % 2 ^ 256 + b) m : Nat) : Int)) ∨
     (m ≤ 2 * r + b ∧ (2 * r + b) % m = dif ((r + r) % 2 ^ 256 + b) m ∧ (2 * r + b) / m = 1 ∧ ¬ ((((r + r) / 2 ^ 256 : Nat) : Int) < ((lent ((r + r) % 2 ^ 256 + b) m : Nat) : Int)))) := by
  rcases Nat.lt_or_ge (2 * r + b) m with h | h
  · have e1 : (2 * r + b) % m = 2 * r + b := Nat.mod_eq_of_lt h
    have e2 : (2 * r + b) / m = 0 := Nat.div_eq_of_lt h
    rw [e1, e2]
    unfold lent
    rw [p256] at *
    refine ⟨by omega, by omega, .inl ⟨h, by omega, rfl, ?_⟩⟩
    rw [if_pos (by omega)]
    omega
  · have e1 : (2 * r + b) % m = 2 * r + b - m := by rw [Nat.mod_eq_sub_mod h, Nat.mod_eq_of_lt (by omega)]
    have e2 : (2 * r + b) / m = 1 := by rw [Nat.div_eq_sub_div (by omega) h, Nat.div_eq_of_lt (by omega)]
    rw [e1, e2]
    unfold lent dif
    rw [p256] at *
    refine ⟨by omega, by omega, .inr ⟨h, ?_, rfl, ?_⟩⟩ <;> split <;> omega

set_option maxRecDepth 100000 in
set_option maxHeartbeats 1600000 in
theorem dtake_any (r b m : Nat) (w : World) (hm : m < 2 ^ 256) (hr : r < m) (hb : b ≤ 1) :
    Calls Tryd.prog 70 #[num r, .int .u64 (b : Int), num m] w fun e w' => e = .returned (.tuple #[num ((2 * r + b) % m), .int .u64 (((2 * r + b) / m : Nat) : Int)]) ∧ Below w.heap.size w w' := by
  obtain ⟨he, hs, hc⟩ := take_num hm hr hb
  obtain ⟨s, es⟩ : ∃ s, (r + r) % 2 ^ 256 = s := ⟨_, rfl⟩
  obtain ⟨k, ek⟩ : ∃ k : Int, (((r + r) / 2 ^ 256 : Nat) : Int) = k := ⟨_, rfl⟩
  rw [es] at he hs hc
  rw [ek] at hc
  obtain ⟨t, et⟩ : ∃ t, dif (s + b) m = t := ⟨_, rfl⟩
  obtain ⟨l, el⟩ : ∃ l : Int, ((lent (s + b) m : Nat) : Int) = l := ⟨_, rfl⟩
  rw [et, el] at hc
  have ho := or_bit he hb
  obtain ⟨w0, w1, w2, w3⟩ := even_word he hb
  have ES := hid es
  have EK := hid ek
  have ET := hid et
  have EL := hid el
  have HM := hid hm
  have HR := hid (Nat.lt_trans hr hm)
  have HS := hid hs
  have W1 := hid w1
  have W2 := hid w2
  have W3 := hid w3
  have HE := hid (((((Env.refl w).new r).new m).zero).perm (l' := [(w.heap.size + 1 + 1, 0), (w.heap.size + 1, m), (w.heap.size, r)]) (by simp))
  clear es ek et el hm hr hs w0 w1 w2 w3 he hb
  rcases hc with ⟨_, c1, c2, c3⟩ | ⟨_, c1, c2, c3⟩
  · rw [c1, c2]
    clear c1 c2
    go_enter Tryd.func70, Tryd.ntmps70
    go_wp2_with fail
    refine (env_of (add_b r r s k _ HR.out HR.out ES.out EK.out) HE.out).mono ?_
    rintro e u1 ⟨rfl, h⟩
    have H1 := hid h
    have G6 := hid (show w.heap.size ≤ w.heap.size + 1 + 1 by omega)
    clear h HE
    generalize w.heap.size + 1 + 1 = g6 at *
    generalize w.heap.size + 1 = g5 at *
    obtain ⟨m0, m1, m2, m3⟩ := H1.out.cell g5 m (by simp)
    have l5 := H1.out.lt g5 m (by simp)
    have l6 := H1.out.lt g6 0 (by simp)
    go_wp2_with fail
    rw [← W1.out, ← W2.out, ← W3.out]
    change Calls _ _ #[num (s + b), num m] (u1.alloc (.cells (cls (s + b)) 24)) _
    have H2 := hid (H1.out.new (s + b))
    have N6 := hid (Nat.ne_of_lt l6)
    clear H1 m0 m1 m2 m3 l5 l6
    refine (env_of (sub_b (s + b) m t l _ HS.out HM.out ET.out EL.out) H2.out).mono ?_
    rintro e u2 ⟨rfl, h⟩
    have H3 := hid h
    clear h H2
    generalize u1.heap.size = g8 at *
    obtain ⟨s0, s1, s2, s3⟩ := H3.out.cell g8 (s + b) (by simp)
    obtain ⟨z0, z1, z2, z3⟩ := H3.out.cell g6 0 (by simp)
    have f6 := H3.out.frozen g6 0 (by simp)
    have l8 := H3.out.lt g8 (s + b) (by simp)
    have l6 := H3.out.lt g6 0 (by simp)
    have n6 := N6.out
    have HZ := hid ((H3.out.set g6 0 (s + b) [] (by simp) G6.out (by simp)).new t)
    go_wp2
    clear s0 s1 s2 s3 z0 z1 z2 z3 f6 l8 l6 n6
    change bodyPost _ _ _ _ _ ((fil u2 g6 (s + b)).alloc (.cells (cls t) 24))
    generalize (fil u2 g6 (s + b)).alloc (.cells (cls t) 24) = wz at *
    obtain ⟨k0, k1, k2, k3⟩ := HZ.out.cell g6 (s + b) (by simp)
    exact bodyPost_ret (v := .tuple #[num (s + b), .int .u64 0]) (by simp [results, Tryd.results70, go_sem, k0, k1, k2, k3]) rfl ⟨rfl, HZ.out.1⟩
  · rw [c1, c2]
    clear c1 c2
    go_enter Tryd.func70, Tryd.ntmps70
    go_wp2_with fail
    refine (env_of (add_b r r s k _ HR.out HR.out ES.out EK.out) HE.out).mono ?_
    rintro e u1 ⟨rfl, h⟩
    have H1 := hid h
    have G6 := hid (show w.heap.size ≤ w.heap.size + 1 + 1 by omega)
    clear h HE
    generalize w.heap.size + 1 + 1 = g6 at *
    generalize w.heap.size + 1 = g5 at *
    obtain ⟨m0, m1, m2, m3⟩ := H1.out.cell g5 m (by simp)
    have l5 := H1.out.lt g5 m (by simp)
    have l6 := H1.out.lt g6 0 (by simp)
    go_wp2_with fail
    rw [← W1.out, ← W2.out, ← W3.out]
    change Calls _ _ #[num (s + b), num m] (u1.alloc (.cells (cls (s + b)) 24)) _
    have H2 := hid (H1.out.new (s + b))
    have N6 := hid (Nat.ne_of_lt l6)
    clear H1 m0 m1 m2 m3 l5 l6
    refine (env_of (sub_b (s + b) m t l _ HS.out HM.out ET.out EL.out) H2.out).mono ?_
    rintro e u2 ⟨rfl, h⟩
    have H3 := hid h
    clear h H2
    generalize u1.heap.size = g8 at *
    obtain ⟨s0, s1, s2, s3⟩ := H3.out.cell g8 (s + b) (by simp)
    obtain ⟨z0, z1, z2, z3⟩ := H3.out.cell g6 0 (by simp)
    have f6 := H3.out.frozen g6 0 (by simp)
    have l8 := H3.out.lt g8 (s + b) (by simp)
    have l6 := H3.out.lt g6 0 (by simp)
    have n6 := N6.out
    have HZ := hid ((H3.out.set g6 0 t [] (by simp) G6.out (by simp)).new t)
    go_wp2
    clear s0 s1 s2 s3 z0 z1 z2 z3 f6 l8 l6 n6
    change bodyPost _ _ _ _ _ ((fil u2 g6 t).alloc (.cells (cls t) 24))
    generalize (fil u2 g6 t).alloc (.cells (cls t) 24) = wz at *
    obtain ⟨k0, k1, k2, k3⟩ := HZ.out.cell g6 t (by simp)
    exact bodyPost_ret (v := .tuple #[num t, .int .u64 1]) (by simp [results, Tryd.results70, go_sem, k0, k1, k2, k3]) rfl ⟨rfl, HZ.out.1⟩
end Go.Proofs.YtioebjbjpjbodaaDoor
namespace Go.Proofs.YtioebjbjpjbodaaDoor
open Go.RowKit
set_option linter.unusedVariables false

theorem Env.hd {w w' : World} {l : List (Nat × Nat)} {g x : Nat} (h : Env w ((g, x) :: l) w') : (w'.cell? ⟨g, 0, none⟩ = some (.int .u64 (wd x 0 : Int)) ∧ w'.cell? ⟨g, 1, none⟩ = some (.int .u64 (wd x 1 : Int)) ∧ w'.cell? ⟨g, 2, none⟩ = some (.int .u64 (wd x 2 : Int)) ∧ w'.cell? ⟨g, 3, none⟩ = some (.int .u64 (wd x 3 : Int))) ∧ (∀ i, w'.frozen? ⟨g, i, none⟩ = false) ∧ g < w'.heap.size ∧ g ≠ w'.heap.size :=
  ⟨h.cell g x (by simp), h.frozen g x (by simp), h.lt g x (by simp), Nat.ne_of_lt (h.lt g x (by simp))⟩
/-- a block that none of these is, made since -/
def Fsh (w : World) (l : List (Nat × Nat)) (g : Nat) : Prop := w.heap.size ≤ g ∧ ∀ p ∈ l, p.1 ≠ g
theorem Env.fresh {w w' : World} {l : List (Nat × Nat)} (h : Env w l w') : Fsh w l w'.heap.size := ⟨h.1.size, fun p hp => Nat.ne_of_lt (h.2 p hp).lt⟩
theorem Fsh.ne {w : World} {l : List (Nat × Nat)} {g g' x : Nat} (h : Fsh w ((g, x) :: l) g') : g ≠ g' ∧ (g = g') = False ∧ (g' = g) = False := by
  have := h.2 (g, x) (by simp)
  exact ⟨this, eq_false this, eq_false (Ne.symm this)⟩
end Go.Proofs.YtioebjbjpjbodaaDoor

/-
  What the calls of limbs answer, with the answers named; the boxes that a law carries. Conditions: none.
  Boxes that hold long numbers, and what is stored into them. Conditions: none.
  divides.take, walked. Conditions: what is left is below m, and the bit is 0 or 1.
  divides.bring, walked. Conditions: what is left is below m; 256 bits at the most.
  divides.Div, walked: how often, and what is left. Conditions: none.
  divides.Wide, walked: what is left of twice as many words. Conditions: none.
  burrowref02.Of, Bit and Bits, walked. Conditions: none.
  Boxes that a region makes while it draws its order: those that stand first among what a law carries. Conditions: none.
  burrowref02.Cmp, walked. Conditions: none.
  What a loop over two boxes carries. Conditions: none.
  burrowref02.Add and Sub, walked. Conditions: none.
  burrowref02.Mul, walked. Conditions: none.
-/
import Derived.Test.YtcijnoapjicliaaDoorPkM
import Derived.Test.YtcijnoapjicliaaDoorLen
import Derived.Test.YtcijnoapjicliaaDoorPkN
import Derived.Deep.RegionWith
import Derived.Deep.RegionHeld3
import Derived.Deep.DeepCutAuto
import Derived.Test.YtcijnoapjicliaaDoorPkA
import Derived.BigQuiet
import Derived.Deep.QuietTactic
namespace Go.Proofs.YtcijnoapjicliaaDoor
open Go.RowKit
set_option linter.unusedVariables false

/-- what a law carries: these blocks hold these numbers, and nothing that was there has changed -/
def Env (w : World) (l : List (Nat × Nat)) (w' : World) : Prop := Below w.heap.size w w' ∧ ∀ p ∈ l, Nm w' p.1 p.2
theorem Env.refl (w : World) : Env w [] w := ⟨Below.refl _ _, by simp⟩
theorem Env.on {w w' w2 : World} {l : List (Nat × Nat)} (h : Env w l w') (hb : Below w'.heap.size w' w2) : Env w l w2 := ⟨bthen h.1 hb, fun p hp => (h.2 p hp).on hb⟩
theorem Env.drew {w w' : World} {l : List (Nat × Nat)} (h : Env w l w') : Env w l w'.drew := ⟨h.1.drew, fun p hp => h.2 p hp⟩
theorem Env.new {w w' : World} {l : List (Nat × Nat)} (h : Env w l w') (x : Nat) : Env w ((w'.heap.size, x) :: l) (w'.alloc (.cells (cls x) 26)) := by
  refine ⟨bal h.1 _, fun p hp => ?_⟩
  rcases List.mem_cons.1 hp with rfl | hp
  · exact Nm.new w' x
  · exact (h.2 p hp).alloc _
theorem Env.nm {w w' : World} {l : List (Nat × Nat)} (h : Env w l w') (g x : Nat) (hm : (g, x) ∈ l) : Nm w' g x := h.2 _ hm
theorem Env.cell {w w' : World} {l : List (Nat × Nat)} (h : Env w l w') (g x : Nat) (hm : (g, x) ∈ l) : w'.cell? ⟨g, 0, none⟩ = some (.int .u64 (wd x 0 : Int)) ∧ w'.cell? ⟨g, 1, none⟩ = some (.int .u64 (wd x 1 : Int)) ∧ w'.cell? ⟨g, 2, none⟩ = some (.int .u64 (wd x 2 : Int)) ∧ w'.cell? ⟨g, 3, none⟩ = some (.int .u64 (wd x 3 : Int)) := (h.2 _ hm).cell
theorem Env.lt {w w' : World} {l : List (Nat × Nat)} (h : Env w l w') (g x : Nat) (hm : (g, x) ∈ l) : g < w'.heap.size := (h.2 _ hm).lt

/-- the greatest long number -/
def top : Nat := 2 ^ 256 - 1
theorem top_lt : top < 2 ^ 256 := by decide
theorem Env.new2 {w w' : World} {l : List (Nat × Nat)} (h : Env w l w') (x y : Nat) : Env w ((w'.heap.size + 1, y) :: (w'.heap.size, x) :: l) ((w'.alloc (.cells (cls x) 26)).alloc (.cells (cls y) 26)) := by
  have := (h.new x).new y
  simpa using this

section
variable {w w' : World} {l : List (Nat × Nat)}
theorem lof_at (n : Nat) (z : Int) (h : Env w l w') (hn : n < 18446744073709551616) (hz : (n : Int) = z) : Calls Tryd.prog 18 #[.int .u64 z] w' fun e w2 => e = .returned (num n) ∧ Env w l w2 := by
  subst hz; exact (lof_any n w' hn).mono fun e w2 ⟨he, hb⟩ => ⟨he, h.on hb⟩
theorem add_at (x y s : Nat) (k : Int) (h : Env w l w') (hx : x < 2 ^ 256) (hy : y < 2 ^ 256) (hs : (x + y) % 2 ^ 256 = s) (hk : (((x + y) / 2 ^ 256 : Nat) : Int) = k) :
    Calls Tryd.prog 35 #[num x, num y] w' fun e w2 => e = .returned (.tuple #[num s, .int .u64 k]) ∧ Env w l w2 := by
  subst hs; subst hk; exact (ladd_any x y w' hx hy).mono fun e w2 ⟨he, hb⟩ => ⟨he, h.on hb⟩
theorem sub_at (x y s : Nat) (k : Int) (h : Env w l w') (hx : x < 2 ^ 256) (hy : y < 2 ^ 256) (hs : dif x y = s) (hk : ((lent x y : Nat) : Int) = k) :
    Calls Tryd.prog 33 #[num x, num y] w' fun e w2 => e = .returned (.tuple #[num s, .int .u64 k]) ∧ Env w l w2 := by
  subst hs; subst hk; exact (sub_any x y w' hx hy).mono fun e w2 ⟨he, hb⟩ => ⟨he, h.on hb⟩
theorem shift_at (x y : Nat) (n : Int) (h : Env w l w') (hx : x < 2 ^ 256) (h0 : -9223372036854775808 ≤ n) (h1 : n ≤ 9223372036854775807) (hy : shf x n = y) :
    Calls Tryd.prog 86 #[num x, .int .i64 n] w' fun e w2 => e = .returned (num y) ∧ Env w l w2 := by
  subst hy; exact (shift_any x n w' hx h0 h1).mono fun e w2 ⟨he, hb⟩ => ⟨he, h.on hb⟩
theorem bit_at (x : Nat) (n b : Int) (h : Env w l w') (hx : x < 2 ^ 256) (h0 : -9223372036854775808 ≤ n) (h1 : n ≤ 9223372036854775807) (hb : (bi x n : Int) = b) :
    Calls Tryd.prog 88 #[num x, .int .i64 n] w' fun e w2 => e = .returned (.int .u64 b) ∧ Env w l w2 := by
  subst hb; exact (bit_any x n w' hx h0 h1).mono fun e w2 ⟨he, hb⟩ => ⟨he, h.on hb⟩
theorem bits_at (x : Nat) (b : Int) (h : Env w l w') (hx : x < 2 ^ 256) (hb : (nbits x : Int) = b) :
    Calls Tryd.prog 85 #[num x] w' fun e w2 => e = .returned (.int .i64 b) ∧ Env w l w2 := by
  subst hb; exact (bits_any x w' hx).mono fun e w2 ⟨he, hb⟩ => ⟨he, h.on hb⟩
theorem cmp_at (x y : Nat) (c : Int) (h : Env w l w') (hx : x < 2 ^ 256) (hy : y < 2 ^ 256) (hc : cmpN x y = c) :
    Calls Tryd.prog 17 #[num x, num y] w' fun e w2 => e = .returned (.int .i64 c) ∧ Env w l w2 := by
  subst hc; exact (cmp_any x y w' hx hy).mono fun e w2 ⟨he, hb⟩ => ⟨he, h.on hb⟩
end
end Go.Proofs.YtcijnoapjicliaaDoor
namespace Go.Proofs.YtcijnoapjicliaaDoor
open Go.RowKit
set_option linter.unusedVariables false

/-- x stored into box g -/
abbrev fil (w : World) (g x : Nat) : World := (((w.setCell ⟨g, 0, none⟩ (.int .u64 (wd x 0 : Int))).setCell ⟨g, 1, none⟩ (.int .u64 (wd x 1 : Int))).setCell ⟨g, 2, none⟩ (.int .u64 (wd x 2 : Int))).setCell ⟨g, 3, none⟩ (.int .u64 (wd x 3 : Int))
theorem fil_nm {w : World} {g : Nat} {a b c d : Value} (x : Nat) (h : Fr w g a b c d) : Nm (fil w g x) g x := (((h.set0 _).set1 _).set2 _).set3 _
theorem fil_below {w0 w : World} {g B : Nat} (x : Nat) (hb : Below B w0 w) (hg : B ≤ g) : Below B w0 (fil w g x) := (((hb.setCell (p := ⟨g, 0, none⟩) hg _).setCell (p := ⟨g, 1, none⟩) hg _).setCell (p := ⟨g, 2, none⟩) hg _).setCell (p := ⟨g, 3, none⟩) hg _
theorem Nm.fr {w : World} {g x : Nat} (h : Nm w g x) : Fr w g (.int .u64 (wd x 0 : Int)) (.int .u64 (wd x 1 : Int)) (.int .u64 (wd x 2 : Int)) (.int .u64 (wd x 3 : Int)) := h
theorem fil_other {w : World} {g g' : Nat} (x y : Nat) (h : Nm w g y) (hne : g ≠ g') : Nm (fil w g' x) g y :=
  (((h.fr.setOther _ hne).setOther _ hne).setOther _ hne).setOther _ hne
theorem cls_zero : (#[.int .u64 0, .int .u64 0, .int .u64 0, .int .u64 0] : Array Value) = cls 0 := by have := num_zero; injection this

theorem Env.perm {w w' : World} {l l' : List (Nat × Nat)} (h : Env w l w') (hs : ∀ p ∈ l', p ∈ l) : Env w l' w' := ⟨h.1, fun p hp => h.2 p (hs p hp)⟩
theorem Env.frozen {w w' : World} {l : List (Nat × Nat)} (h : Env w l w') (g x : Nat) (hm : (g, x) ∈ l) (i : Nat) : w'.frozen? ⟨g, i, none⟩ = false := (h.nm g x hm).fr.frozen i
/-- a box is filled anew: the others are as they were -/
theorem Env.set {w w' : World} {l : List (Nat × Nat)} (h : Env w l w') (g x y : Nat) (l' : List (Nat × Nat)) (hm : (g, x) ∈ l) (hg : w.heap.size ≤ g) (hl : ∀ p ∈ l', p ∈ l ∧ p.1 ≠ g) : Env w ((g, y) :: l') (fil w' g y) := by
  refine ⟨fil_below y h.1 hg, fun p hp => ?_⟩
  rcases List.mem_cons.1 hp with rfl | hp
  · exact fil_nm y (h.nm g x hm).fr
  · exact fil_other y p.2 (h.2 p (hl p hp).1) (hl p hp).2
theorem Env.zero {w w' : World} {l : List (Nat × Nat)} (h : Env w l w') : Env w ((w'.heap.size, 0) :: l) (w'.alloc (.cells #[.int .u64 0, .int .u64 0, .int .u64 0, .int .u64 0] 26)) := by
  rw [cls_zero]; exact h.new 0
theorem env_of {w w' : World} {l : List (Nat × Nat)} {f : FuncId} {args : Array Value} {v : Value} (hc : Calls Tryd.prog f args w' fun e w2 => e = .returned v ∧ Below w'.heap.size w' w2) (h : Env w l w') : Calls Tryd.prog f args w' fun e w2 => e = .returned v ∧ Env w l w2 :=
  hc.mono fun e w2 ⟨he, hb⟩ => ⟨he, h.on hb⟩
theorem add_b (x y s : Nat) (k : Int) (w : World) (hx : x < 2 ^ 256) (hy : y < 2 ^ 256) (hs : (x + y) % 2 ^ 256 = s) (hk : (((x + y) / 2 ^ 256 : Nat) : Int) = k) : Calls Tryd.prog 35 #[num x, num y] w fun e w2 => e = .returned (.tuple #[num s, .int .u64 k]) ∧ Below w.heap.size w w2 := by
  subst hs; subst hk; exact ladd_any x y w hx hy
theorem sub_b (x y s : Nat) (k : Int) (w : World) (hx : x < 2 ^ 256) (hy : y < 2 ^ 256) (hs : dif x y = s) (hk : ((lent x y : Nat) : Int) = k) : Calls Tryd.prog 33 #[num x, num y] w fun e w2 => e = .returned (.tuple #[num s, .int .u64 k]) ∧ Below w.heap.size w w2 := by
  subst hs; subst hk; exact sub_any x y w hx hy
end Go.Proofs.YtcijnoapjicliaaDoor
namespace Go.Proofs.YtcijnoapjicliaaDoor
open Go.RowKit
set_option linter.unusedVariables false

theorem even_word {s b : Nat} (he : s % 2 = 0) (hb : b ≤ 1) : wd (s + b) 0 = wd s 0 + b ∧ wd (s + b) 1 = wd s 1 ∧ wd (s + b) 2 = wd s 2 ∧ wd (s + b) 3 = wd s 3 := by
  unfold wd
  have e1 : (18446744073709551616 : Nat) ^ 1 = 18446744073709551616 := by decide
  have e2 : (18446744073709551616 : Nat) ^ 2 = 340282366920938463463374607431768211456 := by decide
  have e3 : (18446744073709551616 : Nat) ^ 3 = 6277101735386680763835789423207666416102355444464034512896 := by decide
  rw [e1, e2, e3, Nat.pow_zero]
  refine ⟨?_, ?_, ?_, ?_⟩ <;> omega
theorem or_bit {s b : Nat} (he : s % 2 = 0) (hb : b ≤ 1) : bits .or .u64 (wd s 0 : Int) (b : Int) = (wd (s + b) 0 : Int) := by
  have hl := wd_lt s 0
  have hw : wd s 0 % 2 = 0 := by unfold wd; rw [Nat.pow_zero]; omega
  rw [(even_word he hb).1, u64_or_nat _ _ hl (by omega)]
  congr 1
  have h := Nat.shiftLeft_add_eq_or_of_lt (b := b) (i := 1) (by omega) (wd s 0 / 2)
  rw [Nat.shiftLeft_eq, Nat.pow_one] at h
  rw [show wd s 0 / 2 * 2 = wd s 0 by omega] at h
  omega
theorem take_num {r b m : Nat} (hm : m < 2 ^ 256) (hr : r < m) (hb : b ≤ 1) :
    (r + r) % 2 ^ 256 % 2 = 0 ∧ (r + r) % 2 ^ 256 + b < 2 ^ 256 ∧
    ((2 * r + b < m ∧ (2 * r + b) % m = (r + r) % 2 ^ 256 + b ∧ (2 * r + b) / m = 0 ∧ (((r + r) / 2 ^ 256 : Nat) : Int) < ((lent ((r + r) % 2 ^ 256 + b) m : Nat) : Int)) ∨
     (m ≤ 2 * r + b ∧ (2 * r + b) % m = dif ((r + r) % 2 ^ 256 + b) m ∧ (2 * r + b) / m = 1 ∧ ¬ ((((r + r) / 2 ^ 256 : Nat) : Int) < ((lent ((r + r) % 2 ^ 256 + b) m : Nat) : Int)))) := by
  rcases Nat.lt_or_ge (2 * r + b) m with h | h
  · have e1 : (2 * r + b) % m = 2 * r + b := Nat.mod_eq_of_lt h
    have e2 : (2 * r + b) / m = 0 := Nat.div_eq_of_lt h
    rw [e1, e2]
    unfold lent
    rw [p256] at *
    refine ⟨by omega, by omega, .inl ⟨h, by omega, rfl, ?_⟩⟩
    rw [if_pos (by omega)]
    omega
  · have e1 : (2 * r + b) % m = 2 * r + b - m := by rw [Nat.mod_eq_sub_mod h, Nat.mod_eq_of_lt (by omega)]
    have e2 : (2 * r + b) / m = 1 := by rw [Nat.div_eq_sub_div (by omega) h, Nat.div_eq_of_lt (by omega)]
    rw [e1, e2]
    unfold lent dif
    rw [p256] at *
    refine ⟨by omega, by omega, .inr ⟨h, ?_, rfl, ?_⟩⟩ <;> split <;> omega

set_option maxRecDepth 100000 in
set_option maxHeartbeats 1600000 in
theorem dtake_any (r b m : Nat) (w : World) (hm : m < 2 ^ 256) (hr : r < m) (hb : b ≤ 1) :
    Calls Tryd.prog 87 #[num r, .int .u64 (b : Int), num m] w fun e w' => e = .returned (.tuple #[num ((2 * r + b) % m), .int .u64 (((2 * r + b) / m : Nat) : Int)]) ∧ Below w.heap.size w w' := by
  obtain ⟨he, hs, hc⟩ := take_num hm hr hb
  obtain ⟨s, es⟩ : ∃ s, (r + r) % 2 ^ 256 = s := ⟨_, rfl⟩
  obtain ⟨k, ek⟩ : ∃ k : Int, (((r + r) / 2 ^ 256 : Nat) : Int) = k := ⟨_, rfl⟩
  rw [es] at he hs hc
  rw [ek] at hc
  obtain ⟨t, et⟩ : ∃ t, dif (s + b) m = t := ⟨_, rfl⟩
  obtain ⟨l, el⟩ : ∃ l : Int, ((lent (s + b) m : Nat) : Int) = l := ⟨_, rfl⟩
  rw [et, el] at hc
  have ho := or_bit he hb
  obtain ⟨w0, w1, w2, w3⟩ := even_word he hb
  have ES := hid es
  have EK := hid ek
  have ET := hid et
  have EL := hid el
  have HM := hid hm
  have HR := hid (Nat.lt_trans hr hm)
  have HS := hid hs
  have W1 := hid w1
  have W2 := hid w2
  have W3 := hid w3
  have HE := hid (((((Env.refl w).new r).new m).zero).perm (l' := [(w.heap.size + 1 + 1, 0), (w.heap.size + 1, m), (w.heap.size, r)]) (by simp))
  clear es ek et el hm hr hs w0 w1 w2 w3 he hb
  rcases hc with ⟨_, c1, c2, c3⟩ | ⟨_, c1, c2, c3⟩
  · rw [c1, c2]
    clear c1 c2
    go_enter Tryd.func87, Tryd.ntmps87
    go_wp2_with fail
    refine (env_of (add_b r r s k _ HR.out HR.out ES.out EK.out) HE.out).mono ?_
    rintro e u1 ⟨rfl, h⟩
    have H1 := hid h
    have G6 := hid (show w.heap.size ≤ w.heap.size + 1 + 1 by omega)
    clear h HE
    generalize w.heap.size + 1 + 1 = g6 at *
    generalize w.heap.size + 1 = g5 at *
    obtain ⟨m0, m1, m2, m3⟩ := H1.out.cell g5 m (by simp)
    have l5 := H1.out.lt g5 m (by simp)
    have l6 := H1.out.lt g6 0 (by simp)
    go_wp2_with fail
    rw [← W1.out, ← W2.out, ← W3.out]
    change Calls _ _ #[num (s + b), num m] (u1.alloc (.cells (cls (s + b)) 26)) _
    have H2 := hid (H1.out.new (s + b))
    have N6 := hid (Nat.ne_of_lt l6)
    clear H1 m0 m1 m2 m3 l5 l6
    refine (env_of (sub_b (s + b) m t l _ HS.out HM.out ET.out EL.out) H2.out).mono ?_
    rintro e u2 ⟨rfl, h⟩
    have H3 := hid h
    clear h H2
    generalize u1.heap.size = g8 at *
    obtain ⟨s0, s1, s2, s3⟩ := H3.out.cell g8 (s + b) (by simp)
    obtain ⟨z0, z1, z2, z3⟩ := H3.out.cell g6 0 (by simp)
    have f6 := H3.out.frozen g6 0 (by simp)
    have l8 := H3.out.lt g8 (s + b) (by simp)
    have l6 := H3.out.lt g6 0 (by simp)
    have n6 := N6.out
    have HZ := hid ((H3.out.set g6 0 (s + b) [] (by simp) G6.out (by simp)).new t)
    go_wp2
    clear s0 s1 s2 s3 z0 z1 z2 z3 f6 l8 l6 n6
    change bodyPost _ _ _ _ _ ((fil u2 g6 (s + b)).alloc (.cells (cls t) 26))
    generalize (fil u2 g6 (s + b)).alloc (.cells (cls t) 26) = wz at *
    obtain ⟨k0, k1, k2, k3⟩ := HZ.out.cell g6 (s + b) (by simp)
    exact bodyPost_ret (v := .tuple #[num (s + b), .int .u64 0]) (by simp [results, Tryd.results87, go_sem, k0, k1, k2, k3]) rfl ⟨rfl, HZ.out.1⟩
  · rw [c1, c2]
    clear c1 c2
    go_enter Tryd.func87, Tryd.ntmps87
    go_wp2_with fail
    refine (env_of (add_b r r s k _ HR.out HR.out ES.out EK.out) HE.out).mono ?_
    rintro e u1 ⟨rfl, h⟩
    have H1 := hid h
    have G6 := hid (show w.heap.size ≤ w.heap.size + 1 + 1 by omega)
    clear h HE
    generalize w.heap.size + 1 + 1 = g6 at *
    generalize w.heap.size + 1 = g5 at *
    obtain ⟨m0, m1, m2, m3⟩ := H1.out.cell g5 m (by simp)
    have l5 := H1.out.lt g5 m (by simp)
    have l6 := H1.out.lt g6 0 (by simp)
    go_wp2_with fail
    rw [← W1.out, ← W2.out, ← W3.out]
    change Calls _ _ #[num (s + b), num m] (u1.alloc (.cells (cls (s + b)) 26)) _
    have H2 := hid (H1.out.new (s + b))
    have N6 := hid (Nat.ne_of_lt l6)
    clear H1 m0 m1 m2 m3 l5 l6
    refine (env_of (sub_b (s + b) m t l _ HS.out HM.out ET.out EL.out) H2.out).mono ?_
    rintro e u2 ⟨rfl, h⟩
    have H3 := hid h
    clear h H2
    generalize u1.heap.size = g8 at *
    obtain ⟨s0, s1, s2, s3⟩ := H3.out.cell g8 (s + b) (by simp)
    obtain ⟨z0, z1, z2, z3⟩ := H3.out.cell g6 0 (by simp)
    have f6 := H3.out.frozen g6 0 (by simp)
    have l8 := H3.out.lt g8 (s + b) (by simp)
    have l6 := H3.out.lt g6 0 (by simp)
    have n6 := N6.out
    have HZ := hid ((H3.out.set g6 0 t [] (by simp) G6.out (by simp)).new t)
    go_wp2
    clear s0 s1 s2 s3 z0 z1 z2 z3 f6 l8 l6 n6
    change bodyPost _ _ _ _ _ ((fil u2 g6 t).alloc (.cells (cls t) 26))
    generalize (fil u2 g6 t).alloc (.cells (cls t) 26) = wz at *
    obtain ⟨k0, k1, k2, k3⟩ := HZ.out.cell g6 t (by simp)
    exact bodyPost_ret (v := .tuple #[num t, .int .u64 1]) (by simp [results, Tryd.results87, go_sem, k0, k1, k2, k3]) rfl ⟨rfl, HZ.out.1⟩
end Go.Proofs.YtcijnoapjicliaaDoor
namespace Go.Proofs.YtcijnoapjicliaaDoor
open Go.RowKit
set_option linter.unusedVariables false

/-- a word of a box is filled anew -/
theorem Env.word {w w' : World} {l : List (Nat × Nat)} (h : Env w l w') (g x y j : Nat) (l' : List (Nat × Nat)) (hm : (g, x) ∈ l) (hg : w.heap.size ≤ g) (hl : ∀ p ∈ l', p ∈ l ∧ p.1 ≠ g) (hj : j < 4) (ho : ∀ i, i ≠ j → wd y i = wd x i) : Env w ((g, y) :: l') (w'.setCell ⟨g, j, none⟩ (.int .u64 (wd y j : Int))) := by
  refine ⟨h.1.setCell (p := ⟨g, j, none⟩) hg _, fun p hp => ?_⟩
  rcases List.mem_cons.1 hp with rfl | hp
  · have hf := (h.nm g x hm).fr
    have : j = 0 ∨ j = 1 ∨ j = 2 ∨ j = 3 := by omega
    rcases this with rfl | rfl | rfl | rfl
    · have := hf.set0 (.int .u64 (wd y 0 : Int)); rw [← ho 1 (by decide), ← ho 2 (by decide), ← ho 3 (by decide)] at this; exact this
    · have := hf.set1 (.int .u64 (wd y 1 : Int)); rw [← ho 0 (by decide), ← ho 2 (by decide), ← ho 3 (by decide)] at this; exact this
    · have := hf.set2 (.int .u64 (wd y 2 : Int)); rw [← ho 0 (by decide), ← ho 1 (by decide), ← ho 3 (by decide)] at this; exact this
    · have := hf.set3 (.int .u64 (wd y 3 : Int)); rw [← ho 0 (by decide), ← ho 1 (by decide), ← ho 2 (by decide)] at this; exact this
  · exact (Below.heap_setCell w' ⟨g, j, none⟩ _ p.1 (hl p hp).2).trans (h.2 p (hl p hp).1)

/-- a bit that is set where there is none below: just one word changes -/
theorem word_set {Q e p b : Nat} (hp : p < 64) (hb : b ≤ 1) :
    (∀ i, i ≠ e → wd (Q * 2 ^ (64 * e + p + 1) + b * 2 ^ (64 * e + p)) i = wd (Q * 2 ^ (64 * e + p + 1)) i)
    ∧ wd (Q * 2 ^ (64 * e + p + 1) + b * 2 ^ (64 * e + p)) e = wd (Q * 2 ^ (64 * e + p + 1)) e + b * 2 ^ p
    ∧ wd (Q * 2 ^ (64 * e + p + 1)) e % 2 ^ (p + 1) = 0 := by
  have hW : (18446744073709551616 : Nat) = 2 ^ 64 := by decide
  have hlt : b * 2 ^ (64 * e + p) < 2 ^ (64 * e + p + 1) := by
    have := Nat.two_pow_pos (64 * e + p)
    rw [Nat.pow_succ]
    rcases (show b = 0 ∨ b = 1 by omega) with rfl | rfl <;> omega
  have hsplit : ∀ i, 18446744073709551616 ^ i = 2 ^ (64 * i) := fun i => by rw [hW, ← Nat.pow_mul]
  have hlow : Q * 2 ^ (64 * e + p + 1) / 2 ^ (64 * e) = Q * 2 ^ (p + 1) := by
    rw [show 64 * e + p + 1 = (p + 1) + 64 * e by omega, Nat.pow_add, ← Nat.mul_assoc, Nat.mul_div_cancel _ (Nat.two_pow_pos _)]
  have hlow2 : (Q * 2 ^ (64 * e + p + 1) + b * 2 ^ (64 * e + p)) / 2 ^ (64 * e) = Q * 2 ^ (p + 1) + b * 2 ^ p := by
    rw [show 64 * e + p + 1 = (p + 1) + 64 * e by omega, show 64 * e + p = p + 64 * e by omega, Nat.pow_add 2 (p + 1) (64 * e), Nat.pow_add 2 p (64 * e), ← Nat.mul_assoc, ← Nat.mul_assoc, ← Nat.add_mul, Nat.mul_div_cancel _ (Nat.two_pow_pos _)]
  have hm : Q * 2 ^ (p + 1) % 2 ^ 64 = Q % 2 ^ (64 - (p + 1)) * 2 ^ (p + 1) := by
    have : (2 : Nat) ^ 64 = 2 ^ (64 - (p + 1)) * 2 ^ (p + 1) := by rw [← Nat.pow_add]; congr 1; omega
    rw [this, Nat.mul_mod_mul_right]
  refine ⟨fun i hi => ?_, ?_, ?_⟩
  · unfold wd
    rw [hsplit]
    rcases Nat.lt_or_ge i e with h | h
    · have d : ∀ X, X * 2 ^ (64 * e + p) / 2 ^ (64 * i) % 18446744073709551616 = 0 := fun X => by
        rw [hW, show 64 * e + p = (64 * e + p - 64 * i - 64) + 64 + 64 * i by omega, Nat.pow_add, Nat.pow_add, ← Nat.mul_assoc, Nat.mul_div_cancel _ (Nat.two_pow_pos _), ← Nat.mul_assoc, Nat.mul_mod_left]
      have e1 : Q * 2 ^ (64 * e + p + 1) + b * 2 ^ (64 * e + p) = (2 * Q + b) * 2 ^ (64 * e + p) := by rw [Nat.pow_succ, Nat.add_mul, Nat.mul_comm 2 Q, Nat.mul_assoc, Nat.mul_comm 2]
      have e2 : Q * 2 ^ (64 * e + p + 1) = (2 * Q) * 2 ^ (64 * e + p) := by rw [Nat.pow_succ, Nat.mul_comm 2 Q, Nat.mul_assoc, Nat.mul_comm 2]
      rw [e1, e2, d, d]
    · have e1 : ∀ X, X / 2 ^ (64 * i) = X / 2 ^ (64 * e + p + 1) / 2 ^ (64 * i - (64 * e + p + 1)) := fun X => by
        rw [Nat.div_div_eq_div_mul, ← Nat.pow_add, show 64 * e + p + 1 + (64 * i - (64 * e + p + 1)) = 64 * i by omega]
      rw [e1, e1 (Q * 2 ^ (64 * e + p + 1)), Nat.mul_comm Q, Nat.mul_add_div (Nat.two_pow_pos _), Nat.div_eq_of_lt hlt, Nat.add_zero, Nat.mul_div_cancel_left _ (Nat.two_pow_pos _)]
  · unfold wd
    rw [hsplit, hlow2, hlow, hW]
    have hb2 : b * 2 ^ p < 2 ^ (p + 1) := by
      have := Nat.two_pow_pos p
      rw [Nat.pow_succ]
      rcases (show b = 0 ∨ b = 1 by omega) with rfl | rfl <;> omega
    rw [Nat.add_mod, hm, Nat.mod_eq_of_lt (Nat.lt_of_lt_of_le hb2 (Nat.pow_le_pow_right (by omega) (by omega)))]
    refine Nat.mod_eq_of_lt ?_
    have h1 : Q % 2 ^ (64 - (p + 1)) + 1 ≤ 2 ^ (64 - (p + 1)) := Nat.mod_lt _ (Nat.two_pow_pos _)
    have h2 := Nat.mul_le_mul_right (2 ^ (p + 1)) h1
    rw [← Nat.pow_add, show 64 - (p + 1) + (p + 1) = 64 by omega, Nat.add_mul] at h2
    omega
  · unfold wd
    rw [hsplit, hlow, hW, hm, Nat.mul_mod_left]

theorem bring_start {r a c m : Nat} (hr : r < m) : (r * 2 ^ c + a % 2 ^ c) / 2 ^ c / m = 0 ∧ (r * 2 ^ c + a % 2 ^ c) / 2 ^ c % m = r := by
  have hl := Nat.mod_lt a (Nat.two_pow_pos c)
  rw [Nat.mul_comm, Nat.mul_add_div (Nat.two_pow_pos c), Nat.div_eq_of_lt hl, Nat.add_zero, Nat.div_eq_of_lt hr, Nat.mod_eq_of_lt hr]
  exact ⟨rfl, rfl⟩
theorem bring_bit {r a c j : Nat} (hj : j < c) : bitAt (r * 2 ^ c + a % 2 ^ c) j = bitAt a j := by
  unfold bitAt
  have e : r * 2 ^ c + a % 2 ^ c = a % 2 ^ c + 2 ^ (j + 1) * (r * 2 ^ (c - (j + 1))) := by
    have : 2 ^ c = 2 ^ (j + 1) * 2 ^ (c - (j + 1)) := by rw [← Nat.pow_add]; congr 1; omega
    conv => lhs; lhs; rw [this]
    rw [Nat.mul_left_comm, Nat.add_comm]
  have h2 : ∀ X : Nat, X / 2 ^ j % 2 = X % 2 ^ (j + 1) / 2 ^ j := fun X => by rw [Nat.pow_succ, Nat.mod_mul_right_div_self]
  rw [h2, h2, e, Nat.add_mul_mod_self_left, Nat.mod_mod_of_dvd _ (Nat.pow_dvd_pow 2 (by omega))]
theorem bring_step (N m j : Nat) (hm : 0 < m) : (2 * (N / 2 ^ (j + 1) % m) + bitAt N j) % m = N / 2 ^ j % m ∧ N / 2 ^ j / m = 2 * (N / 2 ^ (j + 1) / m) + (2 * (N / 2 ^ (j + 1) % m) + bitAt N j) / m := by
  have h := Nat.div_add_mod (N / 2 ^ (j + 1)) m
  have e : N / 2 ^ j = 2 * (N / 2 ^ (j + 1) % m) + bitAt N j + m * (2 * (N / 2 ^ (j + 1) / m)) := by
    rw [bit_step N j, Nat.mul_left_comm]; omega
  rw [e, Nat.add_mul_mod_self_left, Nat.add_mul_div_left _ _ hm, Nat.add_comm (2 * (N / 2 ^ (j + 1) / m))]
  exact ⟨rfl, rfl⟩
theorem bring_lt {r a c m : Nat} (hr : r < m) : (r * 2 ^ c + a % 2 ^ c) / m < 2 ^ c := by
  have hl := Nat.mod_lt a (Nat.two_pow_pos c)
  rw [Nat.div_lt_iff_lt_mul (by omega), Nat.mul_comm (2 ^ c)]
  have := Nat.mul_le_mul_right (2 ^ c) (Nat.succ_le_of_lt hr)
  rw [Nat.succ_mul] at this
  omega
/-- goes, moved up to its place in its word, and laid into it -/
theorem or_up {x p b : Nat} (hx : x < 18446744073709551616) (hp : p < 64) (hb : b ≤ 1) (h0 : x % 2 ^ (p + 1) = 0) : bits .or .u64 (x : Int) ((b * 2 ^ p : Nat) : Int) = ((x + b * 2 ^ p : Nat) : Int) := by
  have hpp : 2 ^ p * 2 ≤ 18446744073709551616 := by rw [← Nat.pow_succ]; exact Nat.le_trans (Nat.pow_le_pow_right (by omega) (show p + 1 ≤ 64 by omega)) (by decide)
  have hbl : b * 2 ^ p < 2 ^ (p + 1) := by
    have := Nat.two_pow_pos p
    rw [Nat.pow_succ]
    rcases (show b = 0 ∨ b = 1 by omega) with rfl | rfl <;> omega
  have hbl2 : b * 2 ^ p < 18446744073709551616 := by rw [Nat.pow_succ] at hbl; omega
  rw [u64_or_nat _ _ hx hbl2]
  congr 1
  have h := Nat.shiftLeft_add_eq_or_of_lt hbl (x / 2 ^ (p + 1))
  rw [Nat.shiftLeft_eq, Nat.div_mul_cancel (Nat.dvd_of_mod_eq_zero h0)] at h
  omega

theorem take_b (r b m s : Nat) (q : Int) (w : World) (hm : m < 2 ^ 256) (hr : r < m) (hb : b ≤ 1) (hs : (2 * r + b) % m = s) (hq : (((2 * r + b) / m : Nat) : Int) = q) :
    Calls Tryd.prog 87 #[num r, .int .u64 (b : Int), num m] w fun e w' => e = .returned (.tuple #[num s, .int .u64 q]) ∧ Below w.heap.size w w' := by
  subst hs; subst hq; exact dtake_any r b m w hm hr hb
set_option maxRecDepth 100000 in
set_option maxHeartbeats 3200000 in
theorem bring_any (r a c m : Nat) (w : World) (hr : r < m) (hm : m < 2 ^ 256) (ha : a < 2 ^ 256) (hc : c ≤ 256) :
    Calls Tryd.prog 73 #[num r, num a, .int .i64 (c : Int), num m] w fun e w' => e = .returned (.tuple #[num ((r * 2 ^ c + a % 2 ^ c) / m), num ((r * 2 ^ c + a % 2 ^ c) % m)]) ∧ Below w.heap.size w w' := by
  obtain ⟨s1, s2⟩ := bring_start (a := a) (c := c) hr
  have hbits : ∀ j, j < c → bitAt (r * 2 ^ c + a % 2 ^ c) j = bitAt a j := fun j hj => bring_bit hj
  have hql := bring_lt (a := a) (c := c) hr
  generalize r * 2 ^ c + a % 2 ^ c = N at *
  have HM := hid hm
  have HP := hid (show 0 < m by omega)
  have HA := hid ha
  have HB := hid hbits
  have HQ := hid hql
  have HE := hid (((((((Env.refl w).new r).new a).new m).zero).zero).perm (l' := [(w.heap.size + 1 + 1 + 1, N / 2 ^ c / m * 2 ^ c), (w.heap.size, N / 2 ^ c % m), (w.heap.size + 1, a), (w.heap.size + 1 + 1, m), (w.heap.size + 1 + 1 + 1 + 1, 0)]) (by rw [s1, s2]; simp))
  have D := hid (show w.heap.size ≠ w.heap.size + 1 ∧ w.heap.size ≠ w.heap.size + 1 + 1 ∧ w.heap.size ≠ w.heap.size + 1 + 1 + 1 ∧ w.heap.size ≠ w.heap.size + 1 + 1 + 1 + 1 ∧ w.heap.size + 1 ≠ w.heap.size + 1 + 1 + 1 ∧ w.heap.size + 1 + 1 ≠ w.heap.size + 1 + 1 + 1 ∧ w.heap.size + 1 + 1 + 1 + 1 ≠ w.heap.size + 1 + 1 + 1 ∧ w.heap.size ≤ w.heap.size + 1 + 1 + 1 ∧ w.heap.size ≤ w.heap.size + 1 + 1 + 1 + 1 ∧ w.heap.size ≤ w.heap.size by omega)
  clear hm hr ha hbits s1 s2 hql
  go_enter Tryd.func73, Tryd.ntmps73
  go_wp2
  generalize ((((w.alloc (.cells (cls r) 26)).alloc (.cells (cls a) 26)).alloc (.cells (cls m) 26)).alloc (.cells #[.int .u64 0, .int .u64 0, .int .u64 0, .int .u64 0] 26)).alloc (.cells #[.int .u64 0, .int .u64 0, .int .u64 0, .int .u64 0] 26) = w0 at *
  generalize w.heap.size + 1 + 1 + 1 + 1 = g9 at *
  generalize w.heap.size + 1 + 1 + 1 = g8 at *
  generalize w.heap.size + 1 + 1 = g7 at *
  generalize w.heap.size + 1 = g5 at *
  generalize hg4 : w.heap.size = g4 at *
  go_loopw [14] (fun s wr => ∃ i k : Nat, i + k = c ∧ s = .int .i64 (i : Int) ∧ Hid (Env w [(g8, N / 2 ^ k / m * 2 ^ k), (g4, N / 2 ^ k % m), (g5, a), (g7, m), (g9, 0)] wr)) (fun s _ => c - (intOf s).toNat)
  case atStart => exact ⟨0, c, by omega, rfl, HE⟩
  case round =>
    obtain ⟨i, k, hk, rfl, H⟩ := hrel
    clear HE
    by_cases h0 : k = 0
    · subst h0
      have E1 := hid (p := N / 2 ^ 0 / m * 2 ^ 0 = N / m) (by rw [Nat.pow_zero, Nat.div_one, Nat.mul_one])
      have E2 := hid (p := N / 2 ^ 0 % m = N % m) (by rw [Nat.pow_zero, Nat.div_one])
      have H2 := hid (p := Env w [(g8, N / m), (g4, N % m), (g5, a), (g7, m), (g9, 0)] wr) (by have := H.out; rw [E1.out, E2.out] at this; exact this)
      clear H E1 E2
      have hb := hc
      obtain ⟨q0, q1, q2, q3⟩ := H2.out.cell g8 (N / m) (by simp)
      obtain ⟨r0, r1, r2, r3⟩ := H2.out.cell g4 (N % m) (by simp)
      obtain ⟨z0, z1, z2, z3⟩ := H2.out.cell g9 0 (by simp)
      have f8 := H2.out.frozen g8 (N / m) (by simp)
      have f9 := H2.out.frozen g9 0 (by simp)
      obtain ⟨d1, d2, d3, d4, d5, d6, d7, d8, d9, _⟩ := D.out
      have n1 : (g9 = g8) = False := eq_false d7
      have n2 : (g8 = g9) = False := eq_false (Ne.symm d7)
      have n3 : (g4 = g8) = False := eq_false d3
      have n4 : (g4 = g9) = False := eq_false d4
      have HZ := hid ((H2.out.set g8 (N / m) (N / m) [(g4, N % m), (g9, 0)] (by simp) (by omega) (by simp; exact ⟨d3, d7⟩)).set g9 0 (N % m) [(g8, N / m)] (by simp) (by omega) (by simp; exact Ne.symm d7))
      have nlt : ¬ ((i : Int) < (c : Int)) := by omega
      go_wp2
      go_region
      all_goals
        go_wp2
        clear q0 q1 q2 q3 r0 r1 r2 r3 z0 z1 z2 z3 f8 f9
        change bodyPost _ _ _ _ _ (fil (fil wr g8 (N / m)) g9 (N % m)).drew
        generalize fil (fil wr g8 (N / m)) g9 (N % m) = wz at *
        obtain ⟨k0, k1, k2, k3⟩ := HZ.out.cell g8 (N / m) (by simp)
        obtain ⟨j0, j1, j2, j3⟩ := HZ.out.cell g9 (N % m) (by simp)
        exact bodyPost_ret (v := .tuple #[num (N / m), num (N % m)]) (by simp [results, Tryd.results73, go_sem, k0, k1, k2, k3, j0, j1, j2, j3]) rfl ⟨rfl, HZ.out.1.drew⟩
    · obtain ⟨j, rfl⟩ : ∃ j, k = j + 1 := ⟨k - 1, by omega⟩
      clear h0
      have A1 : IntKind.i64.wrap ((c : Int) - 1) = (c : Int) - 1 := IntWalk.i64_in _ (by omega)
      have A2 : IntKind.i64.wrap ((c : Int) - 1 - (i : Int)) = (j : Int) := by rw [IntWalk.i64_in _ (by omega)]; omega
      have lt1 : (i : Int) < (c : Int) := by omega
      obtain ⟨t1, t2⟩ := bring_step N m j HP.out
      rw [HB.out j (by omega)] at t1 t2
      have hbl := bitAt_lt a j
      have hrl := Nat.mod_lt (N / 2 ^ (j + 1)) HP.out
      have hbi : Hid ((bi a (j : Int) : Int) = (bitAt a j : Int)) := hid (by unfold bi; rw [if_neg (by omega), Int.toNat_natCast])
      generalize N / 2 ^ (j + 1) % m = R at *
      generalize N / 2 ^ (j + 1) / m = Q at *
      generalize bitAt a j = b at *
      obtain ⟨g, eg, hg⟩ : ∃ g, (2 * R + b) / m = g ∧ g ≤ 1 := ⟨_, rfl, by
        have : (2 * R + b) / m < 2 := by rw [Nat.div_lt_iff_lt_mul HP.out]; omega
        omega⟩
      rw [eg] at t2
      obtain ⟨R2, ER⟩ : ∃ x, Hid (N / 2 ^ j % m = x) := ⟨_, hid rfl⟩
      have T1 := hid (t1.trans ER.out)
      have T2 := hid t2
      have HR := hid hrl
      have HBl := hid (show b ≤ 1 by omega)
      have EG := hid (show (((2 * R + b) / m : Nat) : Int) = (g : Int) by rw [eg])
      clear t1 t2 hrl hbl eg
      go_upto_region 6 with fail
      obtain ⟨a0, a1, a2, a3⟩ := H.out.cell g5 a (by simp)
      obtain ⟨m0, m1, m2, m3⟩ := H.out.cell g7 m (by simp)
      obtain ⟨r0, r1, r2, r3⟩ := H.out.cell g4 R (by simp)
      have fr := H.out.frozen g4 R (by simp)
      go_cut [12] (fun s12 wx => s12 = .int .u64 (g : Int) ∧ Hid (Env w [(g4, R2), (g8, Q * 2 ^ (j + 1)), (g5, a), (g7, m), (g9, 0)] wx))
      case first =>
        have hs := H.out.drew
        go_region_with (first | ((go_at_call 88); (with_reducible refine (bit_at a (j : Int) (b : Int) (by assumption) HA.out (by omega) (by omega) hbi.out).mono ?_); rintro e wn ⟨rfl, hs⟩; obtain ⟨a0, a1, a2, a3⟩ := hs.cell g5 a (by simp); obtain ⟨m0, m1, m2, m3⟩ := hs.cell g7 m (by simp); obtain ⟨r0, r1, r2, r3⟩ := hs.cell g4 R (by simp); have fr := hs.frozen g4 R (by simp)) | ((go_at_call 87); (with_reducible refine (env_of (take_b R b m R2 (g : Int) _ HM.out HR.out HBl.out T1.out EG.out) (by assumption)).mono ?_); rintro e wn ⟨rfl, hs⟩; obtain ⟨a0, a1, a2, a3⟩ := hs.cell g5 a (by simp); obtain ⟨m0, m1, m2, m3⟩ := hs.cell g7 m (by simp); obtain ⟨r0, r1, r2, r3⟩ := hs.cell g4 R (by simp); have fr := hs.frozen g4 R (by simp)))
        all_goals
          go_wp2_with fail
          go_meet
          exact ⟨rfl, hid (hs.set g4 R R2 _ (by simp) (by omega) (by obtain ⟨d1, d2, d3, d4, d5, d6, d7, _⟩ := D.out; simp; exact ⟨Ne.symm d3, Ne.symm d1, Ne.symm d2, Ne.symm d4⟩))⟩
      case rest =>
        obtain ⟨rfl, H2⟩ := hcut
        clear a0 a1 a2 a3 m0 m1 m2 m3 r0 r1 r2 r3 fr H A1 A2 lt1
        obtain ⟨e, p, hj, hp⟩ : ∃ e p, j = 64 * e + p ∧ p < 64 := ⟨j / 64, j % 64, by omega, Nat.mod_lt _ (by decide)⟩
        have he : e = 0 ∨ e = 1 ∨ e = 2 ∨ e = 3 := by omega
        obtain ⟨q1, q2, q3⟩ := word_set (Q := Q) (e := e) hp hg
        rw [← hj] at q1 q2 q3
        have T3 := hid (p := N / 2 ^ j / m * 2 ^ j = Q * 2 ^ (j + 1) + g * 2 ^ j) (by rw [T2.out, Nat.add_mul, Nat.pow_succ, Nat.mul_comm 2 Q, Nat.mul_assoc, Nat.mul_comm 2])
        have hpp : 2 ^ p * 2 ≤ 18446744073709551616 := by rw [← Nat.pow_succ]; exact Nat.le_trans (Nat.pow_le_pow_right (by omega) (show p + 1 ≤ 64 by omega)) (by decide)
        have Q4 := hid (p := IntKind.u64.wrap ((g : Int) * 2 ^ p) = ((g * 2 ^ p : Nat) : Int)) (by
          have e1 : ((g : Int) * 2 ^ p) = ((g * 2 ^ p : Nat) : Int) := by simp
          rw [e1, IntWalk.u64_in _ ?_]
          have := Nat.mul_le_mul_right (2 ^ p) hg
          omega)
        have Q5 := hid (p := bits .or .u64 (wd (Q * 2 ^ (j + 1)) e : Int) ((g * 2 ^ p : Nat) : Int) = (wd (Q * 2 ^ (j + 1) + g * 2 ^ j) e : Int)) (by rw [or_up (wd_lt _ _) hp hg q3, q2])
        have QO := hid q1
        have HJ := hid hj
        have HP2 := hid hp
        clear q1 q2 q3 hpp hj hp
        obtain ⟨q0', q1', q2', q3'⟩ := H2.out.cell g8 (Q * 2 ^ (j + 1)) (by simp)
        have f8 := H2.out.frozen g8 (Q * 2 ^ (j + 1)) (by simp)
        rcases he with rfl | rfl | rfl | rfl
        · have B1 : (j : Int) / 64 = 0 := by have := HJ.out; have := HP2.out; omega
          have B2 : IntKind.i64.wrap 0 = 0 := by decide
          have B3 : (j : Int) % 64 = (p : Int) := by have := HJ.out; have := HP2.out; omega
          have B4 : IntKind.u64.wrap ((g : Int) * 2 ^ p) = (g : Int) * 2 ^ p := by rw [Q4.out]; simp
          have B5 : bits .or .u64 (wd (Q * 2 ^ (j + 1)) 0 : Int) ((g : Int) * 2 ^ p) = (wd (Q * 2 ^ (j + 1) + g * 2 ^ j) 0 : Int) := by have := Q5.out; rwa [show ((g * 2 ^ p : Nat) : Int) = (g : Int) * 2 ^ p by simp] at this
          go_upto_region 7 with fail
          go_region
          all_goals
            have H3 := hid (Env.drew (H2.out.word g8 (Q * 2 ^ (j + 1)) (Q * 2 ^ (j + 1) + g * 2 ^ j) 0 [(g4, R2), (g5, a), (g7, m), (g9, 0)] (by simp) (by obtain ⟨d1, d2, d3, d4, d5, d6, d7, d8, _⟩ := D.out; omega) (by obtain ⟨d1, d2, d3, d4, d5, d6, d7, _⟩ := D.out; simp; exact ⟨d3, d5, d6, d7⟩) (by decide) QO.out))
            clear q0' q1' q2' q3' f8 B1 B2 B3 B4 B5
            go_wp2
            go_roundw
            case rel => exact ⟨i + 1, j, by omega, by go_num, hid (by rw [T3.out, ER.out]; exact H3.out)⟩
            case measure => simp [intOf]; omega
        · have B1 : (j : Int) / 64 = 1 := by have := HJ.out; have := HP2.out; omega
          have B2 : IntKind.i64.wrap 1 = 1 := by decide
          have B3 : (j : Int) % 64 = (p : Int) := by have := HJ.out; have := HP2.out; omega
          have B4 : IntKind.u64.wrap ((g : Int) * 2 ^ p) = (g : Int) * 2 ^ p := by rw [Q4.out]; simp
          have B5 : bits .or .u64 (wd (Q * 2 ^ (j + 1)) 1 : Int) ((g : Int) * 2 ^ p) = (wd (Q * 2 ^ (j + 1) + g * 2 ^ j) 1 : Int) := by have := Q5.out; rwa [show ((g * 2 ^ p : Nat) : Int) = (g : Int) * 2 ^ p by simp] at this
          go_upto_region 7 with fail
          go_region
          all_goals
            have H3 := hid (Env.drew (H2.out.word g8 (Q * 2 ^ (j + 1)) (Q * 2 ^ (j + 1) + g * 2 ^ j) 1 [(g4, R2), (g5, a), (g7, m), (g9, 0)] (by simp) (by obtain ⟨d1, d2, d3, d4, d5, d6, d7, d8, _⟩ := D.out; omega) (by obtain ⟨d1, d2, d3, d4, d5, d6, d7, _⟩ := D.out; simp; exact ⟨d3, d5, d6, d7⟩) (by decide) QO.out))
            clear q0' q1' q2' q3' f8 B1 B2 B3 B4 B5
            go_wp2
            go_roundw
            case rel => exact ⟨i + 1, j, by omega, by go_num, hid (by rw [T3.out, ER.out]; exact H3.out)⟩
            case measure => simp [intOf]; omega
        · have B1 : (j : Int) / 64 = 2 := by have := HJ.out; have := HP2.out; omega
          have B2 : IntKind.i64.wrap 2 = 2 := by decide
          have B3 : (j : Int) % 64 = (p : Int) := by have := HJ.out; have := HP2.out; omega
          have B4 : IntKind.u64.wrap ((g : Int) * 2 ^ p) = (g : Int) * 2 ^ p := by rw [Q4.out]; simp
          have B5 : bits .or .u64 (wd (Q * 2 ^ (j + 1)) 2 : Int) ((g : Int) * 2 ^ p) = (wd (Q * 2 ^ (j + 1) + g * 2 ^ j) 2 : Int) := by have := Q5.out; rwa [show ((g * 2 ^ p : Nat) : Int) = (g : Int) * 2 ^ p by simp] at this
          go_upto_region 7 with fail
          go_region
          all_goals
            have H3 := hid (Env.drew (H2.out.word g8 (Q * 2 ^ (j + 1)) (Q * 2 ^ (j + 1) + g * 2 ^ j) 2 [(g4, R2), (g5, a), (g7, m), (g9, 0)] (by simp) (by obtain ⟨d1, d2, d3, d4, d5, d6, d7, d8, _⟩ := D.out; omega) (by obtain ⟨d1, d2, d3, d4, d5, d6, d7, _⟩ := D.out; simp; exact ⟨d3, d5, d6, d7⟩) (by decide) QO.out))
            clear q0' q1' q2' q3' f8 B1 B2 B3 B4 B5
            go_wp2
            go_roundw
            case rel => exact ⟨i + 1, j, by omega, by go_num, hid (by rw [T3.out, ER.out]; exact H3.out)⟩
            case measure => simp [intOf]; omega
        · have B1 : (j : Int) / 64 = 3 := by have := HJ.out; have := HP2.out; omega
          have B2 : IntKind.i64.wrap 3 = 3 := by decide
          have B3 : (j : Int) % 64 = (p : Int) := by have := HJ.out; have := HP2.out; omega
          have B4 : IntKind.u64.wrap ((g : Int) * 2 ^ p) = (g : Int) * 2 ^ p := by rw [Q4.out]; simp
          have B5 : bits .or .u64 (wd (Q * 2 ^ (j + 1)) 3 : Int) ((g : Int) * 2 ^ p) = (wd (Q * 2 ^ (j + 1) + g * 2 ^ j) 3 : Int) := by have := Q5.out; rwa [show ((g * 2 ^ p : Nat) : Int) = (g : Int) * 2 ^ p by simp] at this
          go_upto_region 7 with fail
          go_region
          all_goals
            have H3 := hid (Env.drew (H2.out.word g8 (Q * 2 ^ (j + 1)) (Q * 2 ^ (j + 1) + g * 2 ^ j) 3 [(g4, R2), (g5, a), (g7, m), (g9, 0)] (by simp) (by obtain ⟨d1, d2, d3, d4, d5, d6, d7, d8, _⟩ := D.out; omega) (by obtain ⟨d1, d2, d3, d4, d5, d6, d7, _⟩ := D.out; simp; exact ⟨d3, d5, d6, d7⟩) (by decide) QO.out))
            clear q0' q1' q2' q3' f8 B1 B2 B3 B4 B5
            go_wp2
            go_roundw
            case rel => exact ⟨i + 1, j, by omega, by go_num, hid (by rw [T3.out, ER.out]; exact H3.out)⟩
            case measure => simp [intOf]; omega
end Go.Proofs.YtcijnoapjicliaaDoor
namespace Go.Proofs.YtcijnoapjicliaaDoor
open Go.RowKit
set_option linter.unusedVariables false

theorem shf_down (a c : Nat) (ha : a < 2 ^ 256) : shf a (-(c : Int)) = a / 2 ^ c := by
  unfold shf
  split
  · have : c = 0 := by omega
    subst this
    simp [Nat.mod_eq_of_lt ha]
  · rw [show (-(-(c : Int))).toNat = c by omega]
theorem div_first {a b : Nat} (hb : 0 < b) : a / 2 ^ (nbits a + 1 - nbits b) < b := by
  have h1 := nbits_lt a
  have h2 := nbits_le b hb
  have h3 := nbits_pos b hb
  refine Nat.lt_of_lt_of_le ?_ h2
  rw [Nat.div_lt_iff_lt_mul (Nat.two_pow_pos _), ← Nat.pow_add]
  refine Nat.lt_of_lt_of_le h1 (Nat.pow_le_pow_right (by omega) ?_)
  omega
theorem bring_b (r a c m q s : Nat) (w : World) (hr : r < m) (hm : m < 2 ^ 256) (ha : a < 2 ^ 256) (hc : c ≤ 256) (hq : (r * 2 ^ c + a % 2 ^ c) / m = q) (hs : (r * 2 ^ c + a % 2 ^ c) % m = s) :
    Calls Tryd.prog 73 #[num r, num a, .int .i64 (c : Int), num m] w fun e w' => e = .returned (.tuple #[num q, num s]) ∧ Below w.heap.size w w' := by
  subst hq; subst hs; exact bring_any r a c m w hr hm ha hc
theorem eq_none (x : Nat) (hx : x < 2 ^ 256) (h : x ≠ 0) (w : World) : (Op.equalIn 10000 26 (num x) (.agg #[.int .u64 0, .int .u64 0, .int .u64 0, .int .u64 0])).run Tryd.prog w = .ok false w := by
  rw [num_zero]; exact eq_no x 0 hx (by decide) h w
theorem eq_none_yes (w : World) : (Op.equalIn 10000 26 (num 0) (.agg #[.int .u64 0, .int .u64 0, .int .u64 0, .int .u64 0])).run Tryd.prog w = .ok true w := by
  rw [num_zero]; exact eq_yes 0 0 rfl w

set_option maxRecDepth 100000 in
set_option maxHeartbeats 3200000 in
theorem div_none (a : Nat) (w : World) : Calls Tryd.prog 72 #[num a, num 0] w fun e w' => e = .returned (.tuple #[num 0, num 0, .int .i64 1]) ∧ Below w.heap.size w w' := by
  have q0 := eq_none_yes
  go_enter Tryd.func72, Tryd.ntmps72
  go_wp2
  refine bodyPost_ret (v := .tuple #[.agg #[.int .u64 0, .int .u64 0, .int .u64 0, .int .u64 0], .agg #[.int .u64 0, .int .u64 0, .int .u64 0, .int .u64 0], .int .i64 1]) (by simp [results, Tryd.results72, go_sem]) rfl ⟨by rw [num_zero], ?_⟩
  repeat (first | exact Below.refl _ _ | refine Below.drew ?_ | refine bal ?_ _)

set_option maxRecDepth 100000 in
set_option maxHeartbeats 3200000 in
theorem div_some (a b : Nat) (w : World) (ha : a < 2 ^ 256) (hb : b < 2 ^ 256) (h0 : b ≠ 0) : Calls Tryd.prog 72 #[num a, num b] w fun e w' => e = .returned (.tuple #[num (a / b), num (a % b), .int .i64 0]) ∧ Below w.heap.size w w' := by
  have qb := eq_none b hb h0
  obtain ⟨x, hx⟩ : ∃ x, nbits a = x := ⟨_, rfl⟩
  obtain ⟨y, hy⟩ : ∃ y, nbits b = y := ⟨_, rfl⟩
  have x1 := nbits_up a 256 ha
  have y1 := nbits_up b 256 hb
  have y2 := nbits_pos b (by omega)
  have hf := div_first (a := a) (b := b) (by omega)
  rw [hx] at x1 hf
  rw [hy] at y1 y2 hf
  obtain ⟨c, hc⟩ : ∃ c, x + 1 - y = c := ⟨_, rfl⟩
  rw [hc] at hf
  obtain ⟨r, er⟩ : ∃ r, a / 2 ^ c = r := ⟨_, rfl⟩
  rw [er] at hf
  have K1 := hid (p := (r * 2 ^ c + a % 2 ^ c) / b = a / b) (by rw [← er, down_up])
  have K2 := hid (p := (r * 2 ^ c + a % 2 ^ c) % b = a % b) (by rw [← er, down_up])
  have HX := hid (p := (nbits a : Int) = (x : Int)) (by rw [hx])
  have HY := hid (p := (nbits b : Int) = (y : Int)) (by rw [hy])
  have HR := hid (p := shf a (-(c : Int)) = r) (by rw [shf_down a c ha, er])
  have HF := hid hf
  have HA := hid ha
  have HB := hid hb
  have HC := hid (show c ≤ 256 by omega)
  have W1 : IntKind.i64.wrap ((x : Int) - (y : Int)) = (x : Int) - (y : Int) := IntWalk.i64_in _ (by omega)
  have W2 : IntKind.i64.wrap ((x : Int) - (y : Int) + 1) = (x : Int) - (y : Int) + 1 := IntWalk.i64_in _ (by omega)
  have W3 : max ((x : Int) - (y : Int) + 1) 0 = (c : Int) := by omega
  have W4 : IntKind.i64.wrap (-(c : Int)) = -(c : Int) := IntWalk.i64_in _ (by omega)
  have W5 : (0 : Int) ≤ c := by omega
  clear hx hy x1 y1 y2 hf hc er ha hb h0
  have HE := hid ((((((Env.refl w).new a).new b).zero).zero).perm (l' := [(w.heap.size, a), (w.heap.size + 1, b), (w.heap.size + 1 + 1, 0), (w.heap.size + 1 + 1 + 1, 0)]) (by simp))
  have D := hid (show w.heap.size ≠ w.heap.size + 1 + 1 ∧ w.heap.size ≠ w.heap.size + 1 + 1 + 1 ∧ w.heap.size + 1 ≠ w.heap.size + 1 + 1 ∧ w.heap.size + 1 ≠ w.heap.size + 1 + 1 + 1 ∧ w.heap.size + 1 + 1 ≠ w.heap.size + 1 + 1 + 1 ∧ w.heap.size ≤ w.heap.size + 1 + 1 ∧ w.heap.size ≤ w.heap.size + 1 + 1 + 1 by omega)
  go_enter Tryd.func72, Tryd.ntmps72
  go_upto_region 3 with fail
  generalize (((w.alloc (.cells (cls a) 26)).alloc (.cells (cls b) 26)).alloc (.cells #[.int .u64 0, .int .u64 0, .int .u64 0, .int .u64 0] 26)).alloc (.cells #[.int .u64 0, .int .u64 0, .int .u64 0, .int .u64 0] 26) = w0 at *
  generalize w.heap.size + 1 + 1 + 1 = g5 at *
  generalize w.heap.size + 1 + 1 = g4 at *
  generalize w.heap.size + 1 = g3 at *
  generalize hg2 : w.heap.size = g2 at *
  obtain ⟨cg2a, cg2b, cg2c, cg2d⟩ := HE.out.cell g2 (a) (by simp)
  have lg2 := HE.out.lt g2 (a) (by simp)
  obtain ⟨cg3a, cg3b, cg3c, cg3d⟩ := HE.out.cell g3 (b) (by simp)
  have lg3 := HE.out.lt g3 (b) (by simp)
  go_cut [7] (fun s7 wx => s7 = .int .i64 (c : Int) ∧ Hid (Env w [(g2, a), (g3, b), (g4, 0), (g5, 0)] wx))
  case first =>
    have hs := HE.out.drew
    go_region_with (first | ((go_at_call 85); (with_reducible refine (bits_at a (x : Int) (by assumption) HA.out HX.out).mono ?_); rintro e wn ⟨rfl, hs⟩; obtain ⟨cg2a, cg2b, cg2c, cg2d⟩ := hs.cell g2 (a) (by simp); have lg2 := hs.lt g2 (a) (by simp); obtain ⟨cg3a, cg3b, cg3c, cg3d⟩ := hs.cell g3 (b) (by simp); have lg3 := hs.lt g3 (b) (by simp)) | ((go_at_call 85); (with_reducible refine (bits_at b (y : Int) (by assumption) HB.out HY.out).mono ?_); rintro e wn ⟨rfl, hs⟩; obtain ⟨cg2a, cg2b, cg2c, cg2d⟩ := hs.cell g2 (a) (by simp); have lg2 := hs.lt g2 (a) (by simp); obtain ⟨cg3a, cg3b, cg3c, cg3d⟩ := hs.cell g3 (b) (by simp); have lg3 := hs.lt g3 (b) (by simp)))
    all_goals
      go_wp2_with fail
      go_meet
      exact ⟨rfl, hid hs⟩
  case rest =>
    obtain ⟨rfl, H1⟩ := hcut
    clear cg2a cg2b cg2c cg2d lg2 cg3a cg3b cg3c cg3d lg3 HE
    go_upto_region 4 with fail
    obtain ⟨cg2a, cg2b, cg2c, cg2d⟩ := H1.out.cell g2 (a) (by simp)
    have lg2 := H1.out.lt g2 (a) (by simp)
    obtain ⟨cg3a, cg3b, cg3c, cg3d⟩ := H1.out.cell g3 (b) (by simp)
    have lg3 := H1.out.lt g3 (b) (by simp)
    obtain ⟨cg4a, cg4b, cg4c, cg4d⟩ := H1.out.cell g4 (0) (by simp)
    have lg4 := H1.out.lt g4 (0) (by simp)
    obtain ⟨cg5a, cg5b, cg5c, cg5d⟩ := H1.out.cell g5 (0) (by simp)
    have lg5 := H1.out.lt g5 (0) (by simp)
    have fg4 := H1.out.frozen g4 (0) (by simp)
    have fg5 := H1.out.frozen g5 (0) (by simp)
    go_cut [7] (fun s7 wx => s7 = .int .i64 (c : Int) ∧ Hid (Env w [(g5, a % b), (g4, a / b)] wx))
    case first =>
      have hs := H1.out.drew
      obtain ⟨d1, d2, d3, d4, d5, d6, d7⟩ := D.out
      go_region_with (first | ((go_at_call 86); (with_reducible refine (shift_at a r (-(c : Int)) (by assumption) HA.out (by have := HC.out; omega) (by have := HC.out; omega) HR.out).mono ?_); rintro e wn ⟨rfl, hs⟩; obtain ⟨cg2a, cg2b, cg2c, cg2d⟩ := hs.cell g2 (a) (by simp); have lg2 := hs.lt g2 (a) (by simp); obtain ⟨cg3a, cg3b, cg3c, cg3d⟩ := hs.cell g3 (b) (by simp); have lg3 := hs.lt g3 (b) (by simp); obtain ⟨cg4a, cg4b, cg4c, cg4d⟩ := hs.cell g4 (0) (by simp); have lg4 := hs.lt g4 (0) (by simp); obtain ⟨cg5a, cg5b, cg5c, cg5d⟩ := hs.cell g5 (0) (by simp); have lg5 := hs.lt g5 (0) (by simp); have fg4 := hs.frozen g4 (0) (by simp); have fg5 := hs.frozen g5 (0) (by simp)) | ((go_at_call 73); (with_reducible refine (env_of (bring_b r a c b (a / b) (a % b) _ HF.out HB.out HA.out HC.out K1.out K2.out) (by assumption)).mono ?_); rintro e wn ⟨rfl, hs⟩; obtain ⟨cg2a, cg2b, cg2c, cg2d⟩ := hs.cell g2 (a) (by simp); have lg2 := hs.lt g2 (a) (by simp); obtain ⟨cg3a, cg3b, cg3c, cg3d⟩ := hs.cell g3 (b) (by simp); have lg3 := hs.lt g3 (b) (by simp); obtain ⟨cg4a, cg4b, cg4c, cg4d⟩ := hs.cell g4 (0) (by simp); have lg4 := hs.lt g4 (0) (by simp); obtain ⟨cg5a, cg5b, cg5c, cg5d⟩ := hs.cell g5 (0) (by simp); have lg5 := hs.lt g5 (0) (by simp); have fg4 := hs.frozen g4 (0) (by simp); have fg5 := hs.frozen g5 (0) (by simp)))
      all_goals
        go_wp2_with fail
        go_meet
        exact ⟨rfl, hid ((hs.set g4 0 (a / b) [(g5, 0)] (by simp) (by omega) (by simp; exact Ne.symm d5)).set g5 0 (a % b) [(g4, a / b)] (by simp) (by omega) (by simp; exact d5))⟩
    case rest =>
      obtain ⟨rfl, H2⟩ := hcut
      clear cg2a cg2b cg2c cg2d lg2 cg3a cg3b cg3c cg3d lg3 cg4a cg4b cg4c cg4d lg4 cg5a cg5b cg5c cg5d lg5 fg4 fg5 H1
      obtain ⟨d1, d2, d3, d4, d5, d6, d7⟩ := D.out
      have n1 : (g4 = g5) = False := eq_false d5
      have n2 : (g5 = g4) = False := eq_false (Ne.symm d5)
      obtain ⟨cg4a, cg4b, cg4c, cg4d⟩ := H2.out.cell g4 (a / b) (by simp)
      have lg4 := H2.out.lt g4 (a / b) (by simp)
      obtain ⟨cg5a, cg5b, cg5c, cg5d⟩ := H2.out.cell g5 (a % b) (by simp)
      have lg5 := H2.out.lt g5 (a % b) (by simp)
      have fg4 := H2.out.frozen g4 (a / b) (by simp)
      have fg5 := H2.out.frozen g5 (a % b) (by simp)
      have HZ := hid ((H2.out.set g4 (a / b) (a / b) [(g5, a % b)] (by simp) (by omega) (by simp; exact Ne.symm d5)).set g5 (a % b) (a % b) [(g4, a / b)] (by simp) (by omega) (by simp; exact d5))
      go_wp2
      go_region
      all_goals
        go_wp2
        clear cg4a cg4b cg4c cg4d lg4 cg5a cg5b cg5c cg5d lg5 fg4 fg5
        change bodyPost _ _ _ _ _ (fil (fil wc g4 (a / b)) g5 (a % b)).drew
        generalize fil (fil wc g4 (a / b)) g5 (a % b) = wz at *
        obtain ⟨k0, k1, k2, k3⟩ := HZ.out.cell g4 (a / b) (by simp)
        obtain ⟨j0, j1, j2, j3⟩ := HZ.out.cell g5 (a % b) (by simp)
        exact bodyPost_ret (v := .tuple #[num (a / b), num (a % b), .int .i64 0]) (by simp [results, Tryd.results72, go_sem, k0, k1, k2, k3, j0, j1, j2, j3]) rfl ⟨rfl, HZ.out.1.drew⟩
end Go.Proofs.YtcijnoapjicliaaDoor
namespace Go.Proofs.YtcijnoapjicliaaDoor
open Go.RowKit
set_option linter.unusedVariables false

theorem div_b (a b q r : Nat) (w : World) (ha : a < 2 ^ 256) (hb : b < 2 ^ 256) (h0 : b ≠ 0) (hq : a / b = q) (hr : a % b = r) : Calls Tryd.prog 72 #[num a, num b] w fun e w' => e = .returned (.tuple #[num q, num r, .int .i64 0]) ∧ Below w.heap.size w w' := by
  subst hq; subst hr; exact div_some a b w ha hb h0
theorem div_at (a b q r : Nat) {w w' : World} {l : List (Nat × Nat)} (h : Env w l w') (ha : a < 2 ^ 256) (hb : b < 2 ^ 256) (h0 : b ≠ 0) (hq : a / b = q) (hr : a % b = r) : Calls Tryd.prog 72 #[num a, num b] w' fun e w2 => e = .returned (.tuple #[num q, num r, .int .i64 0]) ∧ Env w l w2 :=
  env_of (div_b a b q r w' ha hb h0 hq hr) h
theorem div_none_at (a : Nat) {w w' : World} {l : List (Nat × Nat)} (h : Env w l w') : Calls Tryd.prog 72 #[num a, num 0] w' fun e w2 => e = .returned (.tuple #[num 0, num 0, .int .i64 1]) ∧ Env w l w2 :=
  env_of (div_none a w') h
theorem bring_at (r a c m q s : Nat) {w w' : World} {l : List (Nat × Nat)} (h : Env w l w') (hr : r < m) (hm : m < 2 ^ 256) (ha : a < 2 ^ 256) (hc : c ≤ 256) (hq : (r * 2 ^ c + a % 2 ^ c) / m = q) (hs : (r * 2 ^ c + a % 2 ^ c) % m = s) :
    Calls Tryd.prog 73 #[num r, num a, .int .i64 (c : Int), num m] w' fun e w2 => e = .returned (.tuple #[num q, num s]) ∧ Env w l w2 :=
  env_of (bring_b r a c m q s w' hr hm ha hc hq hs) h

/-- what is left of high and low together -/
def wid (lo hi m : Nat) : Nat := (lo + 2 ^ 256 * hi) % m
theorem wid_lt {lo hi m : Nat} (h0 : m ≠ 0) (hm : m < 2 ^ 256) : wid lo hi m < 2 ^ 256 := Nat.lt_trans (Nat.mod_lt _ (by omega)) hm
theorem wid_zero {lo hi m : Nat} (h : hi % m = 0) : wid lo hi m = lo % m := by
  unfold wid
  rw [Nat.add_mod, Nat.mul_mod, h, Nat.mul_zero, Nat.zero_mod, Nat.add_zero, Nat.mod_mod]
theorem wid_some {lo hi m : Nat} (hl : lo < 2 ^ 256) : (hi % m * 2 ^ 256 + lo % 2 ^ 256) % m = wid lo hi m := by
  unfold wid
  rw [Nat.mod_eq_of_lt hl, Nat.add_comm, Nat.add_mod, Nat.mod_mul_mod, ← Nat.add_mod, Nat.mul_comm hi]

set_option maxRecDepth 100000 in
set_option maxHeartbeats 3200000 in
theorem wide_none (lo hi : Nat) (w : World) : Calls Tryd.prog 51 #[num lo, num hi, num 0] w fun e w' => e = .returned (.tuple #[num 0, .int .i64 1]) ∧ Below w.heap.size w w' := by
  have HE := hid (((((Env.refl w).new lo).new hi).new 0).zero)
  go_enter Tryd.func51, Tryd.ntmps51
  go_wp2_with fail
  refine (div_none_at hi HE.out).mono ?_
  rintro e u1 ⟨rfl, h⟩
  have H1 := hid (h.perm (l' := [(w.heap.size + 1 + 1 + 1, 0)]) (by simp))
  have D := hid (show w.heap.size ≤ w.heap.size + 1 + 1 + 1 by omega)
  clear h HE
  generalize w.heap.size + 1 + 1 + 1 = g6 at *
  obtain ⟨z0, z1, z2, z3⟩ := H1.out.cell g6 0 (by simp)
  have l6 := H1.out.lt g6 0 (by simp)
  have f6 := H1.out.frozen g6 0 (by simp)
  have HZ := hid ((H1.out.set g6 0 0 [] (by simp) D.out (by simp)).new2 0 0)
  go_wp2
  clear z0 z1 z2 z3 l6 f6
  change bodyPost _ _ _ _ _ (((fil u1 g6 0).alloc (.cells (cls 0) 26)).alloc (.cells (cls 0) 26))
  generalize ((fil u1 g6 0).alloc (.cells (cls 0) 26)).alloc (.cells (cls 0) 26) = wz at *
  obtain ⟨k0, k1, k2, k3⟩ := HZ.out.cell g6 0 (by simp)
  exact bodyPost_ret (v := .tuple #[num 0, .int .i64 1]) (by simp [results, Tryd.results51, go_sem, k0, k1, k2, k3]) rfl ⟨rfl, HZ.out.1⟩
set_option maxRecDepth 100000 in
set_option maxHeartbeats 3200000 in
theorem wide_zero (lo hi m : Nat) (w : World) (hlo : lo < 2 ^ 256) (hhi : hi < 2 ^ 256) (hm : m < 2 ^ 256) (h0 : m ≠ 0) (hr : hi % m = 0) : Calls Tryd.prog 51 #[num lo, num hi, num m] w fun e w' => e = .returned (.tuple #[num (wid lo hi m), .int .i64 0]) ∧ Below w.heap.size w w' := by
  rw [wid_zero hr]
  obtain ⟨s, es⟩ : ∃ s, lo % m = s := ⟨_, rfl⟩
  rw [es]
  have E0 := hid hr
  have qn := eq_none_yes
  obtain ⟨q2, eq2⟩ : ∃ q2, lo / m = q2 := ⟨_, rfl⟩
  obtain ⟨q, eq⟩ : ∃ q, hi / m = q := ⟨_, rfl⟩
  have LO := hid hlo
  have HI := hid hhi
  have HM := hid hm
  have H0 := hid h0
  have EQ := hid eq
  have EQ2 := hid eq2
  have ES := hid es
  clear hlo hhi hm h0 eq eq2 es hr
  have HE := hid ((((((Env.refl w).new lo).new hi).new m).zero).perm (l' := [(w.heap.size, lo), (w.heap.size + 1 + 1, m), (w.heap.size + 1 + 1 + 1, 0)]) (by simp))
  have D := hid (show w.heap.size ≤ w.heap.size + 1 + 1 + 1 by omega)
  go_enter Tryd.func51, Tryd.ntmps51
  go_wp2_with fail
  refine (div_at hi m q 0 HE.out HI.out HM.out H0.out EQ.out E0.out).mono ?_
  rintro e u1 ⟨rfl, h⟩
  have H1 := hid h
  clear h HE
  generalize w.heap.size + 1 + 1 + 1 = g6 at *
  generalize w.heap.size + 1 + 1 = g5 at *
  generalize hg3 : w.heap.size = g3 at *
  obtain ⟨a0, a1, a2, a3⟩ := H1.out.cell g3 lo (by simp)
  have l3 := H1.out.lt g3 lo (by simp)
  obtain ⟨m0, m1, m2, m3⟩ := H1.out.cell g5 m (by simp)
  have l5 := H1.out.lt g5 m (by simp)
  go_wp2_with fail
  clear a0 a1 a2 a3 l3 m0 m1 m2 m3 l5 qn
  have H1b := hid (H1.out.new2 q 0)
  have N6 := hid (show g6 ≠ u1.heap.size + 1 by have := H1.out.lt g6 0 (by simp); omega)
  have G9 := hid (show w.heap.size ≤ u1.heap.size + 1 by have := H1.out.1.size; omega)
  clear H1
  generalize (u1.alloc (.cells (cls q) 26)).alloc (.cells (cls 0) 26) = u1b at *
  generalize u1.heap.size = g8 at *
  refine (div_at lo m q2 s H1b.out LO.out HM.out H0.out EQ2.out ES.out).mono ?_
  rintro e u2 ⟨rfl, h⟩
  have H2 := hid h
  clear h H1b
  obtain ⟨a0, a1, a2, a3⟩ := H2.out.cell (g8 + 1) 0 (by simp)
  have l9 := H2.out.lt (g8 + 1) 0 (by simp)
  have f9 := H2.out.frozen (g8 + 1) 0 (by simp)
  obtain ⟨b0, b1, b2, b3⟩ := H2.out.cell g6 0 (by simp)
  have l6 := H2.out.lt g6 0 (by simp)
  have f6 := H2.out.frozen g6 0 (by simp)
  have n6 : g6 ≠ g8 + 1 := N6.out
  have n6' : (g6 = g8 + 1) = False := eq_false n6
  have n6'' : (g8 + 1 = g6) = False := eq_false (Ne.symm n6)
  have HZ := hid ((H2.out.set (g8 + 1) 0 s [(g6, 0)] (by simp) G9.out (by simp; exact n6)).set g6 0 s [] (by simp) (by rw [hg3]; exact D.out) (by simp))
  go_wp2
  clear a0 a1 a2 a3 l9 f9 b0 b1 b2 b3 l6 f6
  change bodyPost _ _ _ _ _ (fil (fil u2 (g8 + 1) s) g6 s)
  generalize fil (fil u2 (g8 + 1) s) g6 s = wz at *
  obtain ⟨k0, k1, k2, k3⟩ := HZ.out.cell g6 s (by simp)
  exact bodyPost_ret (v := .tuple #[num s, .int .i64 0]) (by simp [results, Tryd.results51, go_sem, k0, k1, k2, k3]) rfl ⟨rfl, HZ.out.1⟩
set_option maxRecDepth 100000 in
set_option maxHeartbeats 3200000 in
theorem wide_rest (lo hi m : Nat) (w : World) (hlo : lo < 2 ^ 256) (hhi : hi < 2 ^ 256) (hm : m < 2 ^ 256) (h0 : m ≠ 0) (hr : hi % m ≠ 0) : Calls Tryd.prog 51 #[num lo, num hi, num m] w fun e w' => e = .returned (.tuple #[num (wid lo hi m), .int .i64 0]) ∧ Below w.heap.size w w' := by
  have hs := wid_some (m := m) (hi := hi) hlo
  obtain ⟨s, es'⟩ : ∃ s, wid lo hi m = s := ⟨_, rfl⟩
  rw [es'] at hs ⊢
  clear es'
  have hrl := Nat.mod_lt hi (Nat.pos_of_ne_zero h0)
  obtain ⟨r, er⟩ : ∃ r, hi % m = r := ⟨_, rfl⟩
  rw [er] at hr hs hrl
  have es := hs
  have E0 := hid er
  have RL := hid hrl
  have qn := eq_none r (Nat.lt_trans hrl hm) hr
  obtain ⟨q2, eq2⟩ : ∃ q2, (r * 2 ^ 256 + lo % 2 ^ 256) / m = q2 := ⟨_, rfl⟩
  obtain ⟨q, eq⟩ : ∃ q, hi / m = q := ⟨_, rfl⟩
  have LO := hid hlo
  have HI := hid hhi
  have HM := hid hm
  have H0 := hid h0
  have EQ := hid eq
  have EQ2 := hid eq2
  have ES := hid es
  clear hlo hhi hm h0 eq eq2 es hr hs hrl er
  have HE := hid ((((((Env.refl w).new lo).new hi).new m).zero).perm (l' := [(w.heap.size, lo), (w.heap.size + 1 + 1, m), (w.heap.size + 1 + 1 + 1, 0)]) (by simp))
  have D := hid (show w.heap.size ≤ w.heap.size + 1 + 1 + 1 by omega)
  go_enter Tryd.func51, Tryd.ntmps51
  go_wp2_with fail
  refine (div_at hi m q r HE.out HI.out HM.out H0.out EQ.out E0.out).mono ?_
  rintro e u1 ⟨rfl, h⟩
  have H1 := hid h
  clear h HE
  generalize w.heap.size + 1 + 1 + 1 = g6 at *
  generalize w.heap.size + 1 + 1 = g5 at *
  generalize hg3 : w.heap.size = g3 at *
  obtain ⟨a0, a1, a2, a3⟩ := H1.out.cell g3 lo (by simp)
  have l3 := H1.out.lt g3 lo (by simp)
  obtain ⟨m0, m1, m2, m3⟩ := H1.out.cell g5 m (by simp)
  have l5 := H1.out.lt g5 m (by simp)
  go_wp2_with fail
  clear a0 a1 a2 a3 l3 m0 m1 m2 m3 l5 qn
  have H1b := hid (H1.out.new2 q r)
  have N6 := hid (show g6 ≠ u1.heap.size + 1 by have := H1.out.lt g6 0 (by simp); omega)
  have G9 := hid (show w.heap.size ≤ u1.heap.size + 1 by have := H1.out.1.size; omega)
  clear H1
  generalize (u1.alloc (.cells (cls q) 26)).alloc (.cells (cls r) 26) = u1b at *
  generalize u1.heap.size = g8 at *
  refine (bring_at r lo 256 m q2 s H1b.out RL.out HM.out LO.out (by decide) EQ2.out ES.out).mono ?_
  rintro e u2 ⟨rfl, h⟩
  have H2 := hid h
  clear h H1b
  obtain ⟨a0, a1, a2, a3⟩ := H2.out.cell (g8 + 1) r (by simp)
  have l9 := H2.out.lt (g8 + 1) r (by simp)
  have f9 := H2.out.frozen (g8 + 1) r (by simp)
  obtain ⟨b0, b1, b2, b3⟩ := H2.out.cell g6 0 (by simp)
  have l6 := H2.out.lt g6 0 (by simp)
  have f6 := H2.out.frozen g6 0 (by simp)
  have n6 : g6 ≠ g8 + 1 := N6.out
  have n6' : (g6 = g8 + 1) = False := eq_false n6
  have n6'' : (g8 + 1 = g6) = False := eq_false (Ne.symm n6)
  have HZ := hid ((H2.out.set (g8 + 1) r s [(g6, 0)] (by simp) G9.out (by simp; exact n6)).set g6 0 s [] (by simp) (by rw [hg3]; exact D.out) (by simp))
  go_wp2
  clear a0 a1 a2 a3 l9 f9 b0 b1 b2 b3 l6 f6
  change bodyPost _ _ _ _ _ (fil (fil u2 (g8 + 1) s) g6 s)
  generalize fil (fil u2 (g8 + 1) s) g6 s = wz at *
  obtain ⟨k0, k1, k2, k3⟩ := HZ.out.cell g6 s (by simp)
  exact bodyPost_ret (v := .tuple #[num s, .int .i64 0]) (by simp [results, Tryd.results51, go_sem, k0, k1, k2, k3]) rfl ⟨rfl, HZ.out.1⟩
theorem wide_some (lo hi m : Nat) (w : World) (hlo : lo < 2 ^ 256) (hhi : hi < 2 ^ 256) (hm : m < 2 ^ 256) (h0 : m ≠ 0) : Calls Tryd.prog 51 #[num lo, num hi, num m] w fun e w' => e = .returned (.tuple #[num (wid lo hi m), .int .i64 0]) ∧ Below w.heap.size w w' := by
  by_cases hr : hi % m = 0
  · exact wide_zero lo hi m w hlo hhi hm h0 hr
  · exact wide_rest lo hi m w hlo hhi hm h0 hr
theorem wide_b (lo hi m s : Nat) (w : World) (hlo : lo < 2 ^ 256) (hhi : hi < 2 ^ 256) (hm : m < 2 ^ 256) (h0 : m ≠ 0) (hs : wid lo hi m = s) : Calls Tryd.prog 51 #[num lo, num hi, num m] w fun e w' => e = .returned (.tuple #[num s, .int .i64 0]) ∧ Below w.heap.size w w' := by
  subst hs; exact wide_some lo hi m w hlo hhi hm h0
theorem wide_at (lo hi m s : Nat) {w w' : World} {l : List (Nat × Nat)} (h : Env w l w') (hlo : lo < 2 ^ 256) (hhi : hi < 2 ^ 256) (hm : m < 2 ^ 256) (h0 : m ≠ 0) (hs : wid lo hi m = s) : Calls Tryd.prog 51 #[num lo, num hi, num m] w' fun e w2 => e = .returned (.tuple #[num s, .int .i64 0]) ∧ Env w l w2 :=
  env_of (wide_b lo hi m s w' hlo hhi hm h0 hs) h
theorem wide_none_at (lo hi : Nat) {w w' : World} {l : List (Nat × Nat)} (h : Env w l w') : Calls Tryd.prog 51 #[num lo, num hi, num 0] w' fun e w2 => e = .returned (.tuple #[num 0, .int .i64 1]) ∧ Env w l w2 :=
  env_of (wide_none lo hi w') h
end Go.Proofs.YtcijnoapjicliaaDoor
namespace Go.Proofs.YtcijnoapjicliaaDoor
open Go.RowKit
set_option linter.unusedVariables false

theorem rlof_any (n : Nat) (w : World) (h : n < 18446744073709551616) : Calls Tryd.prog 57 #[.int .u64 (n : Int)] w fun e w' => e = .returned (num n) ∧ Below w.heap.size w w' := by
  have hn := hid (num_small n h)
  go_enter Tryd.func57, Tryd.ntmps57
  go_wp2
  refine bodyPost_ret (v := .agg #[.int .u64 (n : Int), .int .u64 0, .int .u64 0, .int .u64 0]) (by simp [results, Tryd.results57, go_sem]) rfl ⟨by rw [hn.out], ?_⟩
  repeat (first | exact Below.refl _ _ | refine Below.drew ?_ | refine bal ?_ _)

theorem tm2 (a p : Nat) : (((a : Int) / 2 ^ p).tmod 2) = ((a / 2 ^ p % 2 : Nat) : Int) := by
  have e : ((a : Int) / 2 ^ p) = ((a / 2 ^ p : Nat) : Int) := by simp
  rw [e, Int.tmod_eq_emod_of_nonneg (Int.natCast_nonneg _)]
  exact (Int.natCast_emod _ _).symm
end Go.Proofs.YtcijnoapjicliaaDoor
namespace Go.Proofs.YtcijnoapjicliaaDoor
open Go.RowKit
set_option linter.unusedVariables false

theorem Env.hd {w w' : World} {l : List (Nat × Nat)} {g x : Nat} (h : Env w ((g, x) :: l) w') : (w'.cell? ⟨g, 0, none⟩ = some (.int .u64 (wd x 0 : Int)) ∧ w'.cell? ⟨g, 1, none⟩ = some (.int .u64 (wd x 1 : Int)) ∧ w'.cell? ⟨g, 2, none⟩ = some (.int .u64 (wd x 2 : Int)) ∧ w'.cell? ⟨g, 3, none⟩ = some (.int .u64 (wd x 3 : Int))) ∧ (∀ i, w'.frozen? ⟨g, i, none⟩ = false) ∧ g < w'.heap.size ∧ g ≠ w'.heap.size :=
  ⟨h.cell g x (by simp), h.frozen g x (by simp), h.lt g x (by simp), Nat.ne_of_lt (h.lt g x (by simp))⟩
theorem Env.tl {w w' : World} {l : List (Nat × Nat)} {g x : Nat} (h : Env w ((g, x) :: l) w') : Env w l w' := h.perm (by intro p hp; simp [hp])
/-- a block that none of these is, made since -/
def Fsh (w : World) (l : List (Nat × Nat)) (g : Nat) : Prop := w.heap.size ≤ g ∧ ∀ p ∈ l, p.1 ≠ g
theorem Env.fresh {w w' : World} {l : List (Nat × Nat)} (h : Env w l w') : Fsh w l w'.heap.size := ⟨h.1.size, fun p hp => Nat.ne_of_lt (h.2 p hp).lt⟩
theorem Fsh.ne {w : World} {l : List (Nat × Nat)} {g g' x : Nat} (h : Fsh w ((g, x) :: l) g') : g ≠ g' ∧ (g = g') = False ∧ (g' = g) = False := by
  have := h.2 (g, x) (by simp)
  exact ⟨this, eq_false this, eq_false (Ne.symm this)⟩
theorem Env.setHd {w w' : World} {l : List (Nat × Nat)} {g x : Nat} (h : Env w ((g, x) :: l) w') (hf : Fsh w l g) (y : Nat) : Env w ((g, y) :: l) (fil w' g y) :=
  h.set g x y l (by simp) hf.1 (fun p hp => ⟨by simp [hp], hf.2 p hp⟩)
theorem Env.setHd2 {w w' : World} {l : List (Nat × Nat)} {g1 g2 x1 x2 : Nat} (h : Env w ((g2, x2) :: (g1, x1) :: l) w') (hf2 : Fsh w l g1) (hf : Fsh w ((g1, x1) :: l) g2) (y1 y2 : Nat) : Env w ((g1, y1) :: (g2, y2) :: l) (fil (fil w' g1 y1) g2 y2) ∧ Env w ((g1, y1) :: (g2, y2) :: l) (fil (fil w' g2 y2) g1 y1) := by
  have hne := hf.ne.1
  constructor
  · have h1 := h.set g1 x1 y1 ((g2, x2) :: l) (by simp) hf2.1 (fun p hp => by
      rcases List.mem_cons.1 hp with rfl | hp
      · exact ⟨by simp, Ne.symm hne⟩
      · exact ⟨by simp [hp], hf2.2 p hp⟩)
    exact (h1.set g2 x2 y2 ((g1, y1) :: l) (by simp) hf.1 (fun p hp => by
      rcases List.mem_cons.1 hp with rfl | hp
      · exact ⟨by simp, hne⟩
      · exact ⟨by simp [hp], hf.2 p (by simp [hp])⟩)).perm (by intro p hp; simp only [List.mem_cons] at hp ⊢; rcases hp with h | h | h <;> simp [h])
  · have h1 := h.setHd hf y2
    exact h1.set g1 x1 y1 ((g2, y2) :: l) (by simp) hf2.1 (fun p hp => by
      rcases List.mem_cons.1 hp with rfl | hp
      · exact ⟨by simp, Ne.symm hne⟩
      · exact ⟨by simp [hp], hf2.2 p hp⟩)
theorem Env.fresh2 {w w' : World} {l : List (Nat × Nat)} (h : Env w l w') (x : Nat) : Fsh w ((w'.heap.size, x) :: l) (w'.heap.size + 1) :=
  ⟨Nat.le_succ_of_le h.1.size, fun p hp => by
    rcases List.mem_cons.1 hp with rfl | hp
    · exact Nat.ne_of_lt (Nat.lt_succ_self _)
    · exact Nat.ne_of_lt (Nat.lt_succ_of_lt (h.2 p hp).lt)⟩
theorem Env.dr {w w' : World} {l : List (Nat × Nat)} (h : Env w l w') : Env w l w'.drew := h.drew
end Go.Proofs.YtcijnoapjicliaaDoor
namespace Go.Proofs.YtcijnoapjicliaaDoor
open Go.RowKit
set_option linter.unusedVariables false

theorem cmp_mod (x k : Nat) : x % 18446744073709551616 ^ (k + 1) = x % 18446744073709551616 ^ k + 18446744073709551616 ^ k * wd x k := by
  unfold wd
  rw [Nat.pow_succ, Nat.mod_mul]
theorem low_less {r s P A B : Nat} (hr : r < P) (h : A < B) : r + P * A < s + P * B := by
  have := Nat.mul_le_mul_left P h
  rw [Nat.mul_succ] at this
  omega
theorem lcmp_less (x y k : Nat) (h : wd x k < wd y k) : cmpN (x % 18446744073709551616 ^ (k + 1)) (y % 18446744073709551616 ^ (k + 1)) = -1 := by
  rw [cmp_mod x k, cmp_mod y k]
  unfold cmpN
  rw [if_pos (low_less (Nat.mod_lt _ (Nat.pow_pos (by decide))) h)]
theorem cmp_more (x y k : Nat) (h : wd y k < wd x k) : cmpN (x % 18446744073709551616 ^ (k + 1)) (y % 18446744073709551616 ^ (k + 1)) = 1 := by
  rw [cmp_mod x k, cmp_mod y k]
  unfold cmpN
  have h1 := low_less (s := x % 18446744073709551616 ^ k) (Nat.mod_lt y (Nat.pow_pos (n := k) (by decide : 0 < 18446744073709551616))) h
  rw [if_neg (by omega), if_pos h1]
theorem cmp_like (x y k : Nat) (h : wd x k = wd y k) : cmpN (x % 18446744073709551616 ^ (k + 1)) (y % 18446744073709551616 ^ (k + 1)) = cmpN (x % 18446744073709551616 ^ k) (y % 18446744073709551616 ^ k) := by
  rw [cmp_mod x k, cmp_mod y k, h]
  generalize x % 18446744073709551616 ^ k = r
  generalize y % 18446744073709551616 ^ k = s
  unfold cmpN
  split <;> split <;> (try split) <;> omega
theorem word_k {w : World} {g x : Nat} (h : Nm w g x) (k : Nat) (hk : k < 4) : w.cell? ⟨g, k, none⟩ = some (.int .u64 (wd x k : Int)) := by
  obtain ⟨h0, h1, h2, h3⟩ := h.cell
  match k, hk with
  | 0, _ => exact h0
  | 1, _ => exact h1
  | 2, _ => exact h2
  | 3, _ => exact h3
theorem Env.drewN {w w' : World} {l : List (Nat × Nat)} (h : Env w l w') (n : Nat) : Env w l (w'.drewN n) := by
  induction n with
  | zero => exact h
  | succ n ih => exact ih.drew

set_option maxRecDepth 100000 in
set_option maxHeartbeats 1600000 in
theorem rcmp_any (x y : Nat) (w : World) (hx : x < 2 ^ 256) (hy : y < 2 ^ 256) : Calls Tryd.prog 21 #[num x, num y] w fun e w' => e = .returned (.int .i64 (cmpN x y)) ∧ Below w.heap.size w w' := by
  have HX := hid hx
  have HY := hid hy
  have HE := hid ((Env.refl w).new2 x y)
  clear hx hy
  go_enter Tryd.func21, Tryd.ntmps21
  go_wp2
  generalize (w.alloc (.cells (cls x) 26)).alloc (.cells (cls y) 26) = w0 at *
  generalize w.heap.size + 1 = gb at *
  generalize w.heap.size = ga at *
  go_loopw [5, 6] (fun o i wr => ∃ (k : Nat) (z : Int), k ≤ 4 ∧ i = .int .i64 k ∧ o = .int .i64 z ∧ Hid (z = cmpN (x % 18446744073709551616 ^ k) (y % 18446744073709551616 ^ k)) ∧ Hid (Env w [(gb, y), (ga, x)] wr)) (fun _ i _ => 4 - (intOf i).toNat)
  case atStart => exact ⟨0, 0, by omega, rfl, rfl, hid (by simp [Nat.mod_one, cmpN]), HE⟩
  case round =>
    obtain ⟨k, z, hk, rfl, rfl, HZ, HE⟩ := hrel
    by_cases hlt : k < 4
    · have ca := word_k (HE.out.nm ga x (by simp)) k hlt
      have cb := word_k (HE.out.nm gb y (by simp)) k hlt
      rcases Nat.lt_trichotomy (wd x k) (wd y k) with g1 | g1 | g1
      · have HC := hid (lcmp_less x y k g1)
        have g2 : ¬ wd y k < wd x k := by omega
        have d1 : decide (wd x k < wd y k) = true := by simpa using g1
        have d2 : decide (wd y k < wd x k) = false := by simpa using g2
        go_wp2
        go_quiet (fail)
        have ca2 : (wr.drewN nq).cell? ⟨ga, k, none⟩ = some (.int .u64 (wd x k : Int)) := ca
        have cb2 : (wr.drewN nq).cell? ⟨gb, k, none⟩ = some (.int .u64 (wd y k : Int)) := cb
        have HE2 := hid (HE.out.drewN nq)
        clear ca cb HE
        generalize wr.drewN nq = w2 at *
        go_wp2
        go_quiet (fail)
        go_wp2
        go_roundw
        case rel => exact ⟨k + 1, -1, by omega, by go_num, rfl, hid HC.out.symm, hid (HE2.out.drewN _)⟩
        case measure => simp [intOf]; omega
      · have HC := hid (cmp_like x y k g1)
        have g2 : ¬ wd y k < wd x k := by omega
        have g3 : ¬ wd x k < wd y k := by omega
        have d1 : decide (wd x k < wd y k) = false := by simpa using g3
        have d2 : decide (wd y k < wd x k) = false := by simpa using g2
        clear g1
        go_wp2
        go_quiet (fail)
        have ca2 : (wr.drewN nq).cell? ⟨ga, k, none⟩ = some (.int .u64 (wd x k : Int)) := ca
        have cb2 : (wr.drewN nq).cell? ⟨gb, k, none⟩ = some (.int .u64 (wd y k : Int)) := cb
        have HE2 := hid (HE.out.drewN nq)
        clear ca cb HE
        generalize wr.drewN nq = w2 at *
        go_wp2
        go_quiet (fail)
        go_wp2
        go_roundw
        case rel => exact ⟨k + 1, z, by omega, by go_num, rfl, hid (by rw [HC.out]; exact HZ.out), hid (HE2.out.drewN _)⟩
        case measure => simp [intOf]; omega
      · have HC := hid (cmp_more x y k g1)
        have g3 : ¬ wd x k < wd y k := by omega
        have d1 : decide (wd x k < wd y k) = false := by simpa using g3
        have d2 : decide (wd y k < wd x k) = true := by simpa using g1
        go_wp2
        go_quiet (fail)
        have ca2 : (wr.drewN nq).cell? ⟨ga, k, none⟩ = some (.int .u64 (wd x k : Int)) := ca
        have cb2 : (wr.drewN nq).cell? ⟨gb, k, none⟩ = some (.int .u64 (wd y k : Int)) := cb
        have HE2 := hid (HE.out.drewN nq)
        clear ca cb HE
        generalize wr.drewN nq = w2 at *
        go_wp2
        go_quiet (fail)
        go_wp2
        go_roundw
        case rel => exact ⟨k + 1, 1, by omega, by go_num, rfl, hid HC.out.symm, hid (HE2.out.drewN _)⟩
        case measure => simp [intOf]; omega
    · obtain rfl : k = 4 := by omega
      have HZ2 := hid (p := z = cmpN x y) (by
        have := HZ.out
        rw [show (18446744073709551616 : Nat) ^ 4 = 2 ^ 256 by decide, Nat.mod_eq_of_lt HX.out, Nat.mod_eq_of_lt HY.out] at this
        exact this)
      clear HZ
      go_wp2
      go_ret
      exact ⟨by rw [← HZ2.out]; rfl, HE.out.1⟩
end Go.Proofs.YtcijnoapjicliaaDoor
namespace Go.Proofs.YtcijnoapjicliaaDoor
open Go.RowKit
set_option linter.unusedVariables false

/-- what the loop carries: the two numbers' boxes, and those of what is gathered -/
def Sp (w : World) (ga gb gl gh a b lo hi : Nat) (w' : World) : Prop := Env w [(gh, hi), (gl, lo), (gb, b), (ga, a)] w' ∧ gl ≠ ga ∧ gl ≠ gb ∧ gl ≠ gh ∧ gh ≠ ga ∧ gh ≠ gb ∧ w.heap.size ≤ gl ∧ w.heap.size ≤ gh
section
variable {w w' w2 : World} {ga gb gl gh a b lo hi : Nat}
theorem Sp.on (h : Sp w ga gb gl gh a b lo hi w') (hb : Below w'.heap.size w' w2) : Sp w ga gb gl gh a b lo hi w2 := ⟨h.1.on hb, h.2⟩
theorem Sp.drew (h : Sp w ga gb gl gh a b lo hi w') : Sp w ga gb gl gh a b lo hi w'.drew := ⟨h.1.drew, h.2⟩
theorem Sp.setLo (h : Sp w ga gb gl gh a b lo hi w') (x : Nat) : Sp w ga gb gl gh a b x hi (fil w' gl x) := by
  obtain ⟨⟨hb, hm⟩, h1, h2, h3, h4, h5, h6, h7⟩ := h
  refine ⟨⟨fil_below x hb h6, fun p hp => ?_⟩, h1, h2, h3, h4, h5, h6, h7⟩
  simp only [List.mem_cons, List.not_mem_nil, or_false] at hp
  rcases hp with rfl | rfl | rfl | rfl
  · exact fil_other x hi (hm (gh, hi) (by simp)) (Ne.symm h3)
  · exact fil_nm x (hm (gl, lo) (by simp)).fr
  · exact fil_other x b (hm (gb, b) (by simp)) (Ne.symm h2)
  · exact fil_other x a (hm (ga, a) (by simp)) (Ne.symm h1)
theorem Sp.setHi (h : Sp w ga gb gl gh a b lo hi w') (x : Nat) : Sp w ga gb gl gh a b lo x (fil w' gh x) := by
  obtain ⟨⟨hb, hm⟩, h1, h2, h3, h4, h5, h6, h7⟩ := h
  refine ⟨⟨fil_below x hb h7, fun p hp => ?_⟩, h1, h2, h3, h4, h5, h6, h7⟩
  simp only [List.mem_cons, List.not_mem_nil, or_false] at hp
  rcases hp with rfl | rfl | rfl | rfl
  · exact fil_nm x (hm (gh, hi) (by simp)).fr
  · exact fil_other x lo (hm (gl, lo) (by simp)) h3
  · exact fil_other x b (hm (gb, b) (by simp)) (Ne.symm h5)
  · exact fil_other x a (hm (ga, a) (by simp)) (Ne.symm h4)
theorem sp_of {f : FuncId} {args : Array Value} {v : Value} (hc : Calls Tryd.prog f args w' fun e w2 => e = .returned v ∧ Below w'.heap.size w' w2) (h : Sp w ga gb gl gh a b lo hi w') : Calls Tryd.prog f args w' fun e w2 => e = .returned v ∧ Sp w ga gb gl gh a b lo hi w2 :=
  hc.mono fun e w2 ⟨he, hb⟩ => ⟨he, h.on hb⟩
theorem Sp.cells (h : Sp w ga gb gl gh a b lo hi w') : (w'.cell? ⟨ga, 0, none⟩ = some (.int .u64 (wd a 0 : Int)) ∧ w'.cell? ⟨ga, 1, none⟩ = some (.int .u64 (wd a 1 : Int)) ∧ w'.cell? ⟨ga, 2, none⟩ = some (.int .u64 (wd a 2 : Int)) ∧ w'.cell? ⟨ga, 3, none⟩ = some (.int .u64 (wd a 3 : Int)))
    ∧ (w'.cell? ⟨gl, 0, none⟩ = some (.int .u64 (wd lo 0 : Int)) ∧ w'.cell? ⟨gl, 1, none⟩ = some (.int .u64 (wd lo 1 : Int)) ∧ w'.cell? ⟨gl, 2, none⟩ = some (.int .u64 (wd lo 2 : Int)) ∧ w'.cell? ⟨gl, 3, none⟩ = some (.int .u64 (wd lo 3 : Int)))
    ∧ (w'.cell? ⟨gh, 0, none⟩ = some (.int .u64 (wd hi 0 : Int)) ∧ w'.cell? ⟨gh, 1, none⟩ = some (.int .u64 (wd hi 1 : Int)) ∧ w'.cell? ⟨gh, 2, none⟩ = some (.int .u64 (wd hi 2 : Int)) ∧ w'.cell? ⟨gh, 3, none⟩ = some (.int .u64 (wd hi 3 : Int)))
    ∧ (∀ i, w'.frozen? ⟨gl, i, none⟩ = false) ∧ (∀ i, w'.frozen? ⟨gh, i, none⟩ = false) :=
  ⟨h.1.cell ga a (by simp), h.1.cell gl lo (by simp), h.1.cell gh hi (by simp), (h.1.nm gl lo (by simp)).fr.frozen, (h.1.nm gh hi (by simp)).fr.frozen⟩
end
end Go.Proofs.YtcijnoapjicliaaDoor
namespace Go.Proofs.YtcijnoapjicliaaDoor
open Go.RowKit
set_option linter.unusedVariables false

def wvs (ws : List Nat) : List Value := ws.map fun (d : Nat) => .int .u64 (d : Int)
/-- block g holds these words -/
def Wl (w : World) (g : Nat) (ws : List Nat) : Prop := w.heap[g]? = some (.cells (wvs ws).toArray 26 (0, 0))
theorem Wl.cell {w : World} {g : Nat} {ws : List Nat} (h : Wl w g ws) (k : Nat) (hk : k < ws.length) : w.cell? ⟨g, k, none⟩ = some (.int .u64 (ws[k] : Int)) := by
  rw [cell_of_row w g k _ 26 (0, 0) h]; simp [wvs, hk]
theorem Wl.frozen {w : World} {g : Nat} {ws : List Nat} (h : Wl w g ws) (i : Nat) : w.frozen? ⟨g, i, none⟩ = false := by
  unfold Wl at h; simp [World.frozen?, h]
theorem Wl.set {w : World} {g : Nat} {ws : List Nat} (h : Wl w g ws) (k v : Nat) : Wl (w.setCell ⟨g, k, none⟩ (.int .u64 (v : Int))) g (ws.set k v) := by
  unfold Wl at h ⊢; simp [World.setCell, Array.getElem?_modify, h, wvs, List.map_set]
theorem Nm.at {w : World} {g x : Nat} (h : Nm w g x) (k : Nat) (hk : k < 4) : w.cell? ⟨g, k, none⟩ = some (.int .u64 (wd x k : Int)) := by
  obtain ⟨h0, h1, h2, h3⟩ := h.cell
  match k, hk with
  | 0, _ => exact h0
  | 1, _ => exact h1
  | 2, _ => exact h2
  | 3, _ => exact h3
/-- the number that words tell, the lowest first -/
def vw : List Nat → Nat
  | [] => 0
  | d :: r => d + 18446744073709551616 * vw r
theorem vw_take (l : List Nat) (k : Nat) (hk : k < l.length) : vw (l.take (k + 1)) = vw (l.take k) + 18446744073709551616 ^ k * l[k] := by
  induction l generalizing k with
  | nil => simp at hk
  | cons d r ih =>
    match k with
    | 0 => simp [vw]
    | k + 1 =>
      have h := ih k (by simpa using hk)
      simp only [List.take_succ_cons, vw, List.getElem_cons_succ]
      rw [h, Nat.mul_add, Nat.pow_succ, Nat.mul_comm (18446744073709551616 ^ k) 18446744073709551616, Nat.mul_assoc]
      omega
theorem vw_set (l : List Nat) (k t : Nat) (hk : k < l.length) : vw ((l.set k t).take (k + 1)) = vw (l.take k) + 18446744073709551616 ^ k * t := by
  rw [vw_take _ _ (by simpa using hk), List.getElem_set_self, List.take_set_of_le (Nat.le_refl k)]
theorem mod_word (x k : Nat) : x % 18446744073709551616 ^ (k + 1) = x % 18446744073709551616 ^ k + 18446744073709551616 ^ k * wd x k := by
  unfold wd
  rw [Nat.pow_succ, Nat.mod_mul]
theorem add_step (x y k c c' t : Nat) (ws : List Nat) (hk : k < ws.length) (h : x % 18446744073709551616 ^ k + y % 18446744073709551616 ^ k = vw (ws.take k) + 18446744073709551616 ^ k * c) (ht : t + 18446744073709551616 * c' = wd x k + wd y k + c) :
    x % 18446744073709551616 ^ (k + 1) + y % 18446744073709551616 ^ (k + 1) = vw ((ws.set k t).take (k + 1)) + 18446744073709551616 ^ (k + 1) * c' := by
  rw [mod_word x k, mod_word y k, vw_set ws k t hk, Nat.pow_succ, Nat.mul_assoc]
  have e : 18446744073709551616 ^ k * t + 18446744073709551616 ^ k * (18446744073709551616 * c') = 18446744073709551616 ^ k * wd x k + 18446744073709551616 ^ k * wd y k + 18446744073709551616 ^ k * c := by
    rw [← Nat.mul_add, ht, Nat.mul_add, Nat.mul_add]
  omega
theorem sub_step (x y k c c' t : Nat) (ws : List Nat) (hk : k < ws.length) (h : vw (ws.take k) + y % 18446744073709551616 ^ k = x % 18446744073709551616 ^ k + 18446744073709551616 ^ k * c) (ht : t + wd y k + c = wd x k + 18446744073709551616 * c') :
    vw ((ws.set k t).take (k + 1)) + y % 18446744073709551616 ^ (k + 1) = x % 18446744073709551616 ^ (k + 1) + 18446744073709551616 ^ (k + 1) * c' := by
  rw [mod_word x k, mod_word y k, vw_set ws k t hk, Nat.pow_succ, Nat.mul_assoc]
  have e : 18446744073709551616 ^ k * t + 18446744073709551616 ^ k * wd y k + 18446744073709551616 ^ k * c = 18446744073709551616 ^ k * wd x k + 18446744073709551616 ^ k * (18446744073709551616 * c') := by
    rw [← Nat.mul_add, ← Nat.mul_add, ← Nat.mul_add, ht]
  omega
/-- what the loop carries -/
def Ca (w : World) (x y k : Nat) (ws : List Nat) (w' : World) : Prop := Wl w' w.heap.size ws ∧ Nm w' (w.heap.size + 1) y ∧ Fr w' (w.heap.size + 1 + 1) (.int .u64 0) (.int .u64 0) (.int .u64 0) (.int .u64 0) ∧ Below w.heap.size w w' ∧ ws.length = 4 ∧ (∀ j, k ≤ j → (h : j < ws.length) → ws[j] = wd x j) ∧ (∀ d ∈ ws, d < 18446744073709551616)
theorem Ca.init (w : World) (x y : Nat) : Ca w x y 0 [wd x 0, wd x 1, wd x 2, wd x 3] (((w.alloc (.cells (cls x) 26)).alloc (.cells (cls y) 26)).alloc (.cells #[.int .u64 0, .int .u64 0, .int .u64 0, .int .u64 0] 26)) := by
  refine ⟨((Nm.new w x).alloc _).alloc _, ?_, ?_, bal (bal (bal (Below.refl _ _) _) _) _, rfl, ?_, ?_⟩
  · have := (Nm.new (w.alloc (.cells (cls x) 26)) y).alloc (.cells #[.int .u64 0, .int .u64 0, .int .u64 0, .int .u64 0] 26)
    simpa using this
  · have := Fr.new ((w.alloc (.cells (cls x) 26)).alloc (.cells (cls y) 26)) (.int .u64 0) (.int .u64 0) (.int .u64 0) (.int .u64 0)
    simpa using this
  · intro j _ h
    match j, h with
    | 0, _ => rfl
    | 1, _ => rfl
    | 2, _ => rfl
    | 3, _ => rfl
  · intro d hd
    simp only [List.mem_cons, List.not_mem_nil, or_false] at hd
    rcases hd with rfl | rfl | rfl | rfl <;> exact wd_lt _ _
theorem Ca.drewN {w w' : World} {x y k : Nat} {ws : List Nat} (h : Ca w x y k ws w') (n : Nat) : Ca w x y k ws (w'.drewN n) := by
  induction n with
  | zero => exact h
  | succ n ih => exact ⟨ih.1, ih.2.1, ih.2.2.1, ih.2.2.2.1.drew, ih.2.2.2.2⟩
theorem Ca.set {w w' : World} {x y k : Nat} {ws : List Nat} (h : Ca w x y k ws w') (t : Nat) (ht : t < 18446744073709551616) : Ca w x y (k + 1) (ws.set k t) (w'.setCell ⟨w.heap.size, k, none⟩ (.int .u64 (t : Int))) := by
  obtain ⟨h1, h2, h3, h4, h5, h6, h7⟩ := h
  refine ⟨h1.set k t, (Below.heap_setCell w' ⟨w.heap.size, k, none⟩ _ (w.heap.size + 1) (by simp)).trans h2, h3.setOther _ (by omega), h4.setCell (p := ⟨w.heap.size, k, none⟩) (Nat.le_refl _) _, by simpa using h5, ?_, ?_⟩
  · intro j hj hl
    rw [List.getElem_set, if_neg (by omega)]
    exact h6 j (by omega) (by simpa using hl)
  · intro d hd
    rcases List.mem_or_eq_of_mem_set hd with h | h
    · exact h7 d h
    · omega
theorem list4 (ws : List Nat) (h : ws.length = 4) : ∃ a b c d, ws = [a, b, c, d] := by
  match ws, h with
  | [a, b, c, d], _ => exact ⟨a, b, c, d, rfl⟩

set_option maxRecDepth 100000 in
set_option maxHeartbeats 1600000 in
theorem r2add_any (x y : Nat) (w : World) (hx : x < 2 ^ 256) (hy : y < 2 ^ 256) :
    Calls Tryd.prog 24 #[num x, num y] w fun e w' => e = .returned (.tuple #[num ((x + y) % 2 ^ 256), .int .u64 (((x + y) / 2 ^ 256 : Nat) : Int)]) ∧ Below w.heap.size w w' := by
  have HX := hid hx
  have HY := hid hy
  have HC := hid (Ca.init w x y)
  clear hx hy
  go_enter Tryd.func24, Tryd.ntmps24
  go_wp2
  generalize ((w.alloc (.cells (cls x) 26)).alloc (.cells (cls y) 26)).alloc (.cells #[.int .u64 0, .int .u64 0, .int .u64 0, .int .u64 0] 26) = w0 at *
  go_loopw [6, 7] (fun c i wr => ∃ (k cy : Nat) (ws : List Nat), k ≤ 4 ∧ i = .int .i64 k ∧ c = .int .u64 cy ∧ cy ≤ 1 ∧ Hid (Ca w x y k ws wr) ∧ Hid (x % 18446744073709551616 ^ k + y % 18446744073709551616 ^ k = vw (ws.take k) + 18446744073709551616 ^ k * cy)) (fun _ i _ => 4 - (intOf i).toNat)
  case atStart => exact ⟨0, 0, _, by omega, rfl, rfl, by omega, HC, hid (by simp [Nat.mod_one, vw])⟩
  case round =>
    obtain ⟨k, cy, ws, hk, rfl, rfl, hc, HC, HV⟩ := hrel
    by_cases hlt : k < 4
    · obtain ⟨h1, h2, h3, h4, h5, h6, h7⟩ := HC.out
      have hkl : k < ws.length := by omega
      have ca := h1.cell k hkl
      rw [h6 k (Nat.le_refl _) hkl] at ca
      have cb := h2.at k hlt
      have hA := wd_lt x k
      have hB := wd_lt y k
      clear h1 h2 h3 h4 h5 h6 h7
      obtain ⟨S, eS⟩ : ∃ S, S = (wd x k + wd y k) % 18446744073709551616 := ⟨_, rfl⟩
      obtain ⟨t, eT⟩ : ∃ t, t = (S + cy) % 18446744073709551616 := ⟨_, rfl⟩
      have s1 : IntKind.u64.wrap ((wd x k : Int) + (wd y k : Int)) = (S : Int) := by rw [IntKind.wrap_u64]; omega
      have s2 : IntKind.u64.wrap ((S : Int) + (cy : Int)) = (t : Int) := by rw [IntKind.wrap_u64]; omega
      have ht : t < 18446744073709551616 := by omega
      have HS := hid (p := ∀ c', (c' = if S < wd y k ∨ t < cy then 1 else 0) → t + 18446744073709551616 * c' = wd x k + wd y k + cy) (by
        intro c' hc'
        have := addc hA hB hc
        rw [← eS, ← eT, ← hc'] at this
        exact this)
      have HT := hid ht
      have HKL := hid hkl
      clear hA hB eS eT ht hkl
      go_wp2
      go_quiet (fail)
      have HC2 := hid (HC.out.drewN nq)
      have ca2 : (wr.drewN nq).cell? ⟨w.heap.size, k, none⟩ = some (.int .u64 (wd x k : Int)) := ca
      have cb2 : (wr.drewN nq).cell? ⟨w.heap.size + 1, k, none⟩ = some (.int .u64 (wd y k : Int)) := cb
      have cf2 := HC2.out.1.frozen k
      clear ca cb HC
      generalize wr.drewN nq = w2 at *
      by_cases g1 : S < wd y k
      · have HS2 := hid (HS.out 1 (by rw [if_pos (Or.inl g1)]))
        go_wp2
        go_roundw
        case rel => exact ⟨k + 1, 1, ws.set k t, by omega, by go_num, rfl, by omega, hid (HC2.out.set t HT.out), hid (add_step x y k cy 1 t ws HKL.out HV.out HS2.out)⟩
        case measure => simp [intOf]; omega
      · by_cases g2 : t < cy
        · have HS2 := hid (HS.out 1 (by rw [if_pos (Or.inr g2)]))
          go_wp2
          go_roundw
          case rel => exact ⟨k + 1, 1, ws.set k t, by omega, by go_num, rfl, by omega, hid (HC2.out.set t HT.out), hid (add_step x y k cy 1 t ws HKL.out HV.out HS2.out)⟩
          case measure => simp [intOf]; omega
        · have HS2 := hid (HS.out 0 (by rw [if_neg (by omega)]))
          go_wp2
          go_roundw
          case rel => exact ⟨k + 1, 0, ws.set k t, by omega, by go_num, rfl, by omega, hid (HC2.out.set t HT.out), hid (add_step x y k cy 0 t ws HKL.out HV.out HS2.out)⟩
          case measure => simp [intOf]; omega
    · obtain rfl : k = 4 := by omega
      obtain ⟨h1, h2, h3, h4, h5, h6, h7⟩ := HC.out
      obtain ⟨a, b, c, d, rfl⟩ := list4 ws h5
      have l0 := h7 a (by simp)
      have l1 := h7 b (by simp)
      have l2 := h7 c (by simp)
      have l3 := h7 d (by simp)
      have hv := HV.out
      simp only [List.take, vw] at hv
      rw [show (18446744073709551616 : Nat) ^ 4 = 2 ^ 256 by decide, Nat.mod_eq_of_lt HX.out, Nat.mod_eq_of_lt HY.out] at hv
      have hv2 : v4 a b c d + 2 ^ 256 * cy = x + y := by rw [hv]; unfold v4; omega
      obtain ⟨q1', q2⟩ := sum_of l0 l1 l2 l3 hv2
      obtain ⟨s, q3⟩ : ∃ s, (x + y) % 2 ^ 256 = s := ⟨_, rfl⟩
      have q1 : v4 a b c d = s := by rw [q1', q3]
      clear hv hv2 q1'
      have hN : Nm wr w.heap.size s := by
        obtain ⟨z0, z1, z2, z3⟩ := wd_v4 l0 l1 l2 l3
        rw [q1] at z0 z1 z2 z3
        have e : (wvs [a, b, c, d]).toArray = cls s := by rw [cls, z0, z1, z2, z3]; rfl
        have := h1
        unfold Wl at this
        rw [e] at this
        exact this
      have HN := hid hN
      have HR := hid h3
      have HB := hid h4
      have Q1 := hid q1
      have Q2 := hid q2
      have Q3 := hid q3
      obtain ⟨c0, c1, c2, c3⟩ := hN.cell
      obtain ⟨d0, d1, d2, d3⟩ := h3.cell
      have df := h3.frozen
      clear h1 h2 h3 h4 h5 h6 h7 hN q1 q2 q3 l0 l1 l2 l3 HC
      go_wp2
      have HN2 := hid (fil_nm s HR.out)
      have HB2 := hid (fil_below s HB.out (show w.heap.size ≤ w.heap.size + 1 + 1 by omega))
      clear c0 c1 c2 c3 d0 d1 d2 d3 df
      change bodyPost _ _ _ _ _ (fil wr (w.heap.size + 1 + 1) s)
      generalize fil wr (w.heap.size + 1 + 1) s = wz at *
      obtain ⟨g0, g1, g2, g3⟩ := HN2.out.cell
      exact bodyPost_ret (v := .tuple #[num s, .int .u64 (cy : Int)]) (by simp [results, Tryd.results24, go_sem, g0, g1, g2, g3]) rfl ⟨by rw [Q3.out, Q2.out], HB2.out⟩

set_option maxRecDepth 100000 in
set_option maxHeartbeats 1600000 in
theorem r2sub_any (x y : Nat) (w : World) (hx : x < 2 ^ 256) (hy : y < 2 ^ 256) :
    Calls Tryd.prog 22 #[num x, num y] w fun e w' => e = .returned (.tuple #[num (dif x y), .int .u64 (lent x y : Int)]) ∧ Below w.heap.size w w' := by
  have HX := hid hx
  have HY := hid hy
  have HC := hid (Ca.init w x y)
  clear hx hy
  go_enter Tryd.func22, Tryd.ntmps22
  go_wp2
  generalize ((w.alloc (.cells (cls x) 26)).alloc (.cells (cls y) 26)).alloc (.cells #[.int .u64 0, .int .u64 0, .int .u64 0, .int .u64 0] 26) = w0 at *
  go_loopw [6, 7] (fun c i wr => ∃ (k cy : Nat) (ws : List Nat), k ≤ 4 ∧ i = .int .i64 k ∧ c = .int .u64 cy ∧ cy ≤ 1 ∧ Hid (Ca w x y k ws wr) ∧ Hid (vw (ws.take k) + y % 18446744073709551616 ^ k = x % 18446744073709551616 ^ k + 18446744073709551616 ^ k * cy)) (fun _ i _ => 4 - (intOf i).toNat)
  case atStart => exact ⟨0, 0, _, by omega, rfl, rfl, by omega, HC, hid (by simp [Nat.mod_one, vw])⟩
  case round =>
    obtain ⟨k, cy, ws, hk, rfl, rfl, hc, HC, HV⟩ := hrel
    by_cases hlt : k < 4
    · obtain ⟨h1, h2, h3, h4, h5, h6, h7⟩ := HC.out
      have hkl : k < ws.length := by omega
      have ca := h1.cell k hkl
      rw [h6 k (Nat.le_refl _) hkl] at ca
      have cb := h2.at k hlt
      have hA := wd_lt x k
      have hB := wd_lt y k
      clear h1 h2 h3 h4 h5 h6 h7
      obtain ⟨S, eS⟩ : ∃ S, S = (wd x k + 18446744073709551616 - wd y k) % 18446744073709551616 := ⟨_, rfl⟩
      obtain ⟨t, eT⟩ : ∃ t, t = (S + 18446744073709551616 - cy) % 18446744073709551616 := ⟨_, rfl⟩
      have s1 : IntKind.u64.wrap ((wd x k : Int) - (wd y k : Int)) = (S : Int) := by rw [IntKind.wrap_u64]; omega
      have s2 : IntKind.u64.wrap ((S : Int) - (cy : Int)) = (t : Int) := by rw [IntKind.wrap_u64]; omega
      have ht : t < 18446744073709551616 := by omega
      have HS := hid (p := ∀ c', (c' = if wd x k < wd y k ∨ S < cy then 1 else 0) → t + wd y k + cy = wd x k + 18446744073709551616 * c') (by
        intro c' hc'
        have := subb hA hB hc
        rw [← eS, ← eT, ← hc'] at this
        exact this)
      have HT := hid ht
      have HKL := hid hkl
      clear hA hB eS eT ht hkl
      go_wp2
      go_quiet (fail)
      have HC2 := hid (HC.out.drewN nq)
      have ca2 : (wr.drewN nq).cell? ⟨w.heap.size, k, none⟩ = some (.int .u64 (wd x k : Int)) := ca
      have cb2 : (wr.drewN nq).cell? ⟨w.heap.size + 1, k, none⟩ = some (.int .u64 (wd y k : Int)) := cb
      have cf2 := HC2.out.1.frozen k
      clear ca cb HC
      generalize wr.drewN nq = w2 at *
      by_cases g1 : wd x k < wd y k
      · have HS2 := hid (HS.out 1 (by rw [if_pos (Or.inl g1)]))
        have g3 : decide (wd x k < wd y k) = true := by simpa using g1
        go_wp2
        go_quiet (fail)
        go_wp2
        go_roundw
        case rel => exact ⟨k + 1, 1, ws.set k t, by omega, by go_num, rfl, by omega, hid ((HC2.out.drewN _).set t HT.out), hid (sub_step x y k cy 1 t ws HKL.out HV.out HS2.out)⟩
        case measure => simp [intOf]; omega
      · by_cases g2 : S < cy
        · have HS2 := hid (HS.out 1 (by rw [if_pos (Or.inr g2)]))
          have g3 : decide (wd x k < wd y k) = false := by simpa using g1
          have g4 : decide (S < cy) = true := by simpa using g2
          go_wp2
          go_quiet (fail)
          go_wp2
          go_roundw
          case rel => exact ⟨k + 1, 1, ws.set k t, by omega, by go_num, rfl, by omega, hid ((HC2.out.drewN _).set t HT.out), hid (sub_step x y k cy 1 t ws HKL.out HV.out HS2.out)⟩
          case measure => simp [intOf]; omega
        · have HS2 := hid (HS.out 0 (by rw [if_neg (by omega)]))
          have g3 : decide (wd x k < wd y k) = false := by simpa using g1
          have g4 : decide (S < cy) = false := by simpa using g2
          go_wp2
          go_quiet (fail)
          go_wp2
          go_roundw
          case rel => exact ⟨k + 1, 0, ws.set k t, by omega, by go_num, rfl, by omega, hid ((HC2.out.drewN _).set t HT.out), hid (sub_step x y k cy 0 t ws HKL.out HV.out HS2.out)⟩
          case measure => simp [intOf]; omega
    · obtain rfl : k = 4 := by omega
      obtain ⟨h1, h2, h3, h4, h5, h6, h7⟩ := HC.out
      obtain ⟨a, b, c, d, rfl⟩ := list4 ws h5
      have l0 := h7 a (by simp)
      have l1 := h7 b (by simp)
      have l2 := h7 c (by simp)
      have l3 := h7 d (by simp)
      have hv := HV.out
      simp only [List.take, vw] at hv
      rw [show (18446744073709551616 : Nat) ^ 4 = 2 ^ 256 by decide, Nat.mod_eq_of_lt HX.out, Nat.mod_eq_of_lt HY.out] at hv
      have hv2 : v4 a b c d + y = x + 2 ^ 256 * cy := by rw [← hv]; unfold v4; omega
      obtain ⟨q1', q2⟩ := dif_of HX.out HY.out l0 l1 l2 l3 hv2 hc
      obtain ⟨s, q3⟩ : ∃ s, dif x y = s := ⟨_, rfl⟩
      have q1 : v4 a b c d = s := by rw [q1', q3]
      clear hv hv2 q1'
      have hN : Nm wr w.heap.size s := by
        obtain ⟨z0, z1, z2, z3⟩ := wd_v4 l0 l1 l2 l3
        rw [q1] at z0 z1 z2 z3
        have e : (wvs [a, b, c, d]).toArray = cls s := by rw [cls, z0, z1, z2, z3]; rfl
        have := h1
        unfold Wl at this
        rw [e] at this
        exact this
      have HN := hid hN
      have HR := hid h3
      have HB := hid h4
      have Q1 := hid q1
      have Q2 := hid q2
      have Q3 := hid q3
      obtain ⟨c0, c1, c2, c3⟩ := hN.cell
      obtain ⟨d0, d1, d2, d3⟩ := h3.cell
      have df := h3.frozen
      clear h1 h2 h3 h4 h5 h6 h7 hN q1 q2 q3 l0 l1 l2 l3 HC
      go_wp2
      have HN2 := hid (fil_nm s HR.out)
      have HB2 := hid (fil_below s HB.out (show w.heap.size ≤ w.heap.size + 1 + 1 by omega))
      clear c0 c1 c2 c3 d0 d1 d2 d3 df
      change bodyPost _ _ _ _ _ (fil wr (w.heap.size + 1 + 1) s)
      generalize fil wr (w.heap.size + 1 + 1) s = wz at *
      obtain ⟨g0, g1, g2, g3⟩ := HN2.out.cell
      exact bodyPost_ret (v := .tuple #[num s, .int .u64 (cy : Int)]) (by simp [results, Tryd.results22, go_sem, g0, g1, g2, g3]) rfl ⟨by rw [Q3.out, Q2.out], HB2.out⟩
end Go.Proofs.YtcijnoapjicliaaDoor
namespace Go.Proofs.YtcijnoapjicliaaDoor
open Go.RowKit
set_option linter.unusedVariables false

theorem fil_fr {w : World} {g g' : Nat} {a b c d : Value} (x : Nat) (h : Fr w g a b c d) (hne : g ≠ g') : Fr (fil w g' x) g a b c d :=
  (((h.setOther _ hne).setOther _ hne).setOther _ hne).setOther _ hne
/-- what the loop carries, and the answers' boxes -/
def Sq (w : World) (ga gb g4 g5 gl gh a b lo hi : Nat) (w' : World) : Prop := Sp w ga gb gl gh a b lo hi w' ∧ Fr w' g4 (.int .u64 0) (.int .u64 0) (.int .u64 0) (.int .u64 0) ∧ Fr w' g5 (.int .u64 0) (.int .u64 0) (.int .u64 0) (.int .u64 0) ∧ g4 ≠ gl ∧ g4 ≠ gh ∧ g5 ≠ gl ∧ g5 ≠ gh ∧ g4 ≠ g5 ∧ w.heap.size ≤ g4 ∧ w.heap.size ≤ g5
section
variable {w w' w2 : World} {ga gb g4 g5 gl gh a b lo hi : Nat}
theorem Sq.on (h : Sq w ga gb g4 g5 gl gh a b lo hi w') (hb : Below w'.heap.size w' w2) : Sq w ga gb g4 g5 gl gh a b lo hi w2 := ⟨h.1.on hb, h.2.1.on hb, h.2.2.1.on hb, h.2.2.2⟩
theorem Sq.drew (h : Sq w ga gb g4 g5 gl gh a b lo hi w') : Sq w ga gb g4 g5 gl gh a b lo hi w'.drew := ⟨h.1.drew, h.2⟩
theorem Sq.setLo (h : Sq w ga gb g4 g5 gl gh a b lo hi w') (x : Nat) : Sq w ga gb g4 g5 gl gh a b x hi (fil w' gl x) := ⟨h.1.setLo x, fil_fr x h.2.1 h.2.2.2.1, fil_fr x h.2.2.1 h.2.2.2.2.2.1, h.2.2.2⟩
theorem Sq.setHi (h : Sq w ga gb g4 g5 gl gh a b lo hi w') (x : Nat) : Sq w ga gb g4 g5 gl gh a b lo x (fil w' gh x) := ⟨h.1.setHi x, fil_fr x h.2.1 h.2.2.2.2.1, fil_fr x h.2.2.1 h.2.2.2.2.2.2.1, h.2.2.2⟩
theorem sq_of {f : FuncId} {args : Array Value} {v : Value} (hc : Calls Tryd.prog f args w' fun e w2 => e = .returned v ∧ Below w'.heap.size w' w2) (h : Sq w ga gb g4 g5 gl gh a b lo hi w') : Calls Tryd.prog f args w' fun e w2 => e = .returned v ∧ Sq w ga gb g4 g5 gl gh a b lo hi w2 :=
  hc.mono fun e w2 ⟨he, hb⟩ => ⟨he, h.on hb⟩
end
theorem Sq.init (w : World) (a b : Nat) : Sq w w.heap.size (w.heap.size + 1) (w.heap.size + 1 + 1) (w.heap.size + 1 + 1 + 1) (w.heap.size + 1 + 1 + 1 + 1) (w.heap.size + 1 + 1 + 1 + 1 + 1) a b 0 0 ((((((w.alloc (.cells (cls a) 26)).alloc (.cells (cls b) 26)).alloc (.cells #[.int .u64 0, .int .u64 0, .int .u64 0, .int .u64 0] 26)).alloc (.cells #[.int .u64 0, .int .u64 0, .int .u64 0, .int .u64 0] 26)).alloc (.cells #[.int .u64 0, .int .u64 0, .int .u64 0, .int .u64 0] 26)).alloc (.cells #[.int .u64 0, .int .u64 0, .int .u64 0, .int .u64 0] 26)) := by
  have hE := ((((((Env.refl w).new2 a b).new 0).new 0).new 0).new 0)
  simp only [World.size_alloc] at hE
  simp only [← cls_zero] at hE
  refine ⟨⟨⟨hE.1, fun p hp => hE.2 p ?_⟩, by omega, by omega, by omega, by omega, by omega, by omega, by omega⟩, ?_, ?_, by omega, by omega, by omega, by omega, by omega, by omega, by omega⟩
  · simp only [List.mem_cons, List.not_mem_nil, or_false] at hp ⊢
    rcases hp with h | h | h | h <;> simp [h]
  · have := (hE.nm (w.heap.size + 1 + 1) 0 (by simp)).fr
    exact this
  · have := (hE.nm (w.heap.size + 1 + 1 + 1) 0 (by simp)).fr
    exact this
theorem r2add_b (x y s : Nat) (k : Int) (w : World) (hx : x < 2 ^ 256) (hy : y < 2 ^ 256) (hs : (x + y) % 2 ^ 256 = s) (hk : (((x + y) / 2 ^ 256 : Nat) : Int) = k) : Calls Tryd.prog 24 #[num x, num y] w fun e w2 => e = .returned (.tuple #[num s, .int .u64 k]) ∧ Below w.heap.size w w2 := by
  subst hs; subst hk; exact r2add_any x y w hx hy
/-- a round: doubled, and what goes beyond taken over -/
theorem dbl_round {lo hi T : Nat} (hl : lo < 2 ^ 256) (h : lo + 2 ^ 256 * hi = T) (hT : 2 * T < 2 ^ 256 * 2 ^ 256) :
    (hi + hi) % 2 ^ 256 = hi + hi ∧ hi + hi < 2 ^ 256 ∧ (lo + lo) / 2 ^ 256 < 18446744073709551616 ∧ (hi + hi + (lo + lo) / 2 ^ 256) % 2 ^ 256 = hi + hi + (lo + lo) / 2 ^ 256 ∧ hi + hi + (lo + lo) / 2 ^ 256 < 2 ^ 256
    ∧ (lo + lo) % 2 ^ 256 + 2 ^ 256 * (hi + hi + (lo + lo) / 2 ^ 256) = 2 * T := by
  obtain ⟨r1, r2, r3⟩ := mul_dbl (Nat.two_pow_pos 256) h hT
  rw [Nat.two_mul, Nat.two_mul] at r1 r2
  rw [Nat.two_mul] at r3
  have hz : (lo + lo) / 2 ^ 256 < 18446744073709551616 := by rw [p256] at *; omega
  exact ⟨Nat.mod_eq_of_lt r3, r3, hz, Nat.mod_eq_of_lt r2, r2, by rw [r1, Nat.two_mul]⟩
theorem add_round {lo hi T a : Nat} (hl : lo < 2 ^ 256) (ha : a < 2 ^ 256) (h : lo + 2 ^ 256 * hi = T) (hT : T + a < 2 ^ 256 * 2 ^ 256) :
    (lo + a) / 2 ^ 256 < 18446744073709551616 ∧ (hi + (lo + a) / 2 ^ 256) % 2 ^ 256 = hi + (lo + a) / 2 ^ 256 ∧ hi + (lo + a) / 2 ^ 256 < 2 ^ 256
    ∧ (lo + a) % 2 ^ 256 + 2 ^ 256 * (hi + (lo + a) / 2 ^ 256) = T + a := by
  obtain ⟨r1, r2⟩ := mul_add (Nat.two_pow_pos 256) h hT
  have hz : (lo + a) / 2 ^ 256 < 18446744073709551616 := by rw [p256] at *; omega
  exact ⟨hz, Nat.mod_eq_of_lt r2, r2, r1⟩
theorem div_zero_of {x : Nat} (h : x < 2 ^ 256) : ((x / 2 ^ 256 : Nat) : Int) = 0 := by have := Nat.div_eq_of_lt h; omega

end Go.Proofs.YtcijnoapjicliaaDoor

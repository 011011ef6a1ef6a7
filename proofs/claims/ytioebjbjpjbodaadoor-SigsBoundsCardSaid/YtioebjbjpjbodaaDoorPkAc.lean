/-
  A long number as four words, as a value, and in memory; sums and differences of words. Conditions: none.
  limbs.Add and limbs.Sub, walked. Conditions: none.
  The small calls of limbs, walked. Conditions: none.
  math/bits.Len64 and limbs.Bits, walked. Conditions: none.
  A number moved, word by word: no program stands here. Conditions: none.
  Numbers that go round; whoever has an inverse; Montgomery's form; a prime number's power. No program in it. Conditions: none.
  Blocks of numbers of 32 bits. Conditions: none.
-/
import Derived.Test.YtioebjbjpjbodaaDoorRows
import Derived.Test.YtioebjbjpjbodaaDoorPkAb
import Derived.Test.YtioebjbjpjbodaaDoorPkWords
import Derived.WalkKit
import Derived.Laws.CopyOwn
import Derived.Shelf.Spec.BitsCarry
import Derived.WalkLawsBesides
import Derived.WalkSpells
import Derived.Deep.RegionHeld3
import Derived.StillTailTactics
import Derived.RegionTactic
import Derived.Shelf.Strconv.Itoa0
import Derived.Laws.BitsAllLaws
import Derived.Deep.MidRow
namespace Go.Proofs.YtioebjbjpjbodaaDoor
open Go.RowKit
set_option linter.unusedVariables false

/-- word i of a number -/
def wd (x i : Nat) : Nat := x / 18446744073709551616 ^ i % 18446744073709551616
theorem wd_lt (x i : Nat) : wd x i < 18446744073709551616 := Nat.mod_lt _ (by decide)
theorem p256 : (2 : Nat) ^ 256 = 115792089237316195423570985008687907853269984665640564039457584007913129639936 := by decide
theorem v4_wd (x : Nat) (h : x < 2 ^ 256) : v4 (wd x 0) (wd x 1) (wd x 2) (wd x 3) = x := by
  rw [p256] at h
  unfold v4 wd
  have e1 : (18446744073709551616 : Nat) ^ 1 = 18446744073709551616 := by decide
  have e2 : (18446744073709551616 : Nat) ^ 2 = 340282366920938463463374607431768211456 := by decide
  have e3 : (18446744073709551616 : Nat) ^ 3 = 6277101735386680763835789423207666416102355444464034512896 := by decide
  rw [e1, e2, e3, Nat.pow_zero]
  omega
theorem wd_v4 {a b c d : Nat} (h0 : a < 18446744073709551616) (h1 : b < 18446744073709551616) (h2 : c < 18446744073709551616) (h3 : d < 18446744073709551616) :
    wd (v4 a b c d) 0 = a ∧ wd (v4 a b c d) 1 = b ∧ wd (v4 a b c d) 2 = c ∧ wd (v4 a b c d) 3 = d := by
  unfold v4 wd
  have e1 : (18446744073709551616 : Nat) ^ 1 = 18446744073709551616 := by decide
  have e2 : (18446744073709551616 : Nat) ^ 2 = 340282366920938463463374607431768211456 := by decide
  have e3 : (18446744073709551616 : Nat) ^ 3 = 6277101735386680763835789423207666416102355444464034512896 := by decide
  rw [e1, e2, e3, Nat.pow_zero]
  refine ⟨?_, ?_, ?_, ?_⟩ <;> omega
theorem wd_inj {x y : Nat} (hx : x < 2 ^ 256) (hy : y < 2 ^ 256) (h0 : wd x 0 = wd y 0) (h1 : wd x 1 = wd y 1) (h2 : wd x 2 = wd y 2) (h3 : wd x 3 = wd y 3) : x = y := by
  rw [← v4_wd x hx, ← v4_wd y hy, h0, h1, h2, h3]

/-- a long number's cells -/
abbrev cls (x : Nat) : Array Value := #[.int .u64 (wd x 0 : Int), .int .u64 (wd x 1 : Int), .int .u64 (wd x 2 : Int), .int .u64 (wd x 3 : Int)]
/-- a long number, as a value -/
abbrev num (x : Nat) : Value := .agg (cls x)
theorem num_of {a b c d : Nat} (h0 : a < 18446744073709551616) (h1 : b < 18446744073709551616) (h2 : c < 18446744073709551616) (h3 : d < 18446744073709551616) :
    (.agg #[.int .u64 (a : Int), .int .u64 (b : Int), .int .u64 (c : Int), .int .u64 (d : Int)] : Value) = num (v4 a b c d) := by
  obtain ⟨e0, e1, e2, e3⟩ := wd_v4 h0 h1 h2 h3
  rw [num, cls, e0, e1, e2, e3]
theorem num_small (n : Nat) (h : n < 18446744073709551616) : (.agg #[.int .u64 (n : Int), .int .u64 0, .int .u64 0, .int .u64 0] : Value) = num n := by
  have := num_of (a := n) (b := 0) (c := 0) (d := 0) h (by decide) (by decide) (by decide)
  rw [show v4 n 0 0 0 = n by simp [v4]] at this
  exact this

theorem eq_words (a b c d a' b' c' d' : Int) (w : World) : (Op.equalIn 10000 24 (.agg #[.int .u64 a, .int .u64 b, .int .u64 c, .int .u64 d]) (.agg #[.int .u64 a', .int .u64 b', .int .u64 c', .int .u64 d'])).run Tryd.prog w = .ok (a == a' && b == b' && c == c' && d == d') w := by
  have u3 := Tryd.underlying22
  have a3 := Tryd.isAgg22
  have z3 := Tryd.sizeOf22
  rw [show (10000 : Nat) = 9999 + 1 from rfl, Op.equalIn]
  simp only [Sem.run_bind, run_underlying Tryd.underlying24, Result.andThen_ok]
  simp only [Std.Legacy.Range.forIn_eq_forIn_range', Std.Legacy.Range.size, Nat.sub_zero, Nat.add_sub_cancel, Nat.div_one, List.range'_succ, List.range'_zero, List.forIn_cons, List.forIn_nil]
  go_simp
  by_cases h1 : a = a' <;> by_cases h2 : b = b' <;> by_cases h3 : c = c' <;> by_cases h4 : d = d' <;> simp [h1, h2, h3, h4]
theorem eq_yes (x y : Nat) (h : x = y) (w : World) : (Op.equalIn 10000 24 (num x) (num y)).run Tryd.prog w = .ok true w := by
  subst h; rw [eq_words]; simp
theorem eq_no (x y : Nat) (hx : x < 2 ^ 256) (hy : y < 2 ^ 256) (h : x ≠ y) (w : World) : (Op.equalIn 10000 24 (num x) (num y)).run Tryd.prog w = .ok false w := by
  rw [eq_words]
  congr 1
  rw [Bool.eq_false_iff]
  intro e
  simp at e
  obtain ⟨⟨⟨h0, h1⟩, h2⟩, h3⟩ := e
  exact h (wd_inj hx hy (by exact_mod_cast h0) (by exact_mod_cast h1) (by exact_mod_cast h2) (by exact_mod_cast h3))

theorem bal {w w' : World} (h : Below w.heap.size w w') (o : Obj) : Below w.heap.size w (w'.alloc o) := h.alloc h.size o
theorem bthen {w w' w2 : World} (h : Below w.heap.size w w') (h2 : Below w'.heap.size w' w2) : Below w.heap.size w w2 := h.trans (h2.mono h.size)
/-- block g holds this long number -/
def Nm (w : World) (g x : Nat) : Prop := w.heap[g]? = some (.cells (cls x) 24 (0, 0))
theorem Nm.lt {w : World} {g x : Nat} (h : Nm w g x) : g < w.heap.size := lt_of_block h
theorem Nm.below {w w' : World} {g x B : Nat} (h : Nm w g x) (hb : Below B w w') (hg : g < B) : Nm w' g x := (hb.block g hg).trans h
theorem Nm.on {w w' : World} {g x : Nat} (h : Nm w g x) (hb : Below w.heap.size w w') : Nm w' g x := h.below hb h.lt
theorem Nm.alloc {w : World} {g x : Nat} (h : Nm w g x) (o : Obj) : Nm (w.alloc o) g x := h.on ((Below.refl w.heap.size w).alloc (Nat.le_refl _) o)
theorem Nm.new (w : World) (x : Nat) : Nm (w.alloc (.cells (cls x) 24)) w.heap.size x := heap_alloc_new _ _
theorem Nm.cell {w : World} {g x : Nat} (h : Nm w g x) : w.cell? ⟨g, 0, none⟩ = some (.int .u64 (wd x 0 : Int)) ∧ w.cell? ⟨g, 1, none⟩ = some (.int .u64 (wd x 1 : Int)) ∧ w.cell? ⟨g, 2, none⟩ = some (.int .u64 (wd x 2 : Int)) ∧ w.cell? ⟨g, 3, none⟩ = some (.int .u64 (wd x 3 : Int)) := by
  refine ⟨?_, ?_, ?_, ?_⟩ <;> (rw [cell_of_row w g _ _ 24 (0, 0) h]; rfl)

theorem run_add64' (x y c : Nat) (hc : c ≤ 1) (w : World) :
    (callFunc 21 #[.int .u64 x, .int .u64 y, .int .u64 c]).run Tryd.prog w =
      .ok (.value (.tuple #[.int .u64 (((x + y + c) % 18446744073709551616 : Nat) : Int), .int .u64 (((x + y + c) / 18446744073709551616 : Nat) : Int)])) w := by
  rw [run_callFunc_extern Tryd.func21 (by kernel_rfl) (by kernel_rfl) (by kernel_rfl) (e := add64Entry) (by kernel_rfl), run_add64 x y c (by omega) (by omega) (by omega) (by omega)]
  simp only [Result.andThen]
  congr 5 <;> omega
theorem run_sub64' (x y b : Nat) (hb : b ≤ 1) (w : World) :
    (callFunc 44 #[.int .u64 x, .int .u64 y, .int .u64 b]).run Tryd.prog w =
      .ok (.value (.tuple #[.int .u64 (((x + 18446744073709551616 - y - b) % 18446744073709551616 : Nat) : Int), .int .u64 ((if x < y + b then 1 else 0 : Nat) : Int)])) w := by
  rw [run_callFunc_extern Tryd.func44 (by kernel_rfl) (by kernel_rfl) (by kernel_rfl) (e := sub64Entry) (by kernel_rfl), run_sub64 x y b hb]
  rfl
theorem add_word (x y c : Nat) (hx : x < 18446744073709551616) (hy : y < 18446744073709551616) (hc : c ≤ 1) :
    ∃ t k : Nat, (∀ w : World, (callFunc 21 #[.int .u64 x, .int .u64 y, .int .u64 c]).run Tryd.prog w = .ok (.value (.tuple #[.int .u64 (t : Int), .int .u64 (k : Int)])) w) ∧ t + 18446744073709551616 * k = x + y + c ∧ t < 18446744073709551616 ∧ k ≤ 1 :=
  ⟨_, _, run_add64' x y c hc, by omega, by omega, by omega⟩
theorem sub_word (x y c : Nat) (hx : x < 18446744073709551616) (hy : y < 18446744073709551616) (hc : c ≤ 1) :
    ∃ t k : Nat, (∀ w : World, (callFunc 44 #[.int .u64 x, .int .u64 y, .int .u64 c]).run Tryd.prog w = .ok (.value (.tuple #[.int .u64 (t : Int), .int .u64 (k : Int)])) w) ∧ t + y + c = x + 18446744073709551616 * k ∧ t < 18446744073709551616 ∧ k ≤ 1 :=
  ⟨_, _, run_sub64' x y c hc, by split <;> omega, by omega, by split <;> omega⟩
theorem sum_of {x y t0 t1 t2 t3 k : Nat} (h0 : t0 < 18446744073709551616) (h1 : t1 < 18446744073709551616) (h2 : t2 < 18446744073709551616) (h3 : t3 < 18446744073709551616) (h : v4 t0 t1 t2 t3 + 2 ^ 256 * k = x + y) :
    v4 t0 t1 t2 t3 = (x + y) % 2 ^ 256 ∧ k = (x + y) / 2 ^ 256 := by
  have hl := v4_lt h0 h1 h2 h3
  rw [← h, Nat.add_mul_mod_self_left, Nat.mod_eq_of_lt hl, Nat.add_mul_div_left _ _ (Nat.two_pow_pos 256), Nat.div_eq_of_lt hl, Nat.zero_add]
  exact ⟨rfl, rfl⟩
/-- going round downward -/
def dif (x y : Nat) : Nat := if x < y then x + 2 ^ 256 - y else x - y
def lent (x y : Nat) : Nat := if x < y then 1 else 0
theorem dif_of {x y t0 t1 t2 t3 k : Nat} (hx : x < 2 ^ 256) (hy : y < 2 ^ 256) (h0 : t0 < 18446744073709551616) (h1 : t1 < 18446744073709551616) (h2 : t2 < 18446744073709551616) (h3 : t3 < 18446744073709551616) (h : v4 t0 t1 t2 t3 + y = x + 2 ^ 256 * k) (hk : k ≤ 1) :
    v4 t0 t1 t2 t3 = dif x y ∧ k = lent x y := by
  have hl := v4_lt h0 h1 h2 h3
  generalize v4 t0 t1 t2 t3 = t at *
  unfold dif lent
  rw [p256] at *
  split <;> omega
theorem dif_lt {x y : Nat} (hx : x < 2 ^ 256) (hy : y < 2 ^ 256) : dif x y < 2 ^ 256 := by
  unfold dif
  rw [p256] at *
  split <;> omega
end Go.Proofs.YtioebjbjpjbodaaDoor
namespace Go.Proofs.YtioebjbjpjbodaaDoor
open Go.RowKit
set_option linter.unusedVariables false

set_option maxRecDepth 100000 in
set_option maxHeartbeats 800000 in
theorem ladd_any (x y : Nat) (w : World) (hx : x < 2 ^ 256) (hy : y < 2 ^ 256) :
    Calls Tryd.prog 10 #[num x, num y] w fun e w' => e = .returned (.tuple #[num ((x + y) % 2 ^ 256), .int .u64 (((x + y) / 2 ^ 256 : Nat) : Int)]) ∧ Below w.heap.size w w' := by
  obtain ⟨t0, k1, r0, e0, l0, m0⟩ := add_word (wd x 0) (wd y 0) 0 (wd_lt _ _) (wd_lt _ _) (by omega)
  obtain ⟨t1, k2, r1, e1, l1, m1⟩ := add_word (wd x 1) (wd y 1) k1 (wd_lt _ _) (wd_lt _ _) m0
  obtain ⟨t2, k3, r2, e2, l2, m2⟩ := add_word (wd x 2) (wd y 2) k2 (wd_lt _ _) (wd_lt _ _) m1
  obtain ⟨t3, k4, r3, e3, l3, m3⟩ := add_word (wd x 3) (wd y 3) k3 (wd_lt _ _) (wd_lt _ _) m2
  have hs := v4_addc e0 e1 e2 e3
  rw [v4_wd x hx, v4_wd y hy, Nat.add_zero] at hs
  obtain ⟨q1, q2⟩ := sum_of l0 l1 l2 l3 hs
  rw [← q1, ← q2]
  have hn := num_of l0 l1 l2 l3
  rw [← hn]
  clear hn q1 q2 hs e0 e1 e2 e3 l0 l1 l2 l3 m0 m1 m2 m3 hx hy
  have r0' : ∀ w : World, (callFunc 21 #[.int .u64 (wd x 0 : Int), .int .u64 (wd y 0 : Int), .int .u64 0]).run Tryd.prog w = .ok (.value (.tuple #[.int .u64 (t0 : Int), .int .u64 (k1 : Int)])) w := r0
  clear r0
  go_enter Tryd.func10, Tryd.ntmps10
  go_wp2
  refine wp_loop_rounds 5 ?_
  rw [rounds_succ]
  go_wp2
  go_region
  go_wp2
  rw [rounds_succ]
  go_wp2
  go_region
  go_wp2
  rw [rounds_succ]
  go_wp2
  go_region
  go_wp2
  rw [rounds_succ]
  go_wp2
  go_region
  go_wp2
  rw [rounds_succ]
  go_wp2
  refine bodyPost_ret (v := .tuple #[.agg #[.int .u64 (t0 : Int), .int .u64 (t1 : Int), .int .u64 (t2 : Int), .int .u64 (t3 : Int)], .int .u64 (k4 : Int)]) (by simp [results, Tryd.results10, go_sem]) rfl ⟨rfl, ?_⟩
  repeat (first | exact Below.refl _ _ | refine Below.drew ?_ | refine bal ?_ _)

set_option maxRecDepth 100000 in
set_option maxHeartbeats 800000 in
theorem sub_any (x y : Nat) (w : World) (hx : x < 2 ^ 256) (hy : y < 2 ^ 256) :
    Calls Tryd.prog 31 #[num x, num y] w fun e w' => e = .returned (.tuple #[num (dif x y), .int .u64 (lent x y : Int)]) ∧ Below w.heap.size w w' := by
  obtain ⟨t0, k1, r0, e0, l0, m0⟩ := sub_word (wd x 0) (wd y 0) 0 (wd_lt _ _) (wd_lt _ _) (by omega)
  obtain ⟨t1, k2, r1, e1, l1, m1⟩ := sub_word (wd x 1) (wd y 1) k1 (wd_lt _ _) (wd_lt _ _) m0
  obtain ⟨t2, k3, r2, e2, l2, m2⟩ := sub_word (wd x 2) (wd y 2) k2 (wd_lt _ _) (wd_lt _ _) m1
  obtain ⟨t3, k4, r3, e3, l3, m3⟩ := sub_word (wd x 3) (wd y 3) k3 (wd_lt _ _) (wd_lt _ _) m2
  have hs := v4_subb e0 e1 e2 e3
  rw [v4_wd x hx, v4_wd y hy, Nat.add_zero] at hs
  obtain ⟨q1, q2⟩ := dif_of hx hy l0 l1 l2 l3 hs m3
  rw [← q1, ← q2]
  have hn := num_of l0 l1 l2 l3
  rw [← hn]
  clear hn q1 q2 hs e0 e1 e2 e3 l0 l1 l2 l3 m0 m1 m2 m3 hx hy
  have r0' : ∀ w : World, (callFunc 44 #[.int .u64 (wd x 0 : Int), .int .u64 (wd y 0 : Int), .int .u64 0]).run Tryd.prog w = .ok (.value (.tuple #[.int .u64 (t0 : Int), .int .u64 (k1 : Int)])) w := r0
  clear r0
  go_enter Tryd.func31, Tryd.ntmps31
  go_wp2
  refine wp_loop_rounds 5 ?_
  rw [rounds_succ]
  go_wp2
  go_region
  go_wp2
  rw [rounds_succ]
  go_wp2
  go_region
  go_wp2
  rw [rounds_succ]
  go_wp2
  go_region
  go_wp2
  rw [rounds_succ]
  go_wp2
  go_region
  go_wp2
  rw [rounds_succ]
  go_wp2
  refine bodyPost_ret (v := .tuple #[.agg #[.int .u64 (t0 : Int), .int .u64 (t1 : Int), .int .u64 (t2 : Int), .int .u64 (t3 : Int)], .int .u64 (k4 : Int)]) (by simp [results, Tryd.results31, go_sem]) rfl ⟨rfl, ?_⟩
  repeat (first | exact Below.refl _ _ | refine Below.drew ?_ | refine bal ?_ _)
end Go.Proofs.YtioebjbjpjbodaaDoor
namespace Go.Proofs.YtioebjbjpjbodaaDoor
open Go.RowKit
set_option linter.unusedVariables false

theorem lof_any (n : Nat) (w : World) (h : n < 18446744073709551616) : Calls Tryd.prog 8 #[.int .u64 (n : Int)] w fun e w' => e = .returned (num n) ∧ Below w.heap.size w w' := by
  have hn := hid (num_small n h)
  go_enter Tryd.func8, Tryd.ntmps8
  go_wp2
  refine bodyPost_ret (v := .agg #[.int .u64 (n : Int), .int .u64 0, .int .u64 0, .int .u64 0]) (by simp [results, Tryd.results8, go_sem]) rfl ⟨by rw [hn.out], ?_⟩
  repeat (first | exact Below.refl _ _ | refine Below.drew ?_ | refine bal ?_ _)

theorem num_zero : (.agg #[.int .u64 0, .int .u64 0, .int .u64 0, .int .u64 0] : Value) = num 0 := num_small 0 (by decide)
theorem apart_at (n q : Int) (p : Nat) (w : World) (h : n = 64 * q + p) (hp : p < 64) (h0 : -9223372036854775808 ≤ n) (h1 : n ≤ 9223372036854775807) :
    Calls Tryd.prog 60 #[.int .i64 n] w fun e w' => e = .returned (.tuple #[.int .i64 q, .int .u64 (p : Int)]) ∧ w = w' := by
  have e1 : n / 64 = q := by omega
  have e2 : (IntKind.u64.wrap n).tmod 64 = (p : Int) := by
    rw [IntKind.wrap_u64, Int.tmod_eq_emod_of_nonneg (by omega)]
    omega
  have E1 := hid e1
  have E2 := hid e2
  clear e1 e2 h
  go_enter Tryd.func60, Tryd.ntmps60
  go_wp2
  go_ret2
  exact ⟨by rw [E1.out, E2.out]; rfl, rfl⟩

/-- a number's word, 0 where there is none -/
def wi (x : Nat) (i : Int) : Nat := if 0 ≤ i ∧ i < 4 then wd x i.toNat else 0
theorem wi_lt (x : Nat) (i : Int) : wi x i < 18446744073709551616 := by
  unfold wi; split
  · exact wd_lt _ _
  · decide
theorem word_any (x : Nat) (i : Int) (w : World) :
    Calls Tryd.prog 61 #[num x, .int .i64 i] w fun e w' => e = .returned (.int .u64 (wi x i : Int)) ∧ Below w.heap.size w w' := by
  by_cases h : 0 ≤ i ∧ i < 4
  · have hw := hid (p := wi x i = wd x i.toNat) (by unfold wi; rw [if_pos h])
    obtain ⟨k, rfl⟩ := Int.eq_ofNat_of_zero_le h.1
    obtain ⟨_, h2⟩ := h
    have : k = 0 ∨ k = 1 ∨ k = 2 ∨ k = 3 := by omega
    clear h2
    rcases this with rfl | rfl | rfl | rfl
    all_goals
      go_enter Tryd.func61, Tryd.ntmps61
      go_wp2
      go_ret
      exact ⟨by rw [hw.out]; rfl, bal (Below.refl _ _) _⟩
  · have hw := hid (p := wi x i = 0) (by unfold wi; rw [if_neg h])
    by_cases h2 : i < 0
    · go_enter Tryd.func61, Tryd.ntmps61
      go_wp2
      go_ret
      exact ⟨by rw [hw.out]; rfl, bal (Below.refl _ _) _⟩
    · have h3 : 4 ≤ i := by omega
      clear h
      go_enter Tryd.func61, Tryd.ntmps61
      go_wp2
      go_ret
      exact ⟨by rw [hw.out]; rfl, bal (Below.refl _ _) _⟩

theorem nan_any (n : Nat) (w : World) : Calls Tryd.prog 45 #[.int .u32 (n : Int)] w fun e w' => e = .returned (.bool false) ∧ w = w' := by
  go_enter Tryd.func45, Tryd.ntmps45
  go_wp2
  go_ret
  exact ⟨by simp, rfl⟩
/-- which is the lower one -/
def cmpN (a b : Nat) : Int := if a < b then -1 else if b < a then 1 else 0
theorem compare_any (a b : Nat) (w : World) : Calls Tryd.prog 34 #[.int .u32 (a : Int), .int .u32 (b : Int)] w fun e w' => e = .returned (.int .i64 (cmpN a b)) ∧ w = w' := by
  rcases Nat.lt_trichotomy a b with h | h | h
  · have hw := hid (p := cmpN a b = -1) (by unfold cmpN; rw [if_pos h])
    go_enter Tryd.func34, Tryd.ntmps34
    go_wp2_with (go_at_call 45; refine (nan_any _ _).mono ?_; rintro e w' ⟨rfl, rfl⟩)
    go_ret
    exact ⟨by rw [hw.out]; rfl, rfl⟩
  · have hw := hid (p := cmpN a b = 0) (by unfold cmpN; rw [if_neg (by omega), if_neg (by omega)])
    subst h
    go_enter Tryd.func34, Tryd.ntmps34
    go_wp2_with (go_at_call 45; refine (nan_any _ _).mono ?_; rintro e w' ⟨rfl, rfl⟩)
    go_ret
    exact ⟨by rw [hw.out]; rfl, rfl⟩
  · have hw := hid (p := cmpN a b = 1) (by unfold cmpN; rw [if_neg (by omega), if_pos h])
    go_enter Tryd.func34, Tryd.ntmps34
    go_wp2_with (go_at_call 45; refine (nan_any _ _).mono ?_; rintro e w' ⟨rfl, rfl⟩)
    go_ret
    exact ⟨by rw [hw.out]; rfl, rfl⟩

/-- the bit at a place, 0 where there is none -/
def bi (x : Nat) (n : Int) : Nat := if n < 0 then 0 else bitAt x n.toNat
theorem bi_word (x p : Nat) (n q : Int) (hx : x < 2 ^ 256) (h : n = 64 * q + p) (hp : p < 64) : wi x q / 2 ^ p % 2 = bi x n := by
  by_cases hq : q < 0
  · rw [wi, if_neg (by omega), bi, if_pos (by omega)]; simp
  · obtain ⟨k, rfl⟩ := Int.eq_ofNat_of_zero_le (by omega : 0 ≤ q)
    have hn : n.toNat = 64 * k + p := by omega
    rw [bi, if_neg (by omega), hn]
    by_cases hk : k < 4
    · rw [wi, if_pos (by omega), Int.toNat_natCast, wd]
      have e1 : bitAt (x / 18446744073709551616 ^ k) p = bitAt (x / 18446744073709551616 ^ k % 18446744073709551616) p := by
        conv => lhs; rw [← Nat.mod_add_div (x / 18446744073709551616 ^ k) 18446744073709551616]
        exact word_bit _ _ p (Nat.mod_lt _ (by decide)) hp
      have e2 : bitAt (x / 18446744073709551616 ^ k) p = bitAt x (64 * k + p) := by
        unfold bitAt
        rw [Nat.div_div_eq_div_mul, Nat.pow_add, Nat.pow_mul]
      rw [← e2, e1]
      rfl
    · rw [wi, if_neg (by omega), bitAt_high x _ 256 hx (by omega)]; simp
theorem bit_any (x : Nat) (n : Int) (w : World) (hx : x < 2 ^ 256) (h0 : -9223372036854775808 ≤ n) (h1 : n ≤ 9223372036854775807) :
    Calls Tryd.prog 47 #[num x, .int .i64 n] w fun e w' => e = .returned (.int .u64 (bi x n : Int)) ∧ Below w.heap.size w w' := by
  obtain ⟨q, p, h, hp⟩ : ∃ (q : Int) (p : Nat), n = 64 * q + p ∧ p < 64 := ⟨n / 64, (n % 64).toNat, by omega, by omega⟩
  have H := hid h
  have E := hid (bi_word x p n q hx h hp)
  have L := hid (wi_lt x q)
  clear h hx
  go_enter Tryd.func47, Tryd.ntmps47
  go_wp2_with fail
  refine (apart_at n q p _ H.out hp h0 h1).mono ?_
  rintro e w' ⟨rfl, rfl⟩
  go_wp2_with fail
  refine (word_any x q _).mono ?_
  rintro e w' ⟨rfl, hb⟩
  go_wp2
  go_ret
  refine ⟨?_, bthen (bal (Below.refl _ _) _) hb⟩
  have e : bits .and .u64 ((wi x q : Int) / 2 ^ p) 1 = (bi x n : Int) := by
    have hl := L.out
    have e1 : ((wi x q : Int) / 2 ^ p) = ((wi x q / 2 ^ p : Nat) : Int) := by simp
    have hd : wi x q / 2 ^ p ≤ wi x q := Nat.div_le_self _ _
    rw [e1, ← E.out]
    have := u64_and_nat (wi x q / 2 ^ p) 1 (by omega) (by decide)
    rw [nat_mask1] at this
    exact this
  rw [← e]
  rfl
end Go.Proofs.YtioebjbjpjbodaaDoor
namespace Go.Proofs.YtioebjbjpjbodaaDoor
open Go.RowKit Go.Shelf
set_option linter.unusedVariables false

def len_ren : Go.Shelf.Ren := ⟨fun | 129 => 24 | n => n, fun | 53 => 22 | 3 => 3 | 4 => 4 | 46 => 70 | 5 => 5 | 9 => 9 | n => n, fun | n => n⟩
theorem len_lays : Go.Proofs.Lays.n129 Tryd.prog len_ren := {
  mixed := by kernel_rfl
  f129 := Tryd.func24.trans (congrArg some (by kernel_rfl))
  t3 := Tryd.underlying3
  a3 := Tryd.isAgg3
  z3 := Tryd.sizeOf3
  v3 := Tryd.zeroValue3
  t4 := Tryd.underlying4
  a4 := Tryd.isAgg4
  z4 := Tryd.sizeOf4
  v4 := Tryd.zeroValue4
  t5 := Tryd.underlying5
  a5 := Tryd.isAgg5
  z5 := Tryd.sizeOf5
  v5 := Tryd.zeroValue5
  t9 := Tryd.underlying9
  a9 := Tryd.isAgg9
  z9 := Tryd.sizeOf9
  v9 := Tryd.zeroValue9
  t46 := Tryd.underlying70
  a46 := Tryd.isAgg70
  z46 := Tryd.sizeOf70
  v46 := Tryd.zeroValue70
  t53 := Tryd.underlying22
  a53 := Tryd.isAgg22
  z53 := Tryd.sizeOf22
  v53 := Tryd.zeroValue22 }
theorem nbits_half (x : Nat) (h : x ≠ 0) : nbits x = 1 + nbits (x / 2) := by
  have hp : 0 < x := by omega
  by_cases h1 : x = 1
  · subst h1; decide
  · have h2 : x / 2 ≠ 0 := by omega
    have a := nbits_lt (x / 2)
    have b := nbits_le (x / 2) (by omega)
    have c := nbits_pos (x / 2) (by omega)
    have e : 1 + nbits (x / 2) = nbits (x / 2) + 1 := by omega
    rw [e]
    refine nbits_of x (nbits (x / 2)) ?_ ?_
    · have : 2 ^ nbits (x / 2) = 2 * 2 ^ (nbits (x / 2) - 1) := by
        conv => lhs; rw [show nbits (x / 2) = (nbits (x / 2) - 1) + 1 by omega, Nat.pow_succ, Nat.mul_comm]
      omega
    · rw [Nat.pow_succ]; omega
theorem bitLen_nbits (x : Nat) (h : x < 18446744073709551616) : Lib.bitLen x = nbits x := by
  induction x using Nat.strongRecOn with
  | ind x ih =>
    by_cases h0 : x = 0
    · subst h0; decide
    · rw [Lib.bitLen_half x h0 h, nbits_half x h0, ih (x / 2) (by omega) (by omega)]
theorem len_any (x : Nat) (w : World) (hx : x < 18446744073709551616) : Calls Tryd.prog 24 #[.int .u64 (x : Int)] w fun e w' => e = .returned (.int .i64 (nbits x : Int)) ∧ w = w' := by
  refine (Any.bits_Len64 len_lays (x : Int) w (by omega) (by omega)).mono fun e w' ⟨he, hw⟩ => ?_
  rw [he, hw, Int.toNat_natCast, bitLen_nbits x hx]
  exact ⟨rfl, rfl⟩

theorem nbits_top (y r : Nat) (k : Nat) (hr : r < 2 ^ k) (hy : 0 < y) : nbits (r + 2 ^ k * y) = k + nbits y := by
  have a := nbits_lt y
  have b := nbits_le y hy
  have c := nbits_pos y hy
  rw [show k + nbits y = (k + (nbits y - 1)) + 1 by omega]
  refine nbits_of _ _ ?_ ?_
  · rw [Nat.pow_add]
    have := Nat.mul_le_mul_left (2 ^ k) b
    omega
  · rw [show k + (nbits y - 1) + 1 = k + nbits y by omega, Nat.pow_add]
    have h1 : y + 1 ≤ 2 ^ nbits y := a
    have := Nat.mul_le_mul_left (2 ^ k) h1
    rw [Nat.mul_add] at this
    omega
theorem bits3 (x : Nat) (hx : x < 2 ^ 256) (h : wd x 3 ≠ 0) : nbits x = 192 + nbits (wd x 3) := by
  have e := v4_wd x hx
  have := nbits_top (wd x 3) (wd x 0 + 18446744073709551616 * (wd x 1 + 18446744073709551616 * wd x 2)) 192 (by
    have h0 := wd_lt x 0
    have h1 := wd_lt x 1
    have h2 := wd_lt x 2
    rw [show (2 : Nat) ^ 192 = 6277101735386680763835789423207666416102355444464034512896 by decide]
    omega) (by omega)
  rw [← this]
  conv => lhs; rw [← e]
  unfold v4
  rw [show (2 : Nat) ^ 192 = 6277101735386680763835789423207666416102355444464034512896 by decide]
  congr 1
  omega
theorem bits2 (x : Nat) (hx : x < 2 ^ 256) (h3 : wd x 3 = 0) (h : wd x 2 ≠ 0) : nbits x = 128 + nbits (wd x 2) := by
  have e := v4_wd x hx
  have := nbits_top (wd x 2) (wd x 0 + 18446744073709551616 * wd x 1) 128 (by
    have h0 := wd_lt x 0
    have h1 := wd_lt x 1
    rw [show (2 : Nat) ^ 128 = 340282366920938463463374607431768211456 by decide]
    omega) (by omega)
  rw [← this]
  conv => lhs; rw [← e]
  unfold v4
  rw [h3, show (2 : Nat) ^ 128 = 340282366920938463463374607431768211456 by decide]
  congr 1
  omega
theorem bits1 (x : Nat) (hx : x < 2 ^ 256) (h3 : wd x 3 = 0) (h2 : wd x 2 = 0) (h : wd x 1 ≠ 0) : nbits x = 64 + nbits (wd x 1) := by
  have e := v4_wd x hx
  have := nbits_top (wd x 1) (wd x 0) 64 (wd_lt x 0) (by omega)
  rw [← this]
  conv => lhs; rw [← e]
  unfold v4
  rw [h3, h2]
  congr 1
theorem bits0 (x : Nat) (hx : x < 2 ^ 256) (h3 : wd x 3 = 0) (h2 : wd x 2 = 0) (h1 : wd x 1 = 0) : x = wd x 0 := by
  have e := v4_wd x hx
  unfold v4 at e
  rw [h3, h2, h1] at e
  omega
set_option maxRecDepth 100000 in
set_option maxHeartbeats 800000 in
theorem bits_at3 (x : Nat) (w : World) (hx : x < 2 ^ 256)  (h : wd x 3 ≠ 0) : Calls Tryd.prog 12 #[num x] w fun e w' => e = .returned (.int .i64 (nbits x : Int)) ∧ Below w.heap.size w w' := by
  have E : Hid (nbits x = 192 + nbits (wd x 3)) := hid (bits3 x hx  h)
  have L := hid (wd_lt x 3)
  have hb := nbits_up _ 64 L.out
  have n3 : ((wd x 3 : Int) != 0) = true := by simpa using h
  clear hx h 
  go_enter Tryd.func12, Tryd.ntmps12
  go_wp2
  refine wp_loop_rounds 5 ?_
  rw [rounds_succ]
  go_wp2_with (go_at_call 24; refine (len_any _ _ L.out).mono ?_; rintro e w' ⟨rfl, rfl⟩)
  go_ret
  exact ⟨by rw [E.out]; simp, bal (Below.refl _ _) _⟩

set_option maxRecDepth 100000 in
set_option maxHeartbeats 800000 in
theorem bits_at2 (x : Nat) (w : World) (hx : x < 2 ^ 256) (h3 : wd x 3 = 0) (h : wd x 2 ≠ 0) : Calls Tryd.prog 12 #[num x] w fun e w' => e = .returned (.int .i64 (nbits x : Int)) ∧ Below w.heap.size w w' := by
  have E : Hid (nbits x = 128 + nbits (wd x 2)) := hid (bits2 x hx h3 h)
  have L := hid (wd_lt x 2)
  have hb := nbits_up _ 64 L.out
  have n2 : ((wd x 2 : Int) != 0) = true := by simpa using h
  have z3 : ((wd x 3 : Int) != 0) = false := by simp [h3]
  clear hx h h3
  go_enter Tryd.func12, Tryd.ntmps12
  go_wp2
  refine wp_loop_rounds 5 ?_
  rw [rounds_succ]
  go_wp2
  rw [rounds_succ]
  go_wp2_with (go_at_call 24; refine (len_any _ _ L.out).mono ?_; rintro e w' ⟨rfl, rfl⟩)
  go_ret
  exact ⟨by rw [E.out]; simp, bal (Below.refl _ _) _⟩

set_option maxRecDepth 100000 in
set_option maxHeartbeats 800000 in
theorem bits_at1 (x : Nat) (w : World) (hx : x < 2 ^ 256) (h3 : wd x 3 = 0) (h2 : wd x 2 = 0) (h : wd x 1 ≠ 0) : Calls Tryd.prog 12 #[num x] w fun e w' => e = .returned (.int .i64 (nbits x : Int)) ∧ Below w.heap.size w w' := by
  have E : Hid (nbits x = 64 + nbits (wd x 1)) := hid (bits1 x hx h3 h2 h)
  have L := hid (wd_lt x 1)
  have hb := nbits_up _ 64 L.out
  have n1 : ((wd x 1 : Int) != 0) = true := by simpa using h
  have z3 : ((wd x 3 : Int) != 0) = false := by simp [h3]
  have z2 : ((wd x 2 : Int) != 0) = false := by simp [h2]
  clear hx h h3 h2
  go_enter Tryd.func12, Tryd.ntmps12
  go_wp2
  refine wp_loop_rounds 5 ?_
  rw [rounds_succ]
  go_wp2
  rw [rounds_succ]
  go_wp2
  rw [rounds_succ]
  go_wp2_with (go_at_call 24; refine (len_any _ _ L.out).mono ?_; rintro e w' ⟨rfl, rfl⟩)
  go_ret
  exact ⟨by rw [E.out]; simp, bal (Below.refl _ _) _⟩

set_option maxRecDepth 100000 in
set_option maxHeartbeats 800000 in
theorem bits_at0 (x : Nat) (w : World) (hx : x < 2 ^ 256) (h3 : wd x 3 = 0) (h2 : wd x 2 = 0) (h1 : wd x 1 = 0) (h : wd x 0 ≠ 0) : Calls Tryd.prog 12 #[num x] w fun e w' => e = .returned (.int .i64 (nbits x : Int)) ∧ Below w.heap.size w w' := by
  have E : Hid (nbits x = 0 + nbits (wd x 0)) := hid (by have e := bits0 x hx h3 h2 h1; rw [← e]; omega)
  have L := hid (wd_lt x 0)
  have hb := nbits_up _ 64 L.out
  have n0 : ((wd x 0 : Int) != 0) = true := by simpa using h
  have z3 : ((wd x 3 : Int) != 0) = false := by simp [h3]
  have z2 : ((wd x 2 : Int) != 0) = false := by simp [h2]
  have z1 : ((wd x 1 : Int) != 0) = false := by simp [h1]
  clear hx h h3 h2 h1
  go_enter Tryd.func12, Tryd.ntmps12
  go_wp2
  refine wp_loop_rounds 5 ?_
  rw [rounds_succ]
  go_wp2
  rw [rounds_succ]
  go_wp2
  rw [rounds_succ]
  go_wp2
  rw [rounds_succ]
  go_wp2_with (go_at_call 24; refine (len_any _ _ L.out).mono ?_; rintro e w' ⟨rfl, rfl⟩)
  go_ret
  exact ⟨by rw [E.out]; simp, bal (Below.refl _ _) _⟩

set_option maxRecDepth 100000 in
set_option maxHeartbeats 800000 in
theorem bits_none (w : World) : Calls Tryd.prog 12 #[num 0] w fun e w' => e = .returned (.int .i64 0) ∧ Below w.heap.size w w' := by
  have z0 : ((wd 0 0 : Int) != 0) = false := by decide
  have z1 : ((wd 0 1 : Int) != 0) = false := by decide
  have z2 : ((wd 0 2 : Int) != 0) = false := by decide
  have z3 : ((wd 0 3 : Int) != 0) = false := by decide
  go_enter Tryd.func12, Tryd.ntmps12
  go_wp2
  refine wp_loop_rounds 5 ?_
  rw [rounds_succ]
  go_wp2
  rw [rounds_succ]
  go_wp2
  rw [rounds_succ]
  go_wp2
  rw [rounds_succ]
  go_wp2
  rw [rounds_succ]
  go_wp2
  go_ret
  exact ⟨rfl, bal (Below.refl _ _) _⟩

theorem bits_any (x : Nat) (w : World) (hx : x < 2 ^ 256) : Calls Tryd.prog 12 #[num x] w fun e w' => e = .returned (.int .i64 (nbits x : Int)) ∧ Below w.heap.size w w' := by
  by_cases h3 : wd x 3 = 0
  · by_cases h2 : wd x 2 = 0
    · by_cases h1 : wd x 1 = 0
      · by_cases h0 : wd x 0 = 0
        · have e := bits0 x hx h3 h2 h1
          rw [h0] at e
          subst e
          exact bits_none w
        · exact bits_at0 x w hx h3 h2 h1 h0
      · exact bits_at1 x w hx h3 h2 h1
    · exact bits_at2 x w hx h3 h2
  · exact bits_at3 x w hx h3
end Go.Proofs.YtioebjbjpjbodaaDoor
namespace Go.Proofs.YtioebjbjpjbodaaDoor
open Go.RowKit
set_option linter.unusedVariables false

/-- each bit n places higher; what would stand outside is lost -/
def shf (x : Nat) (n : Int) : Nat := if 0 ≤ n then x * 2 ^ n.toNat % 2 ^ 256 else x / 2 ^ (-n).toNat
theorem p64 : (18446744073709551616 : Nat) = 2 ^ 64 := by decide
theorem wd_mul0 (x p : Nat) : wd (x * 2 ^ p) 0 = wd x 0 * 2 ^ p % 18446744073709551616 := by
  unfold wd
  rw [Nat.pow_zero, Nat.div_one, Nat.div_one, Nat.mod_mul_mod]
theorem two_split (p : Nat) (hp : p ≤ 64) : (18446744073709551616 : Nat) = 2 ^ p * 2 ^ (64 - p) := by
  rw [p64, ← Nat.pow_add]; congr 1; omega
theorem low_lt (a p : Nat) (hp : p ≤ 64) (ha : a < 18446744073709551616) : a / 2 ^ (64 - p) < 2 ^ p := by
  rw [Nat.div_lt_iff_lt_mul (Nat.two_pow_pos _), ← two_split p hp]; exact ha
theorem up_mod (a p : Nat) (hp : p ≤ 64) : a * 2 ^ p % 18446744073709551616 % 2 ^ p = 0 := by
  rw [two_split p hp, Nat.mod_mul_right_mod, Nat.mul_mod_left]
theorem up_room (a b p : Nat) (hp : p ≤ 64) (hb : b < 2 ^ p) : a * 2 ^ p % 18446744073709551616 + b < 18446744073709551616 := by
  rw [two_split p hp, Nat.mul_comm (2 ^ p) (2 ^ (64 - p)), Nat.mul_mod_mul_right]
  have h := Nat.mod_lt a (Nat.two_pow_pos (64 - p))
  have : (a % 2 ^ (64 - p) + 1) * 2 ^ p ≤ 2 ^ (64 - p) * 2 ^ p := Nat.mul_le_mul_right _ h
  rw [Nat.add_mul] at this
  omega
theorem wd_mul (x p j : Nat) (hp : p < 64) : wd (x * 2 ^ p) (j + 1) = wd x (j + 1) * 2 ^ p % 18446744073709551616 + wd x j / 2 ^ (64 - p) := by
  unfold wd
  have e1 : x * 2 ^ p / 18446744073709551616 ^ (j + 1) = x / 18446744073709551616 ^ j / 2 ^ (64 - p) := by
    rw [Nat.pow_succ, Nat.div_div_eq_div_mul]
    have : (18446744073709551616 : Nat) ^ j * 18446744073709551616 = 18446744073709551616 ^ j * 2 ^ (64 - p) * 2 ^ p := by
      rw [Nat.mul_assoc, Nat.mul_comm (2 ^ (64 - p)), ← two_split p (by omega)]
    rw [this, Nat.mul_div_mul_right _ _ (Nat.two_pow_pos p)]
  rw [e1]
  have e2 : x / 18446744073709551616 ^ (j + 1) = x / 18446744073709551616 ^ j / 18446744073709551616 := by rw [Nat.pow_succ, Nat.div_div_eq_div_mul]
  rw [e2]
  generalize x / 18446744073709551616 ^ j = z
  have hz := Nat.mod_add_div z 18446744073709551616
  have hb := low_lt (z % 18446744073709551616) p (by omega) (Nat.mod_lt _ (by decide))
  have hr := up_room (z / 18446744073709551616 % 18446744073709551616) _ p (by omega) hb
  have e3 : z / 2 ^ (64 - p) = z % 18446744073709551616 / 2 ^ (64 - p) + z / 18446744073709551616 * 2 ^ p := by
    conv => lhs; rw [← hz]
    conv => lhs; lhs; rhs; rw [two_split p (by omega), Nat.mul_comm (2 ^ p), Nat.mul_assoc]
    rw [Nat.add_mul_div_left _ _ (Nat.two_pow_pos _)]
    congr 1
    rw [Nat.mul_comm (2 ^ (64 - p)) (2 ^ p), ← two_split p (by omega), Nat.mul_comm]
  rw [e3, Nat.add_comm, Nat.add_mod, Nat.mod_mul_mod, Nat.mod_eq_of_lt (a := z % 18446744073709551616 / 2 ^ (64 - p)) (by have := Nat.div_le_self (z % 18446744073709551616) (2 ^ (64 - p)); omega)]
  rw [Nat.mod_mul_mod] at hr
  exact Nat.mod_eq_of_lt hr
theorem wd_high (x j : Nat) (hx : x < 2 ^ 256) (hj : 4 ≤ j) : wd x j = 0 := by
  unfold wd
  have h : x < 18446744073709551616 ^ j := by
    refine Nat.lt_of_lt_of_le hx ?_
    rw [show (2 : Nat) ^ 256 = 18446744073709551616 ^ 4 by decide]
    exact Nat.pow_le_pow_right (by decide) hj
  rw [Nat.div_eq_of_lt h]
theorem wi_nat (x j : Nat) (hx : x < 2 ^ 256) : wi x (j : Int) = wd x j := by
  unfold wi
  split
  · rw [Int.toNat_natCast]
  · rw [wd_high x j hx (by omega)]
theorem wi_neg (x : Nat) (i : Int) (h : i < 0) : wi x i = 0 := by unfold wi; rw [if_neg (by omega)]
theorem wd_up (y k i : Nat) (hi : i < 4) : wd (y * 18446744073709551616 ^ k % 2 ^ 256) i = if k ≤ i then wd y (i - k) else 0 := by
  unfold wd
  have e : (2 : Nat) ^ 256 = 18446744073709551616 ^ i * 18446744073709551616 ^ (4 - i) := by
    rw [← Nat.pow_add, show i + (4 - i) = 4 by omega]
  have e' : (18446744073709551616 : Nat) ^ (4 - i) = 18446744073709551616 * 18446744073709551616 ^ (3 - i) := by
    rw [show 4 - i = (3 - i) + 1 by omega, Nat.pow_succ, Nat.mul_comm]
  rw [e, Nat.mod_mul_right_div_self, e', Nat.mod_mul_right_mod]
  split
  · rename_i hk
    have : (18446744073709551616 : Nat) ^ i = 18446744073709551616 ^ (i - k) * 18446744073709551616 ^ k := by rw [← Nat.pow_add]; congr 1; omega
    rw [this, Nat.mul_div_mul_right _ _ (Nat.pow_pos (by decide))]
  · rename_i hk
    have : (18446744073709551616 : Nat) ^ k = 18446744073709551616 ^ (k - i - 1) * 18446744073709551616 * 18446744073709551616 ^ i := by
      rw [← Nat.pow_succ, ← Nat.pow_add]; congr 1; omega
    rw [this, ← Nat.mul_assoc, Nat.mul_div_cancel _ (Nat.pow_pos (by decide)), ← Nat.mul_assoc, Nat.mul_mod_left]
theorem wd_down (y k i : Nat) : wd (y / 18446744073709551616 ^ k) i = wd y (i + k) := by
  unfold wd
  rw [Nat.div_div_eq_div_mul, ← Nat.pow_add, Nat.add_comm k i]
theorem wd_pair (x p j : Nat) (hx : x < 2 ^ 256) (hp : p < 64) : wd (x * 2 ^ p) j = wi x (j : Int) * 2 ^ p % 18446744073709551616 + wi x ((j : Int) - 1) / 2 ^ (64 - p) := by
  match j with
  | 0 => rw [wd_mul0, wi_nat x 0 hx, wi_neg x _ (by decide)]; simp
  | j + 1 =>
    rw [wd_mul x p j hp, wi_nat x (j + 1) hx, show (((j + 1 : Nat) : Int) - 1) = (j : Int) by omega, wi_nat x j hx]
theorem shf_word (x p i : Nat) (n q : Int) (hx : x < 2 ^ 256) (h : n = 64 * q + p) (hp : p < 64) (hi : i < 4) :
    wd (shf x n) i = wi x ((i : Int) - q) * 2 ^ p % 18446744073709551616 + wi x ((i : Int) - q - 1) / 2 ^ (64 - p) := by
  by_cases hq : 0 ≤ q
  · obtain ⟨k, rfl⟩ := Int.eq_ofNat_of_zero_le hq
    have hn : n.toNat = p + 64 * k := by omega
    rw [shf, if_pos (by omega), hn, Nat.pow_add, Nat.pow_mul, ← Nat.mul_assoc, ← p64, wd_up _ _ _ hi]
    split
    · rename_i hk
      rw [wd_pair x p (i - k) hx hp, show ((i - k : Nat) : Int) = (i : Int) - k by omega]
    · rw [wi_neg _ _ (by omega), wi_neg _ _ (by omega)]; simp
  · obtain ⟨k, hk⟩ := Int.eq_ofNat_of_zero_le (by omega : 0 ≤ -q)
    have hn : (-n).toNat = 64 * k - p := by omega
    rw [shf, if_neg (by omega), hn]
    have e : x / 2 ^ (64 * k - p) = x * 2 ^ p / 18446744073709551616 ^ k := by
      rw [p64, ← Nat.pow_mul]
      have : (2 : Nat) ^ (64 * k) = 2 ^ (64 * k - p) * 2 ^ p := by rw [← Nat.pow_add]; congr 1; omega
      rw [this, Nat.mul_div_mul_right _ _ (Nat.two_pow_pos p)]
    rw [e, wd_down, wd_pair x p (i + k) hx hp, show ((i + k : Nat) : Int) = (i : Int) - q by omega]
/-- a word of the moved number, as the program reckons it -/
theorem shf_or (x p i : Nat) (n q : Int) (hx : x < 2 ^ 256) (h : n = 64 * q + p) (hp : p < 64) (hi : i < 4) (a b : Nat) (ha : a = wi x ((i : Int) - q)) (hb : b = wi x ((i : Int) - q - 1)) :
    bits .or .u64 (IntKind.u64.wrap ((a : Int) * 2 ^ p)) ((b : Int) / 2 ^ (64 - p)) = (wd (shf x n) i : Int) := by
  have hbl : b < 18446744073709551616 := hb ▸ wi_lt _ _
  have hl := low_lt b p (by omega) hbl
  have hr := up_room a _ p (by omega) hl
  have e1 : IntKind.u64.wrap ((a : Int) * 2 ^ p) = ((a * 2 ^ p % 18446744073709551616 : Nat) : Int) := by
    rw [IntKind.wrap_u64]; simp
  have e2 : ((b : Int) / 2 ^ (64 - p)) = ((b / 2 ^ (64 - p) : Nat) : Int) := by simp
  rw [e1, e2, u64_or_nat _ _ (by omega) (by omega), nat_join p _ _ (up_mod a p (by omega)) hl, shf_word x p i n q hx h hp hi, ha, hb]
end Go.Proofs.YtioebjbjpjbodaaDoor
namespace Go.Proofs.YtioebjbjpjbodaaDoor
set_option linter.unusedVariables false

/-- alike, going round by m -/
def Cg (m : Nat) (x y : Int) : Prop := ∃ k : Int, x = y + m * k
theorem Cg.refl (m : Nat) (x : Int) : Cg m x x := ⟨0, by simp⟩
theorem Cg.symm {m : Nat} {x y : Int} : Cg m x y → Cg m y x := fun ⟨k, h⟩ => ⟨-k, by grind⟩
theorem Cg.trans {m : Nat} {x y z : Int} : Cg m x y → Cg m y z → Cg m x z := fun ⟨k, h⟩ ⟨j, g⟩ => ⟨k + j, by grind⟩
theorem Cg.add {m : Nat} {x y u v : Int} : Cg m x y → Cg m u v → Cg m (x + u) (y + v) := fun ⟨k, h⟩ ⟨j, g⟩ => ⟨k + j, by grind⟩
theorem Cg.sub {m : Nat} {x y u v : Int} : Cg m x y → Cg m u v → Cg m (x - u) (y - v) := fun ⟨k, h⟩ ⟨j, g⟩ => ⟨k - j, by grind⟩
theorem Cg.mul {m : Nat} {x y u v : Int} : Cg m x y → Cg m u v → Cg m (x * u) (y * v) := fun ⟨k, h⟩ ⟨j, g⟩ => ⟨y * j + k * v + m * k * j, by subst h g; grind⟩
theorem Cg.of_mod (m n : Nat) : Cg m ((n % m : Nat) : Int) n := ⟨-((n / m : Nat) : Int), by
  have h : ((n % m + m * (n / m) : Nat) : Int) = (n : Int) := congrArg _ (Nat.mod_add_div n m)
  rw [Int.natCast_add, Int.natCast_mul] at h
  grind⟩
theorem Cg.times (m : Nat) (x k : Int) : Cg m (x + m * k) x := ⟨k, rfl⟩
theorem Cg.mods {m : Nat} {x y : Nat} (h : Cg m x y) : x % m = y % m := by
  obtain ⟨k, h⟩ := h
  have e : (x : Int) % m = (y : Int) % m := by rw [h, Int.add_mul_emod_self_left]
  exact_mod_cast e
theorem Cg.eq {m : Nat} {x y : Nat} (hx : x < m) (hy : y < m) (h : Cg m x y) : x = y := by
  have := h.mods
  rwa [Nat.mod_eq_of_lt hx, Nat.mod_eq_of_lt hy] at this
theorem Cg.is_mod {m x n : Nat} (hx : x < m) (h : Cg m x n) : x = n % m := by
  have := h.mods
  rwa [Nat.mod_eq_of_lt hx] at this
/-- a times v is 1, going round by m -/
def Ivs (a m v : Nat) : Prop := v < m ∧ a * v % m = 1
theorem Ivs.of {a m v : Nat} (hm : 1 < m) (hv : v < m) (h : Cg m ((a : Int) * v) 1) : Ivs a m v := by
  refine ⟨hv, ?_⟩
  have e : Cg m ((a * v : Nat) : Int) ((1 : Nat) : Int) := by rw [Int.natCast_mul]; exact h
  rw [e.mods, Nat.mod_eq_of_lt hm]
/-- a step down: what a leaves, multiplied -/
theorem ivs_step {a m whole rest last next t z : Nat} (h0 : Cg m (a * last) whole) (h1 : Cg m (a * next) rest) (ht : t = whole / rest * next % m) (hz : Cg m z ((last : Int) - t)) : Cg m (a * z) ((whole % rest : Nat) : Int) := by
  have e1 : Cg m (t : Int) ((whole / rest : Nat) * next) := by
    subst ht
    have := Cg.of_mod m (whole / rest * next)
    rwa [Int.natCast_mul] at this
  have e2 := (Cg.refl m (a : Int)).mul (hz.trans ((Cg.refl m (last : Int)).sub e1))
  have e3 : ((a : Int) * ((last : Int) - (whole / rest : Nat) * next)) = a * last - (whole / rest : Nat) * (a * next) := by grind
  rw [e3] at e2
  have e4 := h0.sub ((Cg.refl m ((whole / rest : Nat) : Int)).mul h1)
  have e5 : (whole : Int) - (whole / rest : Nat) * rest = ((whole % rest : Nat) : Int) := by
    have h : ((whole % rest + rest * (whole / rest) : Nat) : Int) = (whole : Int) := congrArg _ (Nat.mod_add_div whole rest)
    rw [Int.natCast_add, Int.natCast_mul] at h
    grind
  rw [e5] at e4
  exact e2.trans e4
theorem gcd_step (whole rest : Nat) : Nat.gcd rest (whole % rest) = Nat.gcd whole rest := by
  rw [Nat.gcd_comm rest, ← Nat.gcd_rec, Nat.gcd_comm]
/-- who has an inverse has nothing above 1 in common -/
theorem Ivs.gcd {a m v : Nat} (h : Ivs a m v) : Nat.gcd a m = 1 := by
  have h1 : Nat.gcd a m ∣ a * v % m := (Nat.dvd_mod_iff (Nat.gcd_dvd_right a m)).2 (Nat.dvd_trans (Nat.gcd_dvd_left a m) (Nat.dvd_mul_right a v))
  rw [h.2] at h1
  exact Nat.dvd_one.1 h1

/-- Montgomery's: what is left by m of low and high, the low words taken away -/
theorem lower_cg {R m low high inv often above : Nat} (hlow : low < R) (hinv : Cg R ((m : Int) * inv) 1) (ho : often = low * inv % R) (ha : above = often * m / R) : Cg m (((high : Int) - above) * R) (low + R * high) := by
  have e1 : Cg R ((often * m : Nat) : Int) low := by
    subst ho
    have := (Cg.of_mod R (low * inv)).mul (Cg.refl R (m : Int))
    rw [Int.natCast_mul] at this ⊢
    have e3 : ((low : Int) * inv * m) = low * (m * inv) := by grind
    rw [e3] at this
    have e2 := this.trans ((Cg.refl R (low : Int)).mul hinv)
    simpa using e2
  have e2 : often * m % R = low := by
    have := e1.mods
    rwa [Nat.mod_eq_of_lt hlow] at this
  have e3 : ((low + R * above : Nat) : Int) = ((often * m : Nat) : Int) := by
    subst ha; rw [← e2]; exact congrArg _ (Nat.mod_add_div _ _)
  rw [Int.natCast_add, Int.natCast_mul, Int.natCast_mul] at e3
  exact ⟨-(often : Int), by grind⟩
theorem above_lt {R m often : Nat} (ho : often < R) (hm : 0 < m) : often * m / R < m := by
  have h : often * m < m * R := by rw [Nat.mul_comm m R]; exact Nat.mul_lt_mul_of_pos_right ho hm
  exact Nat.div_lt_of_lt_mul (by rwa [Nat.mul_comm m R] at h)
/-- R has an inverse by an odd m: what it is multiplied with can be told -/
theorem cg_cancel {R m inv : Nat} (hinv : Cg R ((m : Int) * inv) 1) {x y : Int} (h : Cg m (x * R) (y * R)) : Cg m x y := by
  obtain ⟨k, hk⟩ := hinv
  obtain ⟨j, hj⟩ := h
  refine ⟨(x - y) * inv - j * k, ?_⟩
  grind
theorem Cg.of_dvd {D m : Nat} {x y : Int} (hd : D ∣ m) : Cg m x y → Cg D x y := fun ⟨k, h⟩ => by
  obtain ⟨c, rfl⟩ := hd
  exact ⟨c * k, by rw [h, Int.natCast_mul]; grind⟩
theorem Cg.of_dif {x y : Nat} (hy : y < 2 ^ 256) : Cg (2 ^ 256) (dif x y) ((x : Int) - y) := by
  unfold dif
  split
  · exact ⟨1, by omega⟩
  · exact ⟨0, by omega⟩
theorem cg_square {m : Nat} (h : m % 2 = 1) : Cg 8 ((m : Int) * m) 1 := by
  have e : (m * m) % 8 = 1 := by
    have : m % 8 = 1 ∨ m % 8 = 3 ∨ m % 8 = 5 ∨ m % 8 = 7 := by omega
    rw [Nat.mul_mod]
    rcases this with h | h | h | h <;> rw [h]
  have := (Cg.of_mod 8 (m * m)).symm
  rw [e] at this
  simpa using this
def few (i : Nat) : Nat := min 256 (3 * 2 ^ i)
theorem few_seven : few 7 = 256 := by decide
theorem few_step (i : Nat) : few (i + 1) ≤ 2 * few i ∧ few i ≤ 256 := by
  unfold few
  have : 2 ^ (i + 1) = 2 * 2 ^ i := by rw [Nat.pow_succ, Nat.mul_comm]
  rw [this]
  generalize 2 ^ i = t
  omega
theorem invert_round {m x i low left t : Nat} (hm : m < 2 ^ 256) (hx : x < 2 ^ 256) (h : Cg (2 ^ few i) ((m : Int) * x) 1) (hl : m * x % 2 ^ 256 = low) (hd : dif 2 low = left) (ht : x * left % 2 ^ 256 = t) : Cg (2 ^ few (i + 1)) ((m : Int) * t) 1 := by
  have hlow : low < 2 ^ 256 := by rw [← hl]; exact Nat.mod_lt _ (Nat.two_pow_pos _)
  have e1 : Cg (2 ^ 256) (low : Int) (m * x) := by rw [← hl, ← Int.natCast_mul]; exact Cg.of_mod _ _
  have e2 : Cg (2 ^ 256) (left : Int) (2 - m * x) := by
    rw [← hd]
    exact (Cg.of_dif hlow).trans ((Cg.refl _ (2 : Int)).sub e1)
  have e3 : Cg (2 ^ 256) (t : Int) (x * (2 - m * x)) := by
    rw [← ht]
    refine (Cg.of_mod _ _).trans ?_
    rw [Int.natCast_mul]
    exact (Cg.refl _ (x : Int)).mul e2
  obtain ⟨f1, f2⟩ := few_step i
  have e4 := (Cg.of_dvd (Nat.pow_dvd_pow 2 (show few (i + 1) ≤ 256 from (few_step (i + 1)).2)) e3)
  obtain ⟨k, hk⟩ := h
  obtain ⟨j, hj⟩ := e4
  have e5 : Cg (2 ^ (2 * few i)) (m * (x * (2 - m * x))) 1 := ⟨-(k * k), by
    have e : ((2 ^ (2 * few i) : Nat) : Int) = (2 ^ few i : Nat) * (2 ^ few i : Nat) := by rw [Nat.two_mul, Nat.pow_add, Int.natCast_mul]
    rw [e]
    generalize ((2 ^ few i : Nat) : Int) = N at *
    grind⟩
  have e6 := Cg.of_dvd (Nat.pow_dvd_pow 2 f1) e5
  refine Cg.trans ⟨m * j, ?_⟩ e6
  rw [hj]
  grind

/-- what going round by m answers -/
theorem round_add {a b m s l : Nat} (ha : a < m) (hb : b < m) (hm : m < 2 ^ 256) (hs : (a + b) % 2 ^ 256 = s) (hl : dif s m = l) : (if (a + b) / 2 ^ 256 < lent s m then s else l) = (a + b) % m := by
  have e : (a + b) % m = if a + b < m then a + b else a + b - m := by
    split
    · exact Nat.mod_eq_of_lt ‹_›
    · rw [Nat.mod_eq_sub_mod (by omega), Nat.mod_eq_of_lt (by omega)]
  rw [e, ← hl, ← hs]
  unfold dif lent
  rw [p256] at *
  split <;> split <;> (try split) <;> (try split) <;> omega
theorem round_sub {a b m : Nat} (ha : a < m) (hb : b < m) : (if a < b then (dif a b + m) % 2 ^ 256 else dif a b) = (a + (m - b)) % m ∨ 2 ^ 256 ≤ m := by
  by_cases hm : 2 ^ 256 ≤ m
  · exact Or.inr hm
  refine Or.inl ?_
  have e : (a + (m - b)) % m = if a < b then a + m - b else a - b := by
    split
    · rw [Nat.mod_eq_of_lt (by omega)]; omega
    · rw [Nat.mod_eq_sub_mod (by omega), Nat.mod_eq_of_lt (by omega)]; omega
  rw [e]
  unfold dif
  rw [p256] at *
  split <;> omega
theorem Cg.of_sub {a b m : Nat} (hb : b ≤ m) : Cg m (((a + (m - b)) % m : Nat) : Int) ((a : Int) - b) := by
  refine (Cg.of_mod _ _).trans ⟨1, ?_⟩
  omega

/-- a factor that can be told again -/
def Can (m : Nat) (r : Int) : Prop := ∀ x y : Int, Cg m (x * r) (y * r) → Cg m x y
theorem Can.one (m : Nat) : Can m 1 := fun x y h => by simpa using h
theorem form_mul {m r x y z u v : Nat} (hc : Can m r) (hx : x = u * r % m) (hy : y = v * r % m) (hz : z < m) (h : Cg m ((z : Int) * r) ((x : Int) * y)) : z = u * v * r % m := by
  refine Cg.is_mod hz (hc _ _ (h.trans ?_))
  have e1 : Cg m (x : Int) (u * r) := by subst hx; rw [← Int.natCast_mul]; exact Cg.of_mod _ _
  have e2 : Cg m (y : Int) (v * r) := by subst hy; rw [← Int.natCast_mul]; exact Cg.of_mod _ _
  have e3 := e1.mul e2
  have e4 : ((u * v * r : Nat) : Int) * r = (u : Int) * r * (v * r) := by
    rw [Int.natCast_mul, Int.natCast_mul]; grind
  rw [e4]; exact e3
theorem form_leave {m r x z u : Nat} (hc : Can m r) (hx : x = u * r % m) (hz : z < m) (h : Cg m ((z : Int) * r) x) : z = u % m := by
  refine Cg.is_mod hz (hc _ _ (h.trans ?_))
  subst hx; rw [← Int.natCast_mul]; exact Cg.of_mod _ _
theorem pow_step0 {n i : Nat} (a : Nat) (h : bitAt n i = 0) : a ^ (n / 2 ^ (i + 1)) * a ^ (n / 2 ^ (i + 1)) = a ^ (n / 2 ^ i) := by
  rw [bit_step n i, h, ← Nat.pow_add]; congr 1; omega
theorem pow_step1 {n i : Nat} (a : Nat) (h : bitAt n i = 1) : a ^ (n / 2 ^ (i + 1)) * a ^ (n / 2 ^ (i + 1)) * a = a ^ (n / 2 ^ i) := by
  rw [bit_step n i, h, ← Nat.pow_add, ← Nat.pow_succ]; congr 1; omega
theorem pow_first (a n : Nat) : a ^ (n / 2 ^ nbits n) = 1 := by
  rw [Nat.div_eq_of_lt (nbits_lt n), Nat.pow_zero]
/-- how many ways to take k of n -/
def bin : Nat → Nat → Nat
  | _, 0 => 1
  | 0, _ + 1 => 0
  | n + 1, k + 1 => bin n k + bin n (k + 1)
/-- the sum of the first n -/
def sm (f : Nat → Nat) : Nat → Nat
  | 0 => 0
  | n + 1 => sm f n + f n
/-- no number but 1 and itself goes into it -/
def Prm (p : Nat) : Prop := 1 < p ∧ ∀ d, d ∣ p → d = 1 ∨ d = p
theorem Prm.gcd {p k : Nat} (h : Prm p) (hk : 0 < k) (hl : k < p) : Nat.gcd k p = 1 := by
  rcases h.2 _ (Nat.gcd_dvd_right k p) with e | e
  · exact e
  · have := Nat.gcd_le_left p hk
    omega
theorem Prm.no {p i : Nat} (h : Prm p) (h2 : 2 ≤ i) (hi : i * i ≤ p) : p % i ≠ 0 := fun e => by
  rcases h.2 i (Nat.dvd_of_mod_eq_zero e) with g | g
  · omega
  · subst g; have : 2 * i ≤ i * i := Nat.mul_le_mul_right i h2; omega
theorem law_one {m : Nat} (n : Nat) (hm : 1 < m) : 1 ^ n % m = 1 := by rw [Nat.one_pow, Nat.mod_eq_of_lt hm]
theorem law_nought (k m : Nat) : 0 ^ (k + 1) % m = 0 := by rw [Nat.zero_pow (by omega), Nat.zero_mod]
end Go.Proofs.YtioebjbjpjbodaaDoor
namespace Go.Proofs.YtioebjbjpjbodaaDoor
open Go.RowKit
set_option linter.unusedVariables false

/-- numbers as cells -/
def dv (l : List Nat) : List Value := l.map fun (d : Nat) => .int .u32 (d : Int)
theorem dv_length (l : List Nat) : (dv l).length = l.length := by simp [dv]
theorem dv_one (l : List Nat) : ∀ v ∈ dv l, v.oneCell' = true := by
  intro v hv
  simp only [dv, List.mem_map] at hv
  obtain ⟨b, _, rfl⟩ := hv
  rfl
/-- block g holds these numbers -/
def Us (w : World) (g : Nat) (t : TypeId) (l : List Nat) : Prop := w.heap[g]? = some (.cells (dv l).toArray t (0, 0))
theorem Us.lt {w : World} {g : Nat} {t : TypeId} {l : List Nat} (h : Us w g t l) : g < w.heap.size := lt_of_block h
theorem at_lt {l : List Nat} {k : Nat} (h : k < l.length) : at' l k = l[k] := by simp [at', h]
theorem Us.cell {w : World} {g : Nat} {t : TypeId} {l : List Nat} (h : Us w g t l) (k : Nat) (hk : k < l.length) : w.cell? ⟨g, k, none⟩ = some (.int .u32 (at' l k : Nat)) := by
  rw [cell_of_row w g k _ t (0, 0) h]; simp [dv, hk, at']
theorem Us.frozen {w : World} {g : Nat} {t : TypeId} {l : List Nat} (h : Us w g t l) (i : Nat) : w.frozen? ⟨g, i, none⟩ = false := by
  unfold Us at h; simp [World.frozen?, h]
theorem Us.set {w : World} {g : Nat} {t : TypeId} {l : List Nat} (h : Us w g t l) (k v : Nat) : Us (w.setCell ⟨g, k, none⟩ (.int .u32 (v : Int))) g t (l.set k v) := by
  unfold Us at h ⊢; simp [World.setCell, Array.getElem?_modify, h, dv, List.map_set]
theorem Us.on {w w' : World} {g : Nat} {t : TypeId} {l : List Nat} (h : Us w g t l) (hb : Below w.heap.size w w') : Us w' g t l := (hb.block g h.lt).trans h
theorem Us.other {w : World} {g g' i : Nat} {t : TypeId} {l : List Nat} (h : Us w g t l) (v : Value) (hne : g ≠ g') : Us (w.setCell ⟨g', i, none⟩ v) g t l := (Below.heap_setCell w ⟨g', i, none⟩ v g hne).trans h
theorem Us.alloc {w : World} {g : Nat} {t : TypeId} {l : List Nat} (h : Us w g t l) (o : Obj) : Us (w.alloc o) g t l := (Below.heap_alloc w o g h.lt).trans h
theorem Us.drew {w : World} {g : Nat} {t : TypeId} {l : List Nat} (h : Us w g t l) : Us w.drew g t l := h
theorem at_set (l : List Nat) (k v j : Nat) (hk : k < l.length) : at' (l.set k v) j = if j = k then v else at' l j := by
  unfold at'
  rw [List.getD_eq_getElem?_getD, List.getD_eq_getElem?_getD, List.getElem?_set]
  by_cases h : k = j
  · subst h; simp [hk]
  · rw [if_neg h, if_neg (fun e => h e.symm)]
theorem at_end (l : List Nat) (v j : Nat) : at' (l ++ [v]) j = if j = l.length then v else at' l j := by
  unfold at'
  rw [List.getD_eq_getElem?_getD, List.getD_eq_getElem?_getD]
  rcases Nat.lt_trichotomy j l.length with h | h | h
  · rw [List.getElem?_append_left h, if_neg (by omega)]
  · subst h; simp
  · rw [if_neg (by omega), List.getElem?_eq_none (by simp; omega), List.getElem?_eq_none (by omega)]
theorem at_none (l : List Nat) (j : Nat) (h : l.length ≤ j) : at' l j = 0 := by
  unfold at'; rw [List.getD_eq_getElem?_getD, List.getElem?_eq_none h]; rfl
theorem eq_of_at {l m : List Nat} (h : l.length = m.length) (he : ∀ j, j < l.length → at' l j = at' m j) : l = m := by
  apply List.ext_getElem h
  intro i h1 h2
  rw [← at_lt h1, ← at_lt h2]
  exact he i h1
/-- bytes in a block of whatever type -/
def Bt (w : World) (g : Nat) (t : TypeId) (b : List UInt8) : Prop := w.heap[g]? = some (.cells (bvs b).toArray t (0, 0))
theorem Bt.lt {w : World} {g : Nat} {t : TypeId} {l : List UInt8} (h : Bt w g t l) : g < w.heap.size := lt_of_block h
theorem Bt.cell {w : World} {g : Nat} {t : TypeId} {l : List UInt8} (h : Bt w g t l) (k : Nat) (hk : k < l.length) : w.cell? ⟨g, k, none⟩ = some (.int .u8 ((l[k].toNat : Nat) : Int)) := by
  rw [cell_of_row w g k _ t (0, 0) h]; simp [bvs, hk]
theorem Bt.frozen {w : World} {g : Nat} {t : TypeId} {l : List UInt8} (h : Bt w g t l) (i : Nat) : w.frozen? ⟨g, i, none⟩ = false := by
  unfold Bt at h; simp [World.frozen?, h]
theorem Bt.on {w w' : World} {g : Nat} {t : TypeId} {l : List UInt8} (h : Bt w g t l) (hb : Below w.heap.size w w') : Bt w' g t l := (hb.block g h.lt).trans h
theorem Bt.other {w : World} {g g' i : Nat} {t : TypeId} {l : List UInt8} (h : Bt w g t l) (v : Value) (hne : g ≠ g') : Bt (w.setCell ⟨g', i, none⟩ v) g t l := (Below.heap_setCell w ⟨g', i, none⟩ v g hne).trans h
theorem Bt.alloc {w : World} {g : Nat} {t : TypeId} {l : List UInt8} (h : Bt w g t l) (o : Obj) : Bt (w.alloc o) g t l := (Below.heap_alloc w o g h.lt).trans h

/-- what bytes tell of number j when i of them have come -/
def part (b : List UInt8) (i j : Nat) : Nat := tell (((b.take i).drop (4 * j)).take 4)
theorem part_none (b : List UInt8) (j : Nat) : part b 0 j = 0 := by simp [part, tell]
theorem part_lt (b : List UInt8) (i : Nat) : part b i (i / 4) < 16777216 := by
  unfold part
  refine Nat.lt_of_lt_of_le (tell_lt _) (Nat.le_trans (Nat.pow_le_pow_right (n := 256) (j := 3) (by decide) ?_) (by decide))
  simp; omega
theorem part_step (b : List UInt8) (i : Nat) (h : i < b.length) (j : Nat) : part b (i + 1) j = if j = i / 4 then part b i j * 256 + b[i].toNat else part b i j := by
  unfold part
  by_cases hj : j = i / 4
  · subst hj
    rw [if_pos rfl, ← tell_snoc, List.take_succ_eq_append_getElem h, List.drop_append_of_le_length (by simp; omega)]
    have e : ((b.take i).drop (4 * (i / 4))).length ≤ 3 := by simp; omega
    congr 1
    generalize (b.take i).drop (4 * (i / 4)) = x at e
    rw [List.take_of_length_le (by simp; omega), List.take_of_length_le (by omega)]
  · rw [if_neg hj]
    congr 1
    rcases Nat.lt_or_ge j (i / 4) with hl | hl
    · rw [List.take_succ_eq_append_getElem h, List.drop_append_of_le_length (by simp; omega), List.take_append_of_le_length (by simp; omega)]
    · rw [List.drop_eq_nil_of_le (by simp; omega), List.drop_eq_nil_of_le (by simp; omega)]
theorem own_at (b : List UInt8) (n j : Nat) (hj : j < n) : at' (own b n) j = tell ((b.drop (4 * j)).take 4) := by
  induction n with
  | zero => omega
  | succ n ih =>
    rw [own, at_end, own_length]
    by_cases h : j = n
    · subst h; rw [if_pos rfl]
    · rw [if_neg h]; exact ih (by omega)
theorem part_all (b : List UInt8) (h : b.length = 64) (j : Nat) : part b 64 j = at' (own b 16) j := by
  unfold part
  have e : b.take 64 = b := List.take_of_length_le (by omega)
  rw [e]
  rcases Nat.lt_or_ge j 16 with hj | hj
  · rw [own_at _ _ _ hj]
  · rw [at_none _ _ (by rw [own_length]; exact hj), List.drop_eq_nil_of_le (by omega)]; simp [tell]
theorem or_step (t x : Nat) (ht : t < 16777216) (hx : x < 256) : bits .or .u32 ((t : Int) * 256 % 4294967296) ((x : Int) % 4294967296) = ((t * 256 + x : Nat) : Int) := by
  have e : (t : Int) * 256 % 4294967296 = ((t * 256 : Nat) : Int) := by omega
  have e2 : (x : Int) % 4294967296 = (x : Int) := by omega
  rw [e, e2, u32_or_nat _ _ (by omega) (by omega)]
  congr 1
  have h := Nat.shiftLeft_add_eq_or_of_lt (b := x) (i := 8) (by omega) t
  have e8 : (2 : Nat) ^ 8 = 256 := by decide
  rw [Nat.shiftLeft_eq, e8] at h
  omega
end Go.Proofs.YtioebjbjpjbodaaDoor

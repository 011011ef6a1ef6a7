/-
  A long number as four words, as a value, and in memory; sums and differences of words. Conditions: none.
-/
import Derived.Test.YtgmnpkgnedngjaaDoorRows
import Derived.Test.YtgmnpkgnedngjaaDoorPkA
import Derived.Test.YtgmnpkgnedngjaaDoorPkB
import Derived.WalkKit
import Derived.Laws.CopyOwn
import Derived.Shelf.Spec.BitsCarry
import Derived.WalkLawsBesides
import Derived.WalkSpells
namespace Go.Proofs.YtgmnpkgnedngjaaDoor
open Go.RowKit
set_option linter.unusedVariables false

/-- word i of a number -/
def wd (x i : Nat) : Nat := x / 18446744073709551616 ^ i % 18446744073709551616
theorem wd_lt (x i : Nat) : wd x i < 18446744073709551616 := Nat.mod_lt _ (by decide)
theorem p256 : (2 : Nat) ^ 256 = 115792089237316195423570985008687907853269984665640564039457584007913129639936 := by decide
theorem v4_wd (x : Nat) (h : x < 2 ^ 256) : v4 (wd x 0) (wd x 1) (wd x 2) (wd x 3) = x := by
  rw [p256] at h
  unfold v4 wd
  have e1 : (18446744073709551616 : Nat) ^ 1 = 18446744073709551616 := by decide
  have e2 : (18446744073709551616 : Nat) ^ 2 = 340282366920938463463374607431768211456 := by decide
  have e3 : (18446744073709551616 : Nat) ^ 3 = 6277101735386680763835789423207666416102355444464034512896 := by decide
  rw [e1, e2, e3, Nat.pow_zero]
  omega
theorem wd_v4 {a b c d : Nat} (h0 : a < 18446744073709551616) (h1 : b < 18446744073709551616) (h2 : c < 18446744073709551616) (h3 : d < 18446744073709551616) :
    wd (v4 a b c d) 0 = a ∧ wd (v4 a b c d) 1 = b ∧ wd (v4 a b c d) 2 = c ∧ wd (v4 a b c d) 3 = d := by
  unfold v4 wd
  have e1 : (18446744073709551616 : Nat) ^ 1 = 18446744073709551616 := by decide
  have e2 : (18446744073709551616 : Nat) ^ 2 = 340282366920938463463374607431768211456 := by decide
  have e3 : (18446744073709551616 : Nat) ^ 3 = 6277101735386680763835789423207666416102355444464034512896 := by decide
  rw [e1, e2, e3, Nat.pow_zero]
  refine ⟨?_, ?_, ?_, ?_⟩ <;> omega
theorem wd_inj {x y : Nat} (hx : x < 2 ^ 256) (hy : y < 2 ^ 256) (h0 : wd x 0 = wd y 0) (h1 : wd x 1 = wd y 1) (h2 : wd x 2 = wd y 2) (h3 : wd x 3 = wd y 3) : x = y := by
  rw [← v4_wd x hx, ← v4_wd y hy, h0, h1, h2, h3]

/-- a long number's cells -/
abbrev cls (x : Nat) : Array Value := #[.int .u64 (wd x 0 : Int), .int .u64 (wd x 1 : Int), .int .u64 (wd x 2 : Int), .int .u64 (wd x 3 : Int)]
/-- a long number, as a value -/
abbrev num (x : Nat) : Value := .agg (cls x)
theorem num_of {a b c d : Nat} (h0 : a < 18446744073709551616) (h1 : b < 18446744073709551616) (h2 : c < 18446744073709551616) (h3 : d < 18446744073709551616) :
    (.agg #[.int .u64 (a : Int), .int .u64 (b : Int), .int .u64 (c : Int), .int .u64 (d : Int)] : Value) = num (v4 a b c d) := by
  obtain ⟨e0, e1, e2, e3⟩ := wd_v4 h0 h1 h2 h3
  rw [num, cls, e0, e1, e2, e3]
theorem num_small (n : Nat) (h : n < 18446744073709551616) : (.agg #[.int .u64 (n : Int), .int .u64 0, .int .u64 0, .int .u64 0] : Value) = num n := by
  have := num_of (a := n) (b := 0) (c := 0) (d := 0) h (by decide) (by decide) (by decide)
  rw [show v4 n 0 0 0 = n by simp [v4]] at this
  exact this

theorem eq_words (a b c d a' b' c' d' : Int) (w : World) : (Op.equalIn 10000 24 (.agg #[.int .u64 a, .int .u64 b, .int .u64 c, .int .u64 d]) (.agg #[.int .u64 a', .int .u64 b', .int .u64 c', .int .u64 d'])).run Tryd.prog w = .ok (a == a' && b == b' && c == c' && d == d') w := by
  have u3 := Tryd.underlying22
  have a3 := Tryd.isAgg22
  have z3 := Tryd.sizeOf22
  rw [show (10000 : Nat) = 9999 + 1 from rfl, Op.equalIn]
  simp only [Sem.run_bind, run_underlying Tryd.underlying24, Result.andThen_ok]
  simp only [Std.Legacy.Range.forIn_eq_forIn_range', Std.Legacy.Range.size, Nat.sub_zero, Nat.add_sub_cancel, Nat.div_one, List.range'_succ, List.range'_zero, List.forIn_cons, List.forIn_nil]
  go_simp
  by_cases h1 : a = a' <;> by_cases h2 : b = b' <;> by_cases h3 : c = c' <;> by_cases h4 : d = d' <;> simp [h1, h2, h3, h4]
theorem eq_yes (x y : Nat) (h : x = y) (w : World) : (Op.equalIn 10000 24 (num x) (num y)).run Tryd.prog w = .ok true w := by
  subst h; rw [eq_words]; simp
theorem eq_no (x y : Nat) (hx : x < 2 ^ 256) (hy : y < 2 ^ 256) (h : x ≠ y) (w : World) : (Op.equalIn 10000 24 (num x) (num y)).run Tryd.prog w = .ok false w := by
  rw [eq_words]
  congr 1
  rw [Bool.eq_false_iff]
  intro e
  simp at e
  obtain ⟨⟨⟨h0, h1⟩, h2⟩, h3⟩ := e
  exact h (wd_inj hx hy (by exact_mod_cast h0) (by exact_mod_cast h1) (by exact_mod_cast h2) (by exact_mod_cast h3))

theorem bal {w w' : World} (h : Below w.heap.size w w') (o : Obj) : Below w.heap.size w (w'.alloc o) := h.alloc h.size o
theorem bthen {w w' w2 : World} (h : Below w.heap.size w w') (h2 : Below w'.heap.size w' w2) : Below w.heap.size w w2 := h.trans (h2.mono h.size)
/-- block g holds this long number -/
def Nm (w : World) (g x : Nat) : Prop := w.heap[g]? = some (.cells (cls x) 24 (0, 0))
theorem Nm.lt {w : World} {g x : Nat} (h : Nm w g x) : g < w.heap.size := lt_of_block h
theorem Nm.below {w w' : World} {g x B : Nat} (h : Nm w g x) (hb : Below B w w') (hg : g < B) : Nm w' g x := (hb.block g hg).trans h
theorem Nm.on {w w' : World} {g x : Nat} (h : Nm w g x) (hb : Below w.heap.size w w') : Nm w' g x := h.below hb h.lt
theorem Nm.alloc {w : World} {g x : Nat} (h : Nm w g x) (o : Obj) : Nm (w.alloc o) g x := h.on ((Below.refl w.heap.size w).alloc (Nat.le_refl _) o)
theorem Nm.new (w : World) (x : Nat) : Nm (w.alloc (.cells (cls x) 24)) w.heap.size x := heap_alloc_new _ _
theorem Nm.cell {w : World} {g x : Nat} (h : Nm w g x) : w.cell? ⟨g, 0, none⟩ = some (.int .u64 (wd x 0 : Int)) ∧ w.cell? ⟨g, 1, none⟩ = some (.int .u64 (wd x 1 : Int)) ∧ w.cell? ⟨g, 2, none⟩ = some (.int .u64 (wd x 2 : Int)) ∧ w.cell? ⟨g, 3, none⟩ = some (.int .u64 (wd x 3 : Int)) := by
  refine ⟨?_, ?_, ?_, ?_⟩ <;> (rw [cell_of_row w g _ _ 24 (0, 0) h]; rfl)

theorem sum_of {x y t0 t1 t2 t3 k : Nat} (h0 : t0 < 18446744073709551616) (h1 : t1 < 18446744073709551616) (h2 : t2 < 18446744073709551616) (h3 : t3 < 18446744073709551616) (h : v4 t0 t1 t2 t3 + 2 ^ 256 * k = x + y) :
    v4 t0 t1 t2 t3 = (x + y) % 2 ^ 256 ∧ k = (x + y) / 2 ^ 256 := by
  have hl := v4_lt h0 h1 h2 h3
  rw [← h, Nat.add_mul_mod_self_left, Nat.mod_eq_of_lt hl, Nat.add_mul_div_left _ _ (Nat.two_pow_pos 256), Nat.div_eq_of_lt hl, Nat.zero_add]
  exact ⟨rfl, rfl⟩
/-- going round downward -/
def dif (x y : Nat) : Nat := if x < y then x + 2 ^ 256 - y else x - y
def lent (x y : Nat) : Nat := if x < y then 1 else 0
theorem dif_of {x y t0 t1 t2 t3 k : Nat} (hx : x < 2 ^ 256) (hy : y < 2 ^ 256) (h0 : t0 < 18446744073709551616) (h1 : t1 < 18446744073709551616) (h2 : t2 < 18446744073709551616) (h3 : t3 < 18446744073709551616) (h : v4 t0 t1 t2 t3 + y = x + 2 ^ 256 * k) (hk : k ≤ 1) :
    v4 t0 t1 t2 t3 = dif x y ∧ k = lent x y := by
  have hl := v4_lt h0 h1 h2 h3
  generalize v4 t0 t1 t2 t3 = t at *
  unfold dif lent
  rw [p256] at *
  split <;> omega
theorem dif_lt {x y : Nat} (hx : x < 2 ^ 256) (hy : y < 2 ^ 256) : dif x y < 2 ^ 256 := by
  unfold dif
  rw [p256] at *
  split <;> omega
end Go.Proofs.YtgmnpkgnedngjaaDoor

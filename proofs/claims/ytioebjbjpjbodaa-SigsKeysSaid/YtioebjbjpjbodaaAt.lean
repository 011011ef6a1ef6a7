/-
  What the calls of limbs answer, with the answers named; the boxes that a law carries. Conditions: none.
-/
import Derived.Test.YtioebjbjpjbodaaLAdd
import Derived.Test.YtioebjbjpjbodaaLen
import Derived.Test.YtioebjbjpjbodaaMul
namespace Go.Proofs.Ytioebjbjpjbodaa
open Go.RowKit
set_option linter.unusedVariables false

/-- what a law carries: these blocks hold these numbers, and nothing that was there has changed -/
def Env (w : World) (l : List (Nat × Nat)) (w' : World) : Prop := Below w.heap.size w w' ∧ ∀ p ∈ l, Nm w' p.1 p.2
theorem Env.refl (w : World) : Env w [] w := ⟨Below.refl _ _, by simp⟩
theorem Env.on {w w' w2 : World} {l : List (Nat × Nat)} (h : Env w l w') (hb : Below w'.heap.size w' w2) : Env w l w2 := ⟨bthen h.1 hb, fun p hp => (h.2 p hp).on hb⟩
theorem Env.drew {w w' : World} {l : List (Nat × Nat)} (h : Env w l w') : Env w l w'.drew := ⟨h.1.drew, fun p hp => h.2 p hp⟩
theorem Env.new {w w' : World} {l : List (Nat × Nat)} (h : Env w l w') (x : Nat) : Env w ((w'.heap.size, x) :: l) (w'.alloc (.cells (cls x) 24)) := by
  refine ⟨bal h.1 _, fun p hp => ?_⟩
  rcases List.mem_cons.1 hp with rfl | hp
  · exact Nm.new w' x
  · exact (h.2 p hp).alloc _
theorem Env.nm {w w' : World} {l : List (Nat × Nat)} (h : Env w l w') (g x : Nat) (hm : (g, x) ∈ l) : Nm w' g x := h.2 _ hm
theorem Env.cell {w w' : World} {l : List (Nat × Nat)} (h : Env w l w') (g x : Nat) (hm : (g, x) ∈ l) : w'.cell? ⟨g, 0, none⟩ = some (.int .u64 (wd x 0 : Int)) ∧ w'.cell? ⟨g, 1, none⟩ = some (.int .u64 (wd x 1 : Int)) ∧ w'.cell? ⟨g, 2, none⟩ = some (.int .u64 (wd x 2 : Int)) ∧ w'.cell? ⟨g, 3, none⟩ = some (.int .u64 (wd x 3 : Int)) := (h.2 _ hm).cell
theorem Env.lt {w w' : World} {l : List (Nat × Nat)} (h : Env w l w') (g x : Nat) (hm : (g, x) ∈ l) : g < w'.heap.size := (h.2 _ hm).lt

/-- the greatest long number -/
def top : Nat := 2 ^ 256 - 1
theorem Env.new2 {w w' : World} {l : List (Nat × Nat)} (h : Env w l w') (x y : Nat) : Env w ((w'.heap.size + 1, y) :: (w'.heap.size, x) :: l) ((w'.alloc (.cells (cls x) 24)).alloc (.cells (cls y) 24)) := by
  have := (h.new x).new y
  simpa using this

section
variable {w w' : World} {l : List (Nat × Nat)}
theorem lof_at (n : Nat) (z : Int) (h : Env w l w') (hn : n < 18446744073709551616) (hz : (n : Int) = z) : Calls Try.prog 13 #[.int .u64 z] w' fun e w2 => e = .returned (num n) ∧ Env w l w2 := by
  subst hz; exact (lof_any n w' hn).mono fun e w2 ⟨he, hb⟩ => ⟨he, h.on hb⟩
theorem add_at (x y s : Nat) (k : Int) (h : Env w l w') (hx : x < 2 ^ 256) (hy : y < 2 ^ 256) (hs : (x + y) % 2 ^ 256 = s) (hk : (((x + y) / 2 ^ 256 : Nat) : Int) = k) :
    Calls Try.prog 6 #[num x, num y] w' fun e w2 => e = .returned (.tuple #[num s, .int .u64 k]) ∧ Env w l w2 := by
  subst hs; subst hk; exact (ladd_any x y w' hx hy).mono fun e w2 ⟨he, hb⟩ => ⟨he, h.on hb⟩
theorem sub_at (x y s : Nat) (k : Int) (h : Env w l w') (hx : x < 2 ^ 256) (hy : y < 2 ^ 256) (hs : dif x y = s) (hk : ((lent x y : Nat) : Int) = k) :
    Calls Try.prog 29 #[num x, num y] w' fun e w2 => e = .returned (.tuple #[num s, .int .u64 k]) ∧ Env w l w2 := by
  subst hs; subst hk; exact (sub_any x y w' hx hy).mono fun e w2 ⟨he, hb⟩ => ⟨he, h.on hb⟩
theorem mul_at (x y lo hi : Nat) (h : Env w l w') (hx : x < 2 ^ 256) (hy : y < 2 ^ 256) (hl : x * y % 2 ^ 256 = lo) (hh : x * y / 2 ^ 256 = hi) :
    Calls Try.prog 32 #[num x, num y] w' fun e w2 => e = .returned (.tuple #[num lo, num hi]) ∧ Env w l w2 := by
  subst hl; subst hh; exact (mul_any x y w' hx hy).mono fun e w2 ⟨he, hb⟩ => ⟨he, h.on hb⟩
theorem shift_at (x y : Nat) (n : Int) (h : Env w l w') (hx : x < 2 ^ 256) (h0 : -9223372036854775808 ≤ n) (h1 : n ≤ 9223372036854775807) (hy : shf x n = y) :
    Calls Try.prog 46 #[num x, .int .i64 n] w' fun e w2 => e = .returned (num y) ∧ Env w l w2 := by
  subst hy; exact (shift_any x n w' hx h0 h1).mono fun e w2 ⟨he, hb⟩ => ⟨he, h.on hb⟩
theorem bit_at (x : Nat) (n b : Int) (h : Env w l w') (hx : x < 2 ^ 256) (h0 : -9223372036854775808 ≤ n) (h1 : n ≤ 9223372036854775807) (hb : (bi x n : Int) = b) :
    Calls Try.prog 35 #[num x, .int .i64 n] w' fun e w2 => e = .returned (.int .u64 b) ∧ Env w l w2 := by
  subst hb; exact (bit_any x n w' hx h0 h1).mono fun e w2 ⟨he, hb⟩ => ⟨he, h.on hb⟩
theorem bits_at (x : Nat) (b : Int) (h : Env w l w') (hx : x < 2 ^ 256) (hb : (nbits x : Int) = b) :
    Calls Try.prog 11 #[num x] w' fun e w2 => e = .returned (.int .i64 b) ∧ Env w l w2 := by
  subst hb; exact (bits_any x w' hx).mono fun e w2 ⟨he, hb⟩ => ⟨he, h.on hb⟩
theorem cmp_at (x y : Nat) (c : Int) (h : Env w l w') (hx : x < 2 ^ 256) (hy : y < 2 ^ 256) (hc : cmpN x y = c) :
    Calls Try.prog 7 #[num x, num y] w' fun e w2 => e = .returned (.int .i64 c) ∧ Env w l w2 := by
  subst hc; exact (cmp_any x y w' hx hy).mono fun e w2 ⟨he, hb⟩ => ⟨he, h.on hb⟩
end
end Go.Proofs.Ytioebjbjpjbodaa

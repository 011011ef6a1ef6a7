/-
  burrowlaw03.of, walked. Conditions: none.
-/
import Derived.Test.YtaggegknnnembaaDoorBox
namespace Go.Proofs.YtaggegknnnembaaDoor
open Go.RowKit
set_option linter.unusedVariables false

theorem ofl3_any (n : Nat) (w : World) (h : n < 18446744073709551616) : Calls Tryd.prog 22 #[.int .u64 (n : Int)] w fun e w' => e = .returned (num n) ∧ Below w.heap.size w w' := by
  have HE := hid ((Env.refl w).zero)
  have HN := hid h
  clear h
  have D := hid (Nat.le_refl w.heap.size)
  go_enter Tryd.func22, Tryd.ntmps22
  go_wp2_with fail
  generalize w.alloc (.cells #[.int .u64 0, .int .u64 0, .int .u64 0, .int .u64 0] 24) = w0 at *
  generalize hg : w.heap.size = g at *
  refine (of_at n n HE.out HN.out rfl).mono ?_
  rintro e w' ⟨rfl, hs⟩
  have H := hid hs
  clear hs HE
  obtain ⟨z0, z1, z2, z3⟩ := H.out.cell g 0 (by simp)
  have lg := H.out.lt g 0 (by simp)
  have fg := H.out.frozen g 0 (by simp)
  have HZ := hid (H.out.set g 0 n [] (by simp) (by rw [hg]; exact D.out) (by simp))
  go_wp2
  clear z0 z1 z2 z3 lg fg
  change bodyPost _ _ _ _ _ (fil w' g n)
  generalize fil w' g n = wz at *
  obtain ⟨k0, k1, k2, k3⟩ := HZ.out.cell g n (by simp)
  exact bodyPost_ret (v := num n) (by simp [results, Tryd.results22, go_sem, k0, k1, k2, k3]) rfl ⟨rfl, HZ.out.1⟩
theorem ofl3_b (n : Nat) (z : Int) (w : World) (hn : n < 18446744073709551616) (hz : (n : Int) = z) : Calls Tryd.prog 22 #[.int .u64 z] w fun e w' => e = .returned (num n) ∧ Below w.heap.size w w' := by
  subst hz; exact ofl3_any n w hn
section
variable {w w' : World} {l : List (Nat × Nat)}
theorem ofl3_at (n : Nat) (z : Int) (h : Env w l w') (hn : n < 18446744073709551616) (hz : (n : Int) = z) : Calls Tryd.prog 22 #[.int .u64 z] w' fun e w2 => e = .returned (num n) ∧ Env w l w2 := by
  subst hz; exact (ofl3_any n w' hn).mono fun e w2 ⟨he, hb⟩ => ⟨he, h.on hb⟩
end
theorem none3_any (w : World) : Calls Tryd.prog 20 #[] w fun e w' => e = .returned (num 0) ∧ Below w.heap.size w w' := by
  go_enter Tryd.func20, Tryd.ntmps20
  go_wp2
  refine bodyPost_ret (v := .agg #[.int .u64 0, .int .u64 0, .int .u64 0, .int .u64 0]) (by simp [results, Tryd.results20, go_sem]) rfl ⟨by rw [num_zero], ?_⟩
  repeat (first | exact Below.refl _ _ | refine Below.drew ?_ | refine bal ?_ _)

theorem none3_at {w w' : World} {l : List (Nat × Nat)} (h : Env w l w') : Calls Tryd.prog 20 #[] w' fun e w2 => e = .returned (num 0) ∧ Env w l w2 :=
  (none3_any w').mono fun e w2 ⟨he, hb⟩ => ⟨he, h.on hb⟩
end Go.Proofs.YtaggegknnnembaaDoor

/-
  Boxes that a region makes while it draws its order: those that stand first among what a law carries. Conditions: none.
-/
import Derived.Test.YtioebjbjpjbodaaBox
namespace Go.Proofs.Ytioebjbjpjbodaa
open Go.RowKit
set_option linter.unusedVariables false

theorem Env.hd {w w' : World} {l : List (Nat × Nat)} {g x : Nat} (h : Env w ((g, x) :: l) w') : (w'.cell? ⟨g, 0, none⟩ = some (.int .u64 (wd x 0 : Int)) ∧ w'.cell? ⟨g, 1, none⟩ = some (.int .u64 (wd x 1 : Int)) ∧ w'.cell? ⟨g, 2, none⟩ = some (.int .u64 (wd x 2 : Int)) ∧ w'.cell? ⟨g, 3, none⟩ = some (.int .u64 (wd x 3 : Int))) ∧ (∀ i, w'.frozen? ⟨g, i, none⟩ = false) ∧ g < w'.heap.size ∧ g ≠ w'.heap.size :=
  ⟨h.cell g x (by simp), h.frozen g x (by simp), h.lt g x (by simp), Nat.ne_of_lt (h.lt g x (by simp))⟩
/-- a block that none of these is, made since -/
def Fsh (w : World) (l : List (Nat × Nat)) (g : Nat) : Prop := w.heap.size ≤ g ∧ ∀ p ∈ l, p.1 ≠ g
theorem Env.fresh {w w' : World} {l : List (Nat × Nat)} (h : Env w l w') : Fsh w l w'.heap.size := ⟨h.1.size, fun p hp => Nat.ne_of_lt (h.2 p hp).lt⟩
theorem Fsh.ne {w : World} {l : List (Nat × Nat)} {g g' x : Nat} (h : Fsh w ((g, x) :: l) g') : g ≠ g' ∧ (g = g') = False ∧ (g' = g) = False := by
  have := h.2 (g, x) (by simp)
  exact ⟨this, eq_false this, eq_false (Ne.symm this)⟩
end Go.Proofs.Ytioebjbjpjbodaa

/-
  Boxes that a region makes while it draws its order: those that stand first among what a law carries. Conditions: none.
-/
import Derived.Test.YtaggegknnnembaaDoorBox
import Derived.Test.YtaggegknnnembaaDoorOfl
namespace Go.Proofs.YtaggegknnnembaaDoor
open Go.RowKit
set_option linter.unusedVariables false

theorem Env.hd {w w' : World} {l : List (Nat × Nat)} {g x : Nat} (h : Env w ((g, x) :: l) w') : (w'.cell? ⟨g, 0, none⟩ = some (.int .u64 (wd x 0 : Int)) ∧ w'.cell? ⟨g, 1, none⟩ = some (.int .u64 (wd x 1 : Int)) ∧ w'.cell? ⟨g, 2, none⟩ = some (.int .u64 (wd x 2 : Int)) ∧ w'.cell? ⟨g, 3, none⟩ = some (.int .u64 (wd x 3 : Int))) ∧ (∀ i, w'.frozen? ⟨g, i, none⟩ = false) ∧ g < w'.heap.size ∧ g ≠ w'.heap.size :=
  ⟨h.cell g x (by simp), h.frozen g x (by simp), h.lt g x (by simp), Nat.ne_of_lt (h.lt g x (by simp))⟩
theorem Env.tl {w w' : World} {l : List (Nat × Nat)} {g x : Nat} (h : Env w ((g, x) :: l) w') : Env w l w' := h.perm (by intro p hp; simp [hp])
/-- a block that none of these is, made since -/
def Fsh (w : World) (l : List (Nat × Nat)) (g : Nat) : Prop := w.heap.size ≤ g ∧ ∀ p ∈ l, p.1 ≠ g
theorem Env.fresh {w w' : World} {l : List (Nat × Nat)} (h : Env w l w') : Fsh w l w'.heap.size := ⟨h.1.size, fun p hp => Nat.ne_of_lt (h.2 p hp).lt⟩
theorem Fsh.ne {w : World} {l : List (Nat × Nat)} {g g' x : Nat} (h : Fsh w ((g, x) :: l) g') : g ≠ g' ∧ (g = g') = False ∧ (g' = g) = False := by
  have := h.2 (g, x) (by simp)
  exact ⟨this, eq_false this, eq_false (Ne.symm this)⟩
theorem Env.setHd {w w' : World} {l : List (Nat × Nat)} {g x : Nat} (h : Env w ((g, x) :: l) w') (hf : Fsh w l g) (y : Nat) : Env w ((g, y) :: l) (fil w' g y) :=
  h.set g x y l (by simp) hf.1 (fun p hp => ⟨by simp [hp], hf.2 p hp⟩)
theorem Env.setHd2 {w w' : World} {l : List (Nat × Nat)} {g1 g2 x1 x2 : Nat} (h : Env w ((g2, x2) :: (g1, x1) :: l) w') (hf2 : Fsh w l g1) (hf : Fsh w ((g1, x1) :: l) g2) (y1 y2 : Nat) : Env w ((g1, y1) :: (g2, y2) :: l) (fil (fil w' g1 y1) g2 y2) ∧ Env w ((g1, y1) :: (g2, y2) :: l) (fil (fil w' g2 y2) g1 y1) := by
  have hne := hf.ne.1
  constructor
  · have h1 := h.set g1 x1 y1 ((g2, x2) :: l) (by simp) hf2.1 (fun p hp => by
      rcases List.mem_cons.1 hp with rfl | hp
      · exact ⟨by simp, Ne.symm hne⟩
      · exact ⟨by simp [hp], hf2.2 p hp⟩)
    exact (h1.set g2 x2 y2 ((g1, y1) :: l) (by simp) hf.1 (fun p hp => by
      rcases List.mem_cons.1 hp with rfl | hp
      · exact ⟨by simp, hne⟩
      · exact ⟨by simp [hp], hf.2 p (by simp [hp])⟩)).perm (by intro p hp; simp only [List.mem_cons] at hp ⊢; rcases hp with h | h | h <;> simp [h])
  · have h1 := h.setHd hf y2
    exact h1.set g1 x1 y1 ((g2, y2) :: l) (by simp) hf2.1 (fun p hp => by
      rcases List.mem_cons.1 hp with rfl | hp
      · exact ⟨by simp, Ne.symm hne⟩
      · exact ⟨by simp [hp], hf2.2 p hp⟩)
theorem Env.fresh2 {w w' : World} {l : List (Nat × Nat)} (h : Env w l w') (x : Nat) : Fsh w ((w'.heap.size, x) :: l) (w'.heap.size + 1) :=
  ⟨Nat.le_succ_of_le h.1.size, fun p hp => by
    rcases List.mem_cons.1 hp with rfl | hp
    · exact Nat.ne_of_lt (Nat.lt_succ_self _)
    · exact Nat.ne_of_lt (Nat.lt_succ_of_lt (h.2 p hp).lt)⟩
theorem Env.dr {w w' : World} {l : List (Nat × Nat)} (h : Env w l w') : Env w l w'.drew := h.drew
end Go.Proofs.YtaggegknnnembaaDoor

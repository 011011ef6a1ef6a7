/-
  Two boxes that a region makes while it draws its order. Conditions: none.
-/
import Derived.Test.YtmeofgnmmbcklaaDoorHd
namespace Go.Proofs.YtmeofgnmmbcklaaDoor
open Go.RowKit
set_option linter.unusedVariables false

theorem Env.zero2 {w w' : World} {l : List (Nat × Nat)} (h : Env w l w') : Env w ((w'.heap.size + 1, 0) :: (w'.heap.size, 0) :: l) ((w'.alloc (.cells #[.int .u64 0, .int .u64 0, .int .u64 0, .int .u64 0] 24)).alloc (.cells #[.int .u64 0, .int .u64 0, .int .u64 0, .int .u64 0] 24)) := by
  rw [cls_zero]; exact h.new2 0 0
theorem Env.setHd2a {w w' : World} {l : List (Nat × Nat)} {g1 g2 x1 x2 : Nat} (h : Env w ((g2, x2) :: (g1, x1) :: l) w') (hf2 : Fsh w l g1) (hf : Fsh w ((g1, x1) :: l) g2) (y1 y2 : Nat) : Env w ((g1, y1) :: (g2, y2) :: l) (fil (fil w' g1 y1) g2 y2) := (h.setHd2 hf2 hf y1 y2).1
theorem Env.setHd2b {w w' : World} {l : List (Nat × Nat)} {g1 g2 x1 x2 : Nat} (h : Env w ((g2, x2) :: (g1, x1) :: l) w') (hf2 : Fsh w l g1) (hf : Fsh w ((g1, x1) :: l) g2) (y1 y2 : Nat) : Env w ((g1, y1) :: (g2, y2) :: l) (fil (fil w' g2 y2) g1 y1) := (h.setHd2 hf2 hf y1 y2).2
theorem Env.setSnd {w w' : World} {l : List (Nat × Nat)} {g1 g2 x1 x2 : Nat} (h : Env w ((g2, x2) :: (g1, x1) :: l) w') (hf2 : Fsh w l g1) (hf : Fsh w ((g1, x1) :: l) g2) (y1 : Nat) : Env w ((g1, y1) :: (g2, x2) :: l) (fil w' g1 y1) :=
  h.set g1 x1 y1 ((g2, x2) :: l) (by simp) hf2.1 (fun p hp => by
      rcases List.mem_cons.1 hp with rfl | hp
      · exact ⟨by simp, Ne.symm hf.ne.1⟩
      · exact ⟨by simp [hp], hf2.2 p hp⟩)
end Go.Proofs.YtmeofgnmmbcklaaDoor

/-
  Several boxes laid one behind the other. Conditions: none.
-/
import Derived.Test.YtioebjbjpjbodaaGrp
namespace Go.Proofs.Ytioebjbjpjbodaa
open Go.RowKit
set_option linter.unusedVariables false
set_option linter.unusedSimpArgs false

theorem sz1 (w : World) (o : Obj) : (w.alloc o).heap.size = w.heap.size + 1 := Array.size_push _
theorem boxes2 (w : World) (a b : Array Value) (ta tb : TypeId) : Below w.heap.size w ((w.alloc (.cells a ta)).alloc (.cells b tb)) ∧ ((w.alloc (.cells a ta)).alloc (.cells b tb)).heap.size = w.heap.size + 1 + 1 ∧
    ((w.alloc (.cells a ta)).alloc (.cells b tb)).heap[w.heap.size]? = some (.cells a ta (0, 0)) ∧ ((w.alloc (.cells a ta)).alloc (.cells b tb)).heap[w.heap.size + 1]? = some (.cells b tb (0, 0)) := by
  have h1 := (Below.refl w.heap.size w).alloc (Nat.le_refl _) (.cells a ta)
  have h2 := h1.alloc (by rw [sz1]; omega) (.cells b tb)
  refine ⟨h2, by rw [sz1, sz1], ?_, ?_⟩
  · exact (Below.heap_alloc (w.alloc (.cells a ta)) _ _ (by rw [sz1]; omega)).trans (heap_alloc_new w _)
  · have := heap_alloc_new (w.alloc (.cells a ta)) (.cells b tb)
    rw [sz1] at this; exact this
theorem boxes3 (w : World) (a b c : Array Value) (ta tb tc : TypeId) (W : World) (hW : ((w.alloc (.cells a ta)).alloc (.cells b tb)).alloc (.cells c tc) = W) : Below w.heap.size w W ∧ W.heap.size = w.heap.size + 1 + 1 + 1 ∧
    W.heap[w.heap.size]? = some (.cells a ta (0, 0)) ∧ W.heap[w.heap.size + 1]? = some (.cells b tb (0, 0)) ∧ W.heap[w.heap.size + 1 + 1]? = some (.cells c tc (0, 0)) := by
  obtain ⟨h1, h2, h3, h4⟩ := boxes2 w a b ta tb
  subst hW
  generalize (w.alloc (.cells a ta)).alloc (.cells b tb) = u at *
  refine ⟨h1.alloc (by omega) _, by rw [sz1, h2], ?_, ?_, ?_⟩
  · exact (Below.heap_alloc u _ _ (by omega)).trans h3
  · exact (Below.heap_alloc u _ _ (by omega)).trans h4
  · have := heap_alloc_new u (.cells c tc)
    rw [h2] at this; exact this
theorem boxes4 (w : World) (a b c d : Array Value) (ta tb tc td : TypeId) (W : World) (hW : (((w.alloc (.cells a ta)).alloc (.cells b tb)).alloc (.cells c tc)).alloc (.cells d td) = W) : Below w.heap.size w W ∧ W.heap.size = w.heap.size + 1 + 1 + 1 + 1 ∧
    W.heap[w.heap.size]? = some (.cells a ta (0, 0)) ∧ W.heap[w.heap.size + 1]? = some (.cells b tb (0, 0)) ∧ W.heap[w.heap.size + 1 + 1]? = some (.cells c tc (0, 0)) ∧ W.heap[w.heap.size + 1 + 1 + 1]? = some (.cells d td (0, 0)) := by
  obtain ⟨h1, h2, h3, h4, h5⟩ := boxes3 w a b c ta tb tc _ rfl
  subst hW
  generalize ((w.alloc (.cells a ta)).alloc (.cells b tb)).alloc (.cells c tc) = u at *
  refine ⟨h1.alloc (by omega) _, by rw [sz1, h2], ?_, ?_, ?_, ?_⟩
  · exact (Below.heap_alloc u _ _ (by omega)).trans h3
  · exact (Below.heap_alloc u _ _ (by omega)).trans h4
  · exact (Below.heap_alloc u _ _ (by omega)).trans h5
  · have := heap_alloc_new u (.cells d td)
    rw [h2] at this; exact this
/-- from here on, a group's box -/
theorem Eg.base {W : World} {b t p q g : Nat} (h : Gm W b t p q g) : Eg W b t p q g [] W := ⟨Env.refl W, h⟩
/-- a number's box that stood before -/
theorem Eg.hav {w w' : World} {b t p q g : Nat} {l : List (Nat × Nat)} (h : Eg w b t p q g l w') {a x : Nat} (hn : Nm w' a x) : Eg w b t p q g ((a, x) :: l) w' :=
  ⟨⟨h.1.1, fun p hp => by rcases List.mem_cons.1 hp with rfl | hp; exact hn; exact h.1.2 p hp⟩, h.2⟩
theorem Eg.old {w w' : World} {b t p q g : Nat} {l : List (Nat × Nat)} (h : Eg w b t p q g l w') : Below w.heap.size w w' := h.1.1
theorem Eg.nm {w w' : World} {b t p q g : Nat} {l : List (Nat × Nat)} (h : Eg w b t p q g l w') (a x : Nat) (hm : (a, x) ∈ l) : Nm w' a x := h.1.2 (a, x) hm
end Go.Proofs.Ytioebjbjpjbodaa

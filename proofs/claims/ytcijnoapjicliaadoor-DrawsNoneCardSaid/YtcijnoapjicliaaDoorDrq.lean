/-
  From flags, as the reading gives them, to what the walks ask. Conditions: none.
-/
import Derived.Test.YtcijnoapjicliaaDoorPkQ
import Derived.Test.YtcijnoapjicliaaDoorPkL
import Derived.Test.YtcijnoapjicliaaDoorRow6
import Derived.Deep.Grids
namespace Go.Proofs.YtcijnoapjicliaaDoor
open Go.RowKit Go.ChangeShapes Go.WideShapes Go.ChangeAt
set_option linter.unusedVariables false
set_option linter.unusedSimpArgs false

section
variable {H : Type} {enc : TypeId × Value → H} {W : World} {base : Nat} {held : Bool} {d : DataW H} {p : List MemPlace}
set_option maxRecDepth 100000 in
theorem open_flags {a0 : Option Addr} {len0 cap0 : Nat} (h : DataW.Trod enc Tryd.prog W base (fun _ => true) held 29 (.slice a0 len0 cap0) d p) : ∃ B : Nat → Bool, Fl W a0 len0 B := by
  obtain ⟨fuel, hf⟩ := h
  rcases Go.Deep.open_bools Tryd.underlying29 Tryd.underlying4 (by kernel_rfl) hf with ⟨hcs, _⟩ | ⟨a, l, c, B, hcs, _, hl, hm, hx, hcell⟩
  · simp [Value.cells] at hcs
    obtain ⟨rfl, rfl, rfl⟩ := hcs
    exact ⟨fun _ => false, fun h => absurd h (by omega)⟩
  · simp [Value.cells] at hcs
    obtain ⟨rfl, rfl, rfl⟩ := hcs
    refine ⟨B, fun hp => ?_⟩
    obtain ⟨b, off, spot⟩ := a
    have h0 := hcell 0 (by omega)
    have hs : spot = none := by simpa [Addr.add] using World.cell?_spot h0
    subst hs
    have hc : ∀ j, j < cap0 → W.cell? ⟨b, off + j, none⟩ = some (.bool (B j)) := fun j hj => by rw [← Go.WideShapes.add_plain]; exact hcell j hj
    exact ⟨b, off, rfl, World.block_lt_of_cell? W _ (hc 0 (by omega)), fun i hi => hc i (by omega)⟩
end
end Go.Proofs.YtcijnoapjicliaaDoor

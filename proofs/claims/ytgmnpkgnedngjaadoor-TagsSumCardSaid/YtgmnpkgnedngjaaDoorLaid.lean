/-
  What the rows of this seat share: a world whose table K holds what its initialiser lays, and from the arguments as the reading gives them to what the walks ask. Conditions: none.
-/
import Derived.Test.YtgmnpkgnedngjaaDoorOpen
import Derived.Test.YtgmnpkgnedngjaaDoorPkE
import Derived.Test.YtgmnpkgnedngjaaDoorCards
import Derived.Test.YtgmnpkgnedngjaaDoorTie
import Derived.SizedLaws
import Derived.WalkKit
import Derived.Deep.DeepHandedRow
import Derived.Deep.Strs
import Derived.Laws.IdiomArrays
import Derived.Lib.LaidTab
namespace Go.Proofs.YtgmnpkgnedngjaaDoor
open Go.RowKit Go.ChangeShapes Go.WideShapes Go.ChangeAt
set_option linter.unusedVariables false

theorem own_knob : ownKnob Tryd.prog.godebug = none := by kernel_rfl
theorem laidOut : laidOutB Tryd.prog = true := by kernel_rfl
theorem bytes_u8 : Tryd.prog.bytesOf 5 = 1 := by kernel_rfl

def litsOf : DataW Unit → Array Value
  | .agg parts => (parts.filterMap fun | .lit (.int k n) => some (.int k n) | _ => none).toArray
  | _ => #[]
def setRow (vs : Array Value) : Obj → Obj
  | .cells _ t frozen => .cells vs t frozen
  | o => o
/-- the settled world, the table holding what is laid -/
noncomputable def laidWorld (os : Os) : World :=
  { World.holding Tryd.prog os ⟨#[], #[], []⟩ with heap := (World.holding Tryd.prog os ⟨#[], #[], []⟩).heap.modify 2 (setRow (litsOf Rows.laid_burrow_shas_cubes)) }
theorem gT : Tryd.prog.globalNamed "burrow/shas.cubes" = some 2 := by kernel_rfl
theorem gTType : (Tryd.prog.globals[2]?).map (·.type) = some 77 := by kernel_rfl
set_option maxRecDepth 100000 in
theorem kt_of {W : World} (hL : laidMetH Tryd.prog [("burrow/shas.cubes", Rows.laid_burrow_shas_cubes)] W) : Kt W := by
  have h : Lib.TabIs Tryd.prog W "burrow/shas.cubes" .u32 (kk.map fun n : Nat => (n : Int)) := Lib.tabIs_of_head gT gTType Tryd.underlying77 Tryd.underlying63 (by kernel_rfl) (by kernel_rfl) hL
  intro j hj
  have hl : kk.length = 64 := kk_length
  rw [h.cell gT j (by simpa [hl] using hj)]
  congr 2
  simp [at', List.getD, hl, hj]

section
variable {H : Type} {enc : TypeId × Value → H} {W : World} {base : Nat} {spare : Nat → Bool} {held : Bool} {r : Reach} {b0 : Nat} {v : Value} {d : DataW H} {p : List MemPlace}

set_option maxRecDepth 100000 in
/-- a slice of bytes within the form's reach -/
theorem open_bytes {a0 : Option Addr} {len0 cap0 : Nat} {ts : List TypeId} {ds : List (DataW H)} (h : DataW.Trod enc Tryd.prog W base (fun _ => true) held 37 (.slice a0 len0 cap0) d p)
    (hsz : (DataW.weightsEach Tryd.prog ts ds).all (· ≤ reachBytes) = true) (j : Nat) (ht : ts[j]? = some 37) (hj : ds[j]? = some d) : ∃ zs, IsRow .u8 W a0 len0 cap0 zs ∧ cap0 ≤ 140737488351232 := by
  obtain ⟨fuel, hf⟩ := h
  rcases open_ints Tryd.underlying37 Tryd.underlying5 (by kernel_rfl) hf with ⟨hcs, _⟩ | ⟨x, l, c, zs, hcs, _, hl, hm, hz, hx, hcell, hwz⟩
  · simp [Value.cells] at hcs
    obtain ⟨rfl, rfl, rfl⟩ := hcs
    exact ⟨[], .inl ⟨rfl, rfl, rfl, rfl⟩, by omega⟩
  · simp [Value.cells] at hcs
    obtain ⟨rfl, rfl, rfl⟩ := hcs
    refine ⟨zs, .inr ⟨_, rfl, hl, hm, by simpa using hz, hcell, hwz⟩, ?_⟩
    have hd : d = .slice (lits .u8 (zs.take len0)) (lits .u8 (zs.drop len0)) := congrArg Prod.fst hx
    have := sized_slice hsz (j := j) (t := 37) (e := 5) ht (by rw [hj, hd]) Tryd.underlying37
    rw [bytes_u8] at this
    simp only [lits, List.length_map, List.length_take, List.length_drop, reachBytes] at this
    have hz' : zs.length = cap0 := by simpa using hz
    omega
set_option maxRecDepth 100000 in
theorem IsRow.none_cap {k : IntKind} {a : Option Addr} {len cap : Nat} {zs : List Int} (h : IsRow k W a len cap zs) : a = none → cap = 0 := by
  intro e
  rcases h with ⟨_, _, h2, _⟩ | ⟨x, h2, _⟩
  · exact h2
  · rw [e] at h2; cases h2
end
end Go.Proofs.YtgmnpkgnedngjaaDoor

/-
  From groups, and what holds one and three numbers, as the reading gives them, to what the walks ask. Conditions: none.
-/
import Derived.Test.YtcijnoapjicliaaDoorRow2
import Derived.Deep.Strs
import Derived.Lib.SmallJoins
import Derived.Laws.IdiomArrays
namespace Go.Proofs.YtcijnoapjicliaaDoor
open Go.RowKit Go.ChangeShapes Go.WideShapes Go.ChangeAt
set_option linter.unusedVariables false

theorem okWide_struct {P : Program} {W : World} {r : Reach} {b0 : Nat} {t : TypeId} {fs : Array Field} {v : Value} (ht : P.underlying t = some (.struct fs)) (h : Value.okWide P W r b0 t v) : ∃ cs : Array Value, v = .agg cs ∧ cs.size = P.cellsOf t := by
  simp only [Value.okWide, ht] at h
  obtain ⟨cs, h1, h2, _⟩ := h
  exact ⟨cs, h1, h2⟩
theorem cells_group : Tryd.prog.cellsOf 28 = 12 := by kernel_rfl
section
variable {H : Type} {enc : TypeId × Value → H} {W : World} {base : Nat} {spare : Nat → Bool} {held : Bool} {r : Reach} {b0 : Nat} {v : Value} {d : DataW H} {p : List MemPlace}
theorem num_cells {m : Nat} {c0 c1 c2 c3 : Value} {y : DataW H × List MemPlace} (h : DataW.trod enc Tryd.prog W base spare held m 26 [c0, c1, c2, c3] = some y) : ∃ x : Nat, (c0 = .int .u64 (wd x 0 : Int) ∧ c1 = .int .u64 (wd x 1 : Int) ∧ c2 = .int .u64 (wd x 2 : Int) ∧ c3 = .int .u64 (wd x 3 : Int)) ∧ x < 2 ^ 256 := by
  obtain ⟨z0, z1, z2, z3, k, _, q0, q1, q2, q3⟩ := trod_array4 Tryd.underlying26 lcells_u64 h
  obtain ⟨n0, f0, h0⟩ := lword_at q0
  obtain ⟨n1, f1, h1⟩ := lword_at q1
  obtain ⟨n2, f2, h2⟩ := lword_at q2
  obtain ⟨n3, f3, h3⟩ := lword_at q3
  simp at f0 f1 f2 f3
  obtain ⟨e0, e1, e2, e3⟩ := wd_v4 h0 h1 h2 h3
  refine ⟨v4 n0 n1 n2 n3, ?_, v4_lt h0 h1 h2 h3⟩
  rw [e0, e1, e2, e3]
  exact ⟨f0, f1, f2, f3⟩
set_option maxRecDepth 100000 in
theorem group_cells {m : Nat} {c0 c1 c2 c3 c4 c5 c6 c7 c8 c9 c10 c11 : Value} {y : DataW H × List MemPlace} (h : DataW.trod enc Tryd.prog W base spare held m 28 [c0, c1, c2, c3, c4, c5, c6, c7, c8, c9, c10, c11] = some y) :
    ∃ x y z : Nat, (c0 = .int .u64 (wd x 0 : Int) ∧ c1 = .int .u64 (wd x 1 : Int) ∧ c2 = .int .u64 (wd x 2 : Int) ∧ c3 = .int .u64 (wd x 3 : Int) ∧ c4 = .int .u64 (wd y 0 : Int) ∧ c5 = .int .u64 (wd y 1 : Int) ∧ c6 = .int .u64 (wd y 2 : Int) ∧ c7 = .int .u64 (wd y 3 : Int) ∧ c8 = .int .u64 (wd z 0 : Int) ∧ c9 = .int .u64 (wd z 1 : Int) ∧ c10 = .int .u64 (wd z 2 : Int) ∧ c11 = .int .u64 (wd z 3 : Int)) ∧ x < 2 ^ 256 ∧ y < 2 ^ 256 ∧ z < 2 ^ 256 := by
  obtain ⟨y0, y1, y2, n, _, _, g0, g1, g2⟩ := Go.Deep.trod_struct3 Tryd.underlying28 h
  simp [lcells_num] at g0 g1 g2
  obtain ⟨x, hx, bx⟩ := num_cells g0
  obtain ⟨y, hy, bY⟩ := num_cells g1
  obtain ⟨z, hz, bz⟩ := num_cells g2
  obtain ⟨rfl, rfl, rfl, rfl⟩ := hx
  obtain ⟨rfl, rfl, rfl, rfl⟩ := hy
  obtain ⟨rfl, rfl, rfl, rfl⟩ := hz
  exact ⟨x, y, z, ⟨rfl, rfl, rfl, rfl, rfl, rfl, rfl, rfl, rfl, rfl, rfl, rfl⟩, bx, bY, bz⟩
set_option maxRecDepth 100000 in
theorem open_group (hv : Value.okWide Tryd.prog W r b0 28 v) (h : DataW.Trod enc Tryd.prog W base spare held 28 v d p) : ∃ x y z : Nat, v = .agg #[.int .u64 (wd x 0 : Int), .int .u64 (wd x 1 : Int), .int .u64 (wd x 2 : Int), .int .u64 (wd x 3 : Int), .int .u64 (wd y 0 : Int), .int .u64 (wd y 1 : Int), .int .u64 (wd y 2 : Int), .int .u64 (wd y 3 : Int), .int .u64 (wd z 0 : Int), .int .u64 (wd z 1 : Int), .int .u64 (wd z 2 : Int), .int .u64 (wd z 3 : Int)] ∧ x < 2 ^ 256 ∧ y < 2 ^ 256 ∧ z < 2 ^ 256 := by
  obtain ⟨cs, rfl, hs⟩ := okWide_struct Tryd.underlying28 hv
  rw [cells_group] at hs
  obtain ⟨fuel, hf⟩ := h
  obtain ⟨c0, c1, c2, c3, c4, c5, c6, c7, c8, c9, c10, c11, rfl⟩ : ∃ c0 c1 c2 c3 c4 c5 c6 c7 c8 c9 c10 c11, cs = #[c0, c1, c2, c3, c4, c5, c6, c7, c8, c9, c10, c11] := by
    match cs, hs with
    | ⟨[c0, c1, c2, c3, c4, c5, c6, c7, c8, c9, c10, c11]⟩, _ => exact ⟨c0, c1, c2, c3, c4, c5, c6, c7, c8, c9, c10, c11, rfl⟩
  obtain ⟨x, y, z, hx, bx, bY, bz⟩ := group_cells (by simpa [Value.cells] using hf)
  obtain ⟨rfl, rfl, rfl, rfl, rfl, rfl, rfl, rfl, rfl, rfl, rfl, rfl⟩ := hx
  exact ⟨x, y, z, rfl, bx, bY, bz⟩
end
end Go.Proofs.YtcijnoapjicliaaDoor

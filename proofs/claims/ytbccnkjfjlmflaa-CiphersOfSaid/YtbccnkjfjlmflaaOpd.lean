/-
  From a Cut, and from an array of two slices of bytes, as the reading gives them, to what the walks ask. Conditions: none.
-/
import Derived.Test.YtbccnkjfjlmflaaOpc
namespace Go.Proofs.Ytbccnkjfjlmflaa
open Go.RowKit Go.ChangeShapes Go.WideShapes Go.ChangeAt
set_option linter.unusedVariables false
set_option linter.unusedSimpArgs false

theorem cells_two : Try.prog.cellsOf 38 = 2 := by kernel_rfl
theorem cells_cut : Try.prog.cellsOf 32 = 2 := by kernel_rfl
theorem cells_u16 : Try.prog.cellsOf 30 = 1 := by kernel_rfl
section
variable {H : Type} {enc : TypeId × Value → H} {W : World} {base : Nat} {spare : Nat → Bool} {held : Bool} {r : Reach} {b0 : Nat} {v : Value} {d : DataW H} {p : List MemPlace}
theorem open_two (hv : Value.okWide Try.prog W r b0 38 v) (h : DataW.Trod enc Try.prog W base (fun _ => true) held 38 v d p) :
    ∃ a0 l0 c0 z0 a1 l1 c1 z1, v = .agg #[.slice a0 l0 c0, .slice a1 l1 c1] ∧ IsRow .u8 W a0 l0 c0 z0 ∧ IsRow .u8 W a1 l1 c1 z1 := by
  obtain ⟨cs, rfl, hs⟩ := okWide_arr Try.underlying38 hv
  rw [cells_two] at hs
  obtain ⟨fuel, hf⟩ := h
  obtain ⟨xs, m, _, hd, _, hl, hx⟩ := DataW.trod_array Try.underlying38 hf
  obtain ⟨c0, c1, rfl⟩ : ∃ c0 c1, cs = #[c0, c1] := by
    match cs, hs with
    | ⟨[c0, c1]⟩, _ => exact ⟨c0, c1, rfl⟩
  obtain ⟨y0, y1, rfl⟩ : ∃ y0 y1, xs = [y0, y1] := by
    match xs, hl with
    | [y0, y1], _ => exact ⟨y0, y1, rfl⟩
  rw [cells_sl] at hx
  have g0 := hx 0 (by omega)
  have g1 := hx 1 (by omega)
  simp [Value.cells] at g0 g1
  obtain ⟨a0, l0, k0, z0, rfl, r0⟩ := sl_at g0
  obtain ⟨a1, l1, k1, z1, rfl, r1⟩ := sl_at g1
  exact ⟨a0, l0, k0, z0, a1, l1, k1, z1, rfl, r0, r1⟩
theorem open_cut (hv : Value.okWide Try.prog W r b0 32 v) (h : DataW.Trod enc Try.prog W base (fun _ => true) held 32 v d p) :
    ∃ a l c z, ∃ n : Nat, v = .agg #[.slice a l c, .int .u16 (n : Int)] ∧ IsRow .u8 W a l c z ∧ n < 65536 := by
  obtain ⟨cs, rfl, hs⟩ := okWide_struct Try.underlying32 hv
  rw [cells_cut] at hs
  obtain ⟨fuel, hf⟩ := h
  obtain ⟨c0, c1, rfl⟩ : ∃ c0 c1, cs = #[c0, c1] := by
    match cs, hs with
    | ⟨[c0, c1]⟩, _ => exact ⟨c0, c1, rfl⟩
  obtain ⟨y0, y1, n, _, _, g0, g1⟩ := Go.ChangeShapes.trod_struct2 Try.underlying32 hf
  simp [Value.cells, cells_sl, cells_u16] at g0 g1
  obtain ⟨a0, l0, k0, z0, rfl, r0⟩ := sl_at g0
  obtain ⟨z, e, _, hw⟩ := DataW.trod_int Try.underlying30 g1
  have hb : 0 ≤ z ∧ z ≤ 65535 := by simpa [Lit.wf, IntKind.min, IntKind.max, IntKind.signed, IntKind.bits] using hw
  obtain ⟨m, rfl⟩ := Int.eq_ofNat_of_zero_le hb.1
  simp at e
  subst e
  exact ⟨a0, l0, k0, z0, m, rfl, r0, by omega⟩
end
end Go.Proofs.Ytbccnkjfjlmflaa

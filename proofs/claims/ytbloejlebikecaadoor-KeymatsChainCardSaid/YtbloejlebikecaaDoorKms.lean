/-
  From two numbers of 16 bits, and from Cuts, as the reading gives them, to what the walks ask. Conditions: none.
-/
import Derived.Test.YtbloejlebikecaaDoorKmr
namespace Go.Proofs.YtbloejlebikecaaDoor
open Go.RowKit Go.ChangeShapes Go.WideShapes Go.ChangeAt
set_option linter.unusedVariables false
set_option linter.unusedSimpArgs false

theorem cells_two16 : Tryd.prog.cellsOf 28 = 2 := by kernel_rfl
theorem cells_u16' : Tryd.prog.cellsOf 27 = 1 := by kernel_rfl
theorem cells_cuts : Tryd.prog.cellsOf 40 = 4 := by kernel_rfl
section
variable {H : Type} {enc : TypeId × Value → H} {W : World} {base : Nat} {spare : Nat → Bool} {held : Bool} {r : Reach} {b0 : Nat} {v : Value} {d : DataW H} {p : List MemPlace}
theorem u16_at' {m : Nat} {cs : List Value} {y : DataW H × List MemPlace} (h : DataW.trod enc Tryd.prog W base spare held m 27 cs = some y) : ∃ n : Nat, cs = [.int .u16 (n : Int)] ∧ n < 65536 := by
  obtain ⟨z, rfl, _, hw⟩ := DataW.trod_int Tryd.underlying27 h
  have hb : 0 ≤ z ∧ z ≤ 65535 := by simpa [Lit.wf, IntKind.min, IntKind.max, IntKind.signed, IntKind.bits] using hw
  obtain ⟨n, rfl⟩ := Int.eq_ofNat_of_zero_le hb.1
  exact ⟨n, rfl, by omega⟩
theorem open_two16 (hv : Value.okWide Tryd.prog W r b0 28 v) (h : DataW.Trod enc Tryd.prog W base spare held 28 v d p) :
    ∃ a b : Nat, v = .agg #[.int .u16 (a : Int), .int .u16 (b : Int)] ∧ a < 65536 ∧ b < 65536 := by
  obtain ⟨cs, rfl, hs⟩ := okWide_arr' Tryd.underlying28 hv
  rw [cells_two16] at hs
  obtain ⟨fuel, hf⟩ := h
  obtain ⟨xs, m, _, hd, _, hl, hx⟩ := DataW.trod_array Tryd.underlying28 hf
  obtain ⟨c0, c1, rfl⟩ : ∃ c0 c1, cs = #[c0, c1] := by
    match cs, hs with
    | ⟨[c0, c1]⟩, _ => exact ⟨c0, c1, rfl⟩
  rw [cells_u16'] at hx
  have g0 := hx 0 (by omega)
  have g1 := hx 1 (by omega)
  rw [List.getElem?_eq_getElem (by omega)] at g0 g1
  obtain ⟨a, e0, h0⟩ := u16_at' g0
  obtain ⟨b, e1, h1⟩ := u16_at' g1
  simp [Value.cells] at e0 e1
  subst e0; subst e1
  exact ⟨a, b, rfl, h0, h1⟩
theorem open_cuts (hv : Value.okWide Tryd.prog W r b0 40 v) (h : DataW.Trod enc Tryd.prog W base (fun _ => true) held 40 v d p) :
    ∃ a l c z, ∃ x y k : Nat, v = .agg #[.slice a l c, .int .u8 (x : Int), .int .u16 (y : Int), .int .u8 (k : Int)] ∧ IsRow .u8 W a l c z ∧ x < 256 ∧ y < 65536 ∧ k < 256 := by
  obtain ⟨cs, rfl, hs⟩ := okWide_struct Tryd.underlying40 hv
  rw [cells_cuts] at hs
  obtain ⟨fuel, hf0⟩ := h
  obtain ⟨c0, c1, c2, c3, rfl⟩ : ∃ c0 c1 c2 c3, cs = #[c0, c1, c2, c3] := by
    match cs, hs with
    | ⟨[c0, c1, c2, c3]⟩, _ => exact ⟨c0, c1, c2, c3, rfl⟩
  obtain ⟨xs, n, _, _, hl, hn, hf⟩ := DataW.trod_struct Tryd.underlying40 hf0
  have h0 := hf 0 _ rfl
  have h1 := hf 1 _ rfl
  have h2 := hf 2 _ rfl
  have h3 := hf 3 _ rfl
  rw [List.getElem?_eq_getElem (by rw [hn]; decide)] at h0 h1 h2 h3
  simp [Value.cells, cells_sl', cells_u8', cells_u16'] at h0 h1 h2 h3
  obtain ⟨a0, l0, k0, z0, rfl, r0⟩ := sl_at' h0
  obtain ⟨x, e1, b1⟩ := u8_at' h1
  obtain ⟨y, e2, b2⟩ := u16_at' h2
  obtain ⟨k, e3, b3⟩ := u8_at' h3
  simp at e1 e2 e3
  subst e1; subst e2; subst e3
  exact ⟨a0, l0, k0, z0, x, y, k, rfl, r0, b1, b2, b3⟩
end
end Go.Proofs.YtbloejlebikecaaDoor

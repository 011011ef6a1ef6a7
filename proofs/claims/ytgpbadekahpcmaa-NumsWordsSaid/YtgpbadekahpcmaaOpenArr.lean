/-
  From a long number, and from an array of two slices of bytes, as the reading gives them, to what the walks ask. Conditions: none.
-/
import Derived.Test.YtgpbadekahpcmaaOpen
import Derived.SizedLaws
namespace Go.Proofs.Ytgpbadekahpcmaa
open Go.RowKit Go.ChangeShapes Go.WideShapes Go.ChangeAt
set_option linter.unusedVariables false

theorem okWide_array {P : Program} {W : World} {r : Reach} {b0 : Nat} {t e : TypeId} {n : Nat} {v : Value} (ht : P.underlying t = some (.array n e)) (h : Value.okWide P W r b0 t v) : ∃ cs : Array Value, v = .agg cs ∧ cs.size = P.cellsOf t := by
  simp only [Value.okWide, ht] at h
  obtain ⟨cs, h1, h2, _⟩ := h
  exact ⟨cs, h1, h2⟩

theorem cells_num : Try.prog.cellsOf 29 = 4 := by kernel_rfl
theorem cells_u64 : Try.prog.cellsOf 22 = 1 := by kernel_rfl
theorem cells_two : Try.prog.cellsOf 30 = 2 := by kernel_rfl
theorem cells_sl : Try.prog.cellsOf 23 = 1 := by kernel_rfl
theorem bytes_u8 : Try.prog.bytesOf 5 = 1 := by kernel_rfl

section
variable {H : Type} {enc : TypeId × Value → H} {W : World} {base : Nat} {spare : Nat → Bool} {held : Bool} {r : Reach} {b0 : Nat} {v : Value} {d : DataW H} {p : List MemPlace}

theorem word_at {m : Nat} {cs : List Value} {y : DataW H × List MemPlace} (h : DataW.trod enc Try.prog W base spare held m 22 cs = some y) : ∃ n : Nat, cs = [.int .u64 (n : Int)] ∧ n < 18446744073709551616 := by
  obtain ⟨z, rfl, _, hw⟩ := DataW.trod_int Try.underlying22 h
  have hb : 0 ≤ z ∧ z ≤ 18446744073709551615 := by simpa [Lit.wf, IntKind.min, IntKind.max, IntKind.signed, IntKind.bits] using hw
  obtain ⟨n, rfl⟩ := Int.eq_ofNat_of_zero_le hb.1
  exact ⟨n, rfl, by omega⟩

theorem open_num (hv : Value.okWide Try.prog W r b0 29 v) (h : DataW.Trod enc Try.prog W base spare held 29 v d p) :
    ∃ n0 n1 n2 n3 : Nat, v = .agg #[.int .u64 (n0 : Int), .int .u64 (n1 : Int), .int .u64 (n2 : Int), .int .u64 (n3 : Int)] ∧ n0 < 18446744073709551616 ∧ n1 < 18446744073709551616 ∧ n2 < 18446744073709551616 ∧ n3 < 18446744073709551616 := by
  obtain ⟨cs, rfl, hs⟩ := okWide_array Try.underlying29 hv
  rw [cells_num] at hs
  obtain ⟨fuel, hf⟩ := h
  obtain ⟨xs, m, _, _, _, hl, hx⟩ := DataW.trod_array Try.underlying29 hf
  obtain ⟨c0, c1, c2, c3, rfl⟩ : ∃ c0 c1 c2 c3, cs = #[c0, c1, c2, c3] := by
    match cs, hs with
    | ⟨[c0, c1, c2, c3]⟩, _ => exact ⟨c0, c1, c2, c3, rfl⟩
  rw [cells_u64] at hx
  have g0 := hx 0 (by omega)
  have g1 := hx 1 (by omega)
  have g2 := hx 2 (by omega)
  have g3 := hx 3 (by omega)
  rw [List.getElem?_eq_getElem (by omega)] at g0 g1 g2 g3
  obtain ⟨n0, e0, h0⟩ := word_at g0
  obtain ⟨n1, e1, h1⟩ := word_at g1
  obtain ⟨n2, e2, h2⟩ := word_at g2
  obtain ⟨n3, e3, h3⟩ := word_at g3
  simp [Value.cells] at e0 e1 e2 e3
  subst e0; subst e1; subst e2; subst e3
  exact ⟨n0, n1, n2, n3, rfl, h0, h1, h2, h3⟩

theorem sl_at {m : Nat} {c : Value} {y : DataW H × List MemPlace} (h : DataW.trod enc Try.prog W base (fun _ => true) held m 23 [c] = some y) :
    ∃ a len cap zs, c = .slice a len cap ∧ IsRow .u8 W a len cap zs ∧ (((y.1.weights Try.prog 23).all (· ≤ reachBytes) = true) → cap ≤ 140737488351232) := by
  rcases open_ints Try.underlying23 Try.underlying5 (by kernel_rfl) h with ⟨hcs, _⟩ | ⟨x, l, c', zs, hcs, _, hl, hm, hz, hx, hcell, hwz⟩
  · simp at hcs
    subst hcs
    exact ⟨none, 0, 0, [], rfl, .inl ⟨rfl, rfl, rfl, rfl⟩, fun _ => by omega⟩
  · simp at hcs
    subst hcs
    refine ⟨_, _, _, zs, rfl, .inr ⟨_, rfl, hl, hm, by simpa using hz, hcell, hwz⟩, fun hw => ?_⟩
    rw [hx] at hw
    simp only [DataW.weights, Try.underlying23, bytes_u8, List.all_cons, Bool.and_eq_true, decide_eq_true_eq] at hw
    have h1 := hw.1
    simp only [lits, List.length_map, List.length_take, List.length_drop, reachBytes] at h1
    have hz' : zs.length = c' := by simpa using hz
    omega

theorem open_two (hv : Value.okWide Try.prog W r b0 30 v) (h : DataW.Trod enc Try.prog W base (fun _ => true) held 30 v d p) :
    ∃ a0 l0 c0 z0 a1 l1 c1 z1, v = .agg #[.slice a0 l0 c0, .slice a1 l1 c1] ∧ IsRow .u8 W a0 l0 c0 z0 ∧ IsRow .u8 W a1 l1 c1 z1 ∧ ((d.weights Try.prog 30).all (· ≤ reachBytes) = true → c0 ≤ 140737488351232 ∧ c1 ≤ 140737488351232) := by
  obtain ⟨cs, rfl, hs⟩ := okWide_array Try.underlying30 hv
  rw [cells_two] at hs
  obtain ⟨fuel, hf⟩ := h
  obtain ⟨xs, m, _, hd, _, hl, hx⟩ := DataW.trod_array Try.underlying30 hf
  obtain ⟨c0, c1, rfl⟩ : ∃ c0 c1, cs = #[c0, c1] := by
    match cs, hs with
    | ⟨[c0, c1]⟩, _ => exact ⟨c0, c1, rfl⟩
  obtain ⟨y0, y1, rfl⟩ : ∃ y0 y1, xs = [y0, y1] := by
    match xs, hl with
    | [y0, y1], _ => exact ⟨y0, y1, rfl⟩
  rw [cells_sl] at hx
  have g0 := hx 0 (by omega)
  have g1 := hx 1 (by omega)
  simp [Value.cells] at g0 g1
  obtain ⟨a0, l0, k0, z0, rfl, r0, w0⟩ := sl_at g0
  obtain ⟨a1, l1, k1, z1, rfl, r1, w1⟩ := sl_at g1
  refine ⟨a0, l0, k0, z0, a1, l1, k1, z1, rfl, r0, r1, fun hw => ?_⟩
  have hd' : d = .agg [y0.1, y1.1] := congrArg Prod.fst hd
  rw [hd'] at hw
  simp only [DataW.weights, Try.underlying30, DataW.weightsAll, List.all_append, Bool.and_eq_true] at hw
  exact ⟨w0 hw.1, w1 hw.2.1⟩
end
end Go.Proofs.Ytgpbadekahpcmaa

/-
  From arrays of sixteen bytes, and slices of bytes in a struct or an array, as the reading gives them, to what the walks ask. Conditions: none.
-/
import Derived.Test.YtbccnkjfjlmflaaBx
import Derived.Test.YtbccnkjfjlmflaaOpen
import Derived.SizedLaws
namespace Go.Proofs.Ytbccnkjfjlmflaa
open Go.RowKit Go.ChangeShapes Go.WideShapes Go.ChangeAt
set_option linter.unusedVariables false
set_option linter.unusedSimpArgs false

theorem own_knob : ownKnob Try.prog.godebug = none := by kernel_rfl
theorem laidOut : laidOutB Try.prog = true := by kernel_rfl
theorem bytes_u8 : Try.prog.bytesOf 5 = 1 := by kernel_rfl
theorem cells_a16 : Try.prog.cellsOf 22 = 16 := by kernel_rfl
theorem cells_u8 : Try.prog.cellsOf 5 = 1 := by kernel_rfl
theorem cells_sl : Try.prog.cellsOf 29 = 1 := by kernel_rfl
theorem okWide_arr {P : Program} {W : World} {r : Reach} {b0 : Nat} {t e : TypeId} {n : Nat} {v : Value} (ht : P.underlying t = some (.array n e)) (h : Value.okWide P W r b0 t v) : ∃ cs : Array Value, v = .agg cs ∧ cs.size = P.cellsOf t := by
  simp only [Value.okWide, ht] at h
  obtain ⟨cs, h1, h2, _⟩ := h
  exact ⟨cs, h1, h2⟩
theorem bytes_of : ∀ (l : List Value), (∀ i, i < l.length → ∃ b : UInt8, l[i]? = some (.int .u8 ((b.toNat : Nat) : Int))) → ∃ bs : List UInt8, l = bvs bs
  | [], _ => ⟨[], rfl⟩
  | c :: l, h => by
    obtain ⟨b, hb⟩ := h 0 (by simp)
    obtain ⟨bs, hbs⟩ := bytes_of l (fun i hi => by have := h (i + 1) (by simpa using hi); simpa using this)
    refine ⟨b :: bs, ?_⟩
    simp at hb
    simp [bvs, hb]
    simpa [bvs] using hbs
section
variable {H : Type} {enc : TypeId × Value → H} {W : World} {base : Nat} {spare : Nat → Bool} {held : Bool} {r : Reach} {b0 : Nat} {v : Value} {d : DataW H} {p : List MemPlace}
set_option maxRecDepth 100000 in
theorem a16_list {m : Nat} {l : List Value} {y : DataW H × List MemPlace} (h : DataW.trod enc Try.prog W base spare held m 22 l = some y) : ∃ bs : List UInt8, l = bvs bs ∧ bs.length = 16 := by
  obtain ⟨xs, m', _, _, hlen, hl, hx⟩ := DataW.trod_array Try.underlying22 h
  rw [cells_a16] at hlen
  rw [cells_u8] at hx
  obtain ⟨bs, rfl⟩ := bytes_of l (fun i hi => by
    have g := hx i (by omega)
    rw [List.getElem?_eq_getElem (by omega)] at g
    obtain ⟨z, e, _, hw⟩ := DataW.trod_int Try.underlying5 g
    have hb : 0 ≤ z ∧ z ≤ 255 := by simpa [Lit.wf, IntKind.min, IntKind.max, IntKind.signed, IntKind.bits] using hw
    obtain ⟨n, rfl⟩ := Int.eq_ofNat_of_zero_le hb.1
    refine ⟨UInt8.ofNat n, ?_⟩
    have e2 := congrArg (fun x : List Value => x[0]?) e
    have e3 : l[i]? = some (.int .u8 (n : Int)) := by simpa using e2
    rw [e3, UInt8.toNat_ofNat', Nat.mod_eq_of_lt (by omega)])
  exact ⟨bs, rfl, by rw [← bvs_length]; exact hlen⟩
set_option maxRecDepth 100000 in
theorem open_a16 (hv : Value.okWide Try.prog W r b0 22 v) (h : DataW.Trod enc Try.prog W base spare held 22 v d p) : ∃ bs : List UInt8, v = .agg (bvs bs).toArray ∧ bs.length = 16 := by
  obtain ⟨cs, rfl, hs⟩ := okWide_arr Try.underlying22 hv
  obtain ⟨fuel, hf⟩ := h
  obtain ⟨bs, hb, hl⟩ := a16_list (l := cs.toList) (by simpa [Value.cells] using hf)
  exact ⟨bs, by rw [← hb], hl⟩
/-- a slice of bytes, by its cell -/
theorem sl_at {m : Nat} {c : Value} {y : DataW H × List MemPlace} (h : DataW.trod enc Try.prog W base (fun _ => true) held m 29 [c] = some y) :
    ∃ a len cap zs, c = .slice a len cap ∧ IsRow .u8 W a len cap zs := by
  rcases open_ints Try.underlying29 Try.underlying5 (by kernel_rfl) h with ⟨hcs, _⟩ | ⟨x, l, c', zs, hcs, _, hl, hm, hz, hx, hcell, hwz⟩
  · simp at hcs
    subst hcs
    exact ⟨none, 0, 0, [], rfl, .inl ⟨rfl, rfl, rfl, rfl⟩⟩
  · simp at hcs
    subst hcs
    exact ⟨_, _, _, zs, rfl, .inr ⟨_, rfl, hl, hm, by simpa using hz, hcell, hwz⟩⟩
theorem open_sl (hv : Value.okWide Try.prog W r b0 29 v) (h : DataW.Trod enc Try.prog W base (fun _ => true) held 29 v d p) :
    ∃ a len cap zs, v = .slice a len cap ∧ IsRow .u8 W a len cap zs := by
  obtain ⟨a, l, c, rfl⟩ := okWide_slice Try.underlying29 hv
  obtain ⟨fuel, hf⟩ := h
  exact sl_at (by simpa [Value.cells] using hf)
end
end Go.Proofs.Ytbccnkjfjlmflaa

/-
  From numbers, sums and slices of bytes, as the reading gives them, to what the walks ask. Conditions: none.
-/
import Derived.Test.YtbloejlebikecaaDoorKmb
import Derived.Test.YtbloejlebikecaaDoorOpen
import Derived.Test.YtbloejlebikecaaDoorLaid
import Derived.SizedLaws
namespace Go.Proofs.YtbloejlebikecaaDoor
open Go.RowKit Go.ChangeShapes Go.WideShapes Go.ChangeAt
set_option linter.unusedVariables false
set_option linter.unusedSimpArgs false

theorem cells_num4 : Tryd.prog.cellsOf 24 = 4 := by kernel_rfl
theorem cells_u64' : Tryd.prog.cellsOf 22 = 1 := by kernel_rfl
theorem cells_sum32 : Tryd.prog.cellsOf 26 = 32 := by kernel_rfl
theorem cells_u8' : Tryd.prog.cellsOf 5 = 1 := by kernel_rfl
theorem cells_sl' : Tryd.prog.cellsOf 29 = 1 := by kernel_rfl
theorem okWide_arr' {P : Program} {W : World} {r : Reach} {b0 : Nat} {t e : TypeId} {n : Nat} {v : Value} (ht : P.underlying t = some (.array n e)) (h : Value.okWide P W r b0 t v) : ∃ cs : Array Value, v = .agg cs ∧ cs.size = P.cellsOf t := by
  simp only [Value.okWide, ht] at h
  obtain ⟨cs, h1, h2, _⟩ := h
  exact ⟨cs, h1, h2⟩
theorem bytes_of' : ∀ (l : List Value), (∀ i, i < l.length → ∃ b : UInt8, l[i]? = some (.int .u8 ((b.toNat : Nat) : Int))) → ∃ bs : List UInt8, l = bvs bs
  | [], _ => ⟨[], rfl⟩
  | c :: l, h => by
    obtain ⟨b, hb⟩ := h 0 (by simp)
    obtain ⟨bs, hbs⟩ := bytes_of' l (fun i hi => by have := h (i + 1) (by simpa using hi); simpa using this)
    refine ⟨b :: bs, ?_⟩
    simp at hb
    simp [bvs, hb]
    simpa [bvs] using hbs
theorem part_at' {l cs : List Value} {o n : Nat} (h : (l.drop o).take n = cs) : ∀ j v, cs[j]? = some v → l[o + j]? = some v := by
  intro j v hj
  rw [← h, List.getElem?_take] at hj
  split at hj
  · rw [List.getElem?_drop] at hj; exact hj
  · cases hj
section
variable {H : Type} {enc : TypeId × Value → H} {W : World} {base : Nat} {spare : Nat → Bool} {held : Bool} {r : Reach} {b0 : Nat} {v : Value} {d : DataW H} {p : List MemPlace}
theorem word_at' {m : Nat} {cs : List Value} {y : DataW H × List MemPlace} (h : DataW.trod enc Tryd.prog W base spare held m 22 cs = some y) : ∃ n : Nat, cs = [.int .u64 (n : Int)] ∧ n < 18446744073709551616 := by
  obtain ⟨z, rfl, _, hw⟩ := DataW.trod_int Tryd.underlying22 h
  have hb : 0 ≤ z ∧ z ≤ 18446744073709551615 := by simpa [Lit.wf, IntKind.min, IntKind.max, IntKind.signed, IntKind.bits] using hw
  obtain ⟨n, rfl⟩ := Int.eq_ofNat_of_zero_le hb.1
  exact ⟨n, rfl, by omega⟩
theorem u8_at' {m : Nat} {cs : List Value} {y : DataW H × List MemPlace} (h : DataW.trod enc Tryd.prog W base spare held m 5 cs = some y) : ∃ n : Nat, cs = [.int .u8 (n : Int)] ∧ n < 256 := by
  obtain ⟨z, rfl, _, hw⟩ := DataW.trod_int Tryd.underlying5 h
  have hb : 0 ≤ z ∧ z ≤ 255 := by simpa [Lit.wf, IntKind.min, IntKind.max, IntKind.signed, IntKind.bits] using hw
  obtain ⟨n, rfl⟩ := Int.eq_ofNat_of_zero_le hb.1
  exact ⟨n, rfl, by omega⟩
theorem int_at' {m : Nat} {cs : List Value} {y : DataW H × List MemPlace} (h : DataW.trod enc Tryd.prog W base spare held m 3 cs = some y) : ∃ z : Int, cs = [.int .i64 z] ∧ -9223372036854775808 ≤ z ∧ z ≤ 9223372036854775807 := by
  obtain ⟨z, rfl, _, hw⟩ := DataW.trod_int Tryd.underlying3 h
  have hb : -9223372036854775808 ≤ z ∧ z ≤ 9223372036854775807 := by simpa [Lit.wf, IntKind.min, IntKind.max, IntKind.signed, IntKind.bits] using hw
  exact ⟨z, rfl, hb.1, hb.2⟩
theorem num_list' {m : Nat} {l : List Value} {y : DataW H × List MemPlace} (h : DataW.trod enc Tryd.prog W base spare held m 24 l = some y) :
    ∃ n0 n1 n2 n3 : Nat, l = [.int .u64 (n0 : Int), .int .u64 (n1 : Int), .int .u64 (n2 : Int), .int .u64 (n3 : Int)] ∧ n0 < 18446744073709551616 ∧ n1 < 18446744073709551616 ∧ n2 < 18446744073709551616 ∧ n3 < 18446744073709551616 := by
  obtain ⟨xs, m', _, _, hlen, hl, hx⟩ := DataW.trod_array Tryd.underlying24 h
  rw [cells_num4] at hlen
  obtain ⟨c0, c1, c2, c3, rfl⟩ : ∃ c0 c1 c2 c3, l = [c0, c1, c2, c3] := by
    match l, hlen with
    | [c0, c1, c2, c3], _ => exact ⟨c0, c1, c2, c3, rfl⟩
  rw [cells_u64'] at hx
  have g0 := hx 0 (by omega)
  have g1 := hx 1 (by omega)
  have g2 := hx 2 (by omega)
  have g3 := hx 3 (by omega)
  rw [List.getElem?_eq_getElem (by omega)] at g0 g1 g2 g3
  obtain ⟨n0, e0, h0⟩ := word_at' g0
  obtain ⟨n1, e1, h1⟩ := word_at' g1
  obtain ⟨n2, e2, h2⟩ := word_at' g2
  obtain ⟨n3, e3, h3⟩ := word_at' g3
  simp at e0 e1 e2 e3
  subst e0; subst e1; subst e2; subst e3
  exact ⟨n0, n1, n2, n3, rfl, h0, h1, h2, h3⟩
theorem open_num4 (hv : Value.okWide Tryd.prog W r b0 24 v) (h : DataW.Trod enc Tryd.prog W base spare held 24 v d p) :
    ∃ n0 n1 n2 n3 : Nat, v = .agg #[.int .u64 (n0 : Int), .int .u64 (n1 : Int), .int .u64 (n2 : Int), .int .u64 (n3 : Int)] ∧ n0 < 18446744073709551616 ∧ n1 < 18446744073709551616 ∧ n2 < 18446744073709551616 ∧ n3 < 18446744073709551616 := by
  obtain ⟨cs, rfl, hs⟩ := okWide_arr' Tryd.underlying24 hv
  obtain ⟨fuel, hf⟩ := h
  obtain ⟨n0, n1, n2, n3, e, hh⟩ := num_list' (l := cs.toList) (by simpa [Value.cells] using hf)
  exact ⟨n0, n1, n2, n3, by rw [show cs = cs.toList.toArray from by simp, e], hh⟩
set_option maxRecDepth 100000 in
theorem sum_list' {m : Nat} {l : List Value} {y : DataW H × List MemPlace} (h : DataW.trod enc Tryd.prog W base spare held m 26 l = some y) : ∃ bs : List UInt8, l = bvs bs ∧ bs.length = 32 := by
  obtain ⟨xs, m', _, _, hlen, hl, hx⟩ := DataW.trod_array Tryd.underlying26 h
  rw [cells_sum32] at hlen
  rw [cells_u8'] at hx
  obtain ⟨bs, rfl⟩ := bytes_of' l (fun i hi => by
    have g := hx i (by omega)
    rw [List.getElem?_eq_getElem (by omega)] at g
    obtain ⟨n, e, hn⟩ := u8_at' g
    refine ⟨UInt8.ofNat n, ?_⟩
    have e2 := congrArg (fun x : List Value => x[0]?) e
    have e3 : l[i]? = some (.int .u8 (n : Int)) := by simpa using e2
    rw [e3, UInt8.toNat_ofNat', Nat.mod_eq_of_lt (by omega)])
  exact ⟨bs, rfl, by rw [← bvs_length]; exact hlen⟩
theorem open_sum (hv : Value.okWide Tryd.prog W r b0 26 v) (h : DataW.Trod enc Tryd.prog W base spare held 26 v d p) : ∃ bs : List UInt8, v = .agg (bvs bs).toArray ∧ bs.length = 32 := by
  obtain ⟨cs, rfl, hs⟩ := okWide_arr' Tryd.underlying26 hv
  obtain ⟨fuel, hf⟩ := h
  obtain ⟨bs, hb, hl⟩ := sum_list' (l := cs.toList) (by simpa [Value.cells] using hf)
  exact ⟨bs, by rw [← hb], hl⟩
theorem open_u8 (hv : Value.okWide Tryd.prog W r b0 5 v) (h : DataW.Trod enc Tryd.prog W base spare held 5 v d p) : ∃ n : Nat, v = .int .u8 (n : Int) ∧ n < 256 := by
  obtain ⟨z, rfl⟩ := okWide_int Tryd.underlying5 hv
  obtain ⟨fuel, hf⟩ := h
  obtain ⟨n, e, hn⟩ := u8_at' hf
  simp [Value.cells] at e
  subst e
  exact ⟨n, rfl, hn⟩
/-- a slice of bytes, by its cell -/
theorem sl_at' {m : Nat} {c : Value} {y : DataW H × List MemPlace} (h : DataW.trod enc Tryd.prog W base (fun _ => true) held m 29 [c] = some y) :
    ∃ a len cap zs, c = .slice a len cap ∧ IsRow .u8 W a len cap zs := by
  rcases open_ints Tryd.underlying29 Tryd.underlying5 (by kernel_rfl) h with ⟨hcs, _⟩ | ⟨x, l, c', zs, hcs, _, hl, hm, hz, hx, hcell, hwz⟩
  · simp at hcs
    subst hcs
    exact ⟨none, 0, 0, [], rfl, .inl ⟨rfl, rfl, rfl, rfl⟩⟩
  · simp at hcs
    subst hcs
    exact ⟨_, _, _, zs, rfl, .inr ⟨_, rfl, hl, hm, by simpa using hz, hcell, hwz⟩⟩
end
end Go.Proofs.YtbloejlebikecaaDoor

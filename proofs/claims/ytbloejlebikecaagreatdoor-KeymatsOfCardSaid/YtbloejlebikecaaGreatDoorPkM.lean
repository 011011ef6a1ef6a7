/-
  From numbers, sums and slices of bytes, as the reading gives them, to what the walks ask. Conditions: none.
  From what is given, as the reading gives it, to what the walk asks. Conditions: none.
  A world whose four tables hold what their initialisers lay. Conditions: none.
-/
import Derived.Test.YtbloejlebikecaaGreatDoorKmb
import Derived.Test.YtbloejlebikecaaGreatDoorOpen
import Derived.Test.YtbloejlebikecaaGreatDoorLaid
import Derived.SizedLaws
import Derived.Test.YtbloejlebikecaaGreatDoorKmo
namespace Go.Proofs.YtbloejlebikecaaGreatDoor
open Go.RowKit Go.ChangeShapes Go.WideShapes Go.ChangeAt
set_option linter.unusedVariables false
set_option linter.unusedSimpArgs false
set_option maxRecDepth 100000

theorem cells_num4 : Tryz.prog.cellsOf 24 = 4 := by kernel_rfl
theorem cells_u64' : Tryz.prog.cellsOf 22 = 1 := by kernel_rfl
theorem cells_sum32 : Tryz.prog.cellsOf 26 = 32 := by kernel_rfl
theorem cells_u8' : Tryz.prog.cellsOf 5 = 1 := by kernel_rfl
theorem cells_sl' : Tryz.prog.cellsOf 27 = 1 := by kernel_rfl
theorem okWide_arr' {P : Program} {W : World} {r : Reach} {b0 : Nat} {t e : TypeId} {n : Nat} {v : Value} (ht : P.underlying t = some (.array n e)) (h : Value.okWide P W r b0 t v) : ∃ cs : Array Value, v = .agg cs ∧ cs.size = P.cellsOf t := by
  simp only [Value.okWide, ht] at h
  obtain ⟨cs, h1, h2, _⟩ := h
  exact ⟨cs, h1, h2⟩
theorem bytes_of' : ∀ (l : List Value), (∀ i, i < l.length → ∃ b : UInt8, l[i]? = some (.int .u8 ((b.toNat : Nat) : Int))) → ∃ bs : List UInt8, l = bvs bs
  | [], _ => ⟨[], rfl⟩
  | c :: l, h => by
    obtain ⟨b, hb⟩ := h 0 (by simp)
    obtain ⟨bs, hbs⟩ := bytes_of' l (fun i hi => by have := h (i + 1) (by simpa using hi); simpa using this)
    refine ⟨b :: bs, ?_⟩
    simp at hb
    simp [bvs, hb]
    simpa [bvs] using hbs
theorem part_at' {l cs : List Value} {o n : Nat} (h : (l.drop o).take n = cs) : ∀ j v, cs[j]? = some v → l[o + j]? = some v := by
  intro j v hj
  rw [← h, List.getElem?_take] at hj
  split at hj
  · rw [List.getElem?_drop] at hj; exact hj
  · cases hj
section
variable {H : Type} {enc : TypeId × Value → H} {W : World} {base : Nat} {spare : Nat → Bool} {held : Bool} {r : Reach} {b0 : Nat} {v : Value} {d : DataW H} {p : List MemPlace}
theorem word_at' {m : Nat} {cs : List Value} {y : DataW H × List MemPlace} (h : DataW.trod enc Tryz.prog W base spare held m 22 cs = some y) : ∃ n : Nat, cs = [.int .u64 (n : Int)] ∧ n < 18446744073709551616 := by
  obtain ⟨z, rfl, _, hw⟩ := DataW.trod_int Tryz.underlying22 h
  have hb : 0 ≤ z ∧ z ≤ 18446744073709551615 := by simpa [Lit.wf, IntKind.min, IntKind.max, IntKind.signed, IntKind.bits] using hw
  obtain ⟨n, rfl⟩ := Int.eq_ofNat_of_zero_le hb.1
  exact ⟨n, rfl, by omega⟩
theorem u8_at' {m : Nat} {cs : List Value} {y : DataW H × List MemPlace} (h : DataW.trod enc Tryz.prog W base spare held m 5 cs = some y) : ∃ n : Nat, cs = [.int .u8 (n : Int)] ∧ n < 256 := by
  obtain ⟨z, rfl, _, hw⟩ := DataW.trod_int Tryz.underlying5 h
  have hb : 0 ≤ z ∧ z ≤ 255 := by simpa [Lit.wf, IntKind.min, IntKind.max, IntKind.signed, IntKind.bits] using hw
  obtain ⟨n, rfl⟩ := Int.eq_ofNat_of_zero_le hb.1
  exact ⟨n, rfl, by omega⟩
theorem int_at' {m : Nat} {cs : List Value} {y : DataW H × List MemPlace} (h : DataW.trod enc Tryz.prog W base spare held m 3 cs = some y) : ∃ z : Int, cs = [.int .i64 z] ∧ -9223372036854775808 ≤ z ∧ z ≤ 9223372036854775807 := by
  obtain ⟨z, rfl, _, hw⟩ := DataW.trod_int Tryz.underlying3 h
  have hb : -9223372036854775808 ≤ z ∧ z ≤ 9223372036854775807 := by simpa [Lit.wf, IntKind.min, IntKind.max, IntKind.signed, IntKind.bits] using hw
  exact ⟨z, rfl, hb.1, hb.2⟩
theorem num_list' {m : Nat} {l : List Value} {y : DataW H × List MemPlace} (h : DataW.trod enc Tryz.prog W base spare held m 24 l = some y) :
    ∃ n0 n1 n2 n3 : Nat, l = [.int .u64 (n0 : Int), .int .u64 (n1 : Int), .int .u64 (n2 : Int), .int .u64 (n3 : Int)] ∧ n0 < 18446744073709551616 ∧ n1 < 18446744073709551616 ∧ n2 < 18446744073709551616 ∧ n3 < 18446744073709551616 := by
  obtain ⟨xs, m', _, _, hlen, hl, hx⟩ := DataW.trod_array Tryz.underlying24 h
  rw [cells_num4] at hlen
  obtain ⟨c0, c1, c2, c3, rfl⟩ : ∃ c0 c1 c2 c3, l = [c0, c1, c2, c3] := by
    match l, hlen with
    | [c0, c1, c2, c3], _ => exact ⟨c0, c1, c2, c3, rfl⟩
  rw [cells_u64'] at hx
  have g0 := hx 0 (by omega)
  have g1 := hx 1 (by omega)
  have g2 := hx 2 (by omega)
  have g3 := hx 3 (by omega)
  rw [List.getElem?_eq_getElem (by omega)] at g0 g1 g2 g3
  obtain ⟨n0, e0, h0⟩ := word_at' g0
  obtain ⟨n1, e1, h1⟩ := word_at' g1
  obtain ⟨n2, e2, h2⟩ := word_at' g2
  obtain ⟨n3, e3, h3⟩ := word_at' g3
  simp at e0 e1 e2 e3
  subst e0; subst e1; subst e2; subst e3
  exact ⟨n0, n1, n2, n3, rfl, h0, h1, h2, h3⟩
theorem open_num4 (hv : Value.okWide Tryz.prog W r b0 24 v) (h : DataW.Trod enc Tryz.prog W base spare held 24 v d p) :
    ∃ n0 n1 n2 n3 : Nat, v = .agg #[.int .u64 (n0 : Int), .int .u64 (n1 : Int), .int .u64 (n2 : Int), .int .u64 (n3 : Int)] ∧ n0 < 18446744073709551616 ∧ n1 < 18446744073709551616 ∧ n2 < 18446744073709551616 ∧ n3 < 18446744073709551616 := by
  obtain ⟨cs, rfl, hs⟩ := okWide_arr' Tryz.underlying24 hv
  obtain ⟨fuel, hf⟩ := h
  obtain ⟨n0, n1, n2, n3, e, hh⟩ := num_list' (l := cs.toList) (by simpa [Value.cells] using hf)
  exact ⟨n0, n1, n2, n3, by rw [show cs = cs.toList.toArray from by simp, e], hh⟩
set_option maxRecDepth 100000 in
theorem sum_list' {m : Nat} {l : List Value} {y : DataW H × List MemPlace} (h : DataW.trod enc Tryz.prog W base spare held m 26 l = some y) : ∃ bs : List UInt8, l = bvs bs ∧ bs.length = 32 := by
  obtain ⟨xs, m', _, _, hlen, hl, hx⟩ := DataW.trod_array Tryz.underlying26 h
  rw [cells_sum32] at hlen
  rw [cells_u8'] at hx
  obtain ⟨bs, rfl⟩ := bytes_of' l (fun i hi => by
    have g := hx i (by omega)
    rw [List.getElem?_eq_getElem (by omega)] at g
    obtain ⟨n, e, hn⟩ := u8_at' g
    refine ⟨UInt8.ofNat n, ?_⟩
    have e2 := congrArg (fun x : List Value => x[0]?) e
    have e3 : l[i]? = some (.int .u8 (n : Int)) := by simpa using e2
    rw [e3, UInt8.toNat_ofNat', Nat.mod_eq_of_lt (by omega)])
  exact ⟨bs, rfl, by rw [← bvs_length]; exact hlen⟩
theorem open_sum (hv : Value.okWide Tryz.prog W r b0 26 v) (h : DataW.Trod enc Tryz.prog W base spare held 26 v d p) : ∃ bs : List UInt8, v = .agg (bvs bs).toArray ∧ bs.length = 32 := by
  obtain ⟨cs, rfl, hs⟩ := okWide_arr' Tryz.underlying26 hv
  obtain ⟨fuel, hf⟩ := h
  obtain ⟨bs, hb, hl⟩ := sum_list' (l := cs.toList) (by simpa [Value.cells] using hf)
  exact ⟨bs, by rw [← hb], hl⟩
theorem open_u8 (hv : Value.okWide Tryz.prog W r b0 5 v) (h : DataW.Trod enc Tryz.prog W base spare held 5 v d p) : ∃ n : Nat, v = .int .u8 (n : Int) ∧ n < 256 := by
  obtain ⟨z, rfl⟩ := okWide_int Tryz.underlying5 hv
  obtain ⟨fuel, hf⟩ := h
  obtain ⟨n, e, hn⟩ := u8_at' hf
  simp [Value.cells] at e
  subst e
  exact ⟨n, rfl, hn⟩
/-- a slice of bytes, by its cell -/
theorem sl_at' {m : Nat} {c : Value} {y : DataW H × List MemPlace} (h : DataW.trod enc Tryz.prog W base (fun _ => true) held m 27 [c] = some y) :
    ∃ a len cap zs, c = .slice a len cap ∧ IsRow .u8 W a len cap zs := by
  rcases open_ints Tryz.underlying27 Tryz.underlying5 (by kernel_rfl) h with ⟨hcs, _⟩ | ⟨x, l, c', zs, hcs, _, hl, hm, hz, hx, hcell, hwz⟩
  · simp at hcs
    subst hcs
    exact ⟨none, 0, 0, [], rfl, .inl ⟨rfl, rfl, rfl, rfl⟩⟩
  · simp at hcs
    subst hcs
    exact ⟨_, _, _, zs, rfl, .inr ⟨_, rfl, hl, hm, by simpa using hz, hcell, hwz⟩⟩
end
end Go.Proofs.YtbloejlebikecaaGreatDoor
namespace Go.Proofs.YtbloejlebikecaaGreatDoor
open Go.RowKit Go.ChangeShapes Go.WideShapes Go.ChangeAt
set_option linter.unusedVariables false
set_option linter.unusedSimpArgs false
set_option maxRecDepth 100000

theorem cells_gvn : Tryz.prog.cellsOf 29 = 39 := by kernel_rfl
theorem cells_int' : Tryz.prog.cellsOf 3 = 1 := by kernel_rfl
theorem list_gvn (l : List Value) (h : l.length = 39) : l = l.take 4 ++ (l.drop 4).take 32 ++ ((l.drop 36).take 1 ++ ((l.drop 37).take 1 ++ (l.drop 38).take 1)) := by
  have e4 : (l.drop 38).take 1 = l.drop 38 := List.take_of_length_le (by rw [List.length_drop]; omega)
  have e3 : (l.drop 37).take 1 ++ l.drop 38 = l.drop 37 := by
    have := List.take_append_drop 1 (l.drop 37); rwa [List.drop_drop] at this
  have e2 : (l.drop 36).take 1 ++ l.drop 37 = l.drop 36 := by
    have := List.take_append_drop 1 (l.drop 36); rwa [List.drop_drop] at this
  have e1 : (l.drop 4).take 32 ++ l.drop 36 = l.drop 4 := by
    have := List.take_append_drop 32 (l.drop 4); rwa [List.drop_drop] at this
  rw [e4, e3, e2, List.append_assoc, e1, List.take_append_drop]
section
variable {H : Type} {enc : TypeId × Value → H} {W : World} {base : Nat} {spare : Nat → Bool} {held : Bool} {r : Reach} {b0 : Nat} {v : Value} {d : DataW H} {p : List MemPlace}
theorem open_gvn (hv : Value.okWide Tryz.prog W r b0 29 v) (h : DataW.Trod enc Tryz.prog W base (fun _ => true) held 29 v d p) :
    ∃ (n0 n1 n2 n3 : Nat) (id : List UInt8) (z1 z2 : Int) (a : Option Addr) (len cap : Nat) (z : List Int), v = .agg (gvc n0 n1 n2 n3 id z1 z2 a len cap) ∧ n0 < 18446744073709551616 ∧ n1 < 18446744073709551616 ∧ n2 < 18446744073709551616 ∧ n3 < 18446744073709551616 ∧ id.length = 32 ∧
      -9223372036854775808 ≤ z1 ∧ z1 ≤ 9223372036854775807 ∧ -9223372036854775808 ≤ z2 ∧ z2 ≤ 9223372036854775807 ∧ IsRow .u8 W a len cap z := by
  obtain ⟨cs, rfl, hs⟩ := okWide_struct Tryz.underlying29 hv
  rw [cells_gvn] at hs
  obtain ⟨fuel, hf0⟩ := h
  obtain ⟨xs, n, _, _, hl, hn, hf⟩ := DataW.trod_struct Tryz.underlying29 hf0
  have h0 := hf 0 _ rfl
  have h1 := hf 1 _ rfl
  have h2 := hf 2 _ rfl
  have h3 := hf 3 _ rfl
  have h4 := hf 4 _ rfl
  rw [List.getElem?_eq_getElem (by rw [hn]; decide)] at h0 h1 h2 h3 h4
  obtain ⟨n0, n1, n2, n3, e0, q0, q1, q2, q3⟩ := num_list' h0
  obtain ⟨id, e1, qi⟩ := sum_list' h1
  obtain ⟨z1, e2, a1, b1⟩ := int_at' h2
  obtain ⟨z2, e3, a2, b2⟩ := int_at' h3
  simp only [Value.cells, List.getElem_toArray, List.getElem_cons_zero, List.getElem_cons_succ, cells_num4, cells_sum32, cells_int', cells_sl'] at e0 e1 e2 e3 h4
  have hls : cs.toList.length = 39 := by simpa using hs
  have e4 : ∃ c, (cs.toList.drop 38).take 1 = [c] := by
    have hlen : ((cs.toList.drop 38).take 1).length = 1 := by rw [List.length_take, List.length_drop, hls]; decide
    match hq : (cs.toList.drop 38).take 1, hlen with
    | [c], _ => exact ⟨c, rfl⟩
  obtain ⟨c, e4⟩ := e4
  rw [e4] at h4
  obtain ⟨a, len, cap, z, rfl, hrow⟩ := sl_at' h4
  rw [List.drop_zero] at e0
  refine ⟨n0, n1, n2, n3, id, z1, z2, a, len, cap, z, ?_, q0, q1, q2, q3, qi, a1, b1, a2, b2, hrow⟩
  have hall := list_gvn cs.toList hls
  rw [e0, e1, e2, e3, e4] at hall
  rw [show cs = cs.toList.toArray from by simp, hall]
  rfl
end
end Go.Proofs.YtbloejlebikecaaGreatDoor
namespace Go.Proofs.YtbloejlebikecaaGreatDoor
open Go.RowKit Go.ChangeShapes Go.WideShapes Go.ChangeAt
set_option linter.unusedVariables false
set_option maxRecDepth 100000

theorem tail_laid {P : Program} {x : String × DataW Unit} {rest : List (String × DataW Unit)} {W : World} (h : laidMet P (x :: rest) W) : laidMet P rest W := by
  obtain ⟨ps, ⟨g', t', cs, fuel, p, q, hg', ht', hvar, hd, h1, h2⟩, hn, hc⟩ := h
  first
  | (subst h2; exact ⟨q, h1, (List.nodup_append.1 hn).2.1, fun b off hm => hc b off (List.mem_append.2 (.inr hm))⟩)
  | (subst h1; exact ⟨q, h2, (List.nodup_append.1 hn).2.1, fun b off hm => hc b off (List.mem_append.2 (.inr hm))⟩)
/-- the settled world, the tables holding what is laid -/
noncomputable def laidWorld4 (os : Os) : World :=
  { World.holding Tryz.prog os ⟨#[], #[], []⟩ with heap := ((((World.holding Tryz.prog os ⟨#[], #[], []⟩).heap.modify 0 (setRow (litsOf Rows.laid_burrow_shas_cubes))).modify 1 (setRow (litsOf Rows.laid_internal_strconv_uint64pow10))).modify 2 (setRow (litsOf Rows.laid_math_bits_deBruijn32tab))).modify 3 (setRow (litsOf Rows.laid_math_bits_deBruijn64tab)) }
theorem kt_of4 {W : World} (hL : laidMetH Tryz.prog [("math/bits.deBruijn32tab", Rows.laid_math_bits_deBruijn32tab), ("math/bits.deBruijn64tab", Rows.laid_math_bits_deBruijn64tab), ("internal/strconv.uint64pow10", Rows.laid_internal_strconv_uint64pow10), ("burrow/shas.cubes", Rows.laid_burrow_shas_cubes)] W) : Kt W := by
  have h : laidMet Tryz.prog [("math/bits.deBruijn32tab", Rows.laid_math_bits_deBruijn32tab), ("math/bits.deBruijn64tab", Rows.laid_math_bits_deBruijn64tab), ("internal/strconv.uint64pow10", Rows.laid_internal_strconv_uint64pow10), ("burrow/shas.cubes", Rows.laid_burrow_shas_cubes)] W := hL
  exact kt_of (show laidMetH Tryz.prog [("burrow/shas.cubes", Rows.laid_burrow_shas_cubes)] W from tail_laid (tail_laid (tail_laid h)))
end Go.Proofs.YtbloejlebikecaaGreatDoor

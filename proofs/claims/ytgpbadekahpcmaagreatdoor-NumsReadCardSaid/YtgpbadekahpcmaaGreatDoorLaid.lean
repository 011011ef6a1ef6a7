/-
  What the rows of this seat share: a world whose three tables hold what their initialisers lay, and from the arguments as the reading gives them to what the walks ask. Conditions: none.
-/
import Derived.Test.YtgpbadekahpcmaaGreatDoorOpen
import Derived.Test.YtgpbadekahpcmaaGreatDoorCards
import Derived.Test.YtgpbadekahpcmaaGreatDoorTie
import Derived.SizedLaws
import Derived.WalkKit
import Derived.Deep.DeepHandedRow
import Derived.Deep.Strs
import Derived.Laws.IdiomArrays
import Derived.Lib.LaidTab
namespace Go.Proofs.YtgpbadekahpcmaaGreatDoor
open Go.RowKit Go.ChangeShapes Go.WideShapes Go.ChangeAt
set_option linter.unusedVariables false

theorem own : ownKnob Tryz.prog.godebug = none := by kernel_rfl
theorem laidOut : laidOutB Tryz.prog = true := by kernel_rfl
theorem bytes_u8 : Tryz.prog.bytesOf 5 = 1 := by kernel_rfl
theorem cells_given : Tryz.prog.cellsOf 27 = 6 := by kernel_rfl
theorem cells_u64 : Tryz.prog.cellsOf 23 = 1 := by kernel_rfl
theorem cells_int : Tryz.prog.cellsOf 3 = 1 := by kernel_rfl
theorem cells_num : Tryz.prog.cellsOf 25 = 4 := by kernel_rfl

def litsOf : DataW Unit → Array Value
  | .agg parts => (parts.filterMap fun | .lit (.int k n) => some (.int k n) | _ => none).toArray
  | _ => #[]
def setRow (vs : Array Value) : Obj → Obj
  | .cells _ t frozen => .cells vs t frozen
  | o => o
/-- the settled world, the tables holding what is laid -/
noncomputable def laidWorld (os : Os) : World :=
  { World.holding Tryz.prog os ⟨#[], #[], []⟩ with heap := (((World.holding Tryz.prog os ⟨#[], #[], []⟩).heap.modify 0 (setRow (litsOf Rows.laid_internal_strconv_uint64pow10))).modify 1 (setRow (litsOf Rows.laid_math_bits_deBruijn32tab))).modify 2 (setRow (litsOf Rows.laid_math_bits_deBruijn64tab)) }

section
variable {H : Type} {enc : TypeId × Value → H} {W : World} {base : Nat} {spare : Nat → Bool} {held : Bool} {r : Reach} {b0 : Nat} {v : Value} {d : DataW H} {p : List MemPlace}

/-- a slice of bytes within the form's reach -/
theorem open_bytes {a0 : Option Addr} {len0 cap0 : Nat} {ts : List TypeId} {ds : List (DataW H)} (h : DataW.Trod enc Tryz.prog W base (fun _ => true) held 22 (.slice a0 len0 cap0) d p)
    (hsz : (DataW.weightsEach Tryz.prog ts ds).all (· ≤ reachBytes) = true) (j : Nat) (ht : ts[j]? = some 22) (hj : ds[j]? = some d) : ∃ zs, IsRow .u8 W a0 len0 cap0 zs ∧ cap0 ≤ 140737488351232 := by
  obtain ⟨fuel, hf⟩ := h
  rcases open_ints Tryz.underlying22 Tryz.underlying5 (by kernel_rfl) hf with ⟨hcs, _⟩ | ⟨x, l, c, zs, hcs, _, hl, hm, hz, hx, hcell, hwz⟩
  · simp [Value.cells] at hcs
    obtain ⟨rfl, rfl, rfl⟩ := hcs
    exact ⟨[], .inl ⟨rfl, rfl, rfl, rfl⟩, by omega⟩
  · simp [Value.cells] at hcs
    obtain ⟨rfl, rfl, rfl⟩ := hcs
    refine ⟨zs, .inr ⟨_, rfl, hl, hm, by simpa using hz, hcell, hwz⟩, ?_⟩
    have hd : d = .slice (lits .u8 (zs.take len0)) (lits .u8 (zs.drop len0)) := congrArg Prod.fst hx
    have := sized_slice hsz (j := j) (t := 22) (e := 5) ht (by rw [hj, hd]) Tryz.underlying22
    rw [bytes_u8] at this
    simp only [lits, List.length_map, List.length_take, List.length_drop, reachBytes] at this
    have hz' : zs.length = cap0 := by simpa using hz
    omega

theorem IsRow.none_cap {k : IntKind} {a : Option Addr} {len cap : Nat} {zs : List Int} (h : IsRow k W a len cap zs) : a = none → cap = 0 := by
  intro e
  rcases h with ⟨_, _, h2, _⟩ | ⟨x, h2, _⟩
  · exact h2
  · rw [e] at h2; cases h2

theorem word_at {m : Nat} {cs : List Value} {y : DataW H × List MemPlace} (h : DataW.trod enc Tryz.prog W base spare held m 23 cs = some y) : ∃ n : Nat, cs = [.int .u64 (n : Int)] ∧ n < 18446744073709551616 := by
  obtain ⟨z, rfl, _, hw⟩ := DataW.trod_int Tryz.underlying23 h
  have hb : 0 ≤ z ∧ z ≤ 18446744073709551615 := by simpa [Lit.wf, IntKind.min, IntKind.max, IntKind.signed, IntKind.bits] using hw
  obtain ⟨n, rfl⟩ := Int.eq_ofNat_of_zero_le hb.1
  exact ⟨n, rfl, by omega⟩

theorem whole_at {m : Nat} {cs : List Value} {y : DataW H × List MemPlace} (h : DataW.trod enc Tryz.prog W base spare held m 3 cs = some y) : ∃ n : Int, cs = [.int .i64 n] ∧ -9223372036854775808 ≤ n ∧ n ≤ 9223372036854775807 := by
  obtain ⟨z, rfl, _, hw⟩ := DataW.trod_int Tryz.underlying3 h
  have hb : -9223372036854775808 ≤ z ∧ z ≤ 9223372036854775807 := by simpa [Lit.wf, IntKind.min, IntKind.max, IntKind.signed, IntKind.bits] using hw
  exact ⟨z, rfl, hb.1, hb.2⟩

set_option maxRecDepth 100000 in
theorem open_given (hv : Value.okWide Tryz.prog W r b0 27 v) (h : DataW.Trod enc Tryz.prog W base spare held 27 v d p) :
    ∃ (N n0 n1 n2 n3 : Nat) (k : Int), v = .agg #[.int .u64 (N : Int), .int .i64 k, .int .u64 (n0 : Int), .int .u64 (n1 : Int), .int .u64 (n2 : Int), .int .u64 (n3 : Int)] ∧ N < 18446744073709551616 ∧ -9223372036854775808 ≤ k ∧ k ≤ 9223372036854775807 ∧ n0 < 18446744073709551616 ∧ n1 < 18446744073709551616 ∧ n2 < 18446744073709551616 ∧ n3 < 18446744073709551616 := by
  obtain ⟨cs, rfl, hs⟩ := okWide_struct Tryz.underlying27 hv
  rw [cells_given] at hs
  obtain ⟨fuel, hf⟩ := h
  obtain ⟨c0, c1, c2, c3, c4, c5, rfl⟩ : ∃ c0 c1 c2 c3 c4 c5, cs = #[c0, c1, c2, c3, c4, c5] := by
    match cs, hs with
    | ⟨[c0, c1, c2, c3, c4, c5]⟩, _ => exact ⟨c0, c1, c2, c3, c4, c5, rfl⟩
  obtain ⟨y0, y1, y2, n, _, _, g0, g1, g2⟩ := Go.Deep.trod_struct3 Tryz.underlying27 hf
  simp [Value.cells, cells_u64, cells_int, cells_num] at g0 g1 g2
  obtain ⟨N, e0, hN⟩ := word_at g0
  obtain ⟨k, e1, hk1, hk2⟩ := whole_at g1
  obtain ⟨z0, z1, z2, z3, m, _, q0, q1, q2, q3⟩ := trod_array4 Tryz.underlying25 cells_u64 g2
  obtain ⟨n0, f0, h0⟩ := word_at q0
  obtain ⟨n1, f1, h1⟩ := word_at q1
  obtain ⟨n2, f2, h2⟩ := word_at q2
  obtain ⟨n3, f3, h3⟩ := word_at q3
  simp at e0 e1 f0 f1 f2 f3
  subst e0; subst e1; subst f0; subst f1; subst f2; subst f3
  exact ⟨N, n0, n1, n2, n3, k, rfl, hN, hk1, hk2, h0, h1, h2, h3⟩
end
end Go.Proofs.YtgpbadekahpcmaaGreatDoor

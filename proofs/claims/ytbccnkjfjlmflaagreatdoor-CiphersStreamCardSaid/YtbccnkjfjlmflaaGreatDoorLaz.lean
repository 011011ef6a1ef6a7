/-
  What the rows of this seat share: a world whose three tables hold what their initialisers lay, and from the arguments as the reading gives them to what the walks ask. Conditions: none.
-/
import Derived.Test.YtbccnkjfjlmflaaGreatDoorOpen
import Derived.Test.YtbccnkjfjlmflaaGreatDoorBx
import Derived.Test.YtbccnkjfjlmflaaGreatDoorCru
import Derived.Test.YtbccnkjfjlmflaaGreatDoorCards
import Derived.Test.YtbccnkjfjlmflaaGreatDoorTie
import Derived.SizedLaws
import Derived.WalkKit
import Derived.Deep.DeepHandedRow
import Derived.Deep.Strs
import Derived.Laws.IdiomArrays
import Derived.Lib.LaidTab
namespace Go.Proofs.YtbccnkjfjlmflaaGreatDoor
open Go.RowKit Go.ChangeShapes Go.WideShapes Go.ChangeAt
set_option linter.unusedVariables false
set_option linter.unusedSimpArgs false

theorem own_knob : ownKnob Tryz.prog.godebug = none := by kernel_rfl
theorem laidOut : laidOutB Tryz.prog = true := by kernel_rfl
theorem bytes_u8 : Tryz.prog.bytesOf 5 = 1 := by kernel_rfl
theorem cells_a16 : Tryz.prog.cellsOf 22 = 16 := by kernel_rfl
theorem cells_u8 : Tryz.prog.cellsOf 5 = 1 := by kernel_rfl
theorem cells_slz : Tryz.prog.cellsOf 23 = 1 := by kernel_rfl
theorem okWide_arr {P : Program} {W : World} {r : Reach} {b0 : Nat} {t e : TypeId} {n : Nat} {v : Value} (ht : P.underlying t = some (.array n e)) (h : Value.okWide P W r b0 t v) : ∃ cs : Array Value, v = .agg cs ∧ cs.size = P.cellsOf t := by
  simp only [Value.okWide, ht] at h
  obtain ⟨cs, h1, h2, _⟩ := h
  exact ⟨cs, h1, h2⟩
theorem bytes_of : ∀ (l : List Value), (∀ i, i < l.length → ∃ b : UInt8, l[i]? = some (.int .u8 ((b.toNat : Nat) : Int))) → ∃ bs : List UInt8, l = bvs bs
  | [], _ => ⟨[], rfl⟩
  | c :: l, h => by
    obtain ⟨b, hb⟩ := h 0 (by simp)
    obtain ⟨bs, hbs⟩ := bytes_of l (fun i hi => by have := h (i + 1) (by simpa using hi); simpa using this)
    refine ⟨b :: bs, ?_⟩
    simp at hb
    simp [bvs, hb]
    simpa [bvs] using hbs
section
variable {H : Type} {enc : TypeId × Value → H} {W : World} {base : Nat} {spare : Nat → Bool} {held : Bool} {r : Reach} {b0 : Nat} {v : Value} {d : DataW H} {p : List MemPlace}
set_option maxRecDepth 100000 in
theorem a16_list {m : Nat} {l : List Value} {y : DataW H × List MemPlace} (h : DataW.trod enc Tryz.prog W base spare held m 22 l = some y) : ∃ bs : List UInt8, l = bvs bs ∧ bs.length = 16 := by
  obtain ⟨xs, m', _, _, hlen, hl, hx⟩ := DataW.trod_array Tryz.underlying22 h
  rw [cells_a16] at hlen
  rw [cells_u8] at hx
  obtain ⟨bs, rfl⟩ := bytes_of l (fun i hi => by
    have g := hx i (by omega)
    rw [List.getElem?_eq_getElem (by omega)] at g
    obtain ⟨z, e, _, hw⟩ := DataW.trod_int Tryz.underlying5 g
    have hb : 0 ≤ z ∧ z ≤ 255 := by simpa [Lit.wf, IntKind.min, IntKind.max, IntKind.signed, IntKind.bits] using hw
    obtain ⟨n, rfl⟩ := Int.eq_ofNat_of_zero_le hb.1
    refine ⟨UInt8.ofNat n, ?_⟩
    have e2 := congrArg (fun x : List Value => x[0]?) e
    have e3 : l[i]? = some (.int .u8 (n : Int)) := by simpa using e2
    rw [e3, UInt8.toNat_ofNat', Nat.mod_eq_of_lt (by omega)])
  exact ⟨bs, rfl, by rw [← bvs_length]; exact hlen⟩
set_option maxRecDepth 100000 in
theorem open_a16 (hv : Value.okWide Tryz.prog W r b0 22 v) (h : DataW.Trod enc Tryz.prog W base spare held 22 v d p) : ∃ bs : List UInt8, v = .agg (bvs bs).toArray ∧ bs.length = 16 := by
  obtain ⟨cs, rfl, hs⟩ := okWide_arr Tryz.underlying22 hv
  obtain ⟨fuel, hf⟩ := h
  obtain ⟨bs, hb, hl⟩ := a16_list (l := cs.toList) (by simpa [Value.cells] using hf)
  exact ⟨bs, by rw [← hb], hl⟩
end
def litsOf : DataW Unit → Array Value
  | .agg parts => (parts.filterMap fun | .lit (.int k n) => some (.int k n) | _ => none).toArray
  | _ => #[]
def setRow (vs : Array Value) : Obj → Obj
  | .cells _ t frozen => .cells vs t frozen
  | o => o
/-- the settled world, the tables holding what is laid -/
noncomputable def laidWorld (os : Os) : World :=
  { World.holding Tryz.prog os ⟨#[], #[], []⟩ with heap := (((World.holding Tryz.prog os ⟨#[], #[], []⟩).heap.modify 0 (setRow (litsOf Rows.laid_internal_strconv_uint64pow10))).modify 1 (setRow (litsOf Rows.laid_math_bits_deBruijn32tab))).modify 2 (setRow (litsOf Rows.laid_math_bits_deBruijn64tab)) }

section
variable {H : Type} {enc : TypeId × Value → H} {W : World} {base : Nat} {spare : Nat → Bool} {held : Bool} {r : Reach} {b0 : Nat} {v : Value} {d : DataW H} {p : List MemPlace}

/-- a slice of bytes within the form's reach -/
theorem open_bytes {a0 : Option Addr} {len0 cap0 : Nat} {ts : List TypeId} {ds : List (DataW H)} (h : DataW.Trod enc Tryz.prog W base (fun _ => true) held 23 (.slice a0 len0 cap0) d p)
    (hsz : (DataW.weightsEach Tryz.prog ts ds).all (· ≤ reachBytes) = true) (j : Nat) (ht : ts[j]? = some 23) (hj : ds[j]? = some d) : ∃ zs, IsRow .u8 W a0 len0 cap0 zs ∧ cap0 ≤ 140737488351232 := by
  obtain ⟨fuel, hf⟩ := h
  rcases open_ints Tryz.underlying23 Tryz.underlying5 (by kernel_rfl) hf with ⟨hcs, _⟩ | ⟨x, l, c, zs, hcs, _, hl, hm, hz, hx, hcell, hwz⟩
  · simp [Value.cells] at hcs
    obtain ⟨rfl, rfl, rfl⟩ := hcs
    exact ⟨[], .inl ⟨rfl, rfl, rfl, rfl⟩, by omega⟩
  · simp [Value.cells] at hcs
    obtain ⟨rfl, rfl, rfl⟩ := hcs
    refine ⟨zs, .inr ⟨_, rfl, hl, hm, by simpa using hz, hcell, hwz⟩, ?_⟩
    have hd : d = .slice (lits .u8 (zs.take len0)) (lits .u8 (zs.drop len0)) := congrArg Prod.fst hx
    have := sized_slice hsz (j := j) (t := 23) (e := 5) ht (by rw [hj, hd]) Tryz.underlying23
    rw [bytes_u8] at this
    simp only [lits, List.length_map, List.length_take, List.length_drop, reachBytes] at this
    have hz' : zs.length = cap0 := by simpa using hz
    omega

theorem IsRow.none_cap {k : IntKind} {a : Option Addr} {len cap : Nat} {zs : List Int} (h : IsRow k W a len cap zs) : a = none → cap = 0 := by
  intro e
  rcases h with ⟨_, _, h2, _⟩ | ⟨x, h2, _⟩
  · exact h2
  · rw [e] at h2; cases h2

end
end Go.Proofs.YtbccnkjfjlmflaaGreatDoor

/-
  What the rows of this seat share: a world whose table K holds what its initialiser lays, and from the arguments as the reading gives them to what the walks ask. Conditions: none.
  From a slice of slices of bytes, as the reading gives it, to what the walks ask. Conditions: none (the form's own reach is used).
  shas.takeIn, walked: a block is taken in. Condition: the library's table holds what its text lays.
  A run of bytes, as it lies in memory: by which the whole blocks were taken in, the bytes behind these, their count. Conditions: none.
  (*shas.Run).add, walked: bytes behind those so far, each block taken in as it gets whole. Conditions: the library's table holds what its text lays; no more than 2^47 bytes; they lie outside of the run.
  shas.tell, shas.squares, walked: numbers as bytes. Conditions: none.
  nums.longer, walked: the bytes in new memory, and noughts behind them. Condition: no more than 2^48 of them in all.
  nums.lay, walked: the room's bytes become the last ones of the words' number. Conditions: the words (four at most) lie in another block than the room, and are enough for it.
  nums.Put, walked: the bytes, then the number's last ones, in new memory. Condition: no more than 2^47 bytes came in.
  shas.New, there, ending, walked. Conditions: none.
-/
import Derived.Test.YtikmhnlhaolbfaaDoorPkA
import Derived.Test.YtikmhnlhaolbfaaDoorCards
import Derived.Test.YtikmhnlhaolbfaaDoorTie
import Derived.SizedLaws
import Derived.WalkKit
import Derived.Deep.DeepHandedRow
import Derived.Deep.Strs
import Derived.Laws.IdiomArrays
import Derived.Lib.LaidTab
import Derived.Deep.Matrix
import Derived.Deep.WholeRow
import Derived.BigQuiet
import Derived.Laws.AppendOwn
import Derived.OwnWalk
import Derived.Maps.AppendAt
import Derived.Deep.Cut
import Derived.Outline
import Derived.WalkLawsBesides
import Derived.WalkSpells
import Derived.Deep.LoopGhost
namespace Go.Proofs.YtikmhnlhaolbfaaDoor
open Go.RowKit Go.ChangeShapes Go.WideShapes Go.ChangeAt
set_option linter.unusedVariables false

theorem own_knob : ownKnob Tryd.prog.godebug = none := by kernel_rfl
theorem laidOut : laidOutB Tryd.prog = true := by kernel_rfl
theorem bytes_u8 : Tryd.prog.bytesOf 5 = 1 := by kernel_rfl

def litsOf : DataW Unit → Array Value
  | .agg parts => (parts.filterMap fun | .lit (.int k n) => some (.int k n) | _ => none).toArray
  | _ => #[]
def setRow (vs : Array Value) : Obj → Obj
  | .cells _ t frozen => .cells vs t frozen
  | o => o
/-- the settled world, the table holding what is laid -/
noncomputable def laidWorld (os : Os) : World :=
  { World.holding Tryd.prog os ⟨#[], #[], []⟩ with heap := (World.holding Tryd.prog os ⟨#[], #[], []⟩).heap.modify 3 (setRow (litsOf Rows.laid_burrow_shas_cubes)) }
theorem gT : Tryd.prog.globalNamed "burrow/shas.cubes" = some 3 := by kernel_rfl
theorem gTType : (Tryd.prog.globals[3]?).map (·.type) = some 132 := by kernel_rfl
set_option maxRecDepth 100000 in
theorem kt_of {W : World} (hL : laidMetH Tryd.prog [("burrow/shas.cubes", Rows.laid_burrow_shas_cubes)] W) : Kt W := by
  have h : Lib.TabIs Tryd.prog W "burrow/shas.cubes" .u32 (kk.map fun n : Nat => (n : Int)) := Lib.tabIs_of_head gT gTType Tryd.underlying132 Tryd.underlying32 (by kernel_rfl) (by kernel_rfl) hL
  intro j hj
  have hl : kk.length = 64 := kk_length
  rw [h.cell gT j (by simpa [hl] using hj)]
  congr 2
  simp [at', List.getD, hl, hj]

section
variable {H : Type} {enc : TypeId × Value → H} {W : World} {base : Nat} {spare : Nat → Bool} {held : Bool} {r : Reach} {b0 : Nat} {v : Value} {d : DataW H} {p : List MemPlace}

set_option maxRecDepth 100000 in
/-- a slice of bytes within the form's reach -/
theorem open_bytes {a0 : Option Addr} {len0 cap0 : Nat} {ts : List TypeId} {ds : List (DataW H)} (h : DataW.Trod enc Tryd.prog W base (fun _ => true) held 41 (.slice a0 len0 cap0) d p)
    (hsz : (DataW.weightsEach Tryd.prog ts ds).all (· ≤ reachBytes) = true) (j : Nat) (ht : ts[j]? = some 41) (hj : ds[j]? = some d) : ∃ zs, IsRow .u8 W a0 len0 cap0 zs ∧ cap0 ≤ 140737488351232 := by
  obtain ⟨fuel, hf⟩ := h
  rcases open_ints Tryd.underlying41 Tryd.underlying5 (by kernel_rfl) hf with ⟨hcs, _⟩ | ⟨x, l, c, zs, hcs, _, hl, hm, hz, hx, hcell, hwz⟩
  · simp [Value.cells] at hcs
    obtain ⟨rfl, rfl, rfl⟩ := hcs
    exact ⟨[], .inl ⟨rfl, rfl, rfl, rfl⟩, by omega⟩
  · simp [Value.cells] at hcs
    obtain ⟨rfl, rfl, rfl⟩ := hcs
    refine ⟨zs, .inr ⟨_, rfl, hl, hm, by simpa using hz, hcell, hwz⟩, ?_⟩
    have hd : d = .slice (lits .u8 (zs.take len0)) (lits .u8 (zs.drop len0)) := congrArg Prod.fst hx
    have := sized_slice hsz (j := j) (t := 41) (e := 5) ht (by rw [hj, hd]) Tryd.underlying41
    rw [bytes_u8] at this
    simp only [lits, List.length_map, List.length_take, List.length_drop, reachBytes] at this
    have hz' : zs.length = cap0 := by simpa using hz
    omega
set_option maxRecDepth 100000 in
theorem IsRow.none_cap {k : IntKind} {a : Option Addr} {len cap : Nat} {zs : List Int} (h : IsRow k W a len cap zs) : a = none → cap = 0 := by
  intro e
  rcases h with ⟨_, _, h2, _⟩ | ⟨x, h2, _⟩
  · exact h2
  · rw [e] at h2; cases h2
set_option maxRecDepth 100000 in
theorem short_of (hv : Value.okWide Tryd.prog W r b0 69 v) (h : DataW.Trod enc Tryd.prog W base spare held 69 v d p) : ∃ n : Nat, v = .int .u16 (n : Int) ∧ n < 65536 := by
  obtain ⟨z, rfl, _, _, hw⟩ := open_int Tryd.underlying69 hv h
  have hb : 0 ≤ z ∧ z ≤ 65535 := by simpa [Lit.wf, IntKind.min, IntKind.max, IntKind.signed, IntKind.bits] using hw
  obtain ⟨n, rfl⟩ := Int.eq_ofNat_of_zero_le hb.1
  exact ⟨n, rfl, by omega⟩
end
end Go.Proofs.YtikmhnlhaolbfaaDoor
namespace Go.Proofs.YtikmhnlhaolbfaaDoor
open Go.RowKit Go.ChangeShapes Go.WideShapes Go.ChangeAt Go.Deep
set_option linter.unusedVariables false

/-- a slice of slices of bytes: what its cells hold, and what lies there -/
def Rws (w : World) (a0 : Option Addr) (n : Nat) (A : Nat → Option Addr) (L C : Nat → Nat) (xs : Nat → List UInt8) : Prop :=
  ∀ r, r < n → (∃ g o, a0 = some ⟨g, o, none⟩ ∧ g < w.heap.size ∧ w.cell? ⟨g, o + r, none⟩ = some (.slice (A r) (L r) (C r))) ∧ (xs r).length = L r ∧ Rd w (A r) (xs r) ∧ L r ≤ C r ∧ C r ≤ 140737488351232 ∧ (A r = none → C r = 0)
theorem weightsAll_mem {H : Type} {P : Program} {e : TypeId} {d : DataW H} {n : Nat} : ∀ {l : List (DataW H)}, d ∈ l → n ∈ d.weights P e → n ∈ DataW.weightsAll P e l
  | [], h, _ => by cases h
  | x :: l, h, hn => by
    simp only [DataW.weightsAll, List.mem_append]
    rcases List.mem_cons.1 h with rfl | h
    · exact .inl hn
    · exact .inr (weightsAll_mem h hn)
section
variable {H : Type} {enc : TypeId × Value → H} {W : World} {base : Nat} {held : Bool} {d : DataW H} {p : List MemPlace}
set_option maxRecDepth 100000 in
theorem open_rows {a0 : Option Addr} {len0 cap0 : Nat} {ts : List TypeId} {ds : List (DataW H)} (h : DataW.Trod enc Tryd.prog W base (fun _ => true) held 48 (.slice a0 len0 cap0) d p)
    (hsz : (DataW.weightsEach Tryd.prog ts ds).all (· ≤ reachBytes) = true) (j : Nat) (ht : ts[j]? = some 48) (hj : ds[j]? = some d) : ∃ A L C xs, Rws W a0 len0 A L C xs ∧ len0 ≤ cap0 ∧ cap0 ≤ 9223372036854775807 := by
  obtain ⟨fuel, hf⟩ := h
  rcases open_int_rows Tryd.underlying48 Tryd.underlying41 Tryd.underlying5 (by kernel_rfl) (by kernel_rfl) hf with ⟨hcs, _⟩ | ⟨a, len, cap, A, L, C, Z, hcs, _, hl, hm, hx, hall⟩
  · simp [Value.cells] at hcs
    obtain ⟨rfl, rfl, rfl⟩ := hcs
    exact ⟨fun _ => none, fun _ => 0, fun _ => 0, fun _ => [], fun r hr => absurd hr (Nat.not_lt_zero _), Nat.le_refl _, by omega⟩
  · simp [Value.cells] at hcs
    obtain ⟨rfl, rfl, rfl⟩ := hcs
    have hrow : ∀ r, r < cap0 → IsRow .u8 W (A r) (L r) (C r) (Z r) := by
      intro r hr
      obtain ⟨_, h1, h2, h3, h4, h5, h6⟩ := hall r hr
      cases hA : A r with
      | none =>
        have hc := h5 hA
        have hz : Z r = [] := List.eq_nil_of_length_eq_zero (by omega)
        exact .inl ⟨rfl, by omega, hc, hz⟩
      | some x =>
        refine .inr ⟨x, rfl, h1, h2, h3, fun i hi => (h6 x hA).2 i (by omega), h4⟩
    have hex : ∀ r, ∃ bs : List UInt8, r < cap0 → bs.length = L r ∧ Rd W (A r) bs := by
      intro r
      by_cases hr : r < cap0
      · obtain ⟨bs, h1, h2, _⟩ := (hrow r hr).rd
        exact ⟨bs, fun _ => ⟨h1, h2⟩⟩
      · exact ⟨[], fun h => absurd h hr⟩
    have hd : d = .slice ((List.range len0).map fun r => intRow .u8 (A r) (L r) (Z r)) ((List.range (cap0 - len0)).map fun j => intRow .u8 (A (len0 + j)) (L (len0 + j)) (Z (len0 + j))) := congrArg Prod.fst hx
    refine ⟨A, L, C, fun r => Classical.choose (hex r), fun r hr => ?_, hl, hm⟩
    have hrc : r < cap0 := by omega
    obtain ⟨hcell, h1, h2, h3, h4, h5, h6⟩ := hall r hrc
    obtain ⟨e1, e2⟩ := Classical.choose_spec (hex r) hrc
    refine ⟨?_, e1, e2, h1, ?_, h5⟩
    · obtain ⟨b, off, spot⟩ := a
      have h0 := (hall 0 (by omega)).1
      have hspot : spot = none := by simpa [Addr.add] using World.cell?_spot h0
      subst hspot
      refine ⟨b, off, rfl, ?_, ?_⟩
      · have := World.block_lt_of_cell? W _ h0
        simpa [Addr.add] using this
      · rw [← Go.WideShapes.add_plain]; exact hcell
    · cases hA : A r with
      | none => have := h5 hA; omega
      | some x =>
        have hmem : (C r) ∈ DataW.weightsEach Tryd.prog ts ds := by
          refine DataW.weights_mem_each ht hj (C r) ?_
          rw [hd]
          simp only [DataW.weights, Tryd.underlying48]
          refine List.mem_cons_of_mem _ (List.mem_append_left _ (weightsAll_mem (d := intRow .u8 (A r) (L r) (Z r)) (List.mem_map.2 ⟨r, List.mem_range.2 hr, rfl⟩) ?_))
          simp only [intRow, hA, DataW.weights, Tryd.underlying41, bytes_u8]
          refine List.mem_cons.2 (.inl ?_)
          simp [lits]
          omega
        have h9 : C r ≤ reachBytes := of_decide_eq_true (List.all_eq_true.1 hsz _ hmem)
        unfold reachBytes at h9
        omega
end
end Go.Proofs.YtikmhnlhaolbfaaDoor
namespace Go.Proofs.YtikmhnlhaolbfaaDoor
open Go.RowKit
set_option linter.unusedVariables false

theorem i57 : (Tryd.prog.info? 57).map (·.size) = some 8 := by kernel_rfl
theorem i59 : (Tryd.prog.info? 59).map (·.size) = some 64 := by kernel_rfl
theorem bvs_size (l : List UInt8) : (bvs l).toArray.size = l.length := by simp [bvs]
theorem bvs_all (l : List UInt8) : (bvs l).toArray.all (·.oneCell') = true := all_oneCell_toArray (bvs_one l)
theorem hi59 (b : List UInt8) (h : b.length = 64) : Hid ((Tryd.prog.info? 59).map (·.size) = some (bvs b).toArray.size) := by rw [bvs_size, h]; exact hid i59
theorem hi57 (l : List Nat) (h : l.length = 8) : Hid ((Tryd.prog.info? 57).map (·.size) = some (dv l).toArray.size) := by rw [dv_size, h]; exact hid i57
theorem Us.rowOther {w : World} {g g' : Nat} {t : TypeId} {l : List Nat} (h : Us w g t l) (cs : Array Value) (hne : g ≠ g') : Us (w.setRow g' cs) g t l := (setRow_other w g' g cs hne).trans h
theorem Kt.drew {w : World} (h : Kt w) : Kt w.drew := h
theorem Kt.setOther {w : World} (h : Kt w) {g i : Nat} (v : Value) (hg : 3 ≠ g) : Kt (w.setCell ⟨g, i, none⟩ v) := fun j hj => (World.cell?_setCell_other _ _ _ _ (by intro e; injection e with e1; exact hg e1.symm)).trans (h j hj)
/-- what stands while a block is taken in: n's box, the answer's, the block's numbers, K -/
structure Tkc (w : World) (g3 : Nat) (l : List Nat) (b : List UInt8) (w' : World) : Prop where
  below : Below w.heap.size w w'
  n : Us w' w.heap.size 57 l
  z : Us w' (w.heap.size + 1 + 1) 57 (List.replicate 8 0)
  x : Us w' g3 132 (wof b)
  k : Kt w'
  lt : w.heap.size + 1 + 1 < g3
  k3 : 3 < w.heap.size
theorem Tkc.on {w w' w2 : World} {g3 : Nat} {l : List Nat} {b : List UInt8} (h : Tkc w g3 l b w') (hb : Below w'.heap.size w' w2) : Tkc w g3 l b w2 :=
  ⟨h.below.trans (hb.mono (Nat.le_of_lt h.n.lt)), h.n.on hb, h.z.on hb, h.x.on hb, h.k.on hb, h.lt, h.k3⟩
theorem Tkc.alloc {w w' : World} {g3 : Nat} {l : List Nat} {b : List UInt8} (h : Tkc w g3 l b w') (o : Obj) : Tkc w g3 l b (w'.alloc o) := h.on ((Below.refl _ _).alloc (Nat.le_refl _) o)
theorem Tkc.drew {w w' : World} {g3 : Nat} {l : List Nat} {b : List UInt8} (h : Tkc w g3 l b w') : Tkc w g3 l b w'.drew := ⟨h.below.drew, h.n, h.z, h.x, h.k, h.lt, h.k3⟩
theorem Tkc.drewN {w w' : World} {g3 : Nat} {l : List Nat} {b : List UInt8} (h : Tkc w g3 l b w') (n : Nat) : Tkc w g3 l b (w'.drewN n) := ⟨h.below.trans ⟨rfl, rfl, rfl, Nat.le_refl _, fun _ _ => rfl⟩, h.n, h.z, h.x, h.k, h.lt, h.k3⟩
theorem Tkc.set {w w' : World} {g3 : Nat} {l : List Nat} {b : List UInt8} (h : Tkc w g3 l b w') (k v : Nat) : Tkc w g3 (l.set k v) b (w'.setCell ⟨w.heap.size, k, none⟩ (.int .u32 (v : Int))) :=
  ⟨h.below.setCell (Nat.le_refl _) _, h.n.set k v, h.z.other _ (by omega), h.x.other _ (by have := h.lt; omega), h.k.setOther _ (by have := h.k3; omega), h.lt, h.k3⟩
theorem take_init (w : World) (l : List Nat) (b : List UInt8) : Hid (Us (((w.alloc (.cells (dv l).toArray 57)).alloc (.cells (bvs b).toArray 59)).alloc (.cells #[.int .u32 0, .int .u32 0, .int .u32 0, .int .u32 0, .int .u32 0, .int .u32 0, .int .u32 0, .int .u32 0] 57)) w.heap.size 57 l) ∧
    Hid (Bt (((w.alloc (.cells (dv l).toArray 57)).alloc (.cells (bvs b).toArray 59)).alloc (.cells #[.int .u32 0, .int .u32 0, .int .u32 0, .int .u32 0, .int .u32 0, .int .u32 0, .int .u32 0, .int .u32 0] 57)) (w.heap.size + 1) 59 b) ∧
    Hid (Us (((w.alloc (.cells (dv l).toArray 57)).alloc (.cells (bvs b).toArray 59)).alloc (.cells #[.int .u32 0, .int .u32 0, .int .u32 0, .int .u32 0, .int .u32 0, .int .u32 0, .int .u32 0, .int .u32 0] 57)) (w.heap.size + 1 + 1) 57 (List.replicate 8 0)) ∧
    Hid (Below w.heap.size w (((w.alloc (.cells (dv l).toArray 57)).alloc (.cells (bvs b).toArray 59)).alloc (.cells #[.int .u32 0, .int .u32 0, .int .u32 0, .int .u32 0, .int .u32 0, .int .u32 0, .int .u32 0, .int .u32 0] 57))) := by
  have s1 : ∀ (w : World) (o : Obj), (w.alloc o).heap.size = w.heap.size + 1 := fun w o => Array.size_push _
  refine ⟨hid (Us.alloc (Us.alloc (heap_alloc_new _ _) _) _), hid (Bt.alloc ?_ _), hid ?_, hid ((((Below.refl _ _).alloc (Nat.le_refl _) _).alloc (by rw [s1]; omega) _).alloc (by rw [s1, s1]; omega) _)⟩
  · rw [← s1 w (.cells (dv l).toArray 57)]; exact heap_alloc_new _ _
  · rw [← s1 w (.cells (dv l).toArray 57), ← s1 _ (.cells (bvs b).toArray 59)]; exact heap_alloc_new _ _
/-- the block's numbers in a box of their own -/
theorem take_box {w w1 : World} {l : List Nat} {b : List UInt8} (h1 : Us w1 w.heap.size 57 l) (h2 : Us w1 (w.heap.size + 1 + 1) 57 (List.replicate 8 0)) (h3 : Below w.heap.size w w1) (hK : Kt w) :
    Hid (Tkc w w1.heap.size l b ((w1.alloc (.cells #[.int .u32 0, .int .u32 0, .int .u32 0, .int .u32 0, .int .u32 0, .int .u32 0, .int .u32 0, .int .u32 0, .int .u32 0, .int .u32 0, .int .u32 0, .int .u32 0, .int .u32 0, .int .u32 0, .int .u32 0, .int .u32 0, .int .u32 0, .int .u32 0, .int .u32 0, .int .u32 0, .int .u32 0, .int .u32 0, .int .u32 0, .int .u32 0, .int .u32 0, .int .u32 0, .int .u32 0, .int .u32 0, .int .u32 0, .int .u32 0, .int .u32 0, .int .u32 0, .int .u32 0, .int .u32 0, .int .u32 0, .int .u32 0, .int .u32 0, .int .u32 0, .int .u32 0, .int .u32 0, .int .u32 0, .int .u32 0, .int .u32 0, .int .u32 0, .int .u32 0, .int .u32 0, .int .u32 0, .int .u32 0, .int .u32 0, .int .u32 0, .int .u32 0, .int .u32 0, .int .u32 0, .int .u32 0, .int .u32 0, .int .u32 0, .int .u32 0, .int .u32 0, .int .u32 0, .int .u32 0, .int .u32 0, .int .u32 0, .int .u32 0, .int .u32 0] 132)).setRow w1.heap.size (dv (wof b)).toArray)) := by
  rw [World.setRow_alloc_new]
  have hb : Below w1.heap.size w1 (w1.alloc (.cells (dv (wof b)).toArray 132)) := (Below.refl _ _).alloc (Nat.le_refl _) _
  refine hid ⟨h3.trans (hb.mono (Nat.le_of_lt h1.lt)), h1.on hb, h2.on hb, heap_alloc_new _ _, (hK.on h3).on hb, h2.lt, hK.lt⟩
theorem Tkc.cells {w w' : World} {g3 : Nat} {l : List Nat} {b : List UInt8} (h : Tkc w g3 l b w') (hl : l.length = 8) : ∀ j, j < 8 → w'.cell? ⟨w.heap.size, j, none⟩ = some (.int .u32 (at' l j : Nat)) := fun j hj => h.n.cell j (by omega)
theorem u_eq (a b c m : Nat) (ha : a < 4294967296) (hb : b < 4294967296) (hc : c < 4294967296) :
    ((m : Int) + bits BinOp.or IntKind.u32 (bits BinOp.or IntKind.u32 (bits BinOp.and IntKind.u32 (a : Int) (b : Int)) (bits BinOp.and IntKind.u32 (a : Int) (c : Int))) (bits BinOp.and IntKind.u32 (b : Int) (c : Int))) % 4294967296 = (((m + maj a b c) % 4294967296 : Nat) : Int) := by
  rw [u32_and_nat a b ha hb, u32_and_nat a c ha hc, u32_and_nat b c hb hc, u32_or_nat _ _ (and_lt _ ha) (and_lt _ ha), u32_or_nat _ _ (or_lt (and_lt _ ha) (and_lt _ ha)) (and_lt _ hb)]
  unfold maj
  omega
theorem idx57_0 (a b c d e f g h : Nat) (w : World) : (Instr.index 57 (.agg #[.int .u32 (a : Int), .int .u32 (b : Int), .int .u32 (c : Int), .int .u32 (d : Int), .int .u32 (e : Int), .int .u32 (f : Int), .int .u32 (g : Int), .int .u32 (h : Int)]) (.int .i64 0)).run Tryd.prog w = .ok (.int .u32 (a : Int)) w := by kernel_rfl
theorem idx57_1 (a b c d e f g h : Nat) (w : World) : (Instr.index 57 (.agg #[.int .u32 (a : Int), .int .u32 (b : Int), .int .u32 (c : Int), .int .u32 (d : Int), .int .u32 (e : Int), .int .u32 (f : Int), .int .u32 (g : Int), .int .u32 (h : Int)]) (.int .i64 1)).run Tryd.prog w = .ok (.int .u32 (b : Int)) w := by kernel_rfl
theorem idx57_2 (a b c d e f g h : Nat) (w : World) : (Instr.index 57 (.agg #[.int .u32 (a : Int), .int .u32 (b : Int), .int .u32 (c : Int), .int .u32 (d : Int), .int .u32 (e : Int), .int .u32 (f : Int), .int .u32 (g : Int), .int .u32 (h : Int)]) (.int .i64 2)).run Tryd.prog w = .ok (.int .u32 (c : Int)) w := by kernel_rfl
theorem idx57_3 (a b c d e f g h : Nat) (w : World) : (Instr.index 57 (.agg #[.int .u32 (a : Int), .int .u32 (b : Int), .int .u32 (c : Int), .int .u32 (d : Int), .int .u32 (e : Int), .int .u32 (f : Int), .int .u32 (g : Int), .int .u32 (h : Int)]) (.int .i64 3)).run Tryd.prog w = .ok (.int .u32 (d : Int)) w := by kernel_rfl
theorem idx57_4 (a b c d e f g h : Nat) (w : World) : (Instr.index 57 (.agg #[.int .u32 (a : Int), .int .u32 (b : Int), .int .u32 (c : Int), .int .u32 (d : Int), .int .u32 (e : Int), .int .u32 (f : Int), .int .u32 (g : Int), .int .u32 (h : Int)]) (.int .i64 4)).run Tryd.prog w = .ok (.int .u32 (e : Int)) w := by kernel_rfl
theorem idx57_5 (a b c d e f g h : Nat) (w : World) : (Instr.index 57 (.agg #[.int .u32 (a : Int), .int .u32 (b : Int), .int .u32 (c : Int), .int .u32 (d : Int), .int .u32 (e : Int), .int .u32 (f : Int), .int .u32 (g : Int), .int .u32 (h : Int)]) (.int .i64 5)).run Tryd.prog w = .ok (.int .u32 (f : Int)) w := by kernel_rfl
theorem idx57_6 (a b c d e f g h : Nat) (w : World) : (Instr.index 57 (.agg #[.int .u32 (a : Int), .int .u32 (b : Int), .int .u32 (c : Int), .int .u32 (d : Int), .int .u32 (e : Int), .int .u32 (f : Int), .int .u32 (g : Int), .int .u32 (h : Int)]) (.int .i64 6)).run Tryd.prog w = .ok (.int .u32 (g : Int)) w := by kernel_rfl
theorem idx57_7 (a b c d e f g h : Nat) (w : World) : (Instr.index 57 (.agg #[.int .u32 (a : Int), .int .u32 (b : Int), .int .u32 (c : Int), .int .u32 (d : Int), .int .u32 (e : Int), .int .u32 (f : Int), .int .u32 (g : Int), .int .u32 (h : Int)]) (.int .i64 7)).run Tryd.prog w = .ok (.int .u32 (h : Int)) w := by kernel_rfl
theorem idx57 (a b c d e f g h k : Nat) (hk : k < 8) (w : World) : (Instr.index 57 (.agg #[.int .u32 (a : Int), .int .u32 (b : Int), .int .u32 (c : Int), .int .u32 (d : Int), .int .u32 (e : Int), .int .u32 (f : Int), .int .u32 (g : Int), .int .u32 (h : Int)]) (.int .i64 (k : Int))).run Tryd.prog w = .ok (.int .u32 (at' [a, b, c, d, e, f, g, h] k : Nat)) w := by
  match k, hk with
  | 0, _ => exact idx57_0 a b c d e f g h w
  | 1, _ => exact idx57_1 a b c d e f g h w
  | 2, _ => exact idx57_2 a b c d e f g h w
  | 3, _ => exact idx57_3 a b c d e f g h w
  | 4, _ => exact idx57_4 a b c d e f g h w
  | 5, _ => exact idx57_5 a b c d e f g h w
  | 6, _ => exact idx57_6 a b c d e f g h w
  | 7, _ => exact idx57_7 a b c d e f g h w
theorem at_addl (l m : List Nat) (hl : l.length = 8) (hm : m.length = 8) (j : Nat) (hj : j < 8) : at' (addl l m) j = (at' l j + at' m j) % 4294967296 := by
  rw [at_lt (by rw [addl_length _ _ hl hm]; exact hj), at_lt (by omega), at_lt (by omega)]
  simp [addl]
theorem tk_alloc {g3 i : Nat} {kv wv : Nat} (W : World) (o : Obj) (h : W.cell? ⟨3, i, none⟩ = some (.int .u32 (kv : Int)) ∧ W.cell? ⟨g3, i, none⟩ = some (.int .u32 (wv : Int)) ∧ 3 < W.heap.size ∧ g3 < W.heap.size) :
    (W.alloc o).cell? ⟨3, i, none⟩ = some (.int .u32 (kv : Int)) ∧ (W.alloc o).cell? ⟨g3, i, none⟩ = some (.int .u32 (wv : Int)) ∧ 3 < (W.alloc o).heap.size ∧ g3 < (W.alloc o).heap.size :=
  ⟨by rw [World.cell?_alloc_lt _ _ _ h.2.2.1]; exact h.1, by rw [World.cell?_alloc_lt _ _ _ h.2.2.2]; exact h.2.1, by have := h.2.2.1; simp; omega, by have := h.2.2.2; simp; omega⟩
theorem wi_eq (k : Nat) (h : k < 64) : IntKind.i64.wrap (k : Int) = (k : Int) := by rw [IntKind.wrap_i64]; omega
set_option maxRecDepth 100000 in
set_option maxHeartbeats 4000000 in
theorem take_any (l : List Nat) (b : List UInt8) (w : World) (hl : l.length = 8) (hs : Sm l) (hb : b.length = 64) (hK : Kt w) :
    Calls Tryd.prog 114 #[.agg (dv l).toArray, .agg (bvs b).toArray] w fun e w' => e = .returned (.agg (dv (comp l b)).toArray) ∧ Below w.heap.size w w' := by
  have HB := hid hb
  have HL := hid hl
  have HSm := hid hs
  have HK := hid hK
  clear hb hl hs hK
  go_enter Tryd.func114, Tryd.ntmps114
  go_upto_region 1 with fail
  obtain ⟨H1, H2, H3, H4⟩ := take_init w l b
  generalize ((w.alloc (.cells (dv l).toArray 57)).alloc (.cells (bvs b).toArray 59)).alloc (.cells #[.int .u32 0, .int .u32 0, .int .u32 0, .int .u32 0, .int .u32 0, .int .u32 0, .int .u32 0, .int .u32 0] 57) = w0 at *
  go_wp2_with (refine wpList_load_row rfl 59 (.tmp 3) rfl (w.heap.size + 1) rfl 59 (bvs b).toArray (0, 0) _ H2.out Tryd.underlying59 rfl (hi59 b HB.out).out ?_)
  refine (spread_any b _ HB.out).mono ?_
  rintro e w1 ⟨rfl, hb1⟩
  have HT := take_box (b := b) (H1.out.on hb1) (H3.out.on hb1) (H4.out.trans (hb1.mono (Nat.le_of_lt H1.out.lt))) HK.out
  clear H1 H2 H3 H4 hb1
  go_wp2_with (refine wpList_store_row rfl 132 (.tmp 5) (.tmp 20) rfl w1.heap.size (dv (wof b)).toArray rfl rfl 132 _ (heap_alloc_new _ _) (hi132 b).out (ho132 b).out (dv_all _) ?_)
  simp only [Act.put]
  generalize (w1.alloc (.cells #[.int .u32 0, .int .u32 0, .int .u32 0, .int .u32 0, .int .u32 0, .int .u32 0, .int .u32 0, .int .u32 0, .int .u32 0, .int .u32 0, .int .u32 0, .int .u32 0, .int .u32 0, .int .u32 0, .int .u32 0, .int .u32 0, .int .u32 0, .int .u32 0, .int .u32 0, .int .u32 0, .int .u32 0, .int .u32 0, .int .u32 0, .int .u32 0, .int .u32 0, .int .u32 0, .int .u32 0, .int .u32 0, .int .u32 0, .int .u32 0, .int .u32 0, .int .u32 0, .int .u32 0, .int .u32 0, .int .u32 0, .int .u32 0, .int .u32 0, .int .u32 0, .int .u32 0, .int .u32 0, .int .u32 0, .int .u32 0, .int .u32 0, .int .u32 0, .int .u32 0, .int .u32 0, .int .u32 0, .int .u32 0, .int .u32 0, .int .u32 0, .int .u32 0, .int .u32 0, .int .u32 0, .int .u32 0, .int .u32 0, .int .u32 0, .int .u32 0, .int .u32 0, .int .u32 0, .int .u32 0, .int .u32 0, .int .u32 0, .int .u32 0, .int .u32 0] 132)).setRow w1.heap.size (dv (wof b)).toArray = w3 at *
  generalize w1.heap.size = g3 at *
  have hc := HT.out.cells HL.out
  have x0 : w3.cell? ⟨w.heap.size, 0, none⟩ = some (.int .u32 ((oct l).a : Nat)) := hc 0 (by decide)
  have x1 : w3.cell? ⟨w.heap.size, 1, none⟩ = some (.int .u32 ((oct l).b : Nat)) := hc 1 (by decide)
  have x2 : w3.cell? ⟨w.heap.size, 2, none⟩ = some (.int .u32 ((oct l).c : Nat)) := hc 2 (by decide)
  have x3 : w3.cell? ⟨w.heap.size, 3, none⟩ = some (.int .u32 ((oct l).d : Nat)) := hc 3 (by decide)
  have x4 : w3.cell? ⟨w.heap.size, 4, none⟩ = some (.int .u32 ((oct l).e : Nat)) := hc 4 (by decide)
  have x5 : w3.cell? ⟨w.heap.size, 5, none⟩ = some (.int .u32 ((oct l).f : Nat)) := hc 5 (by decide)
  have x6 : w3.cell? ⟨w.heap.size, 6, none⟩ = some (.int .u32 ((oct l).g : Nat)) := hc 6 (by decide)
  have x7 : w3.cell? ⟨w.heap.size, 7, none⟩ = some (.int .u32 ((oct l).h : Nat)) := hc 7 (by decide)
  clear hc
  go_quiet (fail)
  go_wp2_with fail
  clear x0 x1 x2 x3 x4 x5 x6 x7
  go_loopw [6, 7, 8, 9, 10, 11, 12, 13, 37] (fun s6 s7 s8 s9 s10 s11 s12 s13 i wr => ∃ (k : Nat) (o : Oct), k ≤ 64 ∧ i = .int .i64 k ∧ s6 = .int .u32 (o.a : Nat) ∧ s7 = .int .u32 (o.b : Nat) ∧ s8 = .int .u32 (o.c : Nat) ∧ s9 = .int .u32 (o.d : Nat) ∧ s10 = .int .u32 (o.e : Nat) ∧ s11 = .int .u32 (o.f : Nat) ∧ s12 = .int .u32 (o.g : Nat) ∧ s13 = .int .u32 (o.h : Nat) ∧ Hid o.Sm ∧ Hid (o = rnds (oct l) (wof b) k) ∧ Hid (Tkc w g3 l b wr)) (fun _ _ _ _ _ _ _ _ i _ => 64 - (intOf i).toNat)
  case atStart => exact ⟨0, oct l, by omega, rfl, rfl, rfl, rfl, rfl, rfl, rfl, rfl, rfl, hid (oct_sm HSm.out), hid rfl, hid (HT.out.drewN _)⟩
  case round =>
    clear HT
    obtain ⟨k, o, hk, rfl, rfl, rfl, rfl, rfl, rfl, rfl, rfl, rfl, HO, HR, HT⟩ := hrel
    by_cases hlt : k < 64
    · go_wp2_with fail
      have hkw := HT.out.x.lt
      have hkc := HT.out.x.cell k (by rw [wof_length]; exact hlt)
      have hkk := HT.out.k k hlt
      have hk3 := HT.out.k.lt
      refine tk6_ok (tv := tt o (at' kk k) (at' (wof b) k)) HO.out.e (rot_lt 6 HO.out.e) (rot_lt 11 HO.out.e) (rot_lt 25 HO.out.e) (by omega) (by omega) (wi_eq k hlt) ⟨hkk, hkc, hk3, hkw⟩ (hid tk_alloc) (hid (t_eq o.e o.f o.g o.h (at' kk k) (at' (wof b) k) HO.out.e HO.out.f HO.out.g _)) _ _ _ _ _ _ _ _ _ _ _ _ _ _ _ _ _ _ _ _ _ _ _ _ _ _ _ _ _ _ _ _ _ _ _ _ _ _ _ _ _ _ _ _ _ _ _ _ _ _ _ _ _ _ _ _ _ _ _ _ _ _ _ _ _ _ _ _ _ _ _ _ _ _ _ _ _ _ _ _ _ _ _ _ _ _ _ _ _ _ _ _ _ _ _ _ _ _ _ _ _ _ _ _ _ _ _ _ _ _ _ _ _ _ _ (hid ?_)
      intro d40 d41 d42 d43 d44 d45 d46 d47 d48 d49 d50 d51 d52 d53 d54 d55 d56 d57 d58 d59 d60 d61 d62 d63 d64 d65 d66 wn HN
      have HT2 := hid (HT.out.on HN.out)
      clear HT HN hkw hkc hkk hk3
      go_wp2_with fail
      refine (turn_2 o.a _ HO.out.a).mono ?_
      rintro e' wa ⟨rfl, rfl⟩
      go_wp2_with fail
      refine (turn_13 o.a _ HO.out.a).mono ?_
      rintro e' wa ⟨rfl, rfl⟩
      go_wp2_with fail
      refine (turn_22 o.a _ HO.out.a).mono ?_
      rintro e' wa ⟨rfl, rfl⟩
      go_wp2_with fail
      refine (mix_any _ _ _ _ _ (Tri.new _ _ _ _) (rot_lt 2 HO.out.a) (rot_lt 13 HO.out.a) (rot_lt 22 HO.out.a)).mono ?_
      rintro e' wa ⟨rfl, rfl⟩
      have HT := hid (HT2.out.alloc (.cells #[.int .u32 (rot o.a 2 : Nat), .int .u32 (rot o.a 13 : Nat), .int .u32 (rot o.a 22 : Nat)] 32))
      clear HT2
      generalize wn.alloc (.cells #[.int .u32 (rot o.a 2 : Nat), .int .u32 (rot o.a 13 : Nat), .int .u32 (rot o.a 22 : Nat)] 32) = wm at *
      go_upto_region 8 with fail
      rw [u_eq o.a o.b o.c _ HO.out.a HO.out.b HO.out.c]
      have hu : ((((rot o.a 2 ^^^ rot o.a 13 ^^^ rot o.a 22) + maj o.a o.b o.c) % 4294967296 : Nat) : Int) = (uu o : Int) := rfl
      rw [hu]
      have HRS := hid (p := rnd o (at' kk k) (at' (wof b) k) = rnds (oct l) (wof b) (k + 1)) (by rw [rnds, ← HR.out])
      have HOS := hid (rnd_sm HO.out (at' kk k) (at' (wof b) k))
      have HA1 := hid (show (rnd o (at' kk k) (at' (wof b) k)).a = (tt o (at' kk k) (at' (wof b) k) + uu o) % 4294967296 from rfl)
      have HA2 := hid (show (rnd o (at' kk k) (at' (wof b) k)).e = (o.d + tt o (at' kk k) (at' (wof b) k)) % 4294967296 from rfl)
      have HA3 := hid (show (rnd o (at' kk k) (at' (wof b) k)).b = o.a ∧ (rnd o (at' kk k) (at' (wof b) k)).c = o.b ∧ (rnd o (at' kk k) (at' (wof b) k)).d = o.c ∧ (rnd o (at' kk k) (at' (wof b) k)).f = o.e ∧ (rnd o (at' kk k) (at' (wof b) k)).g = o.f ∧ (rnd o (at' kk k) (at' (wof b) k)).h = o.g from ⟨rfl, rfl, rfl, rfl, rfl, rfl⟩)
      generalize rnd o (at' kk k) (at' (wof b) k) = o2 at *
      generalize tt o (at' kk k) (at' (wof b) k) = tv at *
      generalize uu o = uv at *
      go_wp2
      go_roundw
      case rel =>
        obtain ⟨e1, e2, e3, e4, e5, e6⟩ := HA3.out
        exact ⟨k + 1, o2, by omega, by go_num, by rw [HA1.out]; simp, by rw [e1], by rw [e2], by rw [e3], by rw [HA2.out]; simp, by rw [e4], by rw [e5], by rw [e6], HOS, HRS, HT⟩
      case measure => simp [intOf]; omega
    · obtain rfl : k = 64 := by omega
      have HR2 := hid (p := o.l = (rnds (oct l) (wof b) 64).l) (by rw [← HR.out])
      clear HR
      go_wp2_with fail
      obtain ⟨a1, a2, a3, a4, a5, a6, a7, a8⟩ := o
      have HOL := hid (p := [a1, a2, a3, a4, a5, a6, a7, a8] = (rnds (oct l) (wof b) 64).l) HR2.out
      clear HR2
      dsimp only at *
      go_loopw [109] (fun i wr => ∃ (k : Nat) (m : List Nat), k ≤ 8 ∧ i = .int .i64 k ∧ Hid (Tkc w g3 m b wr) ∧ Hid (m.length = 8) ∧ Hid (∀ j, j < 8 → at' m j = if j < k then (at' l j + at' [a1, a2, a3, a4, a5, a6, a7, a8] j) % 4294967296 else at' l j)) (fun i _ => 8 - (intOf i).toNat)
      case atStart => exact ⟨0, l, by omega, rfl, HT, HL, hid (fun j _ => by rw [if_neg (Nat.not_lt_zero _)])⟩
      case round =>
        clear HT
        obtain ⟨k, m, hk, rfl, HT, HM, HA⟩ := hrel
        by_cases hlt : k < 8
        · have hix := idx57 a1 a2 a3 a4 a5 a6 a7 a8 k hlt
          have hcl := HT.out.n.cell k (by have := HM.out; omega)
          have hfr := HT.out.n.frozen k
          rw [HA.out k hlt, if_neg (Nat.lt_irrefl _)] at hcl
          have HVV := hid (p := (((at' l k : Nat) : Int) + ((at' [a1, a2, a3, a4, a5, a6, a7, a8] k : Nat) : Int)) % 4294967296 = (((at' l k + at' [a1, a2, a3, a4, a5, a6, a7, a8] k) % 4294967296 : Nat) : Int)) (by omega)
          generalize hz : (at' l k + at' [a1, a2, a3, a4, a5, a6, a7, a8] k) % 4294967296 = z at HVV
          have HZ := hid hz
          clear hz
          go_wp2
          go_roundw
          case rel =>
            refine ⟨k + 1, m.set k z, by omega, by go_num, ?_, hid (by rw [List.length_set]; exact HM.out), hid ?_⟩
            · have := HT.out.set k z
              rw [← HVV.out] at this
              exact hid this
            · intro j hj
              rw [at_set _ _ _ _ (by have := HM.out; omega), HA.out j hj]
              by_cases h : j = k
              · subst h; rw [if_pos rfl, if_pos (by omega), HZ.out]
              · rw [if_neg h]
                by_cases h2 : j < k
                · rw [if_pos h2, if_pos (by omega)]
                · rw [if_neg h2, if_neg (by omega)]
          case measure => simp [intOf]; omega
        · obtain rfl : k = 8 := by omega
          have hme : m = comp l b := by
            refine eq_of_at (by rw [HM.out, comp_length _ _ HL.out]) (fun j hj => ?_)
            have hj8 : j < 8 := by have := HM.out; omega
            rw [HA.out j hj8, if_pos hj8, comp, at_addl _ _ HL.out rfl j hj8, HOL.out]
          have HT2 : Hid (Tkc w g3 (comp l b) b wr) := hid (hme ▸ HT.out)
          have HCL := hid (comp_length l b HL.out)
          clear HT HM HA hme
          generalize hr : comp l b = r at *
          have HRR := hid hr
          clear hr
          have HI := hi57 r HCL.out
          have HO8 : Hid ((dv (List.replicate 8 0)).toArray.size = (dv r).toArray.size) := hid (by rw [dv_size, dv_size, HCL.out, List.length_replicate])
          have HZ := hid (HT2.out.z.row (m := r))
          have HBW := hid (p := Below w.heap.size w (wr.setRow (w.heap.size + 1 + 1) (dv r).toArray)) (below_setRow HT2.out.below (Nat.le_succ_of_le (Nat.le_succ _)) _)
          go_upto_region 15 with fail
          have HDA := dv_all r
          have HZL := HT2.out.n
          have HZZ := HT2.out.z
          unfold Us at HZL HZZ
          have HZL := hid HZL
          have HZZ := hid HZZ
          go_wp2_with (first | (refine wpList_load_row rfl 57 (.tmp 2) rfl w.heap.size rfl 57 (dv r).toArray (0, 0) _ HZL.out Tryd.underlying57 rfl HI.out ?_) | (refine wpList_store_row rfl 57 (.tmp 4) (.tmp 120) rfl (w.heap.size + 1 + 1) (dv r).toArray rfl rfl 57 _ HZZ.out HI.out HO8.out HDA ?_))
          exact bodyPost_ret (v := .agg (dv r).toArray) (results_cell_row (p := 4) (ty := 57) Tryd.results114 _ _ (w.heap.size + 1 + 1) 57 (dv r).toArray (0, 0) _ rfl HZ.out Tryd.underlying57 rfl HI.out) rfl ⟨by rw [HRR.out], HBW.out⟩
end Go.Proofs.YtikmhnlhaolbfaaDoor
namespace Go.Proofs.YtikmhnlhaolbfaaDoor
open Go.RowKit
set_option linter.unusedVariables false

/-- a run's cells -/
def rc (l : List Nat) (b : List UInt8) (n : Nat) : List Value := .bool true :: (dv l ++ (bvs b ++ [.int .u64 (n : Int)]))
theorem rc_length {l : List Nat} {b : List UInt8} (n : Nat) (hl : l.length = 8) (hb : b.length = 64) : (rc l b n).length = 74 := by simp [rc, dv, bvs, hl, hb]
/-- block g is a run that holds these -/
def Rn (w : World) (g : Nat) (l : List Nat) (b : List UInt8) (n : Nat) : Prop := w.heap[g]? = some (.cells (rc l b n).toArray 61 (0, 0))
theorem Rn.lt {w : World} {g n : Nat} {l : List Nat} {b : List UInt8} (h : Rn w g l b n) : g < w.heap.size := lt_of_block h
theorem Rn.at {w : World} {g n : Nat} {l : List Nat} {b : List UInt8} (h : Rn w g l b n) (j : Nat) : w.cell? ⟨g, j, none⟩ = (rc l b n)[j]? := by
  rw [cell_of_row w g j _ 61 (0, 0) h]; simp
theorem Rn.frozen {w : World} {g n : Nat} {l : List Nat} {b : List UInt8} (h : Rn w g l b n) (i : Nat) : w.frozen? ⟨g, i, none⟩ = false := by
  unfold Rn at h; simp [World.frozen?, h]
theorem Rn.made {w : World} {g n : Nat} {l : List Nat} {b : List UInt8} (h : Rn w g l b n) : w.cell? ⟨g, 0, none⟩ = some (.bool true) := h.at 0
theorem Rn.so {w : World} {g n : Nat} {l : List Nat} {b : List UInt8} (h : Rn w g l b n) : w.rangeAt g 1 (dv l) := by
  intro j v hv
  have hj : j < (dv l).length := by
    rcases Nat.lt_or_ge j (dv l).length with h | h
    · exact h
    · rw [List.getElem?_eq_none h] at hv; cases hv
  rw [h.at, Nat.add_comm, rc, List.getElem?_cons_succ, List.getElem?_append_left hj]; exact hv
theorem Rn.last {w : World} {g n : Nat} {l : List Nat} {b : List UInt8} (h : Rn w g l b n) (hl : l.length = 8) : w.rangeAt g 9 (bvs b) := by
  intro j v hv
  have hj : j < (bvs b).length := by
    rcases Nat.lt_or_ge j (bvs b).length with h | h
    · exact h
    · rw [List.getElem?_eq_none h] at hv; cases hv
  have e : (dv l).length = 8 := by rw [dv_length, hl]
  rw [h.at, show 9 + j = (8 + j) + 1 by omega, rc, List.getElem?_cons_succ, List.getElem?_append_right (by omega), e, show 8 + j - 8 = j by omega, List.getElem?_append_left hj]; exact hv
theorem Rn.count {w : World} {g n : Nat} {l : List Nat} {b : List UInt8} (h : Rn w g l b n) (hl : l.length = 8) (hb : b.length = 64) : w.cell? ⟨g, 73, none⟩ = some (.int .u64 (n : Int)) := by
  have e : (dv l).length = 8 := by rw [dv_length, hl]
  have e2 : (bvs b).length = 64 := by rw [bvs_length, hb]
  rw [h.at, show 73 = 72 + 1 by omega, rc, List.getElem?_cons_succ, List.getElem?_append_right (by omega), e, List.getElem?_append_right (by omega), e2]; rfl
theorem Rn.there {w : World} {g n : Nat} {l : List Nat} {b : List UInt8} (h : Rn w g l b n) (hl : l.length = 8) : w.there g 1 8 := by
  intro j hj
  refine ⟨?_, h.frozen _⟩
  have := h.so j ((dv l)[j]'(by rw [dv_length]; omega)) (by simp)
  rw [this]; rfl
theorem Rn.setCount {w : World} {g n : Nat} {l : List Nat} {b : List UInt8} (h : Rn w g l b n) (hl : l.length = 8) (hb : b.length = 64) (m : Nat) : Rn (w.setCell ⟨g, 73, none⟩ (.int .u64 (m : Int))) g l b m := by
  have e : ∀ x : Value, (rc l b n).set 73 x = .bool true :: (dv l ++ (bvs b ++ [x])) := by
    intro x
    have e1 : (dv l).length = 8 := by rw [dv_length, hl]
    have e2 : (bvs b).length = 64 := by rw [bvs_length, hb]
    rw [rc, show 73 = 72 + 1 by omega, List.set_cons_succ, List.set_append_right _ _ (by omega), e1, List.set_append_right _ _ (by omega), e2]; rfl
  unfold Rn at h ⊢
  simp only [World.setCell, Array.getElem?_modify, h, if_true, Option.map_some]
  rw [List.setIfInBounds_toArray, e]
  rfl
theorem set_mid {α : Type} (a c : List α) (x v : α) : (a ++ x :: c).set a.length v = a ++ v :: c := by
  rw [List.set_append_right _ _ (Nat.le_refl _), Nat.sub_self]; rfl
/-- cells of a block's middle, written one by one -/
theorem setCells_mid (g : Nat) (t : TypeId) : ∀ (vs old a c : List Value) (w : World), old.length = vs.length → w.heap[g]? = some (.cells (a ++ (old ++ c)).toArray t (0, 0)) →
    (w.setCells g a.length vs).heap[g]? = some (.cells (a ++ (vs ++ c)).toArray t (0, 0))
  | [], old, a, c, w, hl, h => by
    obtain rfl : old = [] := List.eq_nil_of_length_eq_zero hl
    exact h
  | v :: vs, [], a, c, w, hl, h => by cases hl
  | v :: vs, x :: old, a, c, w, hl, h => by
    have h1 : (w.setCell ⟨g, a.length, none⟩ v).heap[g]? = some (.cells ((a ++ [v]) ++ (old ++ c)).toArray t (0, 0)) := by
      simp only [World.setCell, Array.getElem?_modify, h, if_true, Option.map_some]
      simp
    have := setCells_mid g t vs old (a ++ [v]) c _ (by simpa using hl) h1
    rw [World.setCells]
    simpa using this
theorem setCells_other (g k : Nat) (hk : k ≠ g) : ∀ (vs : List Value) (o : Nat) (w : World), (w.setCells g o vs).heap[k]? = w.heap[k]?
  | [], _, _ => rfl
  | v :: vs, o, w => by rw [World.setCells, setCells_other g k hk vs, Below.heap_setCell w ⟨g, o, none⟩ v k hk]
theorem setCells_size (g : Nat) : ∀ (vs : List Value) (o : Nat) (w : World), (w.setCells g o vs).heap.size = w.heap.size
  | [], _, _ => rfl
  | v :: vs, o, w => by rw [World.setCells, setCells_size g vs]; simp
theorem setCells_rest (g : Nat) : ∀ (vs : List Value) (o : Nat) (w : World), (w.setCells g o vs).os = w.os ∧ (w.setCells g o vs).tape = w.tape ∧ (w.setCells g o vs).output = w.output
  | [], _, _ => ⟨rfl, rfl, rfl⟩
  | v :: vs, o, w => by rw [World.setCells]; exact setCells_rest g vs (o + 1) (w.setCell ⟨g, o, none⟩ v)
theorem Rn.setSo {w : World} {g n : Nat} {l m : List Nat} {b : List UInt8} (h : Rn w g l b n) (hl : l.length = m.length) : Rn (w.setCells g 1 (dv m)) g m b n :=
  setCells_mid g 61 (dv m) (dv l) [.bool true] _ w (by rw [dv_length, dv_length, hl]) h
theorem splice_mid {α : Type} (a b c p : List α) (o : Nat) (hp : o + p.length ≤ b.length) : splice (a ++ (b ++ c)) (a.length + o) p = a ++ (splice b o p ++ c) := by
  unfold splice
  rw [List.take_append, List.drop_append, List.take_of_length_le (show a.length ≤ a.length + o by omega), show a.length + o - a.length = o by omega, List.drop_eq_nil_of_le (show a.length ≤ a.length + o + p.length by omega),
    show a.length + o + p.length - a.length = o + p.length by omega, List.take_append_of_le_length (by omega), List.drop_append_of_le_length (by omega)]
  simp
theorem bvs_splice (b p : List UInt8) (o : Nat) : bvs (splice b o p) = splice (bvs b) o (bvs p) := by
  unfold splice; rw [bvs_append, bvs_append, bvs_take, bvs_drop, bvs_length]
theorem Rn.copy {w : World} {g n : Nat} {l : List Nat} {b : List UInt8} (h : Rn w g l b n) (hl : l.length = 8) (o : Nat) (p : List UInt8) (hp : o + p.length ≤ b.length) : Rn (w.setRow g (splice (rc l b n) (9 + o) (bvs p)).toArray) g l (splice b o p) n := by
  have e : splice (rc l b n) (9 + o) (bvs p) = rc l (splice b o p) n := by
    have := splice_mid (.bool true :: dv l) (bvs b) [.int .u64 (n : Int)] (bvs p) o (by rw [bvs_length, bvs_length]; exact hp)
    rw [List.length_cons, dv_length, hl] at this
    rw [rc, rc, bvs_splice]
    exact this
  rw [e]
  exact setRow_heap w g _ _ 61 (0, 0) h

/-- block g is a run of these bytes -/
def RunIs (w : World) (g : Nat) (bs : List UInt8) : Prop := ∃ b : List UInt8, b.length = 64 ∧ b.take (bs.length % 64) = bs.drop (64 * (bs.length / 64)) ∧ Rn w g (eat hh bs (bs.length / 64)) b bs.length
theorem RunIs.lt {w : World} {g : Nat} {bs : List UInt8} (h : RunIs w g bs) : g < w.heap.size := by obtain ⟨b, _, _, h⟩ := h; exact h.lt
theorem RunIs.heap {w w' : World} {g : Nat} {bs : List UInt8} (h : RunIs w g bs) (e : w'.heap[g]? = w.heap[g]?) : RunIs w' g bs := by
  obtain ⟨b, h1, h2, h3⟩ := h; exact ⟨b, h1, h2, e.trans h3⟩
theorem so_length (bs : List UInt8) (n : Nat) : (eat hh bs n).length = 8 := eat_length _ _ _ hh_length
theorem so_sm (bs : List UInt8) (n : Nat) : Sm (eat hh bs n) := eat_sm _ _ _ hh_sm
/-- some more bytes, the block not whole yet -/
theorem run_part (X p b : List UInt8) (hb : b.length = 64) (h : b.take (X.length % 64) = X.drop (64 * (X.length / 64))) (hp : X.length % 64 + p.length ≤ 64) (hz : (X.length + p.length) % 64 ≠ 0) :
    (splice b (X.length % 64) p).length = 64 ∧ (splice b (X.length % 64) p).take ((X ++ p).length % 64) = (X ++ p).drop (64 * ((X ++ p).length / 64)) ∧ eat hh (X ++ p) ((X ++ p).length / 64) = eat hh X (X.length / 64) := by
  have hq : (X ++ p).length / 64 = X.length / 64 := by rw [List.length_append]; omega
  have hr : (X ++ p).length % 64 = X.length % 64 + p.length := by rw [List.length_append]; omega
  refine ⟨by rw [length_splice _ _ _ (by omega), hb], ?_, ?_⟩
  · rw [hq, hr, List.drop_append_of_le_length (by omega), ← h, splice, ← List.append_assoc, List.take_append_of_le_length (by simp; omega), List.take_of_length_le (by simp; omega)]
  · rw [hq, eat_append _ _ _ _ (by omega)]
/-- some more bytes, by which the block gets whole -/
theorem run_whole (X p b : List UInt8) (hb : b.length = 64) (h : b.take (X.length % 64) = X.drop (64 * (X.length / 64))) (hp : X.length % 64 + p.length = 64) :
    (splice b (X.length % 64) p).length = 64 ∧ (splice b (X.length % 64) p).take ((X ++ p).length % 64) = (X ++ p).drop (64 * ((X ++ p).length / 64)) ∧ eat hh (X ++ p) ((X ++ p).length / 64) = comp (eat hh X (X.length / 64)) (splice b (X.length % 64) p) := by
  have hq : (X ++ p).length / 64 = X.length / 64 + 1 := by rw [List.length_append]; omega
  have hr : (X ++ p).length % 64 = 0 := by rw [List.length_append]; omega
  have hs : splice b (X.length % 64) p = X.drop (64 * (X.length / 64)) ++ p := by
    have e : b.drop (X.length % 64 + p.length) = [] := List.drop_eq_nil_of_le (by omega)
    rw [splice, h, e, List.append_nil]
  refine ⟨by rw [length_splice _ _ _ (by omega), hb], ?_, ?_⟩
  · rw [hr, List.take_zero, List.drop_eq_nil_of_le (by rw [hq, List.length_append]; omega)]
  · rw [hq, eat, eat_append _ _ _ _ (by omega), hs, List.drop_append_of_le_length (by omega), List.take_of_length_le (by simp; omega)]

theorem grown_of {w w' : World} (h : Below w.heap.size w w') (row : Option Nat) : w.grownBy w' row := ⟨h.os, h.tape, h.output, h.size, fun k hk _ => h.block k hk⟩
theorem grown_row {w wr : World} {g : Nat} (h : w.grownBy wr (some g)) (cs : Array Value) : w.grownBy (wr.setRow g cs) (some g) :=
  ⟨h.os, h.tape, h.output, by simpa [World.setRow] using h.size, fun k hk hn => (setRow_other wr g k cs (by intro e; exact hn (by rw [e]))).trans (h.block k hk hn)⟩
theorem grown_cell {w wr : World} {g i : Nat} (h : w.grownBy wr (some g)) (u : Value) : w.grownBy (wr.setCell ⟨g, i, none⟩ u) (some g) :=
  ⟨h.os, h.tape, h.output, by simpa using h.size, fun k hk hn => (Below.heap_setCell wr ⟨g, i, none⟩ u k (by intro e; exact hn (by rw [e]))).trans (h.block k hk hn)⟩
theorem grown_cells {w wr : World} {g i : Nat} (h : w.grownBy wr (some g)) (vs : List Value) : w.grownBy (wr.setCells g i vs) (some g) :=
  ⟨(setCells_rest g vs i wr).1.trans h.os, (setCells_rest g vs i wr).2.1.trans h.tape, (setCells_rest g vs i wr).2.2.trans h.output, by rw [setCells_size]; exact h.size, fun k hk hn => (setCells_other g k (by intro e; exact hn (by rw [e])) vs i wr).trans (h.block k hk hn)⟩
theorem grown_drew {w wr : World} {row : Option Nat} (h : w.grownBy wr row) : w.grownBy wr.drew row := ⟨h.os, h.tape, h.output, h.size, h.block⟩
theorem Kt.grown {w w' : World} {g : Nat} (h : Kt w) (hg : w.grownBy w' (some g)) (h3 : 3 ≠ g) : Kt w' := fun j hj => by
  have := hg.block 3 h.lt (by intro e; injection e with e; exact h3 e)
  rw [World.cell?_of_block (a := ⟨3, j, none⟩) this]; exact h j hj
theorem Rd.grown {w w' : World} {g : Nat} {A : Option Addr} {bs : List UInt8} (h : Rd w A bs) (hg : w.grownBy w' (some g)) (hA : ∀ ad, A = some ad → ad.block ≠ g) : Rd w' A bs := by
  intro hp
  obtain ⟨gp, o, rfl, hlt, hc⟩ := h hp
  have hne : gp ≠ g := hA _ rfl
  refine ⟨gp, o, rfl, Nat.lt_of_lt_of_le hlt hg.size, fun j hj => ?_⟩
  have := hg.block gp hlt (by intro e; injection e with e; exact hne e)
  rw [World.cell?_of_block (a := ⟨gp, o + j, none⟩) this]; exact hc j hj
end Go.Proofs.YtikmhnlhaolbfaaDoor
namespace Go.Proofs.YtikmhnlhaolbfaaDoor
open Go.RowKit
set_option linter.unusedVariables false
set_option linter.unusedSimpArgs false

/-- a copy into a block, as one step of a region -/
theorem step_copy_at {P : Program} {ops : Array Oper} {o : Oper} {a : Act} {w : World} {K : Act → World → Prop} {Q : Exit → Act → World → Prop} {E : Prop} (hgd : o.guard = none) (d s : Operand) (dT sT : TypeId)
    (ho : o.op = .call { callee := .builtin .copy, args := #[d, s], argTypes := #[dT, sT] }) (elem : TypeId) (hu : P.underlying dT = some (.slice elem)) (hsz : (P.info? elem).map (·.size) = some 1)
    (g off dLen dCap : Nat) (ad : Addr) (sLen sCap : Nat) (hd : a.eval d = .slice (some ⟨g, off, none⟩) dLen dCap) (hs : a.eval s = .slice (some ad) sLen sCap)
    (cur : List Value) (t : TypeId) (hg : w.heap[g]? = some (.cells cur.toArray t (0, 0))) (cs : List Value) (hn : cs.length = Nat.min sLen dLen)
    (hsrc : ∀ j v, cs[j]? = some v → w.cell? (ad.add j) = some v) (hfit : off + cs.length ≤ cur.length) (h1 : ∀ v ∈ cs, v.oneCell' = true)
    (h : K (a.put o.dst (goInt cs.length)) (w.setRow g (splice cur off cs).toArray)) :
    if Region.wanted o (yielded ops a.tmps) = true then Oper.wp P o a w K Q else E := by
  have hw : Region.wanted o (yielded ops a.tmps) = true := by simp [Region.wanted, hgd]
  rw [if_pos hw]
  have hrun := run_copy_row (P := P) w dT sT o.type elem g off dLen dCap ad sLen sCap cur.toArray t cs hu hsz hg hn hsrc (by simpa using hfit) h1
  have e : cur.toArray.toList.take off ++ cs ++ cur.toArray.toList.drop (off + cs.length) = splice cur off cs := by simp [splice]
  rw [e] at hrun
  unfold Oper.wp
  simp [execOp, ho, resolve, invoke, builtin, hd, hs, hrun, Result.andThen]
  exact h
/-- a store of many cells into a block's middle, as one step of a region -/
theorem step_store_mid {P : Program} {ops : Array Oper} {o : Oper} {a : Act} {w : World} {K : Act → World → Prop} {Q : Exit → Act → World → Prop} {E : Prop} (hgd : o.guard = none) (ty : TypeId) (x y : Operand) (ho : o.op = .store ty x y)
    (b off : Nat) (cells : Array Value) (hx : a.eval x = .pointer (some ⟨b, off, none⟩)) (hy : a.eval y = .agg cells)
    (ht : w.there b off cells.size) (hi : (P.info? ty).map (·.size) = some cells.size) (h1 : cells.all (·.oneCell') = true)
    (h : K (a.put o.dst undef) (w.setCells b off cells.toList)) : if Region.wanted o (yielded ops a.tmps) = true then Oper.wp P o a w K Q else E := by
  have hw : Region.wanted o (yielded ops a.tmps) = true := by simp [Region.wanted, hgd]
  rw [if_pos hw]
  exact wp_store_mid ty x y ho b off cells hx hy ht hi h1 h
/-- the address of a slice's rest -/
def past (A : Option Addr) (k c : Nat) : Option Addr := if c = k then A else A.map (·.add k)
theorem slice_rest (A : Option Addr) (n c k : Nat) (hk : k ≤ n) (w : World) : (Instr.slice 41 (.slice A n c) (some (.int .i64 (k : Int))) none none).run Tryd.prog w = .ok (.slice (past A k c) (n - k) (c - k)) w := by
  have h5 : Tryd.prog.elem 41 = 5 := by kernel_rfl
  rw [run_slice_l (P := Tryd.prog) w 41 A n c (by rw [h5]; exact Tryd.underlying41) .i64 (k : Int) (by omega) (by omega)]
  have hs : (sizeOf 5).run Tryd.prog w = .ok 1 w := by kernel_rfl
  rw [h5, hs]
  simp only [Result.andThen, sliced, Int.toNat_natCast, past, Nat.mul_one]
theorem Rd.past {w : World} {A : Option Addr} {bs : List UInt8} (h : Rd w A bs) (k c : Nat) (hk : k ≤ bs.length) (hc : bs.length ≤ c) : Rd w (past A k c) (bs.drop k) := by
  intro hp
  have hp2 : 0 < bs.length := by simp at hp; omega
  obtain ⟨gp, o, rfl, hlt, hcl⟩ := h hp2
  have hne : c ≠ k := by simp at hp; omega
  refine ⟨gp, o + k, ?_, hlt, fun j hj => ?_⟩
  · unfold Go.Proofs.YtikmhnlhaolbfaaDoor.past; rw [if_neg hne]
    simp only [Option.map_some]
    congr 1
    unfold Addr.add
    by_cases hk0 : k = 0
    · subst hk0; simp
    · simp [hk0]
  · have := hcl (k + j) (by simp at hj; omega)
    rw [Nat.add_assoc, this]; simp
theorem past_block (A : Option Addr) (k c g : Nat) (h : ∀ ad, A = some ad → ad.block ≠ g) : ∀ ad, past A k c = some ad → ad.block ≠ g := by
  intro ad e
  unfold past at e
  split at e
  · exact h ad e
  · cases A with
    | none => cases e
    | some a0 =>
      simp only [Option.map_some] at e
      injection e with e
      subst e
      have := h a0 rfl
      unfold Addr.add
      split <;> simpa using this
/-- some more bytes, the block not whole -/
theorem run_part_is {wB : World} {g N r : Nat} {X p b0 : List UInt8} (hN : N = X.length) (hr : r = N % 64) (hb : b0.length = 64) (h : b0.take r = X.drop (64 * (N / 64))) (hp : r + p.length ≤ 64) (hz : (N + p.length) % 64 ≠ 0)
    (hR : Rn wB g (eat hh X (N / 64)) (splice b0 r p) (N + p.length)) : RunIs wB g (X ++ p) := by
  subst hN; subst hr
  obtain ⟨h1, h2, h3⟩ := run_part X p b0 hb h hp hz
  refine ⟨_, h1, h2, ?_⟩
  rw [h3, List.length_append]; exact hR
/-- some more bytes, the block whole, taken in -/
theorem run_whole_is {wB : World} {g N r : Nat} {X p b0 : List UInt8} (hN : N = X.length) (hr : r = N % 64) (hb : b0.length = 64) (h : b0.take r = X.drop (64 * (N / 64))) (hp : r + p.length = 64)
    (hR : Rn wB g (comp (eat hh X (N / 64)) (splice b0 r p)) (splice b0 r p) (N + p.length)) : RunIs wB g (X ++ p) := by
  subst hN; subst hr
  obtain ⟨h1, h2, h3⟩ := run_whole X p b0 hb h hp
  refine ⟨_, h1, h2, ?_⟩
  rw [h3, List.length_append]; exact hR
/-- the length of a slice -/
def lenV : Value → Nat
  | .slice _ n _ => n
  | _ => 0
theorem run_pure_pos (X : List UInt8) : X.length % 64 < 64 := Nat.mod_lt _ (by decide)
set_option maxRecDepth 100000 in
theorem slice_last (g r m : Nat) (hr : r < 64) (hm : m = 64 - r) (w : World) : (Instr.sliceAt 59 (.pointer (some ⟨g, 9, none⟩)) (some (.int .u64 (r : Int))) none none).run Tryd.prog w = .ok (.slice (some ⟨g, 9 + r, none⟩) m m) w := by
  have hl : Tryd.prog.arrayLen 59 = 64 := by kernel_rfl
  have h5 : Tryd.prog.elem 59 = 5 := by kernel_rfl
  rw [run_sliceAt_array_l (P := Tryd.prog) w 59 ⟨g, 9, none⟩ (by rw [hl, h5]; exact Tryd.underlying59) .u64 (r : Int) (by omega) (by rw [hl]; omega)]
  have hs : (sizeOf 5).run Tryd.prog w = .ok 1 w := by kernel_rfl
  rw [h5, hs, hl]
  simp only [Result.andThen, slicedAt, Int.toNat_natCast, Nat.mul_one]
  rw [if_neg (by omega), hm]
  congr 3
  unfold Addr.add
  by_cases h0 : r = 0
  · subst h0; simp
  · simp [h0]
set_option maxRecDepth 100000 in
set_option maxHeartbeats 4000000 in
theorem add_any (g : Nat) (A : Option Addr) (c : Nat) (bs part : List UInt8) (w : World) (n : Nat) (hn : part.length = n) (hR : RunIs w g bs) (hr : Rd w A part) (hA : 0 < n → ∀ ad, A = some ad → ad.block ≠ g) (hc : n ≤ c) (hK : Kt w) (h3 : 3 ≠ g) (hlen : bs.length + n ≤ 140737488355328) :
    Calls Tryd.prog 79 #[.pointer (some ⟨g, 0, none⟩), .slice A n c] w fun e w' => e = .returned (.tuple #[]) ∧ RunIs w' g (bs ++ part) ∧ w.grownBy w' (some g) := by
  have HN := hid hn
  have HR := hid hR
  have HRd := hid hr
  have HA := hid hA
  have HC := hid hc
  have HK := hid hK
  have H3 := hid h3
  have HLN := hid hlen
  clear hn hR hr hA hc hK h3 hlen
  go_enter Tryd.func79, Tryd.ntmps79
  go_wp2_with fail
  go_loopw [1] (fun s wr => ∃ (n' c' : Nat) (A' : Option Addr) (don res : List UInt8), s = .slice A' n' c' ∧ Hid (res.length = n') ∧ Hid (part = don ++ res) ∧ Hid (Rd wr A' res) ∧ Hid (0 < n' → ∀ ad, A' = some ad → ad.block ≠ g) ∧ Hid (n' ≤ c') ∧ Hid (RunIs wr g (bs ++ don)) ∧ Hid (w.grownBy wr (some g))) (fun s _ => lenV s)
  case atStart => exact ⟨n, c, A, [], part, rfl, HN, hid rfl, HRd, HA, HC, hid (by rw [List.append_nil]; exact HR.out), hid (World.grownBy.refl _ _)⟩
  case round =>
    clear HRd HA HC HR
    obtain ⟨n', c', A', don, res, rfl, HN', HP, HRd, HA, HC, HR, HG⟩ := hrel
    by_cases h0 : 0 < n'
    · have HN0 := hid h0
      obtain ⟨b0, hb0, ht0, hrn⟩ := HR.out
      obtain ⟨gp, o, rfl, hgp, hcl⟩ := HRd.out (by have := HN'.out; omega)
      have HX := hid (show (bs ++ don).length + res.length ≤ 140737488355328 by have h1 := HN.out; have h2 := HP.out; have h3 := HLN.out; rw [h2] at h1; simp at h1 ⊢; omega)
      generalize hX : bs ++ don = X at *
      have HXX := hid hX
      clear hX
      obtain ⟨N, hN⟩ : ∃ N, N = X.length := ⟨_, rfl⟩
      obtain ⟨r, hr⟩ : ∃ r, r = N % 64 := ⟨_, rfl⟩
      obtain ⟨m, hm⟩ : ∃ m, m = 64 - r := ⟨_, rfl⟩
      obtain ⟨tk, htk⟩ : ∃ tk, tk = Nat.min n' m := ⟨_, rfl⟩
      have hr64 : r < 64 := by rw [hr]; exact Nat.mod_lt _ (by decide)
      have htk2 : tk = min n' m := htk
      have hpl : (res.take tk).length = tk := by have := HN'.out; simp; omega
      rw [← hN] at hrn ht0
      rw [← hr] at ht0
      have HRN := hid hrn
      have HB0 := hid hb0
      have HT0 := hid ht0
      have HL8 := so_length X (N / 64)
      have HS8 := hid (so_sm X (N / 64))
      have HSRC := hid (p := ∀ j v, (bvs (res.take tk))[j]? = some v → wr.drew.cell? ((⟨gp, o, none⟩ : Addr).add j) = some v) (fun j v hv => by
        have hj : j < tk := by
          rcases Nat.lt_or_ge j tk with h | h
          · exact h
          · rw [List.getElem?_eq_none (by rw [bvs_length]; omega)] at hv; cases hv
        rw [Addr.add_mid]
        refine Eq.trans (hcl j (by have := HN'.out; omega)) ?_
        rw [← hv]
        simp [bvs, hj]
        rw [List.getElem?_eq_getElem (by have := HN'.out; omega)]
        rfl)
      have HFIT := hid (p := 9 + r + (bvs (res.take tk)).length ≤ (rc (eat hh X (N / 64)) b0 N).length) (by rw [rc_length N HL8 hb0, bvs_length, hpl]; omega)
      have HPL := hid (p := (bvs (res.take tk)).length = Nat.min n' m) (by rw [bvs_length, hpl, htk])
      have HNX := hid hN
      have hri : (N : Int) % 64 = (r : Int) := by omega
      have hslA := slice_last g r m hr64 hm
      have hs : wr.cell? ⟨g, 73, none⟩ = some (.int .u64 (N : Int)) := hrn.count HL8 hb0
      have HRA := hid (p := Rn (wr.drew.setRow g (splice (rc (eat hh X (N / 64)) b0 N) (9 + r) (bvs (res.take tk))).toArray) g (eat hh X (N / 64)) (splice b0 r (res.take tk)) N) (Rn.copy (w := wr.drew) HRN.out HL8 r (res.take tk) (by rw [hpl, hb0]; omega))
      have HB1 := hid (p := (splice b0 r (res.take tk)).length = 64) (by rw [length_splice _ _ _ (by rw [hpl, hb0]; omega), hb0])
      have HCN := hid (HRA.out.count HL8 HB1.out)
      have HGX := hid (grown_row (grown_drew (World.grownBy.refl wr (some g))) (splice (rc (eat hh X (N / 64)) b0 N) (9 + r) (bvs (res.take tk))).toArray)
      have HGA := hid (grown_row (grown_drew HG.out) (splice (rc (eat hh X (N / 64)) b0 N) (9 + r) (bvs (res.take tk))).toArray)
      have hrt : (N : Int).tmod 64 = (r : Int) := by rw [Int.tmod_eq_emod_of_nonneg (by omega)]; exact hri
      have HRD := hid hr
      have HMD := hid hm
      have HTK := hid htk2
      have HR64 := hid hr64
      have HP2 := hid hpl
      have HPL2 := hid (show (bvs (res.take tk)).length = tk by rw [bvs_length, hpl])
      clear hN hr hm htk htk2 hrn hb0 ht0 hcl hgp hpl hr64
      go_wp2_with fail
      refine wp_region_noPanic ?_
      refine Goes.region (fun (L : Array Bool) (w' : World) => w'.cell? ⟨g, 73, none⟩ = some (.int .u64 (N : Int))) (by as_aux_lemma => kernel_rfl) ?_
      refine Goes.take (i := 0) (o := { dst := some 8, op := _, type := _, pos := _, after := _, guard := _ }) (v := ?_) [] rfl (by as_aux_lemma => kernel_rfl) (by as_aux_lemma => kernel_rfl) (by as_aux_lemma => kernel_rfl) (fun _ _ _ h => h) (by as_aux_lemma => kernel_rfl) (fun L u h => h) (Or.inl ⟨by rfl, ?_⟩) hs ?_
      rotate_left
      · intro w hY; go_simp; try with_reducible rfl
      try simp only [Act.put, List.setIfInBounds_toArray, List.set_cons_zero, List.set_cons_succ]
      refine Goes.take (i := 1) (o := { dst := some 9, op := _, type := _, pos := _, after := _, guard := _ }) (v := ?_) [] rfl (by as_aux_lemma => kernel_rfl) (by as_aux_lemma => kernel_rfl) (by as_aux_lemma => kernel_rfl) (fun _ _ _ h => h) (by as_aux_lemma => kernel_rfl) (fun L u h => h) (Or.inl ⟨by rfl, ?_⟩) hs ?_
      rotate_left
      · intro w hY; go_simp; try with_reducible rfl
      try simp only [Act.put, List.setIfInBounds_toArray, List.set_cons_zero, List.set_cons_succ]
      refine Goes.take (i := 2) (o := { dst := some 10, op := _, type := _, pos := _, after := _, guard := _ }) (v := ?_) [] rfl (by as_aux_lemma => kernel_rfl) (by as_aux_lemma => kernel_rfl) (by as_aux_lemma => kernel_rfl) (fun _ _ _ h => h) (by as_aux_lemma => kernel_rfl) (fun L u h => h) (Or.inl ⟨by rfl, ?_⟩) hs ?_
      rotate_left
      · intro w hY; go_simp; try with_reducible rfl
      try simp only [Act.put, List.setIfInBounds_toArray, List.set_cons_zero, List.set_cons_succ]
      refine Goes.take (i := 3) (o := { dst := some 11, op := _, type := _, pos := _, after := _, guard := _ }) (v := ?_) [] rfl (by as_aux_lemma => kernel_rfl) (by as_aux_lemma => kernel_rfl) (by as_aux_lemma => kernel_rfl) (fun _ _ _ h => h) (by as_aux_lemma => kernel_rfl) (fun L u h => h) (Or.inl ⟨by rfl, ?_⟩) hs ?_
      rotate_left
      · intro w hY; go_simp; try with_reducible rfl
      try simp only [Act.put, List.setIfInBounds_toArray, List.set_cons_zero, List.set_cons_succ]
      refine Goes.take (i := 4) (o := { dst := some 12, op := _, type := _, pos := _, after := _, guard := _ }) (v := ?_) [] rfl (by as_aux_lemma => kernel_rfl) (by as_aux_lemma => kernel_rfl) (by as_aux_lemma => kernel_rfl) (fun _ _ _ h => h) (by as_aux_lemma => kernel_rfl) (fun L u h => h) (Or.inl ⟨by rfl, ?_⟩) hs ?_
      rotate_left
      · intro w hY; go_simp; try with_reducible rfl
      try simp only [Act.put, List.setIfInBounds_toArray, List.set_cons_zero, List.set_cons_succ]
      refine Goes.take (i := 5) (o := { dst := some 13, op := _, type := _, pos := _, after := _, guard := _ }) (v := ?_) [] rfl (by as_aux_lemma => kernel_rfl) (by as_aux_lemma => kernel_rfl) (by as_aux_lemma => kernel_rfl) (fun _ _ _ h => h) (by as_aux_lemma => kernel_rfl) (fun L u h => h) (Or.inl ⟨by rfl, ?_⟩) hs ?_
      rotate_left
      · intro w hY; go_simp; try with_reducible rfl
      try simp only [Act.put, List.setIfInBounds_toArray, List.set_cons_zero, List.set_cons_succ]
      refine Goes.take (i := 6) (o := { dst := some 14, op := _, type := _, pos := _, after := _, guard := _ }) (v := ?_) [] rfl (by as_aux_lemma => kernel_rfl) (by as_aux_lemma => kernel_rfl) (by as_aux_lemma => kernel_rfl) (fun _ _ _ h => h) (by as_aux_lemma => kernel_rfl) (fun L u h => h) (Or.inl ⟨by rfl, ?_⟩) hs ?_
      rotate_left
      · intro w hY; obtain ⟨up, hL⟩ := hY; have hX := hL.2; clear hL; (try dsimp only at hX); go_simp; try with_reducible rfl
      try simp only [Act.put, List.setIfInBounds_toArray, List.set_cons_zero, List.set_cons_succ]
      refine Goes.take (i := 7) (o := { dst := some 15, op := _, type := _, pos := _, after := _, guard := _ }) (v := ?_) [] rfl (by as_aux_lemma => kernel_rfl) (by as_aux_lemma => kernel_rfl) (by as_aux_lemma => kernel_rfl) (fun _ _ _ h => h) (by as_aux_lemma => kernel_rfl) (fun L u h => h) (Or.inl ⟨by rfl, ?_⟩) hs ?_
      rotate_left
      · intro w hY; go_simp; try with_reducible rfl
      try simp only [Act.put, List.setIfInBounds_toArray, List.set_cons_zero, List.set_cons_succ]
      refine Goes.take (i := 8) (o := { dst := some 16, op := _, type := _, pos := _, after := _, guard := _ }) (v := ?_) [] rfl (by as_aux_lemma => kernel_rfl) (by as_aux_lemma => kernel_rfl) (by as_aux_lemma => kernel_rfl) (fun _ _ _ h => h) (by as_aux_lemma => kernel_rfl) (fun L u h => h) (Or.inl ⟨by rfl, ?_⟩) hs ?_
      rotate_left
      · intro w hY; go_simp; try with_reducible rfl
      try simp only [Act.put, List.setIfInBounds_toArray, List.set_cons_zero, List.set_cons_succ]
      refine Goes.take (i := 9) (o := { dst := some 17, op := _, type := _, pos := _, after := _, guard := _ }) (v := ?_) [] rfl (by as_aux_lemma => kernel_rfl) (by as_aux_lemma => kernel_rfl) (by as_aux_lemma => kernel_rfl) (fun _ _ _ h => h) (by as_aux_lemma => kernel_rfl) (fun L u h => h) (Or.inl ⟨by rfl, ?_⟩) hs ?_
      rotate_left
      · intro w hY; go_simp; try with_reducible rfl
      try simp only [Act.put, List.setIfInBounds_toArray, List.set_cons_zero, List.set_cons_succ]
      refine Goes.one (i := 10) (o := { dst := some 18, op := _, type := _, pos := _, after := _, guard := _ }) (by as_aux_lemma => kernel_rfl) rfl (fun K hK => ?_)
      refine step_copy_at rfl (.tmp 16) (.tmp 17) 41 41 rfl 5 Tryd.underlying41 (by kernel_rfl) g (9 + r) m m ⟨gp, o, none⟩ n' c' rfl rfl (rc (eat hh X (N / 64)) b0 N) 61 HRN.out (bvs (res.take tk)) HPL.out HSRC.out HFIT.out (bvs_one _) ?_
      refine hK.out _ _ HCN.out ?_
      clear hK K
      clear hs
      have hs := HCN.out
      try simp only [Act.put, List.setIfInBounds_toArray, List.set_cons_zero, List.set_cons_succ]
      refine Goes.take (i := 11) (o := { dst := some 4, op := _, type := _, pos := _, after := _, guard := _ }) (v := ?_) [] rfl (by as_aux_lemma => kernel_rfl) (by as_aux_lemma => kernel_rfl) (by as_aux_lemma => kernel_rfl) (fun _ _ _ h => h) (by as_aux_lemma => kernel_rfl) (fun L u h => h) (Or.inl ⟨by rfl, ?_⟩) hs ?_
      rotate_left
      · intro w hY; go_simp; try with_reducible rfl
      try simp only [Act.put, List.setIfInBounds_toArray, List.set_cons_zero, List.set_cons_succ]
      refine Goes.done (by as_aux_lemma => kernel_rfl) ?_ _
      refine NoPanic.normal ?_
      simp only [HPL2.out]
      generalize wr.drew.setRow g (splice (rc (eat hh X (N / 64)) b0 N) (9 + r) (bvs (res.take tk))).toArray = wA at *
      have HSL := hid (slice_rest (some ⟨gp, o, none⟩) n' c' tk (by have := HTK.out; omega))
      have hsl := HSL.out
      obtain ⟨A2, hA2⟩ : ∃ A2, A2 = past (some ⟨gp, o, none⟩) tk c' := ⟨_, rfl⟩
      rw [← hA2] at hsl
      have HA2 := hid hA2
      clear hA2
      have hfr := HRA.out.frozen 73
      have hc73 := HCN.out
      have hpl := hid (show (N + tk : Nat) < 18446744073709551616 by have h1 := HX.out; have h2 := HNX.out; have h3 := HN'.out; have h4 := HTK.out; omega)
      have hw1 : IntKind.u64.wrap ((N : Int) + (tk : Int)) = ((N + tk : Nat) : Int) := by have := hpl.out; rw [IntKind.wrap_u64]; omega
      have hw2 : IntKind.u64.wrap (tk : Int) = (tk : Int) := by have := hpl.out; rw [IntKind.wrap_u64]; omega
      have HGW := hid (p := wr.grownBy wA (some g)) HGX.out
      have hcast : ((N : Int) + (tk : Int)) = ((N + tk : Nat) : Int) := by simp
      have HRB := hid (HRA.out.setCount HL8 HB1.out (N + tk))
      have HGB := hid (grown_cell (i := 73) HGW.out (.int .u64 ((N + tk : Nat) : Int)))
      rw [← hcast] at HRB HGB
      have HCA := hid hcast
      have HFIN := hid (p := ∀ wE : World, wr.grownBy wE (some g) → RunIs wE g (X ++ res.take tk) → ((∃ (n'_1 c'_1 : Nat) (A' : Option Addr) (don' res' : List UInt8), Value.slice A2 (n' - tk) (c' - tk) = Value.slice A' n'_1 c'_1 ∧ Hid (res'.length = n'_1) ∧ Hid (part = don' ++ res') ∧ Hid (Rd wE A' res') ∧ Hid (0 < n'_1 → ∀ ad, A' = some ad → ad.block ≠ g) ∧ Hid (n'_1 ≤ c'_1) ∧ Hid (RunIs wE g (bs ++ don')) ∧ Hid (w.grownBy wE (some g))) ∧ n' - tk < n')) (fun wE h1 h2 => by
        have hn0 : 0 < n' := HN0.out
        have ht := HTK.out
        have hm := HMD.out
        have h64 := HR64.out
        have hn := HN'.out
        have hcc := HC.out
        refine ⟨⟨n' - tk, c' - tk, A2, don ++ res.take tk, res.drop tk, rfl, hid (by rw [List.length_drop, hn]), hid (by rw [List.append_assoc, List.take_append_drop]; exact HP.out), hid ?_, hid ?_, hid (by omega), hid ?_, hid (HG.out.trans h1)⟩, by omega⟩
        · rw [HA2.out]; exact (HRd.out.grown h1 (HA.out hn0)).past tk c' (by omega) (by omega)
        · intro _; rw [HA2.out]; exact past_block _ _ _ _ (HA.out hn0)
        · rw [← List.append_assoc, HXX.out]; exact h2)
      have hp64 : r + (res.take tk).length ≤ 64 := by have := HP2.out; have := HTK.out; have := HMD.out; have := HR64.out; omega
      have HP64 := hid hp64
      clear hp64 hcast hsl
      have hsl := HSL.out
      rw [← HA2.out] at hsl
      by_cases hz : (N + tk) % 64 = 0
      · have hzi : ((N : Int) + (tk : Int)) % 64 = 0 := by omega
        have HZ := hid hz
        clear hz
        have HW2 := hid (p := r + (res.take tk).length = 64) (by have h1 := HP2.out; have h2 := HTK.out; have h3 := HMD.out; have h4 := HR64.out; have h5 := HRD.out; have h6 := HZ.out; have h7 := HP64.out; omega)
        go_upto_region 5 with fail
        generalize wA.setCell ⟨g, 73, none⟩ (.int .u64 ((N : Int) + (tk : Int))) = wB at *
        have HKB := hid ((HK.out.grown HG.out H3.out).grown HGB.out H3.out)
        have HIS := hid (p := ∀ wE : World, Rn wE g (comp (eat hh X (N / 64)) (splice b0 r (res.take tk))) (splice b0 r (res.take tk)) (N + tk) → RunIs wE g (X ++ res.take tk)) (fun wE h => run_whole_is HNX.out HRD.out HB0.out HT0.out HW2.out (by rw [HP2.out]; exact h))
        generalize eat hh X (N / 64) = L1 at *
        generalize splice b0 r (res.take tk) = b1 at *
        have hR : wB.rangeAt g 1 (dv L1) ∧ wB.rangeAt g 9 (bvs b1) := ⟨HRB.out.so, HRB.out.last HL8⟩
        have HI57 := hi57 L1 HL8
        have HI59 := hi59 b1 HB1.out
        rw [dv_size, ← dv_length] at HI57
        rw [bvs_size, ← bvs_length] at HI59
        have HL88 := hid HL8
        refine wp_region_noPanic ?_
        refine Goes.region (fun (L : Array Bool) (wX : World) => (L.getD 12 true = false → wX.rangeAt g 1 (dv L1) ∧ wX.rangeAt g 9 (bvs b1))) (by as_aux_lemma => kernel_rfl) ?_
        refine Goes.take (i := 0) (o := { dst := some 37, op := _, type := _, pos := _, after := _, guard := _ }) (v := ?_) [] rfl (by as_aux_lemma => kernel_rfl) (by as_aux_lemma => kernel_rfl) (by as_aux_lemma => kernel_rfl) (fun _ _ _ h => h) (by as_aux_lemma => kernel_rfl) (fun L u h e => h (by rw [getD_set_ne true (by decide)]; exact e)) (Or.inl ⟨by rfl, ?_⟩) (fun _ => hR) ?_
        rotate_left
        · intro w hY; go_simp; try with_reducible rfl
        try simp only [Act.put, List.setIfInBounds_toArray, List.set_cons_zero, List.set_cons_succ]
        refine Goes.take (i := 1) (o := { dst := some 38, op := _, type := _, pos := _, after := _, guard := _ }) (v := ?_) [] rfl (by as_aux_lemma => kernel_rfl) (by as_aux_lemma => kernel_rfl) (by as_aux_lemma => kernel_rfl) (fun _ _ _ h => h) (by as_aux_lemma => kernel_rfl) (fun L u h e => h (by rw [getD_set_ne true (by decide)]; exact e)) (Or.inl ⟨by rfl, ?_⟩) (fun _ => hR) ?_
        rotate_left
        · intro w hY; go_simp; try with_reducible rfl
        try simp only [Act.put, List.setIfInBounds_toArray, List.set_cons_zero, List.set_cons_succ]
        refine Goes.take (i := 2) (o := { dst := some 39, op := _, type := _, pos := _, after := _, guard := _ }) (v := ?_) [] rfl (by as_aux_lemma => kernel_rfl) (by as_aux_lemma => kernel_rfl) (by as_aux_lemma => kernel_rfl) (fun _ _ _ h => h) (by as_aux_lemma => kernel_rfl) (fun L u h e => h (by rw [getD_set_ne true (by decide)]; exact e)) (Or.inl ⟨by rfl, ?_⟩) (fun _ => hR) ?_
        rotate_left
        · intro w hY; go_simp; try with_reducible rfl
        try simp only [Act.put, List.setIfInBounds_toArray, List.set_cons_zero, List.set_cons_succ]
        refine Goes.take (i := 3) (o := { dst := some 40, op := _, type := _, pos := _, after := _, guard := _ }) (v := ?_) [] rfl (by as_aux_lemma => kernel_rfl) (by as_aux_lemma => kernel_rfl) (by as_aux_lemma => kernel_rfl) (fun _ _ _ h => h) (by as_aux_lemma => kernel_rfl) (fun L u h e => h (by rw [getD_set_ne true (by decide)]; exact e)) (Or.inl ⟨by rfl, ?_⟩) (fun _ => hR) ?_
        rotate_left
        · intro w hY; go_simp; try with_reducible rfl
        try simp only [Act.put, List.setIfInBounds_toArray, List.set_cons_zero, List.set_cons_succ]
        refine Goes.take (i := 4) (o := { dst := some 41, op := _, type := _, pos := _, after := _, guard := _ }) [12] rfl (by as_aux_lemma => kernel_rfl) (by as_aux_lemma => kernel_rfl) (by as_aux_lemma => kernel_rfl) (fun _ _ _ h => h) (by as_aux_lemma => kernel_rfl) (fun L u h e => h (by rw [getD_set_ne true (by decide)]; exact e)) (yieldsIf_load_mid (by rfl) 57 (.tmp 40) rfl g 1 rfl (dv L1) _ (fun W hY => by obtain ⟨up, hU, hL⟩ := hY; exact (hL (hU 12 (by simp))).1) Tryd.underlying57 rfl HI57.out) (fun _ => hR) ?_
        try simp only [Act.put, List.setIfInBounds_toArray, List.set_cons_zero, List.set_cons_succ]
        refine Goes.take (i := 5) (o := { dst := some 42, op := _, type := _, pos := _, after := _, guard := _ }) (v := ?_) [] rfl (by as_aux_lemma => kernel_rfl) (by as_aux_lemma => kernel_rfl) (by as_aux_lemma => kernel_rfl) (fun _ _ _ h => h) (by as_aux_lemma => kernel_rfl) (fun L u h e => h (by rw [getD_set_ne true (by decide)]; exact e)) (Or.inl ⟨by rfl, ?_⟩) (fun _ => hR) ?_
        rotate_left
        · intro w hY; go_simp; try with_reducible rfl
        try simp only [Act.put, List.setIfInBounds_toArray, List.set_cons_zero, List.set_cons_succ]
        refine Goes.take (i := 6) (o := { dst := some 43, op := _, type := _, pos := _, after := _, guard := _ }) (v := ?_) [] rfl (by as_aux_lemma => kernel_rfl) (by as_aux_lemma => kernel_rfl) (by as_aux_lemma => kernel_rfl) (fun _ _ _ h => h) (by as_aux_lemma => kernel_rfl) (fun L u h e => h (by rw [getD_set_ne true (by decide)]; exact e)) (Or.inl ⟨by rfl, ?_⟩) (fun _ => hR) ?_
        rotate_left
        · intro w hY; go_simp; try with_reducible rfl
        try simp only [Act.put, List.setIfInBounds_toArray, List.set_cons_zero, List.set_cons_succ]
        refine Goes.take (i := 7) (o := { dst := some 44, op := _, type := _, pos := _, after := _, guard := _ }) (v := ?_) [] rfl (by as_aux_lemma => kernel_rfl) (by as_aux_lemma => kernel_rfl) (by as_aux_lemma => kernel_rfl) (fun _ _ _ h => h) (by as_aux_lemma => kernel_rfl) (fun L u h e => h (by rw [getD_set_ne true (by decide)]; exact e)) (Or.inl ⟨by rfl, ?_⟩) (fun _ => hR) ?_
        rotate_left
        · intro w hY; go_simp; try with_reducible rfl
        try simp only [Act.put, List.setIfInBounds_toArray, List.set_cons_zero, List.set_cons_succ]
        refine Goes.take (i := 8) (o := { dst := some 45, op := _, type := _, pos := _, after := _, guard := _ }) [12] rfl (by as_aux_lemma => kernel_rfl) (by as_aux_lemma => kernel_rfl) (by as_aux_lemma => kernel_rfl) (fun _ _ _ h => h) (by as_aux_lemma => kernel_rfl) (fun L u h e => h (by rw [getD_set_ne true (by decide)]; exact e)) (yieldsIf_load_mid (by rfl) 59 (.tmp 44) rfl g 9 rfl (bvs b1) _ (fun W hY => by obtain ⟨up, hU, hL⟩ := hY; exact (hL (hU 12 (by simp))).2) Tryd.underlying59 rfl HI59.out) (fun _ => hR) ?_
        try simp only [Act.put, List.setIfInBounds_toArray, List.set_cons_zero, List.set_cons_succ]
        refine Goes.one (i := 9) (o := { dst := some 46, op := _, type := _, pos := _, after := _, guard := _ }) (by as_aux_lemma => kernel_rfl) rfl (fun K hK => ?_)
        go_simp
        refine (take_any L1 b1 _ HL88.out HS8.out HB1.out HKB.out.drew).mono ?_
        rintro e' w2 ⟨rfl, hb2⟩
        go_wp2_with fail
        have HR2 := hid (p := Rn w2 g L1 b1 (N + tk)) ((hb2.block g HRB.out.lt).trans HRB.out)
        have hR2 : w2.rangeAt g 1 (dv L1) ∧ w2.rangeAt g 9 (bvs b1) := ⟨HR2.out.so, HR2.out.last HL88.out⟩
        have HG2 := hid (p := wr.grownBy w2 (some g)) ((grown_drew HGB.out).trans (grown_of hb2 _))
        refine hK.out _ _ (fun _ => hR2) ?_
        clear hK K hR hb2
        have hR := hR2
        clear hR2
        try simp only [Act.put, List.setIfInBounds_toArray, List.set_cons_zero, List.set_cons_succ]
        refine Goes.take (i := 10) (o := { dst := some 47, op := _, type := _, pos := _, after := _, guard := _ }) (v := ?_) [] rfl (by as_aux_lemma => kernel_rfl) (by as_aux_lemma => kernel_rfl) (by as_aux_lemma => kernel_rfl) (fun _ _ _ h => h) (by as_aux_lemma => kernel_rfl) (fun L u h e => h (by rw [getD_set_ne true (by decide)]; exact e)) (Or.inl ⟨by rfl, ?_⟩) (fun _ => hR) ?_
        rotate_left
        · intro w hY; go_simp; try with_reducible rfl
        try simp only [Act.put, List.setIfInBounds_toArray, List.set_cons_zero, List.set_cons_succ]
        refine Goes.take (i := 11) (o := { dst := some 48, op := _, type := _, pos := _, after := _, guard := _ }) (v := ?_) [] rfl (by as_aux_lemma => kernel_rfl) (by as_aux_lemma => kernel_rfl) (by as_aux_lemma => kernel_rfl) (fun _ _ _ h => h) (by as_aux_lemma => kernel_rfl) (fun L u h e => h (by rw [getD_set_ne true (by decide)]; exact e)) (Or.inl ⟨by rfl, ?_⟩) (fun _ => hR) ?_
        rotate_left
        · intro w hY; go_simp; try with_reducible rfl
        try simp only [Act.put, List.setIfInBounds_toArray, List.set_cons_zero, List.set_cons_succ]
        refine Goes.one (i := 12) (o := { dst := none, op := _, type := _, pos := _, after := _, guard := _ }) (by as_aux_lemma => kernel_rfl) rfl (fun K hK => ?_)
        refine step_store_mid rfl 57 (.tmp 48) (.tmp 46) rfl g 1 (dv (comp L1 b1)).toArray rfl rfl (by rw [dv_size, comp_length _ _ HL88.out]; exact HR2.out.there HL88.out) (hi57 _ (comp_length _ _ HL88.out)).out (dv_all _) ?_
        refine hK.out _ _ (fun e => absurd e (by as_aux_lemma => decide +kernel)) ?_
        clear hK K
        try simp only [Act.put, List.setIfInBounds_toArray, List.set_cons_zero, List.set_cons_succ]
        refine Goes.done (by as_aux_lemma => kernel_rfl) ?_ _
        refine NoPanic.normal ?_
        go_wp2
        exact HFIN.out _ (grown_cells HG2.out _) (HIS.out _ (HR2.out.setSo (HL88.out.trans (comp_length _ _ HL88.out).symm)))
      · have hzi : (((N : Int) + (tk : Int)) % 64 == 0) = false := by simp; omega
        have HIS := hid (run_part_is HNX.out HRD.out HB0.out HT0.out HP64.out (by rw [HP2.out]; exact hz) (by rw [HP2.out]; have := HRB.out; rw [HCA.out] at this; exact this))
        go_wp2
        exact HFIN.out _ HGB.out HIS.out
    · obtain rfl : n' = 0 := by omega
      have HRE : Hid (RunIs wr g (bs ++ part)) := hid (by
        have : res = [] := List.eq_nil_of_length_eq_zero HN'.out
        have h2 := HP.out
        rw [this, List.append_nil] at h2
        rw [h2]; exact HR.out)
      go_wp2
      exact bodyPost_end (v := .tuple #[]) (by simp [results, Tryd.results79, go_sem]) rfl ⟨rfl, HRE.out, HG.out⟩
end Go.Proofs.YtikmhnlhaolbfaaDoor
namespace Go.Proofs.YtikmhnlhaolbfaaDoor
open Go.RowKit
set_option linter.unusedVariables false

theorem i44 : (Tryd.prog.info? 44).map (·.size) = some 32 := by kernel_rfl
theorem hi44 (b : List UInt8) (h : b.length = 32) : Hid ((Tryd.prog.info? 44).map (·.size) = some (bvs b).toArray.size) := by rw [bvs_size, h]; exact hid i44
theorem Bt.set {w : World} {g : Nat} {t : TypeId} {l : List UInt8} (h : Bt w g t l) (k : Nat) (b : UInt8) : Bt (w.setCell ⟨g, k, none⟩ (.int .u8 ((b.toNat : Nat) : Int))) g t (l.set k b) := by
  unfold Bt at h ⊢; simp [World.setCell, Array.getElem?_modify, h, bvs, List.map_set]
theorem Bt.row {w : World} {g : Nat} {t : TypeId} {l m : List UInt8} (h : Bt w g t l) : Bt (w.setRow g (bvs m).toArray) g t m := setRow_heap w g _ _ t (0, 0) h
/-- what stands while numbers are told as bytes -/
structure Tl (w : World) (l : List Nat) (m : List UInt8) (w' : World) : Prop where
  below : Below w.heap.size w w'
  n : Us w' w.heap.size 57 l
  z : Bt w' (w.heap.size + 1) 44 (List.replicate 32 0)
  m : Bt w' (w.heap.size + 1 + 1) 44 m
theorem Tl.init (w : World) (l : List Nat) : Hid (Tl w l (List.replicate 32 0) (((w.alloc (.cells (dv l).toArray 57)).alloc (.cells #[.int .u8 0, .int .u8 0, .int .u8 0, .int .u8 0, .int .u8 0, .int .u8 0, .int .u8 0, .int .u8 0, .int .u8 0, .int .u8 0, .int .u8 0, .int .u8 0, .int .u8 0, .int .u8 0, .int .u8 0, .int .u8 0, .int .u8 0, .int .u8 0, .int .u8 0, .int .u8 0, .int .u8 0, .int .u8 0, .int .u8 0, .int .u8 0, .int .u8 0, .int .u8 0, .int .u8 0, .int .u8 0, .int .u8 0, .int .u8 0, .int .u8 0, .int .u8 0] 44)).alloc (.cells #[.int .u8 0, .int .u8 0, .int .u8 0, .int .u8 0, .int .u8 0, .int .u8 0, .int .u8 0, .int .u8 0, .int .u8 0, .int .u8 0, .int .u8 0, .int .u8 0, .int .u8 0, .int .u8 0, .int .u8 0, .int .u8 0, .int .u8 0, .int .u8 0, .int .u8 0, .int .u8 0, .int .u8 0, .int .u8 0, .int .u8 0, .int .u8 0, .int .u8 0, .int .u8 0, .int .u8 0, .int .u8 0, .int .u8 0, .int .u8 0, .int .u8 0, .int .u8 0] 44))) := by
  have s1 : ∀ (w : World) (o : Obj), (w.alloc o).heap.size = w.heap.size + 1 := fun w o => Array.size_push _
  refine hid ⟨(((Below.refl _ _).alloc (Nat.le_refl _) _).alloc (by rw [s1]; omega) _).alloc (by rw [s1, s1]; omega) _, Us.alloc (Us.alloc (heap_alloc_new _ _) _) _, Bt.alloc ?_ _, ?_⟩
  · rw [← s1 w (.cells (dv l).toArray 57)]; exact heap_alloc_new _ _
  · rw [← s1 w (.cells (dv l).toArray 57), ← s1 _ (.cells #[.int .u8 0, .int .u8 0, .int .u8 0, .int .u8 0, .int .u8 0, .int .u8 0, .int .u8 0, .int .u8 0, .int .u8 0, .int .u8 0, .int .u8 0, .int .u8 0, .int .u8 0, .int .u8 0, .int .u8 0, .int .u8 0, .int .u8 0, .int .u8 0, .int .u8 0, .int .u8 0, .int .u8 0, .int .u8 0, .int .u8 0, .int .u8 0, .int .u8 0, .int .u8 0, .int .u8 0, .int .u8 0, .int .u8 0, .int .u8 0, .int .u8 0, .int .u8 0] 44)]; exact heap_alloc_new _ _
theorem Tl.set {w w' : World} {l : List Nat} {m : List UInt8} (h : Tl w l m w') (k : Nat) (b : UInt8) : Tl w l (m.set k b) (w'.setCell ⟨w.heap.size + 1 + 1, k, none⟩ (.int .u8 ((b.toNat : Nat) : Int))) :=
  ⟨h.below.setCell (by simp; omega) _, h.n.other _ (by omega), h.z.other _ (by omega), h.m.set k b⟩
/-- the byte at a place -/
def sb (l : List Nat) (j : Nat) : UInt8 := UInt8.ofNat (at' l (j / 4) / 256 ^ (3 - j % 4))
theorem sb_val (l : List Nat) (j r : Nat) (hr : j % 4 = r) : (((sb l j).toNat : Nat) : Int) = ((at' l (j / 4) : Nat) : Int) / ((256 ^ (3 - r) : Nat) : Int) % 256 := by
  unfold sb
  rw [UInt8.toNat_ofNat', hr, show (2 : Nat) ^ 8 = 256 by decide]
  omega
set_option maxRecDepth 100000 in
set_option maxHeartbeats 1000000 in
theorem tell_any' (l : List Nat) (w : World) (hl : l.length = 8) :
    Calls Tryd.prog 86 #[.agg (dv l).toArray] w fun e w' => e = .returned (.agg (bvs (spell l)).toArray) ∧ Below w.heap.size w w' := by
  have HL := hid hl
  clear hl
  go_enter Tryd.func86, Tryd.ntmps86
  go_wp2_with fail
  have HT := Tl.init w l
  generalize ((w.alloc (.cells (dv l).toArray 57)).alloc (.cells #[.int .u8 0, .int .u8 0, .int .u8 0, .int .u8 0, .int .u8 0, .int .u8 0, .int .u8 0, .int .u8 0, .int .u8 0, .int .u8 0, .int .u8 0, .int .u8 0, .int .u8 0, .int .u8 0, .int .u8 0, .int .u8 0, .int .u8 0, .int .u8 0, .int .u8 0, .int .u8 0, .int .u8 0, .int .u8 0, .int .u8 0, .int .u8 0, .int .u8 0, .int .u8 0, .int .u8 0, .int .u8 0, .int .u8 0, .int .u8 0, .int .u8 0, .int .u8 0] 44)).alloc (.cells #[.int .u8 0, .int .u8 0, .int .u8 0, .int .u8 0, .int .u8 0, .int .u8 0, .int .u8 0, .int .u8 0, .int .u8 0, .int .u8 0, .int .u8 0, .int .u8 0, .int .u8 0, .int .u8 0, .int .u8 0, .int .u8 0, .int .u8 0, .int .u8 0, .int .u8 0, .int .u8 0, .int .u8 0, .int .u8 0, .int .u8 0, .int .u8 0, .int .u8 0, .int .u8 0, .int .u8 0, .int .u8 0, .int .u8 0, .int .u8 0, .int .u8 0, .int .u8 0] 44) = w0 at *
  go_loopw [5] (fun i wr => ∃ (k : Nat) (m : List UInt8), k ≤ 32 ∧ i = .int .i64 k ∧ Hid (Tl w l m wr) ∧ Hid (m.length = 32) ∧ Hid (∀ j, j < k → m[j]? = some (sb l j))) (fun i _ => 32 - (intOf i).toNat)
  case atStart => exact ⟨0, List.replicate 32 0, by omega, rfl, HT, hid rfl, hid (fun j hj => absurd hj (Nat.not_lt_zero _))⟩
  case round =>
    clear HT
    obtain ⟨k, m, hk, rfl, HT, HM, HA⟩ := hrel
    by_cases hlt : k < 32
    · obtain ⟨q, hq⟩ : ∃ q : Nat, q = k / 4 := ⟨_, rfl⟩
      have hqi : (k : Int) / 4 = (q : Int) := by omega
      have hq8 : q < 8 := by omega
      have HQ := hid hq
      clear hq
      have hcn := HT.out.n.cell q (by have := HL.out; omega)
      have hcm := HT.out.m.cell k (by have := HM.out; omega)
      have hfm := HT.out.m.frozen k
      generalize (m[k]'(by have := HM.out; omega)).toNat = old at hcm
      rcases (show k % 4 = 0 ∨ k % 4 = 1 ∨ k % 4 = 2 ∨ k % 4 = 3 by omega) with hr | hr | hr | hr
      · have hri : (k : Int) % 4 = 0 := by omega
        have HV := hid (sb_val l k 0 hr)
        rw [← HQ.out] at HV
        have HR := hid hr
        clear hr
        go_wp2
        go_roundw
        case rel =>
          refine ⟨k + 1, m.set k (sb l k), by omega, by go_num, ?_, hid (by rw [List.length_set]; exact HM.out), hid ?_⟩
          · have := HT.out.set k (sb l k)
            rw [HV.out] at this
            simpa using hid this
          · intro j hj
            rw [List.getElem?_set]
            by_cases h : k = j
            · subst h; rw [if_pos rfl, if_pos (by have := HM.out; omega)]
            · rw [if_neg h]; exact HA.out j (by omega)
        case measure => simp [intOf]; omega
      · have hri : (k : Int) % 4 = 1 := by omega
        have HV := hid (sb_val l k 1 hr)
        rw [← HQ.out] at HV
        have HR := hid hr
        clear hr
        go_wp2
        go_roundw
        case rel =>
          refine ⟨k + 1, m.set k (sb l k), by omega, by go_num, ?_, hid (by rw [List.length_set]; exact HM.out), hid ?_⟩
          · have := HT.out.set k (sb l k)
            rw [HV.out] at this
            simpa using hid this
          · intro j hj
            rw [List.getElem?_set]
            by_cases h : k = j
            · subst h; rw [if_pos rfl, if_pos (by have := HM.out; omega)]
            · rw [if_neg h]; exact HA.out j (by omega)
        case measure => simp [intOf]; omega
      · have hri : (k : Int) % 4 = 2 := by omega
        have HV := hid (sb_val l k 2 hr)
        rw [← HQ.out] at HV
        have HR := hid hr
        clear hr
        go_wp2
        go_roundw
        case rel =>
          refine ⟨k + 1, m.set k (sb l k), by omega, by go_num, ?_, hid (by rw [List.length_set]; exact HM.out), hid ?_⟩
          · have := HT.out.set k (sb l k)
            rw [HV.out] at this
            simpa using hid this
          · intro j hj
            rw [List.getElem?_set]
            by_cases h : k = j
            · subst h; rw [if_pos rfl, if_pos (by have := HM.out; omega)]
            · rw [if_neg h]; exact HA.out j (by omega)
        case measure => simp [intOf]; omega
      · have hri : (k : Int) % 4 = 3 := by omega
        have HV := hid (sb_val l k 3 hr)
        rw [← HQ.out] at HV
        have HR := hid hr
        clear hr
        go_wp2
        go_roundw
        case rel =>
          refine ⟨k + 1, m.set k (sb l k), by omega, by go_num, ?_, hid (by rw [List.length_set]; exact HM.out), hid ?_⟩
          · have := HT.out.set k (sb l k)
            rw [HV.out] at this
            simpa using hid this
          · intro j hj
            rw [List.getElem?_set]
            by_cases h : k = j
            · subst h; rw [if_pos rfl, if_pos (by have := HM.out; omega)]
            · rw [if_neg h]; exact HA.out j (by omega)
        case measure => simp [intOf]; omega
    · obtain rfl : k = 32 := by omega
      have hme : m = spell l := by
        apply List.ext_getElem?
        intro j
        rcases Nat.lt_or_ge j 32 with h | h
        · rw [HA.out j h, spell_at l j (by have := HL.out; omega)]; rfl
        · rw [List.getElem?_eq_none (by have := HM.out; omega), List.getElem?_eq_none (by rw [spell_length, HL.out]; exact h)]
      have HT2 : Hid (Tl w l (spell l) wr) := hid (hme ▸ HT.out)
      have HCL := hid (show (spell l).length = 32 by rw [spell_length, HL.out])
      clear HT HM HA hme
      generalize hr : spell l = r at *
      have HRR := hid hr
      clear hr
      have HI := hi44 r HCL.out
      have HO8 : Hid ((bvs (List.replicate 32 0)).toArray.size = (bvs r).toArray.size) := hid (by rw [bvs_size, bvs_size, HCL.out, List.length_replicate])
      have HZ := hid (HT2.out.z.row (m := r))
      have HBW := hid (p := Below w.heap.size w (wr.setRow (w.heap.size + 1) (bvs r).toArray)) (below_setRow HT2.out.below (Nat.le_succ _) _)
      go_upto_region 7 with fail
      have HDA := bvs_all r
      have HZL := HT2.out.m
      have HZZ := HT2.out.z
      unfold Bt at HZL HZZ
      have HZL := hid HZL
      have HZZ := hid HZZ
      go_wp2_with (first | (refine wpList_load_row rfl 44 (.tmp 3) rfl (w.heap.size + 1 + 1) rfl 44 (bvs r).toArray (0, 0) _ HZL.out Tryd.underlying44 rfl HI.out ?_) | (refine wpList_store_row rfl 44 (.tmp 2) (.tmp 21) rfl (w.heap.size + 1) (bvs r).toArray rfl rfl 44 _ HZZ.out HI.out HO8.out HDA ?_))
      exact bodyPost_ret (v := .agg (bvs r).toArray) (results_cell_row (p := 2) (ty := 44) Tryd.results86 _ _ (w.heap.size + 1) 44 (bvs r).toArray (0, 0) _ rfl HZ.out Tryd.underlying44 rfl HI.out) rfl ⟨by rw [HRR.out], HBW.out⟩
set_option maxRecDepth 100000 in
theorem squares_any (w : World) : Calls Tryd.prog 83 #[] w fun e w' => e = .returned (.agg (dv hh).toArray) ∧ Below w.heap.size w w' := by
  go_enter Tryd.func83, Tryd.ntmps83
  go_wp2
  have h : (w.alloc (.cells (dv hh).toArray 57)).heap[w.heap.size]? = some (.cells (dv hh).toArray 57) := heap_alloc_new w (.cells (dv hh).toArray 57)
  exact bodyPost_ret (v := .agg (dv hh).toArray) (results_cell_row (p := 0) (ty := 57) Tryd.results83 _ _ w.heap.size 57 (dv hh).toArray (0, 0) _ rfl h Tryd.underlying57 rfl (hi57 hh rfl).out) rfl ⟨rfl, (Below.refl _ _).alloc (Nat.le_refl _) _⟩
end Go.Proofs.YtikmhnlhaolbfaaDoor
namespace Go.Proofs.YtikmhnlhaolbfaaDoor
open Go.RowKit

theorem splice_head (m : Nat) (bs : List UInt8) : splice (bvs (List.replicate (bs.length + m) 0)) 0 (bvs bs) = bvs (bs ++ List.replicate m 0) := by
  simp [splice, bvs, List.drop_replicate]

set_option maxHeartbeats 400000 in
theorem longer_any (A : Option Addr) (c m : Nat) (bs : List UInt8) (w : World) (hr : Rd w A bs) (hn : bs.length + m ≤ 281474976710656) :
    Calls Tryd.prog 116 #[.slice A bs.length c, .int .i64 (m : Int)] w fun e w' => e = .returned (.slice (some ⟨w.heap.size, 0, none⟩) (bs.length + m) (bs.length + m)) ∧
      Row w' w.heap.size (bs ++ List.replicate m 0) ∧ Below w.heap.size w w' := by
  have hmk := run_make_bytes w (bs.length + m) hn
  rw [Int.natCast_add] at hmk
  have HG := hid (heap_alloc_new w (.cells (bvs (List.replicate (bs.length + m) 0)).toArray 5))
  have HB := hid ((Below.refl w.heap.size w).alloc (Nat.le_refl _) (.cells (bvs (List.replicate (bs.length + m) 0)).toArray 5))
  have HN : Hid ((bvs bs).length = Nat.min bs.length (bs.length + m)) := by rw [bvs_length]; exact hid (Nat.min_eq_left (Nat.le_add_right _ _)).symm
  have HP : Hid (0 < (bvs bs).length → some (⟨w.heap.size, 0, none⟩ : Addr) = some ⟨w.heap.size, 0, none⟩ ∧ ∃ ad, A = some ad ∧ ∀ j v, (bvs bs)[j]? = some v → (w.alloc (.cells (bvs (List.replicate (bs.length + m) 0)).toArray 5)).cell? (ad.add j) = some v) :=
    hid fun hp => ⟨rfl, (hr.below HB.out (Nat.le_refl _)).cells (by rw [bvs_length] at hp; exact hp)⟩
  have HF : Hid (0 + (bvs bs).length ≤ (bvs (List.replicate (bs.length + m) 0)).length) := hid (by simp [bvs_length])
  have HS := hid (splice_head m bs)
  go_enter Tryd.func116, Tryd.ntmps116
  go_wp2_with (with_reducible refine wpList_copy_splice rfl (.tmp 11) (.tmp 12) 41 41 rfl 5 Tryd.underlying41 u8_size _ _ _ _ _ _ rfl rfl w.heap.size 0 (bvs (List.replicate (bs.length + m) 0)) 5 HG.out (bvs bs) HN.out HP.out HF.out (bvs_one bs) w.heap.size w HB.out (Nat.le_refl _) ?_; intro w1 HR hb1)
  go_ret
  refine ⟨rfl, ?_, hb1⟩
  have := HR.out
  rw [HS.out] at this
  exact this
end Go.Proofs.YtikmhnlhaolbfaaDoor
namespace Go.Proofs.YtikmhnlhaolbfaaDoor
open Go.RowKit

/-- a slice's address, and the words that lie there, outside block g -/
def RdW (w : World) (g : Nat) (A : Option Addr) (ws : List Nat) : Prop :=
  (∀ x ∈ ws, x < 18446744073709551616) ∧ (0 < ws.length → ∃ h o, A = some ⟨h, o, none⟩ ∧ h < w.heap.size ∧ h ≠ g ∧ ∀ j, (hj : j < ws.length) → w.cell? ⟨h, o + j, none⟩ = some (.int .u64 ((ws[j] : Nat) : Int)))

/-- the number of words, the lowest first -/
def wnum : List Nat → Nat
  | [] => 0
  | x :: r => x + 18446744073709551616 * wnum r

/-- the room behind k rounds -/
def laid (bs : List UInt8) (e N k : Nat) : List UInt8 := bs.take (e - k) ++ (be N k ++ bs.drop e)

theorem laid_zero (bs : List UInt8) (e N : Nat) : laid bs e N 0 = bs := by simp [laid, be]
theorem laid_length (bs : List UInt8) (e N k : Nat) (hk : k ≤ e) (he : e ≤ bs.length) : (laid bs e N k).length = bs.length := by
  simp [laid, be_length]; omega
theorem laid_succ (bs : List UInt8) (e N k : Nat) (hk : k < e) (he : e ≤ bs.length) : laid bs e N (k + 1) = (laid bs e N k).set (e - 1 - k) (UInt8.ofNat (N / 256 ^ k)) := by
  have h1 : e - k = (e - 1 - k) + 1 := by omega
  have h2 : e - (k + 1) = e - 1 - k := by omega
  have h3 : e - 1 - k < bs.length := by omega
  unfold laid
  rw [h1, h2, List.take_succ_eq_append_getElem h3, be, List.append_assoc, List.set_append]
  have h4 : (bs.take (e - 1 - k)).length = e - 1 - k := by rw [List.length_take]; omega
  rw [if_neg (by omega), h4, Nat.sub_self]
  rfl

theorem wnum_div (ws : List Nat) (hw : ∀ x ∈ ws, x < 18446744073709551616) (j : Nat) (hj : j < ws.length) : ∃ R, wnum ws / 18446744073709551616 ^ j = ws[j] + 18446744073709551616 * R := by
  induction ws generalizing j with
  | nil => simp at hj
  | cons x r ih =>
    cases j with
    | zero => exact ⟨wnum r, by simp [wnum]⟩
    | succ j =>
      obtain ⟨R, hR⟩ := ih (fun y hy => hw y (List.mem_cons_of_mem _ hy)) j (by simpa using hj)
      refine ⟨R, ?_⟩
      have hx := hw x (List.mem_cons_self ..)
      rw [Nat.pow_succ, Nat.mul_comm, ← Nat.div_div_eq_div_mul]
      have e : wnum (x :: r) / 18446744073709551616 = wnum r := by simp only [wnum]; omega
      rw [e, hR]
      simp

theorem low_byte (x R i : Nat) (hi : i < 8) : (x + 18446744073709551616 * R) / 256 ^ i % 256 = x / 256 ^ i % 256 := by
  match i, hi with
  | 0, _ => simp only [Nat.pow_zero]; omega
  | 1, _ => rw [show 256 ^ 1 = 256 from rfl]; omega
  | 2, _ => rw [show 256 ^ 2 = 65536 from rfl]; omega
  | 3, _ => rw [show 256 ^ 3 = 16777216 from rfl]; omega
  | 4, _ => rw [show 256 ^ 4 = 4294967296 from rfl]; omega
  | 5, _ => rw [show 256 ^ 5 = 1099511627776 from rfl]; omega
  | 6, _ => rw [show 256 ^ 6 = 281474976710656 from rfl]; omega
  | 7, _ => rw [show 256 ^ 7 = 72057594037927936 from rfl]; omega

theorem pow_split (k : Nat) : 256 ^ k = 18446744073709551616 ^ (k / 8) * 256 ^ (k % 8) := by
  have e : (18446744073709551616 : Nat) = 256 ^ 8 := by decide
  rw [e, ← Nat.pow_mul, ← Nat.pow_add]
  congr 1
  omega

theorem two_pow_bytes (i : Nat) : 2 ^ (i * 8) = 256 ^ i := by
  have e : (256 : Nat) = 2 ^ 8 := by decide
  rw [e, ← Nat.pow_mul, Nat.mul_comm]

theorem wnum_byte (ws : List Nat) (hw : ∀ x ∈ ws, x < 18446744073709551616) (k : Nat) (hk : k / 8 < ws.length) :
    (((UInt8.ofNat (wnum ws / 256 ^ k)).toNat : Nat) : Int) = ((ws[k / 8] : Nat) : Int) / 2 ^ (k % 8 * 8) % 256 := by
  obtain ⟨R, hR⟩ := wnum_div ws hw (k / 8) hk
  rw [UInt8.toNat_ofNat', pow_split, ← Nat.div_div_eq_div_mul, hR]
  have e8 : (2 : Nat) ^ 8 = 256 := by decide
  rw [e8, low_byte _ _ _ (by omega), ← two_pow_bytes]
  rw [Int.natCast_emod, Int.natCast_ediv, Int.natCast_pow]
  rfl

theorem Row.set {w : World} {g : Nat} {bs : List UInt8} (h : Row w g bs) (i : Nat) (b : UInt8) : Row (w.setCell ⟨g, i, none⟩ (.int .u8 ((b.toNat : Nat) : Int))) g (bs.set i b) := by
  unfold Row at h ⊢
  simp [World.setCell, Array.getElem?_modify, h, bvs, List.map_set]

theorem grown_set {w wr : World} {g i : Nat} (h : w.grownBy wr (some g)) (u : Value) : w.grownBy (wr.setCell ⟨g, i, none⟩ u) (some g) :=
  ⟨h.os, h.tape, h.output, by simpa using h.size, fun k hk hne => (Below.heap_setCell wr ⟨g, i, none⟩ u k (fun e => hne (by rw [e]))).trans (h.block k hk hne)⟩

set_option maxHeartbeats 400000 in
theorem lay_any (R A : Option Addr) (g off m c d : Nat) (bs : List UInt8) (ws : List Nat) (w : World) (hR : 0 < m → R = some ⟨g, off, none⟩) (hg : Row w g bs) (ho : off + m ≤ bs.length) (hb : bs.length ≤ 281474976710656) (hw : RdW w g A ws) (hwl : ws.length ≤ 4) (hmw : m ≤ ws.length * 8) :
    Calls Tryd.prog 117 #[.slice R m c, .slice A ws.length d] w fun e w' => e = .returned (.tuple #[]) ∧
      Row w' g (laid bs (off + m) (wnum ws) m) ∧ w.grownBy w' (some g) := by
  go_enter Tryd.func117, Tryd.ntmps117
  go_wp2
  go_loopw [11] (fun i wr => ∃ k : Nat, k ≤ m ∧ i = .int .i64 k ∧ Hid (Row wr g (laid bs (off + m) (wnum ws) k)) ∧ Hid (w.grownBy wr (some g))) (fun i _ => m - (intOf i).toNat)
  case atStart => exact ⟨0, Nat.zero_le _, rfl, by rw [laid_zero]; exact hg, World.grownBy.refl w _⟩
  case round =>
    obtain ⟨k, hk, rfl, HRk, HGk⟩ := hrel
    by_cases hlt : k < m
    · obtain rfl := hR (by omega)
      have hkw : k / 8 < ws.length := by omega
      obtain ⟨h, o, rfl, hh, hne, hcw⟩ := hw.2 (by omega)
      have hck' : wr.cell? ⟨h, o + k / 8, none⟩ = some (.int .u64 ((ws[k / 8] : Nat) : Int)) :=
        (World.cell?_of_block (HGk.out.block h hh (fun e => hne (by injection e)))).trans (hcw (k / 8) hkw)
      have HX := hid (wnum_byte ws hw.1 k hkw)
      have HL := hid (laid_succ bs (off + m) (wnum ws) k (by omega) ho)
      have hlen := laid_length bs (off + m) (wnum ws) k (by omega) ho
      have hx : ws[k / 8] < 18446744073709551616 := hw.1 _ (by simp)
      clear hcw
      generalize ws[k / 8] = x at hck' hx HX
      have hi : off + (m - 1 - k) < (laid bs (off + m) (wnum ws) k).length := by omega
      have hcell := HRk.out.cell (off + (m - 1 - k)) hi
      generalize (laid bs (off + m) (wnum ws) k)[off + (m - 1 - k)].toNat = v at hcell
      have hfz := HRk.out.frozen (off + (m - 1 - k))
      have HSet := hid (HRk.out.set (off + (m - 1 - k)) (UInt8.ofNat (wnum ws / 256 ^ k)))
      clear hlen hi hR hw
      go_wp2
      go_roundw
      case rel =>
        refine ⟨k + 1, by omega, by go_num, ?_, grown_set HGk.out _⟩
        have e : off + m - 1 - k = off + (m - 1 - k) := by omega
        rw [HL.out, e, ← HX.out]
        exact HSet.out
      case measure => simp [intOf]; omega
    · obtain rfl : k = m := by omega
      go_wp2
      go_end0
      exact ⟨rfl, HRk.out, HGk.out⟩
end Go.Proofs.YtikmhnlhaolbfaaDoor
namespace Go.Proofs.YtikmhnlhaolbfaaDoor
open Go.RowKit

theorem laid_tail (bs : List UInt8) (N K : Nat) : laid (bs ++ List.replicate K 0) (bs.length + K) N K = bs ++ be N K := by
  have e : bs.length + K - K = bs.length := by omega
  simp [laid, e]

theorem Row.alloc {w : World} {g : Nat} {bs : List UInt8} (h : Row w g bs) (o : Obj) : Row (w.alloc o) g bs := (Below.heap_alloc w o g h.lt).trans h

/-- a new block of words -/
theorem RdW.new (w : World) (g : Nat) (hg : g < w.heap.size) (ws : List Nat) (hw : ∀ x ∈ ws, x < 18446744073709551616) :
    RdW (w.alloc (.cells (ws.map fun (x : Nat) => Value.int .u64 (x : Int)).toArray 22)) g (some ⟨w.heap.size, 0, none⟩) ws := by
  refine ⟨hw, fun hp => ⟨w.heap.size, 0, rfl, by simp, by omega, fun j hj => ?_⟩⟩
  rw [cell_of_row _ _ _ _ 22 (0, 0) (heap_alloc_new w _)]
  simp [hj]

theorem longer_at (A : Option Addr) (c m : Nat) (mi : Int) (hm : mi = m) (bs : List UInt8) (w : World) (hr : Rd w A bs) (hn : bs.length + m ≤ 281474976710656) :
    Calls Tryd.prog 116 #[.slice A bs.length c, .int .i64 mi] w fun e w' => e = .returned (.slice (some ⟨w.heap.size, 0, none⟩) (bs.length + m) (bs.length + m)) ∧
      Row w' w.heap.size (bs ++ List.replicate m 0) ∧ Below w.heap.size w w' := by
  subst hm; exact longer_any A c m bs w hr hn

theorem put_none (A : Option Addr) (c n : Nat) (k : Int) (bs : List UInt8) (w : World) (hr : Rd w A bs) (hn : bs.length ≤ 140737488355328) (hx : n < 18446744073709551616) (hk : k ≤ 0) :
    Calls Tryd.prog 90 #[.slice A bs.length c, .int .u64 (n : Int), .int .i64 k] w fun e w' => e = .returned (.slice (some ⟨w.heap.size, 0, none⟩) bs.length bs.length) ∧
      Row w' w.heap.size bs ∧ Below w.heap.size w w' := by
  rcases (show k < 0 ∨ k = 0 from by omega) with hk | rfl
  all_goals
    go_enter Tryd.func90, Tryd.ntmps90
    go_wp2_with fail
    refine (longer_at A c 0 _ rfl bs w hr (by omega)).mono ?_
    rintro e w1 ⟨rfl, HR, hb1⟩
    have HR1 := hid (p := Row w1 w.heap.size bs) (by simpa using HR)
    clear HR
    rw [Nat.add_zero]
    have HW := hid (RdW.new w1 w.heap.size HR1.out.lt [n] (by simpa using hx))
    have HA := hid (HR1.out.alloc (.cells #[Value.int .u64 (n : Int)] 22))
    have HB := hid (hb1.alloc (Nat.le_of_lt HR1.out.lt) (.cells #[Value.int .u64 (n : Int)] 22))
    go_wp2_with fail
    refine (lay_any _ _ w.heap.size 0 0 0 1 bs [n] _ (fun h => absurd h (by omega)) HA.out (by omega) (by omega) HW.out (by simp) (by simp)).mono ?_
    rintro e w2 ⟨rfl, HR2, hg2⟩
    have HR3 := hid (p := Row w2 w.heap.size bs) (by simpa [laid_zero] using HR2)
    have HB3 := hid (HB.out.grown hg2 (by have := HR1.out.lt; simp; omega) (by simp))
    clear HR2 hg2
    go_wp2
    go_ret
    exact ⟨rfl, HR3.out, HB3.out⟩

theorem put_pos (A : Option Addr) (c n K : Nat) (k : Int) (bs : List UInt8) (w : World) (hr : Rd w A bs) (hn : bs.length ≤ 140737488355328) (hx : n < 18446744073709551616)
    (h0 : 0 < K) (hK : K ≤ 8) (hk : k = K ∨ (8 < k ∧ K = 8)) :
    Calls Tryd.prog 90 #[.slice A bs.length c, .int .u64 (n : Int), .int .i64 k] w fun e w' => e = .returned (.slice (some ⟨w.heap.size, 0, none⟩) (bs.length + K) (bs.length + K)) ∧
      Row w' w.heap.size (bs ++ be n K) ∧ Below w.heap.size w w' := by
  rcases hk with rfl | ⟨hk, rfl⟩
  case' inl => generalize hX : K = X at *
  case' inr => generalize hX : 8 = X at *
  all_goals
    have HX := hid hX
    clear hX
    have hX8 : X ≤ 8 := by have := HX.out; omega
    go_enter Tryd.func90, Tryd.ntmps90
    go_wp2_with fail
    refine (longer_at A c X _ (by have := HX.out; omega) bs w hr (by omega)).mono ?_
    rintro e w1 ⟨rfl, HR, hb1⟩
    have HR1 := hid HR
    clear HR
    have HW := hid (RdW.new w1 w.heap.size HR1.out.lt [n] (by simpa using hx))
    have HA := hid (HR1.out.alloc (.cells #[Value.int .u64 (n : Int)] 22))
    have HB := hid (hb1.alloc (Nat.le_of_lt HR1.out.lt) (.cells #[Value.int .u64 (n : Int)] 22))
    go_wp2_with fail
    refine (lay_any _ _ w.heap.size bs.length X X 1 _ [n] _ (fun _ => rfl) HA.out (by simp) (by simp; omega) HW.out (by simp) (by simp; omega)).mono ?_
    rintro e w2 ⟨rfl, HR2, hg2⟩
    rw [laid_tail] at HR2
    have HR3 := hid (p := Row w2 w.heap.size (bs ++ be n X)) (by simpa [wnum] using HR2)
    have HB3 := hid (HB.out.grown hg2 (by have := HR1.out.lt; simp; omega) (by simp))
    clear HR2 hg2
    go_wp2
    go_ret
    exact ⟨rfl, HR3.out, HB3.out⟩

/-- at any count: as many as are asked for, none at least, eight at most -/
theorem put_any (A : Option Addr) (c n K : Nat) (k : Int) (bs : List UInt8) (w : World) (hr : Rd w A bs) (hn : bs.length ≤ 140737488355328) (hx : n < 18446744073709551616)
    (hK : K = (min (max k 0) 8).toNat) :
    Calls Tryd.prog 90 #[.slice A bs.length c, .int .u64 (n : Int), .int .i64 k] w fun e w' => e = .returned (.slice (some ⟨w.heap.size, 0, none⟩) (bs.length + K) (bs.length + K)) ∧
      Row w' w.heap.size (bs ++ be n K) ∧ Below w.heap.size w w' := by
  rcases (show k ≤ 0 ∨ 0 < k from by omega) with h | h
  · obtain rfl : K = 0 := by omega
    refine (put_none A c n k bs w hr hn hx h).mono ?_
    rintro e w1 ⟨rfl, HR, hb⟩
    exact ⟨rfl, by simpa [be] using HR, hb⟩
  · exact put_pos A c n K k bs w hr hn hx (by omega) (by omega) (by omega)
end Go.Proofs.YtikmhnlhaolbfaaDoor
namespace Go.Proofs.YtikmhnlhaolbfaaDoor
open Go.RowKit
set_option linter.unusedVariables false

theorem there_none (w : World) : Calls Tryd.prog 84 #[.pointer none] w fun e w' => e = .returned (.bool false) ∧ w = w' := by
  go_enter Tryd.func84, Tryd.ntmps84
  go_wp2
  go_ret
  exact ⟨rfl, rfl⟩
theorem there_any (g : Nat) (t : Bool) (w : World) (h : w.cell? ⟨g, 0, none⟩ = some (.bool t)) : Calls Tryd.prog 84 #[.pointer (some ⟨g, 0, none⟩)] w fun e w' => e = .returned (.bool t) ∧ w = w' := by
  go_enter Tryd.func84, Tryd.ntmps84
  go_wp2
  go_ret
  exact ⟨rfl, rfl⟩
set_option maxRecDepth 100000 in
theorem new_any (w : World) : Calls Tryd.prog 38 #[] w fun e w' => (∃ g, e = .returned (.pointer (some ⟨g, 0, none⟩)) ∧ w.heap.size ≤ g ∧ RunIs w' g []) ∧ Below w.heap.size w w' := by
  go_enter Tryd.func38, Tryd.ntmps38
  go_wp2_with fail
  refine (squares_any w).mono ?_
  rintro e w1 ⟨rfl, hb⟩
  go_wp2
  have hc : List.foldl (fun (cs : Array Value) (x : Value × Nat) => cs.setIfInBounds (1 + x.snd) x.fst) (Tryd.zeroCells61.setIfInBounds 0 (Value.bool true)) (dv hh).zipIdx = (rc hh (List.replicate 64 0) 0).toArray := by kernel_rfl
  rw [hc]
  have hR : RunIs (w1.alloc (.cells (rc hh (List.replicate 64 0) 0).toArray 61)) w1.heap.size [] := ⟨List.replicate 64 0, rfl, rfl, heap_alloc_new _ _⟩
  have hB : Below w.heap.size w (w1.alloc (.cells (rc hh (List.replicate 64 0) 0).toArray 61)) := hb.alloc hb.size _
  have hS := hb.size
  exact bodyPost_ret (v := .pointer (some ⟨w1.heap.size, 0, none⟩)) (by simp [results, Tryd.results38, go_sem]) rfl ⟨⟨w1.heap.size, rfl, hS, hR⟩, hB⟩
theorem run_make_u64 (w : World) (n : Nat) (h : n ≤ 281474976710656) :
    (Instr.makeSlice 41 (.int .u64 (n : Int)) (.int .u64 (n : Int))).run Tryd.prog w = .ok (.slice (some ⟨w.heap.size, 0, none⟩) n n) (w.alloc (.cells (bvs (List.replicate n 0)).toArray 5)) := by
  obtain ⟨i0, hi, hz0, hz1, hz2⟩ := info_parts u8_info
  have := run_make (P := Tryd.prog) w 41 5 i0 (.int .u8 0) Tryd.underlying41 hi hz0 .u64 .u64 (n : Int) (n : Int) (by omega) (by omega) (by rw [hz2]; omega) (by omega)
  rw [this, hz1, Int.toNat_natCast, Nat.mul_one, made_bytes]
set_option maxRecDepth 100000 in
theorem ending_any (n : Nat) (w : World) (hn : n ≤ 140737488355328) :
    Calls Tryd.prog 85 #[.int .u64 (n : Int)] w fun e w' => (∃ g k, e = .returned (.slice (some ⟨g, 0, none⟩) k k) ∧ k = (tail n).length ∧ w.heap.size ≤ g ∧ Row w' g (tail n)) ∧ Below w.heap.size w w' := by
  obtain ⟨q, hq⟩ : ∃ q, q = nought n := ⟨_, rfl⟩
  have hq2 := hq
  unfold nought at hq2
  have hq64 : q < 64 := by omega
  have ho : (IntKind.u64.wrap (55 - (n : Int))) % 64 = (q : Int) := by rw [IntKind.wrap_u64]; omega
  have hot : (IntKind.u64.wrap (55 - (n : Int))).tmod 64 = (q : Int) := by rw [Int.tmod_eq_emod_of_nonneg (by rw [IntKind.wrap_u64]; omega)]; exact ho
  obtain ⟨k, hk⟩ : ∃ k, k = q + 1 := ⟨_, rfl⟩
  have hw : IntKind.u64.wrap (1 + (q : Int)) = (k : Int) := by rw [IntKind.wrap_u64]; omega
  have hmk := run_make_u64 w k (by omega)
  have h8 : IntKind.u64.wrap (8 * (n : Int)) = ((8 * n : Nat) : Int) := by rw [IntKind.wrap_u64]; omega
  have HQ := hid hq
  have HK := hid hk
  have HN := hid hn
  have HQ64 := hid hq64
  clear hq hq2 hn hk hq64
  go_enter Tryd.func85, Tryd.ntmps85
  go_upto_region 3 with fail
  have HR : Hid (Row (w.alloc (.cells (bvs (List.replicate k 0)).toArray 5)) w.heap.size (List.replicate k 0)) := hid (heap_alloc_new _ _)
  have HB := hid ((Below.refl w.heap.size w).alloc (Nat.le_refl _) (.cells (bvs (List.replicate k 0)).toArray 5))
  generalize w.alloc (.cells (bvs (List.replicate k 0)).toArray 5) = w1 at *
  have hc := HR.out.cell 0 (by have := HK.out; simp; omega)
  have hf := HR.out.frozen 0
  have hk0 : 0 < k := by have := HK.out; omega
  have HR2 := hid (HR.out.set 0 128)
  have HB2 := hid (p := Below w.heap.size w (w1.setCell ⟨w.heap.size, 0, none⟩ (.int .u8 128))) (HB.out.setCell (Nat.le_refl _) _)
  go_upto_region 4 with fail
  have e0 : (((128 : UInt8).toNat : Nat) : Int) = 128 := rfl
  rw [e0] at HR2
  have hck := hid hc
  have hcf := hid hf
  clear hc hf
  generalize w1.setCell ⟨w.heap.size, 0, none⟩ (.int .u8 128) = w2 at *
  go_wp2_with fail
  have HLk := hid (show ((List.replicate k (0 : UInt8)).set 0 128).length = k by simp)
  have HTL := hid (show (List.replicate k (0 : UInt8)).set 0 128 ++ be (8 * n) 8 = tail n by
    rw [HK.out, HQ.out, List.replicate_succ, List.set_cons_zero, tail]; rfl)
  have hput := put_any (some ⟨w.heap.size, 0, none⟩) k (8 * n) 8 8 ((List.replicate k (0 : UInt8)).set 0 128) w2 HR2.out.rd0 (by rw [HLk.out]; have := HK.out; have := HQ64.out; omega) (by have := HN.out; omega) (by decide)
  rw [HLk.out, HTL.out] at hput
  refine hput.mono ?_
  rintro e w3 ⟨rfl, HR3, hb3⟩
  have hlen : k + 8 = (tail n).length := by rw [tail_length, HK.out, HQ.out]; omega
  have hB := HB2.out.trans (hb3.mono HB2.out.size)
  have hs := HB2.out.size
  go_wp2
  go_ret
  exact ⟨⟨w2.heap.size, (tail n).length, rfl, rfl, hs, HR3⟩, hB⟩
end Go.Proofs.YtikmhnlhaolbfaaDoor

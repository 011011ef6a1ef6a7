/-
  Blocks of numbers of 32 bits. Conditions: none.
-/
import Derived.Test.YtioebjbjpjbodaaWords
import Derived.Test.YtioebjbjpjbodaaSha
import Derived.Laws.BitsAllLaws
import Derived.Deep.MidRow
namespace Go.Proofs.Ytioebjbjpjbodaa
open Go.RowKit
set_option linter.unusedVariables false

/-- numbers as cells -/
def dv (l : List Nat) : List Value := l.map fun (d : Nat) => .int .u32 (d : Int)
/-- block g holds these numbers -/
def Us (w : World) (g : Nat) (t : TypeId) (l : List Nat) : Prop := w.heap[g]? = some (.cells (dv l).toArray t (0, 0))
theorem Us.lt {w : World} {g : Nat} {t : TypeId} {l : List Nat} (h : Us w g t l) : g < w.heap.size := lt_of_block h
theorem Us.cell {w : World} {g : Nat} {t : TypeId} {l : List Nat} (h : Us w g t l) (k : Nat) (hk : k < l.length) : w.cell? ⟨g, k, none⟩ = some (.int .u32 (at' l k : Nat)) := by
  rw [cell_of_row w g k _ t (0, 0) h]; simp [dv, hk, at']
theorem Us.frozen {w : World} {g : Nat} {t : TypeId} {l : List Nat} (h : Us w g t l) (i : Nat) : w.frozen? ⟨g, i, none⟩ = false := by
  unfold Us at h; simp [World.frozen?, h]
theorem Us.set {w : World} {g : Nat} {t : TypeId} {l : List Nat} (h : Us w g t l) (k v : Nat) : Us (w.setCell ⟨g, k, none⟩ (.int .u32 (v : Int))) g t (l.set k v) := by
  unfold Us at h ⊢; simp [World.setCell, Array.getElem?_modify, h, dv, List.map_set]
theorem Us.on {w w' : World} {g : Nat} {t : TypeId} {l : List Nat} (h : Us w g t l) (hb : Below w.heap.size w w') : Us w' g t l := (hb.block g h.lt).trans h
theorem Us.other {w : World} {g g' i : Nat} {t : TypeId} {l : List Nat} (h : Us w g t l) (v : Value) (hne : g ≠ g') : Us (w.setCell ⟨g', i, none⟩ v) g t l := (Below.heap_setCell w ⟨g', i, none⟩ v g hne).trans h
theorem Us.alloc {w : World} {g : Nat} {t : TypeId} {l : List Nat} (h : Us w g t l) (o : Obj) : Us (w.alloc o) g t l := (Below.heap_alloc w o g h.lt).trans h
theorem Us.drew {w : World} {g : Nat} {t : TypeId} {l : List Nat} (h : Us w g t l) : Us w.drew g t l := h
/-- bytes in a block of whatever type -/
def Bt (w : World) (g : Nat) (t : TypeId) (b : List UInt8) : Prop := w.heap[g]? = some (.cells (bvs b).toArray t (0, 0))
theorem Bt.lt {w : World} {g : Nat} {t : TypeId} {l : List UInt8} (h : Bt w g t l) : g < w.heap.size := lt_of_block h
theorem Bt.cell {w : World} {g : Nat} {t : TypeId} {l : List UInt8} (h : Bt w g t l) (k : Nat) (hk : k < l.length) : w.cell? ⟨g, k, none⟩ = some (.int .u8 ((l[k].toNat : Nat) : Int)) := by
  rw [cell_of_row w g k _ t (0, 0) h]; simp [bvs, hk]
theorem Bt.frozen {w : World} {g : Nat} {t : TypeId} {l : List UInt8} (h : Bt w g t l) (i : Nat) : w.frozen? ⟨g, i, none⟩ = false := by
  unfold Bt at h; simp [World.frozen?, h]
theorem Bt.on {w w' : World} {g : Nat} {t : TypeId} {l : List UInt8} (h : Bt w g t l) (hb : Below w.heap.size w w') : Bt w' g t l := (hb.block g h.lt).trans h
theorem Bt.other {w : World} {g g' i : Nat} {t : TypeId} {l : List UInt8} (h : Bt w g t l) (v : Value) (hne : g ≠ g') : Bt (w.setCell ⟨g', i, none⟩ v) g t l := (Below.heap_setCell w ⟨g', i, none⟩ v g hne).trans h
theorem Bt.alloc {w : World} {g : Nat} {t : TypeId} {l : List UInt8} (h : Bt w g t l) (o : Obj) : Bt (w.alloc o) g t l := (Below.heap_alloc w o g h.lt).trans h

/-- what bytes tell of number j when i of them have come -/
def part (b : List UInt8) (i j : Nat) : Nat := tell (((b.take i).drop (4 * j)).take 4)
end Go.Proofs.Ytioebjbjpjbodaa

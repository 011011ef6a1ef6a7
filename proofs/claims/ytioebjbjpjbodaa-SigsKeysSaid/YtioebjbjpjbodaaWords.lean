/-
  Words for memory: a slice that reads as bytes, a block that is known whole. Conditions: none.
-/
import Derived.Test.YtioebjbjpjbodaaRows
import Derived.Test.YtioebjbjpjbodaaPlain
import Derived.WalkKit
import Derived.Laws.CopyOwn
namespace Go.Proofs.Ytioebjbjpjbodaa
open Go.RowKit

theorem hid {p : Prop} (h : p) : Hid p := h

/-- a slice's address, and the bytes that lie there -/
def Rd (w : World) (A : Option Addr) (bs : List UInt8) : Prop :=
  0 < bs.length → ∃ g o, A = some ⟨g, o, none⟩ ∧ g < w.heap.size ∧ ∀ j, (h : j < bs.length) → w.cell? ⟨g, o + j, none⟩ = some (.int .u8 ((bs[j].toNat : Nat) : Int))

/-- bytes as cells -/
def bvs (bs : List UInt8) : List Value := bs.map fun b => .int .u8 ((b.toNat : Nat) : Int)
theorem bvs_length (bs : List UInt8) : (bvs bs).length = bs.length := by simp [bvs]
/-- block g is just these bytes, none of them frozen -/
def Row (w : World) (g : Nat) (bs : List UInt8) : Prop := w.heap[g]? = some (.cells (bvs bs).toArray 5 (0, 0))
theorem Row.lt {w : World} {g : Nat} {bs : List UInt8} (h : Row w g bs) : g < w.heap.size := by
  rcases Nat.lt_or_ge g w.heap.size with hlt | hge
  · exact hlt
  · unfold Row at h; rw [Array.getElem?_eq_none hge] at h; cases h
theorem Row.cell {w : World} {g : Nat} {bs : List UInt8} (h : Row w g bs) (i : Nat) (hi : i < bs.length) : w.cell? ⟨g, i, none⟩ = some (.int .u8 ((bs[i].toNat : Nat) : Int)) := by
  rw [cell_of_row w g i _ 5 (0, 0) h]
  simp [bvs, hi]
theorem Row.frozen {w : World} {g : Nat} {bs : List UInt8} (h : Row w g bs) (i : Nat) : w.frozen? ⟨g, i, none⟩ = false := by
  unfold Row at h
  simp [World.frozen?, h]
theorem Row.below {w w' : World} {g B : Nat} {bs : List UInt8} (h : Row w g bs) (hb : Below B w w') (hg : g < B) : Row w' g bs := (hb.block g hg).trans h

theorem Rd.below {w w' : World} {A : Option Addr} {bs : List UInt8} {B : Nat} (h : Rd w A bs) (hb : Below B w w') (hB : w.heap.size ≤ B) : Rd w' A bs := by
  intro hp
  obtain ⟨g, o, rfl, hg, hc⟩ := h hp
  exact ⟨g, o, rfl, Nat.lt_of_lt_of_le hg hb.size, fun j hj => (hb.cell (p := ⟨g, o + j, none⟩) (Nat.lt_of_lt_of_le hg hB)).trans (hc j hj)⟩
theorem add_plain (g o k : Nat) : (⟨g, o, none⟩ : Addr).add k = ⟨g, o + k, none⟩ := by
  unfold Addr.add
  by_cases h : k = 0
  · subst h; simp
  · simp [h]
theorem Rd.nil (w : World) (A : Option Addr) : Rd w A [] := fun h => absurd h (by simp)
theorem Rd.cells {w : World} {A : Option Addr} {bs : List UInt8} (h : Rd w A bs) (hp : 0 < bs.length) : ∃ ad, A = some ad ∧ ∀ j v, (bvs bs)[j]? = some v → w.cell? (ad.add j) = some v := by
  obtain ⟨g, o, rfl, hg, hc⟩ := h hp
  refine ⟨_, rfl, fun j v hv => ?_⟩
  have hj : j < bs.length := by
    rcases Nat.lt_or_ge j bs.length with h | h
    · exact h
    · rw [List.getElem?_eq_none (by rw [bvs_length]; exact h)] at hv; cases hv
  have := hc j hj
  simp [bvs, hj] at hv
  rw [add_plain, this, hv]
theorem Rd.take {w : World} {A : Option Addr} {bs : List UInt8} (h : Rd w A bs) (k : Nat) : Rd w A (bs.take k) := by
  intro hp
  obtain ⟨g, o, rfl, hg, hc⟩ := h (by simp at hp; omega)
  refine ⟨g, o, rfl, hg, fun j hj => ?_⟩
  have hj' : j < bs.length := by simp at hj; omega
  rw [hc j hj']
  simp

end Go.Proofs.Ytioebjbjpjbodaa

/-
  Words for memory: a slice that reads as bytes, a block that is known whole. Conditions: none.
-/
import Derived.Test.YtbloejlebikecaaGreatDoorRows
import Derived.Test.YtbloejlebikecaaGreatDoorPlain
import Derived.WalkKit
import Derived.Laws.CopyOwn
namespace Go.Proofs.YtbloejlebikecaaGreatDoor
open Go.RowKit

theorem hid {p : Prop} (h : p) : Hid p := h

/-- a slice's address, and the bytes that lie there -/
def Rd (w : World) (A : Option Addr) (bs : List UInt8) : Prop :=
  0 < bs.length → ∃ g o, A = some ⟨g, o, none⟩ ∧ g < w.heap.size ∧ ∀ j, (h : j < bs.length) → w.cell? ⟨g, o + j, none⟩ = some (.int .u8 ((bs[j].toNat : Nat) : Int))

/-- bytes as cells -/
def bvs (bs : List UInt8) : List Value := bs.map fun b => .int .u8 ((b.toNat : Nat) : Int)
theorem bvs_length (bs : List UInt8) : (bvs bs).length = bs.length := by simp [bvs]
theorem bvs_append (a b : List UInt8) : bvs (a ++ b) = bvs a ++ bvs b := by simp [bvs]
theorem bvs_take (a : List UInt8) (n : Nat) : bvs (a.take n) = (bvs a).take n := by simp [bvs, List.map_take]
theorem bvs_drop (a : List UInt8) (n : Nat) : bvs (a.drop n) = (bvs a).drop n := by simp [bvs, List.map_drop]
theorem bvs_one (bs : List UInt8) : ∀ v ∈ bvs bs, v.oneCell' = true := by
  intro v hv
  simp only [bvs, List.mem_map] at hv
  obtain ⟨b, _, rfl⟩ := hv
  rfl

/-- block g is just these bytes, none of them frozen -/
def Row (w : World) (g : Nat) (bs : List UInt8) : Prop := w.heap[g]? = some (.cells (bvs bs).toArray 5 (0, 0))
theorem Row.lt {w : World} {g : Nat} {bs : List UInt8} (h : Row w g bs) : g < w.heap.size := by
  rcases Nat.lt_or_ge g w.heap.size with hlt | hge
  · exact hlt
  · unfold Row at h; rw [Array.getElem?_eq_none hge] at h; cases h
theorem Row.cell {w : World} {g : Nat} {bs : List UInt8} (h : Row w g bs) (i : Nat) (hi : i < bs.length) : w.cell? ⟨g, i, none⟩ = some (.int .u8 ((bs[i].toNat : Nat) : Int)) := by
  rw [cell_of_row w g i _ 5 (0, 0) h]
  simp [bvs, hi]
theorem Row.frozen {w : World} {g : Nat} {bs : List UInt8} (h : Row w g bs) (i : Nat) : w.frozen? ⟨g, i, none⟩ = false := by
  unfold Row at h
  simp [World.frozen?, h]
theorem Row.below {w w' : World} {g B : Nat} {bs : List UInt8} (h : Row w g bs) (hb : Below B w w') (hg : g < B) : Row w' g bs := (hb.block g hg).trans h

/-- a part of such a block, as a slice -/
theorem Row.rd {w : World} {g : Nat} {bs : List UInt8} (h : Row w g bs) (o n : Nat) : Rd w (some ⟨g, o, none⟩) ((bs.drop o).take n) := by
  intro hp
  refine ⟨g, o, rfl, h.lt, fun j hj => ?_⟩
  have hj' : o + j < bs.length := by simp at hj; omega
  rw [h.cell _ hj']
  simp
theorem Row.rd0 {w : World} {g : Nat} {bs : List UInt8} (h : Row w g bs) : Rd w (some ⟨g, 0, none⟩) bs := by
  have := h.rd 0 bs.length
  simpa using this

theorem Rd.below {w w' : World} {A : Option Addr} {bs : List UInt8} {B : Nat} (h : Rd w A bs) (hb : Below B w w') (hB : w.heap.size ≤ B) : Rd w' A bs := by
  intro hp
  obtain ⟨g, o, rfl, hg, hc⟩ := h hp
  exact ⟨g, o, rfl, Nat.lt_of_lt_of_le hg hb.size, fun j hj => (hb.cell (p := ⟨g, o + j, none⟩) (Nat.lt_of_lt_of_le hg hB)).trans (hc j hj)⟩
theorem add_plain (g o k : Nat) : (⟨g, o, none⟩ : Addr).add k = ⟨g, o + k, none⟩ := by
  unfold Addr.add
  by_cases h : k = 0
  · subst h; simp
  · simp [h]
theorem Rd.nil (w : World) (A : Option Addr) : Rd w A [] := fun h => absurd h (by simp)
theorem Rd.cells {w : World} {A : Option Addr} {bs : List UInt8} (h : Rd w A bs) (hp : 0 < bs.length) : ∃ ad, A = some ad ∧ ∀ j v, (bvs bs)[j]? = some v → w.cell? (ad.add j) = some v := by
  obtain ⟨g, o, rfl, hg, hc⟩ := h hp
  refine ⟨_, rfl, fun j v hv => ?_⟩
  have hj : j < bs.length := by
    rcases Nat.lt_or_ge j bs.length with h | h
    · exact h
    · rw [List.getElem?_eq_none (by rw [bvs_length]; exact h)] at hv; cases hv
  have := hc j hj
  simp [bvs, hj] at hv
  rw [add_plain, this, hv]
theorem Rd.cut {w : World} {A : Option Addr} {bs : List UInt8} (h : Rd w A bs) (k : Nat) (A' : Option Addr) (hA : ∀ ad, A = some ad → k < bs.length → A' = some (ad.add k)) : Rd w A' (bs.drop k) := by
  intro hp
  have hk : k < bs.length := by simp at hp; omega
  obtain ⟨g, o, rfl, hg, hc⟩ := h (by omega)
  refine ⟨g, o + k, by rw [hA _ rfl hk, add_plain], hg, fun j hj => ?_⟩
  have hj' : k + j < bs.length := by simp at hj; omega
  rw [Nat.add_assoc, hc (k + j) hj']
  simp
theorem Rd.take {w : World} {A : Option Addr} {bs : List UInt8} (h : Rd w A bs) (k : Nat) : Rd w A (bs.take k) := by
  intro hp
  obtain ⟨g, o, rfl, hg, hc⟩ := h (by simp at hp; omega)
  refine ⟨g, o, rfl, hg, fun j hj => ?_⟩
  have hj' : j < bs.length := by simp at hj; omega
  rw [hc j hj']
  simp

theorem u8_info : (Tryz.prog.info? 5).map (fun i => (i.zero, i.size, i.bytes)) = some (some (.int .u8 0), 1, 1) := by kernel_rfl
theorem u8_size : (Tryz.prog.info? 5).map (·.size) = some 1 := by kernel_rfl
theorem made_bytes (n : Nat) : madeCells (Value.int .u8 0).cells n = (bvs (List.replicate n 0)).toArray := by
  have h := toList_madeCells_one (.int .u8 0) n
  have e : (Value.int .u8 0).cells = #[Value.int .u8 0] := rfl
  rw [e]
  apply Array.toList_inj.1
  rw [h]
  simp [bvs]

/-- make([]byte, n) -/
theorem run_make_bytes (w : World) (n : Nat) (h : n ≤ 281474976710656) :
    (Instr.makeSlice 27 (.int .i64 (n : Int)) (.int .i64 (n : Int))).run Tryz.prog w = .ok (.slice (some ⟨w.heap.size, 0, none⟩) n n) (w.alloc (.cells (bvs (List.replicate n 0)).toArray 5)) := by
  obtain ⟨i0, hi, hz0, hz1, hz2⟩ := info_parts u8_info
  have := run_make (P := Tryz.prog) w 27 5 i0 (.int .u8 0) Tryz.underlying27 hi hz0 .i64 .i64 (n : Int) (n : Int) (by omega) (by omega) (by rw [hz2]; omega) (by omega)
  rw [this, hz1, Int.toNat_natCast, Nat.mul_one, made_bytes]

end Go.Proofs.YtbloejlebikecaaGreatDoor

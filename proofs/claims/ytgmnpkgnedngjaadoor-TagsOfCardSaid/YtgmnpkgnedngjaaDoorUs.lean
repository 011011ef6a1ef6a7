/-
  Blocks of numbers of 32 bits. Conditions: none.
-/
import Derived.Test.YtgmnpkgnedngjaaDoorPkB
import Derived.Test.YtgmnpkgnedngjaaDoorPkA
import Derived.Laws.BitsAllLaws
import Derived.Deep.MidRow
namespace Go.Proofs.YtgmnpkgnedngjaaDoor
open Go.RowKit
set_option linter.unusedVariables false

/-- numbers as cells -/
def dv (l : List Nat) : List Value := l.map fun (d : Nat) => .int .u32 (d : Int)
theorem dv_length (l : List Nat) : (dv l).length = l.length := by simp [dv]
theorem dv_one (l : List Nat) : ∀ v ∈ dv l, v.oneCell' = true := by
  intro v hv
  simp only [dv, List.mem_map] at hv
  obtain ⟨b, _, rfl⟩ := hv
  rfl
/-- block g holds these numbers -/
def Us (w : World) (g : Nat) (t : TypeId) (l : List Nat) : Prop := w.heap[g]? = some (.cells (dv l).toArray t (0, 0))
theorem Us.lt {w : World} {g : Nat} {t : TypeId} {l : List Nat} (h : Us w g t l) : g < w.heap.size := lt_of_block h
theorem at_lt {l : List Nat} {k : Nat} (h : k < l.length) : at' l k = l[k] := by simp [at', h]
theorem Us.cell {w : World} {g : Nat} {t : TypeId} {l : List Nat} (h : Us w g t l) (k : Nat) (hk : k < l.length) : w.cell? ⟨g, k, none⟩ = some (.int .u32 (at' l k : Nat)) := by
  rw [cell_of_row w g k _ t (0, 0) h]; simp [dv, hk, at']
theorem Us.frozen {w : World} {g : Nat} {t : TypeId} {l : List Nat} (h : Us w g t l) (i : Nat) : w.frozen? ⟨g, i, none⟩ = false := by
  unfold Us at h; simp [World.frozen?, h]
theorem Us.set {w : World} {g : Nat} {t : TypeId} {l : List Nat} (h : Us w g t l) (k v : Nat) : Us (w.setCell ⟨g, k, none⟩ (.int .u32 (v : Int))) g t (l.set k v) := by
  unfold Us at h ⊢; simp [World.setCell, Array.getElem?_modify, h, dv, List.map_set]
theorem Us.on {w w' : World} {g : Nat} {t : TypeId} {l : List Nat} (h : Us w g t l) (hb : Below w.heap.size w w') : Us w' g t l := (hb.block g h.lt).trans h
theorem Us.other {w : World} {g g' i : Nat} {t : TypeId} {l : List Nat} (h : Us w g t l) (v : Value) (hne : g ≠ g') : Us (w.setCell ⟨g', i, none⟩ v) g t l := (Below.heap_setCell w ⟨g', i, none⟩ v g hne).trans h
theorem Us.alloc {w : World} {g : Nat} {t : TypeId} {l : List Nat} (h : Us w g t l) (o : Obj) : Us (w.alloc o) g t l := (Below.heap_alloc w o g h.lt).trans h
theorem Us.drew {w : World} {g : Nat} {t : TypeId} {l : List Nat} (h : Us w g t l) : Us w.drew g t l := h
theorem at_set (l : List Nat) (k v j : Nat) (hk : k < l.length) : at' (l.set k v) j = if j = k then v else at' l j := by
  unfold at'
  rw [List.getD_eq_getElem?_getD, List.getD_eq_getElem?_getD, List.getElem?_set]
  by_cases h : k = j
  · subst h; simp [hk]
  · rw [if_neg h, if_neg (fun e => h e.symm)]
theorem at_end (l : List Nat) (v j : Nat) : at' (l ++ [v]) j = if j = l.length then v else at' l j := by
  unfold at'
  rw [List.getD_eq_getElem?_getD, List.getD_eq_getElem?_getD]
  rcases Nat.lt_trichotomy j l.length with h | h | h
  · rw [List.getElem?_append_left h, if_neg (by omega)]
  · subst h; simp
  · rw [if_neg (by omega), List.getElem?_eq_none (by simp; omega), List.getElem?_eq_none (by omega)]
theorem at_none (l : List Nat) (j : Nat) (h : l.length ≤ j) : at' l j = 0 := by
  unfold at'; rw [List.getD_eq_getElem?_getD, List.getElem?_eq_none h]; rfl
theorem eq_of_at {l m : List Nat} (h : l.length = m.length) (he : ∀ j, j < l.length → at' l j = at' m j) : l = m := by
  apply List.ext_getElem h
  intro i h1 h2
  rw [← at_lt h1, ← at_lt h2]
  exact he i h1
/-- bytes in a block of whatever type -/
def Bt (w : World) (g : Nat) (t : TypeId) (b : List UInt8) : Prop := w.heap[g]? = some (.cells (bvs b).toArray t (0, 0))
theorem Bt.lt {w : World} {g : Nat} {t : TypeId} {l : List UInt8} (h : Bt w g t l) : g < w.heap.size := lt_of_block h
theorem Bt.cell {w : World} {g : Nat} {t : TypeId} {l : List UInt8} (h : Bt w g t l) (k : Nat) (hk : k < l.length) : w.cell? ⟨g, k, none⟩ = some (.int .u8 ((l[k].toNat : Nat) : Int)) := by
  rw [cell_of_row w g k _ t (0, 0) h]; simp [bvs, hk]
theorem Bt.frozen {w : World} {g : Nat} {t : TypeId} {l : List UInt8} (h : Bt w g t l) (i : Nat) : w.frozen? ⟨g, i, none⟩ = false := by
  unfold Bt at h; simp [World.frozen?, h]
theorem Bt.on {w w' : World} {g : Nat} {t : TypeId} {l : List UInt8} (h : Bt w g t l) (hb : Below w.heap.size w w') : Bt w' g t l := (hb.block g h.lt).trans h
theorem Bt.other {w : World} {g g' i : Nat} {t : TypeId} {l : List UInt8} (h : Bt w g t l) (v : Value) (hne : g ≠ g') : Bt (w.setCell ⟨g', i, none⟩ v) g t l := (Below.heap_setCell w ⟨g', i, none⟩ v g hne).trans h
theorem Bt.alloc {w : World} {g : Nat} {t : TypeId} {l : List UInt8} (h : Bt w g t l) (o : Obj) : Bt (w.alloc o) g t l := (Below.heap_alloc w o g h.lt).trans h

/-- what bytes tell of number j when i of them have come -/
def part (b : List UInt8) (i j : Nat) : Nat := tell (((b.take i).drop (4 * j)).take 4)
theorem part_none (b : List UInt8) (j : Nat) : part b 0 j = 0 := by simp [part, tell]
theorem part_lt (b : List UInt8) (i : Nat) : part b i (i / 4) < 16777216 := by
  unfold part
  refine Nat.lt_of_lt_of_le (tell_lt _) (Nat.le_trans (Nat.pow_le_pow_right (n := 256) (j := 3) (by decide) ?_) (by decide))
  simp; omega
theorem part_step (b : List UInt8) (i : Nat) (h : i < b.length) (j : Nat) : part b (i + 1) j = if j = i / 4 then part b i j * 256 + b[i].toNat else part b i j := by
  unfold part
  by_cases hj : j = i / 4
  · subst hj
    rw [if_pos rfl, ← tell_snoc, List.take_succ_eq_append_getElem h, List.drop_append_of_le_length (by simp; omega)]
    have e : ((b.take i).drop (4 * (i / 4))).length ≤ 3 := by simp; omega
    congr 1
    generalize (b.take i).drop (4 * (i / 4)) = x at e
    rw [List.take_of_length_le (by simp; omega), List.take_of_length_le (by omega)]
  · rw [if_neg hj]
    congr 1
    rcases Nat.lt_or_ge j (i / 4) with hl | hl
    · rw [List.take_succ_eq_append_getElem h, List.drop_append_of_le_length (by simp; omega), List.take_append_of_le_length (by simp; omega)]
    · rw [List.drop_eq_nil_of_le (by simp; omega), List.drop_eq_nil_of_le (by simp; omega)]
theorem own_at (b : List UInt8) (n j : Nat) (hj : j < n) : at' (own b n) j = tell ((b.drop (4 * j)).take 4) := by
  induction n with
  | zero => omega
  | succ n ih =>
    rw [own, at_end, own_length]
    by_cases h : j = n
    · subst h; rw [if_pos rfl]
    · rw [if_neg h]; exact ih (by omega)
theorem part_all (b : List UInt8) (h : b.length = 64) (j : Nat) : part b 64 j = at' (own b 16) j := by
  unfold part
  have e : b.take 64 = b := List.take_of_length_le (by omega)
  rw [e]
  rcases Nat.lt_or_ge j 16 with hj | hj
  · rw [own_at _ _ _ hj]
  · rw [at_none _ _ (by rw [own_length]; exact hj), List.drop_eq_nil_of_le (by omega)]; simp [tell]
theorem or_step (t x : Nat) (ht : t < 16777216) (hx : x < 256) : bits .or .u32 ((t : Int) * 256 % 4294967296) ((x : Int) % 4294967296) = ((t * 256 + x : Nat) : Int) := by
  have e : (t : Int) * 256 % 4294967296 = ((t * 256 : Nat) : Int) := by omega
  have e2 : (x : Int) % 4294967296 = (x : Int) := by omega
  rw [e, e2, u32_or_nat _ _ (by omega) (by omega)]
  congr 1
  have h := Nat.shiftLeft_add_eq_or_of_lt (b := x) (i := 8) (by omega) t
  have e8 : (2 : Nat) ^ 8 = 256 := by decide
  rw [Nat.shiftLeft_eq, e8] at h
  omega
end Go.Proofs.YtgmnpkgnedngjaaDoor

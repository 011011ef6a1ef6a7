/-
  A run of bytes, as it lies in memory: by which the whole blocks were taken in, the bytes behind these, their count. Conditions: none.
-/
import Derived.Test.YtbloejlebikecaaGreatDoorPkS
import Derived.Laws.AppendOwn
import Derived.OwnWalk
import Derived.Maps.AppendAt
namespace Go.Proofs.YtbloejlebikecaaGreatDoor
open Go.RowKit
set_option linter.unusedVariables false

/-- a run's cells -/
def rc (l : List Nat) (b : List UInt8) (n : Nat) : List Value := .bool true :: (dv l ++ (bvs b ++ [.int .u64 (n : Int)]))
theorem rc_length {l : List Nat} {b : List UInt8} (n : Nat) (hl : l.length = 8) (hb : b.length = 64) : (rc l b n).length = 74 := by simp [rc, dv, bvs, hl, hb]
/-- block g is a run that holds these -/
def Rn (w : World) (g : Nat) (l : List Nat) (b : List UInt8) (n : Nat) : Prop := w.heap[g]? = some (.cells (rc l b n).toArray 174 (0, 0))
theorem Rn.lt {w : World} {g n : Nat} {l : List Nat} {b : List UInt8} (h : Rn w g l b n) : g < w.heap.size := lt_of_block h
theorem Rn.at {w : World} {g n : Nat} {l : List Nat} {b : List UInt8} (h : Rn w g l b n) (j : Nat) : w.cell? ⟨g, j, none⟩ = (rc l b n)[j]? := by
  rw [cell_of_row w g j _ 174 (0, 0) h]; simp
theorem Rn.frozen {w : World} {g n : Nat} {l : List Nat} {b : List UInt8} (h : Rn w g l b n) (i : Nat) : w.frozen? ⟨g, i, none⟩ = false := by
  unfold Rn at h; simp [World.frozen?, h]
theorem Rn.made {w : World} {g n : Nat} {l : List Nat} {b : List UInt8} (h : Rn w g l b n) : w.cell? ⟨g, 0, none⟩ = some (.bool true) := h.at 0
theorem Rn.so {w : World} {g n : Nat} {l : List Nat} {b : List UInt8} (h : Rn w g l b n) : w.rangeAt g 1 (dv l) := by
  intro j v hv
  have hj : j < (dv l).length := by
    rcases Nat.lt_or_ge j (dv l).length with h | h
    · exact h
    · rw [List.getElem?_eq_none h] at hv; cases hv
  rw [h.at, Nat.add_comm, rc, List.getElem?_cons_succ, List.getElem?_append_left hj]; exact hv
theorem Rn.last {w : World} {g n : Nat} {l : List Nat} {b : List UInt8} (h : Rn w g l b n) (hl : l.length = 8) : w.rangeAt g 9 (bvs b) := by
  intro j v hv
  have hj : j < (bvs b).length := by
    rcases Nat.lt_or_ge j (bvs b).length with h | h
    · exact h
    · rw [List.getElem?_eq_none h] at hv; cases hv
  have e : (dv l).length = 8 := by rw [dv_length, hl]
  rw [h.at, show 9 + j = (8 + j) + 1 by omega, rc, List.getElem?_cons_succ, List.getElem?_append_right (by omega), e, show 8 + j - 8 = j by omega, List.getElem?_append_left hj]; exact hv
theorem Rn.count {w : World} {g n : Nat} {l : List Nat} {b : List UInt8} (h : Rn w g l b n) (hl : l.length = 8) (hb : b.length = 64) : w.cell? ⟨g, 73, none⟩ = some (.int .u64 (n : Int)) := by
  have e : (dv l).length = 8 := by rw [dv_length, hl]
  have e2 : (bvs b).length = 64 := by rw [bvs_length, hb]
  rw [h.at, show 73 = 72 + 1 by omega, rc, List.getElem?_cons_succ, List.getElem?_append_right (by omega), e, List.getElem?_append_right (by omega), e2]; rfl
theorem Rn.there {w : World} {g n : Nat} {l : List Nat} {b : List UInt8} (h : Rn w g l b n) (hl : l.length = 8) : w.there g 1 8 := by
  intro j hj
  refine ⟨?_, h.frozen _⟩
  have := h.so j ((dv l)[j]'(by rw [dv_length]; omega)) (by simp)
  rw [this]; rfl
theorem Rn.setCount {w : World} {g n : Nat} {l : List Nat} {b : List UInt8} (h : Rn w g l b n) (hl : l.length = 8) (hb : b.length = 64) (m : Nat) : Rn (w.setCell ⟨g, 73, none⟩ (.int .u64 (m : Int))) g l b m := by
  have e : ∀ x : Value, (rc l b n).set 73 x = .bool true :: (dv l ++ (bvs b ++ [x])) := by
    intro x
    have e1 : (dv l).length = 8 := by rw [dv_length, hl]
    have e2 : (bvs b).length = 64 := by rw [bvs_length, hb]
    rw [rc, show 73 = 72 + 1 by omega, List.set_cons_succ, List.set_append_right _ _ (by omega), e1, List.set_append_right _ _ (by omega), e2]; rfl
  unfold Rn at h ⊢
  simp only [World.setCell, Array.getElem?_modify, h, if_true, Option.map_some]
  rw [List.setIfInBounds_toArray, e]
  rfl
theorem set_mid {α : Type} (a c : List α) (x v : α) : (a ++ x :: c).set a.length v = a ++ v :: c := by
  rw [List.set_append_right _ _ (Nat.le_refl _), Nat.sub_self]; rfl
/-- cells of a block's middle, written one by one -/
theorem setCells_mid (g : Nat) (t : TypeId) : ∀ (vs old a c : List Value) (w : World), old.length = vs.length → w.heap[g]? = some (.cells (a ++ (old ++ c)).toArray t (0, 0)) →
    (w.setCells g a.length vs).heap[g]? = some (.cells (a ++ (vs ++ c)).toArray t (0, 0))
  | [], old, a, c, w, hl, h => by
    obtain rfl : old = [] := List.eq_nil_of_length_eq_zero hl
    exact h
  | v :: vs, [], a, c, w, hl, h => by cases hl
  | v :: vs, x :: old, a, c, w, hl, h => by
    have h1 : (w.setCell ⟨g, a.length, none⟩ v).heap[g]? = some (.cells ((a ++ [v]) ++ (old ++ c)).toArray t (0, 0)) := by
      simp only [World.setCell, Array.getElem?_modify, h, if_true, Option.map_some]
      simp
    have := setCells_mid g t vs old (a ++ [v]) c _ (by simpa using hl) h1
    rw [World.setCells]
    simpa using this
theorem setCells_other (g k : Nat) (hk : k ≠ g) : ∀ (vs : List Value) (o : Nat) (w : World), (w.setCells g o vs).heap[k]? = w.heap[k]?
  | [], _, _ => rfl
  | v :: vs, o, w => by rw [World.setCells, setCells_other g k hk vs, Below.heap_setCell w ⟨g, o, none⟩ v k hk]
theorem setCells_size (g : Nat) : ∀ (vs : List Value) (o : Nat) (w : World), (w.setCells g o vs).heap.size = w.heap.size
  | [], _, _ => rfl
  | v :: vs, o, w => by rw [World.setCells, setCells_size g vs]; simp
theorem setCells_rest (g : Nat) : ∀ (vs : List Value) (o : Nat) (w : World), (w.setCells g o vs).os = w.os ∧ (w.setCells g o vs).tape = w.tape ∧ (w.setCells g o vs).output = w.output
  | [], _, _ => ⟨rfl, rfl, rfl⟩
  | v :: vs, o, w => by rw [World.setCells]; exact setCells_rest g vs (o + 1) (w.setCell ⟨g, o, none⟩ v)
theorem Rn.setSo {w : World} {g n : Nat} {l m : List Nat} {b : List UInt8} (h : Rn w g l b n) (hl : l.length = m.length) : Rn (w.setCells g 1 (dv m)) g m b n :=
  setCells_mid g 174 (dv m) (dv l) [.bool true] _ w (by rw [dv_length, dv_length, hl]) h
theorem splice_mid {α : Type} (a b c p : List α) (o : Nat) (hp : o + p.length ≤ b.length) : splice (a ++ (b ++ c)) (a.length + o) p = a ++ (splice b o p ++ c) := by
  unfold splice
  rw [List.take_append, List.drop_append, List.take_of_length_le (show a.length ≤ a.length + o by omega), show a.length + o - a.length = o by omega, List.drop_eq_nil_of_le (show a.length ≤ a.length + o + p.length by omega),
    show a.length + o + p.length - a.length = o + p.length by omega, List.take_append_of_le_length (by omega), List.drop_append_of_le_length (by omega)]
  simp
theorem bvs_splice (b p : List UInt8) (o : Nat) : bvs (splice b o p) = splice (bvs b) o (bvs p) := by
  unfold splice; rw [bvs_append, bvs_append, bvs_take, bvs_drop, bvs_length]
theorem Rn.copy {w : World} {g n : Nat} {l : List Nat} {b : List UInt8} (h : Rn w g l b n) (hl : l.length = 8) (o : Nat) (p : List UInt8) (hp : o + p.length ≤ b.length) : Rn (w.setRow g (splice (rc l b n) (9 + o) (bvs p)).toArray) g l (splice b o p) n := by
  have e : splice (rc l b n) (9 + o) (bvs p) = rc l (splice b o p) n := by
    have := splice_mid (.bool true :: dv l) (bvs b) [.int .u64 (n : Int)] (bvs p) o (by rw [bvs_length, bvs_length]; exact hp)
    rw [List.length_cons, dv_length, hl] at this
    rw [rc, rc, bvs_splice]
    exact this
  rw [e]
  exact setRow_heap w g _ _ 174 (0, 0) h

/-- block g is a run of these bytes -/
def RunIs (w : World) (g : Nat) (bs : List UInt8) : Prop := ∃ b : List UInt8, b.length = 64 ∧ b.take (bs.length % 64) = bs.drop (64 * (bs.length / 64)) ∧ Rn w g (eat hh bs (bs.length / 64)) b bs.length
theorem RunIs.lt {w : World} {g : Nat} {bs : List UInt8} (h : RunIs w g bs) : g < w.heap.size := by obtain ⟨b, _, _, h⟩ := h; exact h.lt
theorem RunIs.heap {w w' : World} {g : Nat} {bs : List UInt8} (h : RunIs w g bs) (e : w'.heap[g]? = w.heap[g]?) : RunIs w' g bs := by
  obtain ⟨b, h1, h2, h3⟩ := h; exact ⟨b, h1, h2, e.trans h3⟩
theorem so_length (bs : List UInt8) (n : Nat) : (eat hh bs n).length = 8 := eat_length _ _ _ hh_length
theorem so_sm (bs : List UInt8) (n : Nat) : Sm (eat hh bs n) := eat_sm _ _ _ hh_sm
/-- some more bytes, the block not whole yet -/
theorem run_part (X p b : List UInt8) (hb : b.length = 64) (h : b.take (X.length % 64) = X.drop (64 * (X.length / 64))) (hp : X.length % 64 + p.length ≤ 64) (hz : (X.length + p.length) % 64 ≠ 0) :
    (splice b (X.length % 64) p).length = 64 ∧ (splice b (X.length % 64) p).take ((X ++ p).length % 64) = (X ++ p).drop (64 * ((X ++ p).length / 64)) ∧ eat hh (X ++ p) ((X ++ p).length / 64) = eat hh X (X.length / 64) := by
  have hq : (X ++ p).length / 64 = X.length / 64 := by rw [List.length_append]; omega
  have hr : (X ++ p).length % 64 = X.length % 64 + p.length := by rw [List.length_append]; omega
  refine ⟨by rw [length_splice _ _ _ (by omega), hb], ?_, ?_⟩
  · rw [hq, hr, List.drop_append_of_le_length (by omega), ← h, splice, ← List.append_assoc, List.take_append_of_le_length (by simp; omega), List.take_of_length_le (by simp; omega)]
  · rw [hq, eat_append _ _ _ _ (by omega)]
/-- some more bytes, by which the block gets whole -/
theorem run_whole (X p b : List UInt8) (hb : b.length = 64) (h : b.take (X.length % 64) = X.drop (64 * (X.length / 64))) (hp : X.length % 64 + p.length = 64) :
    (splice b (X.length % 64) p).length = 64 ∧ (splice b (X.length % 64) p).take ((X ++ p).length % 64) = (X ++ p).drop (64 * ((X ++ p).length / 64)) ∧ eat hh (X ++ p) ((X ++ p).length / 64) = comp (eat hh X (X.length / 64)) (splice b (X.length % 64) p) := by
  have hq : (X ++ p).length / 64 = X.length / 64 + 1 := by rw [List.length_append]; omega
  have hr : (X ++ p).length % 64 = 0 := by rw [List.length_append]; omega
  have hs : splice b (X.length % 64) p = X.drop (64 * (X.length / 64)) ++ p := by
    have e : b.drop (X.length % 64 + p.length) = [] := List.drop_eq_nil_of_le (by omega)
    rw [splice, h, e, List.append_nil]
  refine ⟨by rw [length_splice _ _ _ (by omega), hb], ?_, ?_⟩
  · rw [hr, List.take_zero, List.drop_eq_nil_of_le (by rw [hq, List.length_append]; omega)]
  · rw [hq, eat, eat_append _ _ _ _ (by omega), hs, List.drop_append_of_le_length (by omega), List.take_of_length_le (by simp; omega)]

theorem grown_of {w w' : World} (h : Below w.heap.size w w') (row : Option Nat) : w.grownBy w' row := ⟨h.os, h.tape, h.output, h.size, fun k hk _ => h.block k hk⟩
theorem grown_row {w wr : World} {g : Nat} (h : w.grownBy wr (some g)) (cs : Array Value) : w.grownBy (wr.setRow g cs) (some g) :=
  ⟨h.os, h.tape, h.output, by simpa [World.setRow] using h.size, fun k hk hn => (setRow_other wr g k cs (by intro e; exact hn (by rw [e]))).trans (h.block k hk hn)⟩
theorem grown_cell {w wr : World} {g i : Nat} (h : w.grownBy wr (some g)) (u : Value) : w.grownBy (wr.setCell ⟨g, i, none⟩ u) (some g) :=
  ⟨h.os, h.tape, h.output, by simpa using h.size, fun k hk hn => (Below.heap_setCell wr ⟨g, i, none⟩ u k (by intro e; exact hn (by rw [e]))).trans (h.block k hk hn)⟩
theorem grown_cells {w wr : World} {g i : Nat} (h : w.grownBy wr (some g)) (vs : List Value) : w.grownBy (wr.setCells g i vs) (some g) :=
  ⟨(setCells_rest g vs i wr).1.trans h.os, (setCells_rest g vs i wr).2.1.trans h.tape, (setCells_rest g vs i wr).2.2.trans h.output, by rw [setCells_size]; exact h.size, fun k hk hn => (setCells_other g k (by intro e; exact hn (by rw [e])) vs i wr).trans (h.block k hk hn)⟩
theorem grown_drew {w wr : World} {row : Option Nat} (h : w.grownBy wr row) : w.grownBy wr.drew row := ⟨h.os, h.tape, h.output, h.size, h.block⟩
theorem Kt.grown {w w' : World} {g : Nat} (h : Kt w) (hg : w.grownBy w' (some g)) (h3 : 0 ≠ g) : Kt w' := fun j hj => by
  have := hg.block 0 h.lt (by intro e; injection e with e; exact h3 e)
  rw [World.cell?_of_block (a := ⟨0, j, none⟩) this]; exact h j hj
theorem Rd.grown {w w' : World} {g : Nat} {A : Option Addr} {bs : List UInt8} (h : Rd w A bs) (hg : w.grownBy w' (some g)) (hA : ∀ ad, A = some ad → ad.block ≠ g) : Rd w' A bs := by
  intro hp
  obtain ⟨gp, o, rfl, hlt, hc⟩ := h hp
  have hne : gp ≠ g := hA _ rfl
  refine ⟨gp, o, rfl, Nat.lt_of_lt_of_le hlt hg.size, fun j hj => ?_⟩
  have := hg.block gp hlt (by intro e; injection e with e; exact hne e)
  rw [World.cell?_of_block (a := ⟨gp, o + j, none⟩) this]; exact hc j hj
end Go.Proofs.YtbloejlebikecaaGreatDoor

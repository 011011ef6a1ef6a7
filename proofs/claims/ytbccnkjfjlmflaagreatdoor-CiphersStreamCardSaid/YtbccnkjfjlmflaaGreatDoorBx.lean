/-
  Boxes of bytes that a call makes, side by side. Conditions: none.
-/
import Derived.Test.YtbccnkjfjlmflaaGreatDoorWords
import Derived.Laws.BitsAllLaws
import Derived.Test.YtbccnkjfjlmflaaGreatDoorAes
import Derived.BigQuiet
import Derived.Deep.MidRow
import Derived.Laws.CopyOwn
namespace Go.Proofs.YtbccnkjfjlmflaaGreatDoor
open Go.RowKit
set_option linter.unusedVariables false
set_option linter.unusedSimpArgs false

/-- bytes in a block of whatever type -/
def Bt (w : World) (g : Nat) (t : TypeId) (b : List UInt8) : Prop := w.heap[g]? = some (.cells (bvs b).toArray t (0, 0))
theorem Bt.lt {w : World} {g : Nat} {t : TypeId} {l : List UInt8} (h : Bt w g t l) : g < w.heap.size := lt_of_block h
theorem Bt.cell {w : World} {g : Nat} {t : TypeId} {l : List UInt8} (h : Bt w g t l) (k : Nat) (hk : k < l.length) : w.cell? ⟨g, k, none⟩ = some (.int .u8 ((l[k].toNat : Nat) : Int)) := by
  rw [cell_of_row w g k _ t (0, 0) h]; simp [bvs, hk]
theorem Bt.frozen {w : World} {g : Nat} {t : TypeId} {l : List UInt8} (h : Bt w g t l) (i : Nat) : w.frozen? ⟨g, i, none⟩ = false := by
  unfold Bt at h; simp [World.frozen?, h]
theorem Bt.on {w w' : World} {g : Nat} {t : TypeId} {l : List UInt8} (h : Bt w g t l) (hb : Below w.heap.size w w') : Bt w' g t l := (hb.block g h.lt).trans h
theorem Bt.other {w : World} {g g' i : Nat} {t : TypeId} {l : List UInt8} (h : Bt w g t l) (v : Value) (hne : g ≠ g') : Bt (w.setCell ⟨g', i, none⟩ v) g t l := (Below.heap_setCell w ⟨g', i, none⟩ v g hne).trans h
theorem Bt.alloc {w : World} {g : Nat} {t : TypeId} {l : List UInt8} (h : Bt w g t l) (o : Obj) : Bt (w.alloc o) g t l := (Below.heap_alloc w o g h.lt).trans h

theorem Bt.set {w : World} {g : Nat} {t : TypeId} {l : List UInt8} (h : Bt w g t l) (k : Nat) (b : UInt8) : Bt (w.setCell ⟨g, k, none⟩ (.int .u8 ((b.toNat : Nat) : Int))) g t (l.set k b) := by
  unfold Bt at h ⊢; simp [World.setCell, Array.getElem?_modify, h, bvs, List.map_set]
theorem Bt.row {w : World} {g : Nat} {t : TypeId} {l m : List UInt8} (h : Bt w g t l) : Bt (w.setRow g (bvs m).toArray) g t m := setRow_heap w g _ _ t (0, 0) h
theorem Bt.rowOther {w : World} {g g' : Nat} {t : TypeId} {l : List UInt8} (h : Bt w g t l) (cs : Array Value) (hne : g ≠ g') : Bt (w.setRow g' cs) g t l := (setRow_other w g' g cs hne).trans h
theorem gb_lt {l : List UInt8} {k : Nat} (h : k < l.length) : gb l k = l[k] := by simp [gb, h]
/-- a byte as a number, as a value -/
def iv (x : UInt8) : Int := ((x.toNat : Nat) : Int)
abbrev bv (x : UInt8) : Value := .int .u8 (iv x)
theorem iv_lt (x : UInt8) : iv x < 256 := by have := x.toNat_lt; unfold iv; omega
theorem iv_ge (x : UInt8) : 0 ≤ iv x := by unfold iv; omega
theorem iv_u (x : UInt8) : IntKind.u8.wrap (iv x) = iv x := by have := iv_lt x; have := iv_ge x; rw [IntKind.wrap_u8]; omega
theorem iv_of (n : Nat) (h : n < 256) : iv (UInt8.ofNat n) = (n : Int) := by unfold iv; rw [UInt8.toNat_ofNat_of_lt' h]
theorem iv_inj {a b : UInt8} (h : iv a = iv b) : a = b := by unfold iv at h; exact UInt8.toNat.inj (by omega)
theorem Bt.at_ {w : World} {g : Nat} {t : TypeId} {l : List UInt8} (h : Bt w g t l) (k : Nat) (hk : k < l.length) : w.cell? ⟨g, k, none⟩ = some (bv (gb l k)) := by
  rw [h.cell k hk, gb_lt hk]; rfl
theorem bsz (b : List UInt8) : (bvs b).toArray.size = b.length := by simp [bvs]
theorem ball (b : List UInt8) : (bvs b).toArray.all (·.oneCell') = true := all_oneCell_toArray (bvs_one b)
/-- a part of a list put elsewhere -/
def mid (l : List UInt8) (o : Nat) (m : List UInt8) : List UInt8 := l.take o ++ m ++ l.drop (o + m.length)
theorem mid_length (l : List UInt8) (o : Nat) (m : List UInt8) (h : o + m.length ≤ l.length) : (mid l o m).length = l.length := by simp [mid]; omega
theorem gb_mid (l : List UInt8) (o : Nat) (m : List UInt8) (h : o + m.length ≤ l.length) (k : Nat) : gb (mid l o m) k = if o ≤ k ∧ k < o + m.length then gb m (k - o) else gb l k := by
  unfold mid gb
  simp only [List.getD_eq_getElem?_getD]
  rcases Nat.lt_or_ge k o with h1 | h1
  · rw [if_neg (by omega), List.append_assoc, List.getElem?_append_left (by simp; omega), List.getElem?_take_of_lt h1]
  · rcases Nat.lt_or_ge k (o + m.length) with h2 | h2
    · rw [if_pos ⟨h1, h2⟩, List.getElem?_append_left (by simp; omega), List.getElem?_append_right (by simp; omega)]
      simp only [List.length_take]
      congr 2; omega
    · rw [if_neg (by omega), List.getElem?_append_right (by simp; omega)]
      simp only [List.length_append, List.length_take, List.getElem?_drop]
      congr 2; omega
theorem Bt.range {w : World} {g : Nat} {t : TypeId} {l : List UInt8} (h : Bt w g t l) (o n : Nat) (hn : o + n ≤ l.length) : w.rangeAt g o (bvs ((l.drop o).take n)) := by
  intro j v hv
  have hj : j < ((l.drop o).take n).length := by
    rcases Nat.lt_or_ge j ((l.drop o).take n).length with h | h
    · exact h
    · rw [List.getElem?_eq_none (by rw [bvs_length]; exact h)] at hv; cases hv
  have hj2 : j < n := by simp at hj; omega
  rw [h.cell (o + j) (by omega)]
  simp [bvs, hj2, show o + j < l.length by omega] at hv ⊢
  exact hv
theorem Bt.there {w : World} {g : Nat} {t : TypeId} {l : List UInt8} (h : Bt w g t l) (o n : Nat) (hn : o + n ≤ l.length) : w.there g o n := fun j hj => ⟨by rw [h.cell (o + j) (by omega)]; rfl, h.frozen _⟩
theorem mid_all (l m : List UInt8) (h : m.length = l.length) : mid l 0 m = m := by
  unfold mid
  rw [List.take_zero, List.nil_append, Nat.zero_add, h, List.drop_length, List.append_nil]
/-- a part of a block, loaded -/
theorem ld_mid {P : Program} {w : World} {g : Nat} {t : TypeId} {l : List UInt8} (h : Bt w g t l) (ty : TypeId) (d : TypeDesc) (hu : P.underlying ty = some d) (hd : d.isRow = true) (o n : Nat) (hn : o + n ≤ l.length) (hi : (P.info? ty).map (·.size) = some n) :
    (Instr.loadAt ty (.pointer (some ⟨g, o, none⟩))).run P w = .ok (.agg (bvs ((l.drop o).take n)).toArray) w :=
  run_loadAt_mid w g o ty _ d (h.range o n hn) hu hd (by rw [hi, bvs_length]; simp; omega)
theorem ld_all {P : Program} {w : World} {g : Nat} {t : TypeId} {l : List UInt8} (h : Bt w g t l) (ty : TypeId) (d : TypeDesc) (hu : P.underlying ty = some d) (hd : d.isRow = true) (n : Nat) (hn : l.length = n) (hi : (P.info? ty).map (·.size) = some n) :
    (Instr.loadAt ty (.pointer (some ⟨g, 0, none⟩))).run P w = .ok (.agg (bvs l).toArray) w := by
  have := ld_mid h ty d hu hd 0 n (by omega) hi
  rwa [List.drop_zero, List.take_of_length_le (by omega)] at this
/-- a part of a block, stored -/
theorem st_mid {P : Program} {w : World} {g : Nat} {t : TypeId} {l : List UInt8} (h : Bt w g t l) (ty : TypeId) (o : Nat) (m : List UInt8) (n : Nat) (hm : m.length = n) (hn : o + n ≤ l.length) (hi : (P.info? ty).map (·.size) = some n) :
    (Instr.storeAt ty (.pointer (some ⟨g, o, none⟩)) (.agg (bvs m).toArray)).run P w = .ok () (w.setRow g (bvs (mid l o m)).toArray) := by
  subst hm
  have h1 := run_storeCells_at P g o t (bvs m) 0 (bvs l).toArray w h (by rw [bsz, bvs_length]; omega) (bvs_one m)
  have e : ((bvs l).toArray.toList.take (o + 0) ++ bvs m ++ (bvs l).toArray.toList.drop (o + 0 + (bvs m).length)).toArray = (bvs (mid l o m)).toArray := by
    rw [mid, bvs_append, bvs_append, bvs_take, bvs_drop, bvs_length]; rfl
  rw [e] at h1
  cases hq : P.info? ty with
  | none => simp [hq] at hi
  | some i =>
    have hs : (bvs m).toArray.size = i.size := by rw [bsz]; simp [hq] at hi; omega
    have hs2 : (bvs m).length = i.size := by rw [bvs_length]; simp [hq] at hi; omega
    simp only [Instr.storeAt, Instr.sureAddr, Sem.run_bind, Sem.run_pure, Result.andThen_ok]
    simp [storeVar, sizeOf, typeInfo, hq, Value.cells, hs2, h1]
theorem st_all {P : Program} {w : World} {g : Nat} {t : TypeId} {l : List UInt8} (h : Bt w g t l) (ty : TypeId) (m : List UInt8) (n : Nat) (hm : m.length = n) (hn : l.length = n) (hi : (P.info? ty).map (·.size) = some n) :
    (Instr.storeAt ty (.pointer (some ⟨g, 0, none⟩)) (.agg (bvs m).toArray)).run P w = .ok () (w.setRow g (bvs m).toArray) := by
  have := st_mid h ty 0 m n hm (by omega) hi
  rwa [mid_all l m (by omega)] at this

/-- nothing that w had has changed; the boxes l, each made since, hold these bytes -/
structure Bx (w : World) (l : List (Nat × TypeId × List UInt8)) (w' : World) : Prop where
  below : Below w.heap.size w w'
  sep : l.Pairwise (fun x y => x.1 ≠ y.1)
  all : ∀ x ∈ l, w.heap.size ≤ x.1 ∧ Bt w' x.1 x.2.1 x.2.2
theorem xor_u8 (a b : UInt8) : bits .xor .u8 (iv a) (iv b) = iv (a ^^^ b) := by
  unfold iv
  rw [u8_xor_nat _ _ a.toNat_lt b.toNat_lt, UInt8.toNat_xor]
section
variable {w w' w2 : World} {l : List (Nat × TypeId × List UInt8)}
theorem Bx.nil (w : World) : Bx w [] w := ⟨Below.refl _ _, List.Pairwise.nil, fun x h => by cases h⟩
theorem Bx.on (h : Bx w l w') (hb : Below w'.heap.size w' w2) : Bx w l w2 := ⟨h.below.trans (hb.mono h.below.size), h.sep, fun x hx => ⟨(h.all x hx).1, (h.all x hx).2.on hb⟩⟩
theorem Bx.add (h : Bx w l w') (t : TypeId) (b : List UInt8) : Bx w ((w'.heap.size, t, b) :: l) (w'.alloc (.cells (bvs b).toArray t)) := by
  refine ⟨h.below.alloc h.below.size _, List.Pairwise.cons (fun y hy => ?_) h.sep, fun x hx => ?_⟩
  · have := (h.all y hy).2.lt
    show w'.heap.size ≠ y.1
    omega
  · rcases List.mem_cons.1 hx with rfl | hx
    · exact ⟨h.below.size, heap_alloc_new _ _⟩
    · exact ⟨(h.all x hx).1, (h.all x hx).2.alloc _⟩
theorem Bx.tail {x : Nat × TypeId × List UInt8} (h : Bx w (x :: l) w') : Bx w l w' := ⟨h.below, (List.pairwise_cons.1 h.sep).2, fun y hy => h.all y (List.mem_cons_of_mem _ hy)⟩
theorem Bx.drew (h : Bx w l w') : Bx w l w'.drew := ⟨h.below.drew, h.sep, h.all⟩
theorem Bx.drewN (h : Bx w l w') (n : Nat) : Bx w l (w'.drewN n) := ⟨h.below.trans ⟨rfl, rfl, rfl, Nat.le_refl _, fun _ _ => rfl⟩, h.sep, h.all⟩
theorem Bx.bt (h : Bx w l w') (n : Nat) {g : Nat} {t : TypeId} {b : List UInt8} (hn : l[n]? = some (g, t, b)) : Bt w' g t b := (h.all _ (List.mem_of_getElem? hn)).2
theorem Bx.ge (h : Bx w l w') (n : Nat) {g : Nat} {t : TypeId} {b : List UInt8} (hn : l[n]? = some (g, t, b)) : w.heap.size ≤ g := (h.all _ (List.mem_of_getElem? hn)).1
theorem Bx.cell (h : Bx w l w') (n : Nat) {g : Nat} {t : TypeId} {b : List UInt8} (hn : l[n]? = some (g, t, b)) (k : Nat) (hk : k < b.length) : w'.cell? ⟨g, k, none⟩ = some (bv (gb b k)) := (h.bt n hn).at_ k hk
theorem Bx.frozen (h : Bx w l w') (n : Nat) {g : Nat} {t : TypeId} {b : List UInt8} (hn : l[n]? = some (g, t, b)) (k : Nat) : w'.frozen? ⟨g, k, none⟩ = false := (h.bt n hn).frozen k
theorem bx_turn (h : Bx w l w') (n : Nat) {g : Nat} {t : TypeId} {b : List UInt8} (hn : l[n]? = some (g, t, b)) (b2 : List UInt8) (hb : Below w.heap.size w w2) (h1 : Bt w2 g t b2) (h2 : ∀ g' t' b', g' ≠ g → Bt w' g' t' b' → Bt w2 g' t' b') : Bx w (l.set n (g, t, b2)) w2 := by
  obtain ⟨hlt, hget⟩ := List.getElem?_eq_some_iff.1 hn
  refine ⟨hb, ?_, fun x hx => ?_⟩
  · rw [List.pairwise_iff_getElem]
    intro i j hi hj hij
    have hs := List.pairwise_iff_getElem.1 h.sep i j (by simpa using hi) (by simpa using hj) hij
    have e : ∀ i (hi : i < l.length), ((l.set n (g, t, b2))[i]'(by simpa using hi)).1 = l[i].1 := fun i hi => by
      rw [List.getElem_set]
      split
      · next h => subst h; rw [hget]
      · rfl
    rw [e i (by simpa using hi), e j (by simpa using hj)]
    exact hs
  · obtain ⟨i, hi, rfl⟩ := List.getElem_of_mem hx
    rw [List.getElem_set]
    split
    · exact ⟨h.ge n hn, h1⟩
    · next hne =>
      have hi' : i < l.length := by simpa using hi
      have hm := h.all l[i] (List.getElem_mem hi')
      refine ⟨hm.1, h2 _ _ _ ?_ hm.2⟩
      intro e
      rcases Nat.lt_or_gt_of_ne hne with hl | hl
      · have := List.pairwise_iff_getElem.1 h.sep n i hlt hi' hl
        rw [hget] at this; exact this e.symm
      · have := List.pairwise_iff_getElem.1 h.sep i n hi' hlt hl
        rw [hget] at this; exact this e
theorem Bx.set (h : Bx w l w') (n : Nat) {g : Nat} {t : TypeId} {b : List UInt8} (hn : l[n]? = some (g, t, b)) (k : Nat) (x : UInt8) : Bx w (l.set n (g, t, b.set k x)) (w'.setCell ⟨g, k, none⟩ (bv x)) :=
  bx_turn h n hn _ (h.below.setCell (h.ge n hn) _) ((h.bt n hn).set k x) (fun _ _ _ hne hb => hb.other _ hne)
theorem Bx.row (h : Bx w l w') (n : Nat) {g : Nat} {t : TypeId} {b : List UInt8} (hn : l[n]? = some (g, t, b)) (b2 : List UInt8) : Bx w (l.set n (g, t, b2)) (w'.setRow g (bvs b2).toArray) :=
  bx_turn h n hn _ (below_setRow h.below (h.ge n hn) _) (h.bt n hn).row (fun _ _ _ hne hb => hb.rowOther _ hne)
end
end Go.Proofs.YtbccnkjfjlmflaaGreatDoor

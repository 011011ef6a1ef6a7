/-
  Words for memory: a slice that reads as bytes, a block that is known whole. Conditions: none.
  A tag's text in plain words: digits of 16, pieces, what stands at which place, that it is read back, and how texts stand in order. Conditions: none.
  shas.turn, walked: bits moved round. Conditions: none.
-/
import Derived.Test.YtgmnpkgnedngjaaDoorRows
import Derived.Test.YtgmnpkgnedngjaaDoorPkA
import Derived.WalkKit
import Derived.Laws.CopyOwn
import Derived.Laws.Strings
import Derived.Laws.BitsAllLaws
namespace Go.Proofs.YtgmnpkgnedngjaaDoor
open Go.RowKit

theorem hid {p : Prop} (h : p) : Hid p := h

/-- a slice's address, and the bytes that lie there -/
def Rd (w : World) (A : Option Addr) (bs : List UInt8) : Prop :=
  0 < bs.length → ∃ g o, A = some ⟨g, o, none⟩ ∧ g < w.heap.size ∧ ∀ j, (h : j < bs.length) → w.cell? ⟨g, o + j, none⟩ = some (.int .u8 ((bs[j].toNat : Nat) : Int))

/-- bytes as cells -/
def bvs (bs : List UInt8) : List Value := bs.map fun b => .int .u8 ((b.toNat : Nat) : Int)
theorem bvs_length (bs : List UInt8) : (bvs bs).length = bs.length := by simp [bvs]
theorem bvs_append (a b : List UInt8) : bvs (a ++ b) = bvs a ++ bvs b := by simp [bvs]
theorem bvs_take (a : List UInt8) (n : Nat) : bvs (a.take n) = (bvs a).take n := by simp [bvs, List.map_take]
theorem bvs_drop (a : List UInt8) (n : Nat) : bvs (a.drop n) = (bvs a).drop n := by simp [bvs, List.map_drop]
theorem bvs_one (bs : List UInt8) : ∀ v ∈ bvs bs, v.oneCell' = true := by
  intro v hv
  simp only [bvs, List.mem_map] at hv
  obtain ⟨b, _, rfl⟩ := hv
  rfl

/-- block g is just these bytes, none of them frozen -/
def Row (w : World) (g : Nat) (bs : List UInt8) : Prop := w.heap[g]? = some (.cells (bvs bs).toArray 5 (0, 0))
theorem Row.lt {w : World} {g : Nat} {bs : List UInt8} (h : Row w g bs) : g < w.heap.size := by
  rcases Nat.lt_or_ge g w.heap.size with hlt | hge
  · exact hlt
  · unfold Row at h; rw [Array.getElem?_eq_none hge] at h; cases h
theorem Row.cell {w : World} {g : Nat} {bs : List UInt8} (h : Row w g bs) (i : Nat) (hi : i < bs.length) : w.cell? ⟨g, i, none⟩ = some (.int .u8 ((bs[i].toNat : Nat) : Int)) := by
  rw [cell_of_row w g i _ 5 (0, 0) h]
  simp [bvs, hi]
theorem Row.frozen {w : World} {g : Nat} {bs : List UInt8} (h : Row w g bs) (i : Nat) : w.frozen? ⟨g, i, none⟩ = false := by
  unfold Row at h
  simp [World.frozen?, h]
theorem Row.below {w w' : World} {g B : Nat} {bs : List UInt8} (h : Row w g bs) (hb : Below B w w') (hg : g < B) : Row w' g bs := (hb.block g hg).trans h

/-- a part of such a block, as a slice -/
theorem Row.rd {w : World} {g : Nat} {bs : List UInt8} (h : Row w g bs) (o n : Nat) : Rd w (some ⟨g, o, none⟩) ((bs.drop o).take n) := by
  intro hp
  refine ⟨g, o, rfl, h.lt, fun j hj => ?_⟩
  have hj' : o + j < bs.length := by simp at hj; omega
  rw [h.cell _ hj']
  simp
theorem Row.rd0 {w : World} {g : Nat} {bs : List UInt8} (h : Row w g bs) : Rd w (some ⟨g, 0, none⟩) bs := by
  have := h.rd 0 bs.length
  simpa using this

theorem Rd.below {w w' : World} {A : Option Addr} {bs : List UInt8} {B : Nat} (h : Rd w A bs) (hb : Below B w w') (hB : w.heap.size ≤ B) : Rd w' A bs := by
  intro hp
  obtain ⟨g, o, rfl, hg, hc⟩ := h hp
  exact ⟨g, o, rfl, Nat.lt_of_lt_of_le hg hb.size, fun j hj => (hb.cell (p := ⟨g, o + j, none⟩) (Nat.lt_of_lt_of_le hg hB)).trans (hc j hj)⟩
theorem add_plain (g o k : Nat) : (⟨g, o, none⟩ : Addr).add k = ⟨g, o + k, none⟩ := by
  unfold Addr.add
  by_cases h : k = 0
  · subst h; simp
  · simp [h]
theorem Rd.nil (w : World) (A : Option Addr) : Rd w A [] := fun h => absurd h (by simp)
theorem Rd.cells {w : World} {A : Option Addr} {bs : List UInt8} (h : Rd w A bs) (hp : 0 < bs.length) : ∃ ad, A = some ad ∧ ∀ j v, (bvs bs)[j]? = some v → w.cell? (ad.add j) = some v := by
  obtain ⟨g, o, rfl, hg, hc⟩ := h hp
  refine ⟨_, rfl, fun j v hv => ?_⟩
  have hj : j < bs.length := by
    rcases Nat.lt_or_ge j bs.length with h | h
    · exact h
    · rw [List.getElem?_eq_none (by rw [bvs_length]; exact h)] at hv; cases hv
  have := hc j hj
  simp [bvs, hj] at hv
  rw [add_plain, this, hv]
theorem Rd.cut {w : World} {A : Option Addr} {bs : List UInt8} (h : Rd w A bs) (k : Nat) (A' : Option Addr) (hA : ∀ ad, A = some ad → k < bs.length → A' = some (ad.add k)) : Rd w A' (bs.drop k) := by
  intro hp
  have hk : k < bs.length := by simp at hp; omega
  obtain ⟨g, o, rfl, hg, hc⟩ := h (by omega)
  refine ⟨g, o + k, by rw [hA _ rfl hk, add_plain], hg, fun j hj => ?_⟩
  have hj' : k + j < bs.length := by simp at hj; omega
  rw [Nat.add_assoc, hc (k + j) hj']
  simp
theorem Rd.take {w : World} {A : Option Addr} {bs : List UInt8} (h : Rd w A bs) (k : Nat) : Rd w A (bs.take k) := by
  intro hp
  obtain ⟨g, o, rfl, hg, hc⟩ := h (by simp at hp; omega)
  refine ⟨g, o, rfl, hg, fun j hj => ?_⟩
  have hj' : j < bs.length := by simp at hj; omega
  rw [hc j hj']
  simp

theorem u8_info : (Tryd.prog.info? 5).map (fun i => (i.zero, i.size, i.bytes)) = some (some (.int .u8 0), 1, 1) := by kernel_rfl
theorem u8_size : (Tryd.prog.info? 5).map (·.size) = some 1 := by kernel_rfl
theorem made_bytes (n : Nat) : madeCells (Value.int .u8 0).cells n = (bvs (List.replicate n 0)).toArray := by
  have h := toList_madeCells_one (.int .u8 0) n
  have e : (Value.int .u8 0).cells = #[Value.int .u8 0] := rfl
  rw [e]
  apply Array.toList_inj.1
  rw [h]
  simp [bvs]

/-- make([]byte, n) -/
theorem run_make_bytes (w : World) (n : Nat) (h : n ≤ 281474976710656) :
    (Instr.makeSlice 37 (.int .i64 (n : Int)) (.int .i64 (n : Int))).run Tryd.prog w = .ok (.slice (some ⟨w.heap.size, 0, none⟩) n n) (w.alloc (.cells (bvs (List.replicate n 0)).toArray 5)) := by
  obtain ⟨i0, hi, hz0, hz1, hz2⟩ := info_parts u8_info
  have := run_make (P := Tryd.prog) w 37 5 i0 (.int .u8 0) Tryd.underlying37 hi hz0 .i64 .i64 (n : Int) (n : Int) (by omega) (by omega) (by rw [hz2]; omega) (by omega)
  rw [this, hz1, Int.toNat_natCast, Nat.mul_one, made_bytes]

end Go.Proofs.YtgmnpkgnedngjaaDoor
namespace Go.Proofs.YtgmnpkgnedngjaaDoor
set_option linter.unusedVariables false
set_option linter.unusedSimpArgs false

/-- a digit's letter -/
def hx (n : Nat) : UInt8 := UInt8.ofNat (if n < 10 then 48 + n else 87 + n)
theorem hx_toNat (n : Nat) (h : n < 16) : (hx n).toNat = if n < 10 then 48 + n else 87 + n := by
  have : ∀ n, n < 16 → (hx n).toNat = if n < 10 then 48 + n else 87 + n := by decide
  exact this n h
theorem hx_inj {a b : Nat} (ha : a < 16) (hb : b < 16) (h : hx a = hx b) : a = b := by
  have := congrArg UInt8.toNat h
  rw [hx_toNat a ha, hx_toNat b hb] at this
  split at this <;> split at this <;> omega
theorem hx_lt {a b : Nat} (ha : a < 16) (hb : b < 16) : hx a < hx b ↔ a < b := by
  rw [UInt8.lt_iff_toNat_lt, hx_toNat a ha, hx_toNat b hb]
  split <;> split <;> omega
/-- the digit that a letter is -/
def dg (c : UInt8) : Option Nat := (List.range 16).find? fun i => hx i == c
theorem dg_hx {n : Nat} (h : n < 16) : dg (hx n) = some n := by
  have : ∀ n, n < 16 → dg (hx n) = some n := by decide
  exact this n h
theorem dg_some {c : UInt8} {n : Nat} (h : dg c = some n) : n < 16 ∧ hx n = c := by
  have h1 := List.mem_of_find?_eq_some h
  have h2 := List.find?_some h
  exact ⟨by simpa using h1, by simpa using h2⟩
/-- what is put for the byte x at place k -/
def pcs (k : Nat) (x : UInt8) : List UInt8 := (if 0 < k ∧ k % 2 = 0 then [58] else []) ++ [hx (x.toNat / 16), hx (x.toNat % 16)]
/-- the text of some bytes, the first of them at place k -/
def tz : Nat → List UInt8 → List UInt8
  | _, [] => []
  | k, x :: t => pcs k x ++ tz (k + 1) t
theorem tz_snoc (x : UInt8) : ∀ (l : List UInt8) (k : Nat), tz k (l ++ [x]) = tz k l ++ pcs (k + l.length) x
  | [], k => by simp [tz]
  | y :: l, k => by
    have := tz_snoc x l (k + 1)
    simp only [List.cons_append, tz, this, List.append_assoc, List.length_cons]
    rw [show k + 1 + l.length = k + (l.length + 1) by omega]
theorem tz_take (t : List UInt8) (i : Nat) (h : i < t.length) : tz 0 (t.take (i + 1)) = tz 0 (t.take i) ++ pcs i (t[i]) := by
  rw [List.take_succ_eq_append_getElem h, tz_snoc, List.length_take, show 0 + min i t.length = i by omega]
/-- a tag's text -/
def txt (t : List UInt8) : List UInt8 := tz 0 t
theorem byte_halves {x y : UInt8} (h1 : hx (x.toNat / 16) = hx (y.toNat / 16)) (h2 : hx (x.toNat % 16) = hx (y.toNat % 16)) : x = y := by
  have bx := UInt8.toNat_lt x
  have by' := UInt8.toNat_lt y
  have a := hx_inj (by omega) (by omega) h1
  have b := hx_inj (by omega) (by omega) h2
  apply UInt8.toNat_inj.1
  omega
theorem pcs_length (k : Nat) (x y : UInt8) : (pcs k x).length = (pcs k y).length := by simp [pcs]
theorem pcs_inj {k : Nat} {x y : UInt8} (h : pcs k x = pcs k y) : x = y := by
  have h := List.append_cancel_left h
  injection h with h1 h2
  injection h2 with h2 _
  exact byte_halves h1 h2
theorem tz_inj : ∀ (a b : List UInt8) (k : Nat), a.length = b.length → tz k a = tz k b → a = b
  | [], [], _, _, _ => rfl
  | [], _ :: _, _, h, _ => by simp at h
  | _ :: _, [], _, h, _ => by simp at h
  | x :: a, y :: b, k, h, e => by
    simp only [tz] at e
    obtain ⟨e1, e2⟩ := List.append_inj e (pcs_length k x y)
    rw [pcs_inj e1, tz_inj a b (k + 1) (by simpa using h) e2]
theorem txt_inj {a b : List UInt8} (h : a.length = b.length) (e : txt a = txt b) : a = b := tz_inj a b 0 h e
theorem list16 {t : List UInt8} (h : t.length = 16) : ∃ a0 a1 a2 a3 a4 a5 a6 a7 a8 a9 b0 b1 b2 b3 b4 b5, t = [a0, a1, a2, a3, a4, a5, a6, a7, a8, a9, b0, b1, b2, b3, b4, b5] := by
  match t, h with
  | [a0, a1, a2, a3, a4, a5, a6, a7, a8, a9, b0, b1, b2, b3, b4, b5], _ => exact ⟨_, _, _, _, _, _, _, _, _, _, _, _, _, _, _, _, rfl⟩
theorem txt_length {t : List UInt8} (h : t.length = 16) : (txt t).length = 39 := by
  obtain ⟨a0, a1, a2, a3, a4, a5, a6, a7, a8, a9, b0, b1, b2, b3, b4, b5, rfl⟩ := list16 h
  rfl
/-- where the digits of byte i stand -/
def plc (i : Nat) : Nat := 5 * (i / 2) + 2 * (i % 2)
theorem txt_at {t : List UInt8} (h : t.length = 16) (i : Nat) (hi : i < 16) : (txt t)[plc i]? = some (hx ((t.getD i 0).toNat / 16)) ∧ (txt t)[plc i + 1]? = some (hx ((t.getD i 0).toNat % 16)) := by
  obtain ⟨a0, a1, a2, a3, a4, a5, a6, a7, a8, a9, b0, b1, b2, b3, b4, b5, rfl⟩ := list16 h
  match i, hi with
  | 0, _ | 1, _ | 2, _ | 3, _ | 4, _ | 5, _ | 6, _ | 7, _ | 8, _ | 9, _ | 10, _ | 11, _ | 12, _ | 13, _ | 14, _ | 15, _ => exact ⟨rfl, rfl⟩
  | n + 16, h => exact absurd h (by omega)
theorem less_same : ∀ (p x y : List UInt8), Op.bytesLess (p ++ x) (p ++ y) = Op.bytesLess x y
  | [], _, _ => rfl
  | c :: p, x, y => by
    rw [List.cons_append, List.cons_append, Op.bytesLess, less_same p x y]
    simp
theorem less_pcs (k : Nat) (x y : UInt8) (X Y : List UInt8) : Op.bytesLess (pcs k x ++ X) (pcs k y ++ Y) = (decide (x < y) || (x == y && Op.bytesLess X Y)) := by
  have bx := UInt8.toNat_lt x
  have hy := UInt8.toNat_lt y
  rw [pcs, pcs, List.append_assoc, List.append_assoc, less_same]
  simp only [List.cons_append, List.nil_append, Op.bytesLess]
  have e1 : decide (hx (x.toNat / 16) < hx (y.toNat / 16)) = decide (x.toNat / 16 < y.toNat / 16) := decide_eq_decide.2 (hx_lt (by omega) (by omega))
  have e2 : decide (hx (x.toNat % 16) < hx (y.toNat % 16)) = decide (x.toNat % 16 < y.toNat % 16) := decide_eq_decide.2 (hx_lt (by omega) (by omega))
  have e3 : (hx (x.toNat / 16) == hx (y.toNat / 16)) = decide (x.toNat / 16 = y.toNat / 16) := by
    rw [Bool.eq_iff_iff, beq_iff_eq, decide_eq_true_iff]
    exact ⟨hx_inj (by omega) (by omega), fun e => by rw [e]⟩
  have e4 : (hx (x.toNat % 16) == hx (y.toNat % 16)) = decide (x.toNat % 16 = y.toNat % 16) := by
    rw [Bool.eq_iff_iff, beq_iff_eq, decide_eq_true_iff]
    exact ⟨hx_inj (by omega) (by omega), fun e => by rw [e]⟩
  have e5 : decide (x < y) = decide (x.toNat < y.toNat) := decide_eq_decide.2 UInt8.lt_iff_toNat_lt
  have e6 : (x == y) = decide (x.toNat = y.toNat) := by
    rw [Bool.eq_iff_iff, beq_iff_eq, decide_eq_true_iff]
    exact UInt8.toNat_inj.symm
  rw [e1, e2, e3, e4, e5, e6]
  cases Op.bytesLess X Y <;> (rw [Bool.eq_iff_iff]; simp only [Bool.or_eq_true, Bool.and_eq_true, decide_eq_true_iff, Bool.false_eq_true, and_false, or_false, and_true]; omega)
theorem less_tz : ∀ (a b : List UInt8) (k : Nat), a.length = b.length → Op.bytesLess (tz k a) (tz k b) = Op.bytesLess a b
  | [], [], _, _ => rfl
  | [], _ :: _, _, h => by simp at h
  | _ :: _, [], _, h => by simp at h
  | x :: a, y :: b, k, h => by
    rw [tz, tz, less_pcs, less_tz a b (k + 1) (by simpa using h), Op.bytesLess]
/-- texts stand in order as tags do -/
theorem less_txt {a b : List UInt8} (h : a.length = b.length) : Op.bytesLess (txt a) (txt b) = Op.bytesLess a b := less_tz a b 0 h
/-- how two tags stand -/
def cmpT (a b : List UInt8) : Int := if Op.bytesLess a b = true then -1 else if Op.bytesLess b a = true then 1 else 0
theorem less_self : ∀ (a : List UInt8), Op.bytesLess a a = false
  | [] => rfl
  | x :: a => by rw [Op.bytesLess, less_self a]; simp
theorem less_asym : ∀ (a b : List UInt8), Op.bytesLess a b = true → Op.bytesLess b a = false
  | [], [], _ => rfl
  | [], _ :: _, _ => rfl
  | _ :: _, [], h => by simp [Op.bytesLess] at h
  | x :: a, y :: b, h => by
    rw [Op.bytesLess] at h ⊢
    simp only [Bool.or_eq_true, Bool.and_eq_true, decide_eq_true_iff, beq_iff_eq] at h
    rcases h with h | ⟨rfl, h⟩
    · have h1 := UInt8.lt_iff_toNat_lt.1 h
      have h2 : ¬ y < x := fun h3 => by have := UInt8.lt_iff_toNat_lt.1 h3; omega
      have h4 : ¬ y = x := fun h3 => by rw [h3] at h1; omega
      simp [h2, h4]
    · rw [less_asym a b h]; simp
theorem less_tri : ∀ (a b : List UInt8), a.length = b.length → Op.bytesLess a b = false → Op.bytesLess b a = false → a = b
  | [], [], _, _, _ => rfl
  | [], _ :: _, h, _, _ => by simp at h
  | _ :: _, [], h, _, _ => by simp at h
  | x :: a, y :: b, hl, h1, h2 => by
    rw [Op.bytesLess] at h1 h2
    simp only [Bool.or_eq_false_iff, decide_eq_false_iff_not] at h1 h2
    have e : x = y := by
      have a1 := mt UInt8.lt_iff_toNat_lt.2 h1.1
      have a2 := mt UInt8.lt_iff_toNat_lt.2 h2.1
      exact UInt8.toNat_inj.1 (by omega)
    subst e
    simp at h1 h2
    rw [less_tri a b (by simpa using hl) h1 h2]
theorem cmpT_neg (a b : List UInt8) : cmpT b a = - cmpT a b := by
  unfold cmpT
  by_cases h1 : Op.bytesLess a b = true
  · have h2 := less_asym a b h1
    simp [h1, h2]
  · by_cases h2 : Op.bytesLess b a = true
    · simp [h1, h2]
    · simp [h1, h2]
theorem cmpT_zero {a b : List UInt8} (hl : a.length = b.length) : cmpT a b = 0 ↔ a = b := by
  constructor
  · intro h
    unfold cmpT at h
    by_cases h1 : Op.bytesLess a b = true
    · rw [if_pos h1] at h; exact absurd h (by decide)
    · rw [if_neg h1] at h
      by_cases h2 : Op.bytesLess b a = true
      · rw [if_pos h2] at h; exact absurd h (by decide)
      · exact less_tri a b hl (by simpa using h1) (by simpa using h2)
  · rintro rfl
    unfold cmpT
    rw [less_self]; rfl
theorem cmpT_lt (a b : List UInt8) : decide (cmpT a b < 0) = Op.bytesLess a b := by
  unfold cmpT
  by_cases h1 : Op.bytesLess a b = true
  · rw [if_pos h1, h1]; rfl
  · rw [if_neg h1, Bool.eq_false_iff.2 h1]
    by_cases h2 : Op.bytesLess b a = true
    · rw [if_pos h2]; rfl
    · rw [if_neg h2]; rfl
theorem cmpT_gt (a b : List UInt8) : decide (0 < cmpT a b) = Op.bytesLess b a := by
  rw [← cmpT_lt b a, cmpT_neg a b]
  exact decide_eq_decide.2 (by omega)
/-- two that part at i for the first time -/
theorem less_first {a b : List UInt8} (i : Nat) (ha : i < a.length) (hb : i < b.length) (ht : a.take i = b.take i) (h : a[i] < b[i]) : Op.bytesLess a b = true := by
  have e1 : a = a.take i ++ (a[i] :: a.drop (i + 1)) := by rw [List.getElem_cons_drop, List.take_append_drop]
  have e2 : b = a.take i ++ (b[i] :: b.drop (i + 1)) := by rw [ht, List.getElem_cons_drop, List.take_append_drop]
  rw [e1, e2, less_same, Op.bytesLess]
  have hx : ∀ (p : List UInt8) (c : UInt8) (q : List UInt8), (decide (c < c) : Bool) = false := fun _ c _ => by simp
  simp [h]
theorem cmpT_less {a b : List UInt8} (i : Nat) (ha : i < a.length) (hb : i < b.length) (ht : a.take i = b.take i) (h : a[i] < b[i]) : cmpT a b = -1 := by
  unfold cmpT; rw [if_pos (less_first i ha hb ht h)]
theorem cmpT_more {a b : List UInt8} (i : Nat) (ha : i < a.length) (hb : i < b.length) (ht : a.take i = b.take i) (h : b[i] < a[i]) : cmpT a b = 1 := by
  rw [cmpT_neg b a, cmpT_less i hb ha ht.symm h]; rfl
/-- that text is that tag's -/
def IsT (s t : List UInt8) : Prop := t.length = 16 ∧ txt t = s
theorem IsT.one {s t u : List UInt8} (h : IsT s t) (k : IsT s u) : t = u := txt_inj (h.1.trans k.1.symm) (h.2.trans k.2.symm)
theorem IsT.at {s t : List UInt8} (h : IsT s t) (i : Nat) (hi : i < 16) : dg (s.getD (plc i) 0) = some ((t.getD i 0).toNat / 16) ∧ dg (s.getD (plc i + 1) 0) = some ((t.getD i 0).toNat % 16) := by
  have hb := UInt8.toNat_lt (t.getD i 0)
  obtain ⟨h1, h2⟩ := txt_at h.1 i hi
  rw [h.2] at h1 h2
  have e1 : s.getD (plc i) 0 = hx ((t.getD i 0).toNat / 16) := by rw [List.getD_eq_getElem?_getD, h1]; rfl
  have e2 : s.getD (plc i + 1) 0 = hx ((t.getD i 0).toNat % 16) := by rw [List.getD_eq_getElem?_getD, h2]; rfl
  rw [e1, e2]
  exact ⟨dg_hx (by omega), dg_hx (by omega)⟩
end Go.Proofs.YtgmnpkgnedngjaaDoor
namespace Go.Proofs.YtgmnpkgnedngjaaDoor
open Go.RowKit
set_option linter.unusedVariables false

theorem rot_eq (x s : Nat) (hx : x < 4294967296) (hs : s < 32) : bits .or .u32 (IntKind.u32.wrap ((x : Int) * ((2 ^ s : Nat) : Int))) ((x : Int) / ((2 ^ (32 - s) : Nat) : Int)) = ((rot x (32 - s) : Nat) : Int) := by
  have e1 : IntKind.u32.wrap ((x : Int) * ((2 ^ s : Nat) : Int)) = ((x * 2 ^ s % 4294967296 : Nat) : Int) := by rw [IntKind.wrap_u32]; omega
  have e2 : (x : Int) / ((2 ^ (32 - s) : Nat) : Int) = ((x / 2 ^ (32 - s) : Nat) : Int) := by omega
  rw [e1, e2, u32_or_nat _ _ (Nat.mod_lt _ (by decide)) (dn_lt _ hx), rot, Nat.or_comm, show 32 - (32 - s) = s by omega]

theorem rotl_2 (x : Nat) (w : World) (hx : x < 4294967296) : Calls Tryd.prog 48 #[.int .u32 x, .int .i64 (-2)] w fun e w' => e = .returned (.int .u32 (rot x 2 : Nat)) ∧ w = w' := by
  have hb : bits BinOp.and IntKind.u64 (IntKind.u64.wrap (-2)) 31 = 30 := by decide +kernel
  go_enter Tryd.func48, Tryd.ntmps48
  go_wp2_with (simp only [hb])
  go_ret
  exact ⟨by rw [← rot_eq x 30 hx (by decide)]; rfl, rfl⟩
theorem turn_2 (x : Nat) (w : World) (hx : x < 4294967296) : Calls Tryd.prog 46 #[.int .u32 x, .int .i64 2] w fun e w' => e = .returned (.int .u32 (rot x 2 : Nat)) ∧ w = w' := by
  go_enter Tryd.func46, Tryd.ntmps46
  go_wp2_with fail
  refine (rotl_2 x w hx).mono ?_
  rintro e w1 ⟨rfl, rfl⟩
  go_wp2
  go_ret
  exact ⟨rfl, rfl⟩
theorem rotl_6 (x : Nat) (w : World) (hx : x < 4294967296) : Calls Tryd.prog 48 #[.int .u32 x, .int .i64 (-6)] w fun e w' => e = .returned (.int .u32 (rot x 6 : Nat)) ∧ w = w' := by
  have hb : bits BinOp.and IntKind.u64 (IntKind.u64.wrap (-6)) 31 = 26 := by decide +kernel
  go_enter Tryd.func48, Tryd.ntmps48
  go_wp2_with (simp only [hb])
  go_ret
  exact ⟨by rw [← rot_eq x 26 hx (by decide)]; rfl, rfl⟩
theorem turn_6 (x : Nat) (w : World) (hx : x < 4294967296) : Calls Tryd.prog 46 #[.int .u32 x, .int .i64 6] w fun e w' => e = .returned (.int .u32 (rot x 6 : Nat)) ∧ w = w' := by
  go_enter Tryd.func46, Tryd.ntmps46
  go_wp2_with fail
  refine (rotl_6 x w hx).mono ?_
  rintro e w1 ⟨rfl, rfl⟩
  go_wp2
  go_ret
  exact ⟨rfl, rfl⟩
theorem rotl_7 (x : Nat) (w : World) (hx : x < 4294967296) : Calls Tryd.prog 48 #[.int .u32 x, .int .i64 (-7)] w fun e w' => e = .returned (.int .u32 (rot x 7 : Nat)) ∧ w = w' := by
  have hb : bits BinOp.and IntKind.u64 (IntKind.u64.wrap (-7)) 31 = 25 := by decide +kernel
  go_enter Tryd.func48, Tryd.ntmps48
  go_wp2_with (simp only [hb])
  go_ret
  exact ⟨by rw [← rot_eq x 25 hx (by decide)]; rfl, rfl⟩
theorem turn_7 (x : Nat) (w : World) (hx : x < 4294967296) : Calls Tryd.prog 46 #[.int .u32 x, .int .i64 7] w fun e w' => e = .returned (.int .u32 (rot x 7 : Nat)) ∧ w = w' := by
  go_enter Tryd.func46, Tryd.ntmps46
  go_wp2_with fail
  refine (rotl_7 x w hx).mono ?_
  rintro e w1 ⟨rfl, rfl⟩
  go_wp2
  go_ret
  exact ⟨rfl, rfl⟩
theorem rotl_11 (x : Nat) (w : World) (hx : x < 4294967296) : Calls Tryd.prog 48 #[.int .u32 x, .int .i64 (-11)] w fun e w' => e = .returned (.int .u32 (rot x 11 : Nat)) ∧ w = w' := by
  have hb : bits BinOp.and IntKind.u64 (IntKind.u64.wrap (-11)) 31 = 21 := by decide +kernel
  go_enter Tryd.func48, Tryd.ntmps48
  go_wp2_with (simp only [hb])
  go_ret
  exact ⟨by rw [← rot_eq x 21 hx (by decide)]; rfl, rfl⟩
theorem turn_11 (x : Nat) (w : World) (hx : x < 4294967296) : Calls Tryd.prog 46 #[.int .u32 x, .int .i64 11] w fun e w' => e = .returned (.int .u32 (rot x 11 : Nat)) ∧ w = w' := by
  go_enter Tryd.func46, Tryd.ntmps46
  go_wp2_with fail
  refine (rotl_11 x w hx).mono ?_
  rintro e w1 ⟨rfl, rfl⟩
  go_wp2
  go_ret
  exact ⟨rfl, rfl⟩
theorem rotl_13 (x : Nat) (w : World) (hx : x < 4294967296) : Calls Tryd.prog 48 #[.int .u32 x, .int .i64 (-13)] w fun e w' => e = .returned (.int .u32 (rot x 13 : Nat)) ∧ w = w' := by
  have hb : bits BinOp.and IntKind.u64 (IntKind.u64.wrap (-13)) 31 = 19 := by decide +kernel
  go_enter Tryd.func48, Tryd.ntmps48
  go_wp2_with (simp only [hb])
  go_ret
  exact ⟨by rw [← rot_eq x 19 hx (by decide)]; rfl, rfl⟩
theorem turn_13 (x : Nat) (w : World) (hx : x < 4294967296) : Calls Tryd.prog 46 #[.int .u32 x, .int .i64 13] w fun e w' => e = .returned (.int .u32 (rot x 13 : Nat)) ∧ w = w' := by
  go_enter Tryd.func46, Tryd.ntmps46
  go_wp2_with fail
  refine (rotl_13 x w hx).mono ?_
  rintro e w1 ⟨rfl, rfl⟩
  go_wp2
  go_ret
  exact ⟨rfl, rfl⟩
theorem rotl_17 (x : Nat) (w : World) (hx : x < 4294967296) : Calls Tryd.prog 48 #[.int .u32 x, .int .i64 (-17)] w fun e w' => e = .returned (.int .u32 (rot x 17 : Nat)) ∧ w = w' := by
  have hb : bits BinOp.and IntKind.u64 (IntKind.u64.wrap (-17)) 31 = 15 := by decide +kernel
  go_enter Tryd.func48, Tryd.ntmps48
  go_wp2_with (simp only [hb])
  go_ret
  exact ⟨by rw [← rot_eq x 15 hx (by decide)]; rfl, rfl⟩
theorem turn_17 (x : Nat) (w : World) (hx : x < 4294967296) : Calls Tryd.prog 46 #[.int .u32 x, .int .i64 17] w fun e w' => e = .returned (.int .u32 (rot x 17 : Nat)) ∧ w = w' := by
  go_enter Tryd.func46, Tryd.ntmps46
  go_wp2_with fail
  refine (rotl_17 x w hx).mono ?_
  rintro e w1 ⟨rfl, rfl⟩
  go_wp2
  go_ret
  exact ⟨rfl, rfl⟩
theorem rotl_18 (x : Nat) (w : World) (hx : x < 4294967296) : Calls Tryd.prog 48 #[.int .u32 x, .int .i64 (-18)] w fun e w' => e = .returned (.int .u32 (rot x 18 : Nat)) ∧ w = w' := by
  have hb : bits BinOp.and IntKind.u64 (IntKind.u64.wrap (-18)) 31 = 14 := by decide +kernel
  go_enter Tryd.func48, Tryd.ntmps48
  go_wp2_with (simp only [hb])
  go_ret
  exact ⟨by rw [← rot_eq x 14 hx (by decide)]; rfl, rfl⟩
theorem turn_18 (x : Nat) (w : World) (hx : x < 4294967296) : Calls Tryd.prog 46 #[.int .u32 x, .int .i64 18] w fun e w' => e = .returned (.int .u32 (rot x 18 : Nat)) ∧ w = w' := by
  go_enter Tryd.func46, Tryd.ntmps46
  go_wp2_with fail
  refine (rotl_18 x w hx).mono ?_
  rintro e w1 ⟨rfl, rfl⟩
  go_wp2
  go_ret
  exact ⟨rfl, rfl⟩
theorem rotl_19 (x : Nat) (w : World) (hx : x < 4294967296) : Calls Tryd.prog 48 #[.int .u32 x, .int .i64 (-19)] w fun e w' => e = .returned (.int .u32 (rot x 19 : Nat)) ∧ w = w' := by
  have hb : bits BinOp.and IntKind.u64 (IntKind.u64.wrap (-19)) 31 = 13 := by decide +kernel
  go_enter Tryd.func48, Tryd.ntmps48
  go_wp2_with (simp only [hb])
  go_ret
  exact ⟨by rw [← rot_eq x 13 hx (by decide)]; rfl, rfl⟩
theorem turn_19 (x : Nat) (w : World) (hx : x < 4294967296) : Calls Tryd.prog 46 #[.int .u32 x, .int .i64 19] w fun e w' => e = .returned (.int .u32 (rot x 19 : Nat)) ∧ w = w' := by
  go_enter Tryd.func46, Tryd.ntmps46
  go_wp2_with fail
  refine (rotl_19 x w hx).mono ?_
  rintro e w1 ⟨rfl, rfl⟩
  go_wp2
  go_ret
  exact ⟨rfl, rfl⟩
theorem rotl_22 (x : Nat) (w : World) (hx : x < 4294967296) : Calls Tryd.prog 48 #[.int .u32 x, .int .i64 (-22)] w fun e w' => e = .returned (.int .u32 (rot x 22 : Nat)) ∧ w = w' := by
  have hb : bits BinOp.and IntKind.u64 (IntKind.u64.wrap (-22)) 31 = 10 := by decide +kernel
  go_enter Tryd.func48, Tryd.ntmps48
  go_wp2_with (simp only [hb])
  go_ret
  exact ⟨by rw [← rot_eq x 10 hx (by decide)]; rfl, rfl⟩
theorem turn_22 (x : Nat) (w : World) (hx : x < 4294967296) : Calls Tryd.prog 46 #[.int .u32 x, .int .i64 22] w fun e w' => e = .returned (.int .u32 (rot x 22 : Nat)) ∧ w = w' := by
  go_enter Tryd.func46, Tryd.ntmps46
  go_wp2_with fail
  refine (rotl_22 x w hx).mono ?_
  rintro e w1 ⟨rfl, rfl⟩
  go_wp2
  go_ret
  exact ⟨rfl, rfl⟩
theorem rotl_25 (x : Nat) (w : World) (hx : x < 4294967296) : Calls Tryd.prog 48 #[.int .u32 x, .int .i64 (-25)] w fun e w' => e = .returned (.int .u32 (rot x 25 : Nat)) ∧ w = w' := by
  have hb : bits BinOp.and IntKind.u64 (IntKind.u64.wrap (-25)) 31 = 7 := by decide +kernel
  go_enter Tryd.func48, Tryd.ntmps48
  go_wp2_with (simp only [hb])
  go_ret
  exact ⟨by rw [← rot_eq x 7 hx (by decide)]; rfl, rfl⟩
theorem turn_25 (x : Nat) (w : World) (hx : x < 4294967296) : Calls Tryd.prog 46 #[.int .u32 x, .int .i64 25] w fun e w' => e = .returned (.int .u32 (rot x 25 : Nat)) ∧ w = w' := by
  go_enter Tryd.func46, Tryd.ntmps46
  go_wp2_with fail
  refine (rotl_25 x w hx).mono ?_
  rintro e w1 ⟨rfl, rfl⟩
  go_wp2
  go_ret
  exact ⟨rfl, rfl⟩
end Go.Proofs.YtgmnpkgnedngjaaDoor

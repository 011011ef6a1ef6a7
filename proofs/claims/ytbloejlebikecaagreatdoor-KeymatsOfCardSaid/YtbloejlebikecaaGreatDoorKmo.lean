/-
  burrowlaw10.KeymatsOf: its callees' answers at whatever numbers; what is given, in a box; the Book beside other boxes. Conditions: the library's table holds what its text lays.
-/
import Derived.Test.YtbloejlebikecaaGreatDoorKmk
import Derived.Test.YtbloejlebikecaaGreatDoorKml
import Derived.Test.YtbloejlebikecaaGreatDoorKmd
import Derived.Test.YtbloejlebikecaaGreatDoorKmf
import Derived.Test.YtbloejlebikecaaGreatDoorTwin
import Derived.Test.YtbloejlebikecaaGreatDoorPkB
namespace Go.Proofs.YtbloejlebikecaaGreatDoor
open Go.RowKit
set_option linter.unusedVariables false
set_option linter.unusedSimpArgs false

/-- what is answered: the bytes, the keys -/
def ofE (z : Int) : Int := if z < 0 then 1 else if z > 8160 then 3 else 0
def ofB (H : List UInt8 → List UInt8) (z : Int) : List UInt8 := if z < 0 then [] else if z > 8160 then [] else mat H z.toNat
def cuE (n : Nat) (p : Int) : Int := if p < 0 then 1 else if (n : Int) < 48 * p + 48 then 5 else 0
def cuB (b : List UInt8) (n : Nat) (p : Int) : List UInt8 := if p < 0 then z48 else if (n : Int) < 48 * p + 48 then z48 else (b.drop (48 * p.toNat)).take 48
theorem cuB_length (b : List UInt8) (n : Nat) (p : Int) (hn : b.length = n) : (cuB b n p).length = 48 := by
  unfold cuB
  split
  · rfl
  · split
    · rfl
    · rw [List.length_take, List.length_drop]; omega
theorem ofx (n0 n1 n2 n3 : Nat) (id : List UInt8) (z : Int) (w : World) (h0 : n0 < 18446744073709551616) (h1 : n1 < 18446744073709551616) (h2 : n2 < 18446744073709551616) (h3 : n3 < 18446744073709551616) (hi : id.length = 32) (hK : Kt w) :
    Calls Tryz.prog 5 #[.agg #[.int .u64 (n0 : Int), .int .u64 (n1 : Int), .int .u64 (n2 : Int), .int .u64 (n3 : Int)], .agg (bvs id).toArray, .int .i64 z] w fun e w' => ∃ (g : Option Nat) (n : Nat), e = .returned (.tuple #[.slice (g.map fun g => ⟨g, 0, none⟩) n n, .int .i64 (ofE z)]) ∧
      Hid ((ofB (hm (kky n0 n1 n2 n3 id)) z).length = n ∧ n ≤ 8160 ∧ (g = none → n = 0) ∧ (∀ ga, g = some ga → Row w' ga (ofB (hm (kky n0 n1 n2 n3 id)) z) ∧ w.heap.size ≤ ga) ∧ Below w.heap.size w w') := by
  by_cases c1 : z < 0
  · refine (kmof_neg n0 n1 n2 n3 id z w c1).mono fun e w' ⟨he, hb⟩ => ⟨none, 0, ?_, hid ⟨by simp [ofB, c1], by omega, fun _ => rfl, fun _ h => (by cases h), hb⟩⟩
    rw [he]; simp [ofE, c1]
  by_cases c2 : z > 8160
  · refine (kmof_big n0 n1 n2 n3 id z w c1 c2).mono fun e w' ⟨he, hb⟩ => ⟨none, 0, ?_, hid ⟨by simp [ofB, c1, c2], by omega, fun _ => rfl, fun _ h => (by cases h), hb⟩⟩
    rw [he]; simp [ofE, c1, c2]
  obtain ⟨m, rfl⟩ := Int.eq_ofNat_of_zero_le (show 0 ≤ z by omega)
  refine (kmof_any n0 n1 n2 n3 id m w h0 h1 h2 h3 hi (by omega) hK).mono fun e w' ⟨g, he, hq⟩ => ⟨some g, m, ?_, hid ⟨?_, by omega, fun h => (by cases h), fun ga h => ?_, hq.out.2.2⟩⟩
  · rw [he]; simp only [ofE, c1, c2, if_false, Option.map]
  · simp only [ofB, c1, c2, if_false, Int.toNat_natCast]; exact mat_length _ (fun x => hm_length _ _) m
  · injection h with h; subst h
    refine ⟨?_, hq.out.2.1⟩
    simp only [ofB, c1, c2, if_false, Int.toNat_natCast]; exact hq.out.1
theorem rofx (n0 n1 n2 n3 : Nat) (id : List UInt8) (z : Int) (w : World) (h0 : n0 < 18446744073709551616) (h1 : n1 < 18446744073709551616) (h2 : n2 < 18446744073709551616) (h3 : n3 < 18446744073709551616) (hi : id.length = 32) :
    Calls Tryz.prog 6 #[.agg #[.int .u64 (n0 : Int), .int .u64 (n1 : Int), .int .u64 (n2 : Int), .int .u64 (n3 : Int)], .agg (bvs id).toArray, .int .i64 z] w fun e w' => ∃ (A : Option Addr) (n c : Nat), e = .returned (.tuple #[.slice A n c, .int .i64 (ofE z)]) ∧
      Hid ((ofB (hm (kky n0 n1 n2 n3 id)) z).length = n ∧ Rd w' A (ofB (hm (kky n0 n1 n2 n3 id)) z) ∧ Below w.heap.size w w') := by
  by_cases c1 : z < 0
  · refine (rkof_neg n0 n1 n2 n3 id z w c1).mono fun e w' ⟨he, hb⟩ => ⟨none, 0, 0, ?_, hid ⟨by simp [ofB, c1], by simp only [ofB, c1, if_true]; exact Rd.nil _ _, hb⟩⟩
    rw [he]; simp [ofE, c1]
  by_cases c2 : z > 8160
  · refine (rkof_big n0 n1 n2 n3 id z w c1 c2).mono fun e w' ⟨he, hb⟩ => ⟨none, 0, 0, ?_, hid ⟨by simp [ofB, c1, c2], by simp only [ofB, c1, c2, if_true, if_false]; exact Rd.nil _ _, hb⟩⟩
    rw [he]; simp [ofE, c1, c2]
  obtain ⟨m, rfl⟩ := Int.eq_ofNat_of_zero_le (show 0 ≤ z by omega)
  refine (rkof_any n0 n1 n2 n3 id m w h0 h1 h2 h3 hi (by omega)).mono fun e w' ⟨A, c, he, hq⟩ => ⟨A, m, c, ?_, hid ⟨?_, ?_, hq.out.2⟩⟩
  · rw [he]; simp only [ofE, c1, c2, if_false]
  · simp only [ofB, c1, c2, if_false, Int.toNat_natCast]; exact mat_length _ (fun x => hm_length _ _) m
  · simp only [ofB, c1, c2, if_false, Int.toNat_natCast]; exact hq.out.1
theorem cutx (A : Option Addr) (c n : Nat) (b : List UInt8) (p : Int) (w : World) (hn : b.length = n) (hr : Rd w A b) (hc : n ≤ c) (hlen : n ≤ 140737488355328) :
    Calls Tryz.prog 8 #[.slice A n c, .int .i64 p] w fun e w' => e = .returned (.tuple #[.agg (bvs (cuB b n p)).toArray, .int .i64 (cuE n p)]) ∧ Below w.heap.size w w' := by
  by_cases c1 : p < 0
  · refine (kcut_neg A c n p w c1).mono fun e w' ⟨he, hb⟩ => ⟨?_, hb⟩
    rw [he]; simp only [cuB, cuE, c1, if_true]
  by_cases c2 : (n : Int) < 48 * p + 48
  · refine (kcut_short A c n p w c1 hlen (by omega)).mono fun e w' ⟨he, hb⟩ => ⟨?_, hb⟩
    rw [he]; simp only [cuB, cuE, c1, c2, if_true, if_false]
  obtain ⟨q, rfl⟩ := Int.eq_ofNat_of_zero_le (show 0 ≤ p by omega)
  refine (kcut_any A c n b q w hn hr hc hlen (by omega)).mono fun e w' ⟨he, hb⟩ => ⟨?_, hb⟩
  rw [he]; simp only [cuB, cuE, c1, c2, if_false, Int.toNat_natCast]
theorem rcutx (A : Option Addr) (c n : Nat) (b : List UInt8) (p : Int) (w : World) (hn : b.length = n) (hr : Rd w A b) (hlen : n ≤ 140737488355328) :
    Calls Tryz.prog 9 #[.slice A n c, .int .i64 p] w fun e w' => e = .returned (.tuple #[.agg (bvs (cuB b n p)).toArray, .int .i64 (cuE n p)]) ∧ Below w.heap.size w w' := by
  by_cases c1 : p < 0
  · refine (rcut_neg A c n p w c1).mono fun e w' ⟨he, hb⟩ => ⟨?_, hb⟩
    rw [he]; simp only [cuB, cuE, c1, if_true]
  by_cases c2 : (n : Int) < 48 * p + 48
  · by_cases c3 : (n : Int) < p
    · refine (rcut_far A c n p w c1 c3).mono fun e w' ⟨he, hb⟩ => ⟨?_, hb⟩
      rw [he]; simp only [cuB, cuE, c1, c2, if_true, if_false]
    · refine (rcut_short A c n p w c1 c3 hlen c2).mono fun e w' ⟨he, hb⟩ => ⟨?_, hb⟩
      rw [he]; simp only [cuB, cuE, c1, c2, if_true, if_false]
  obtain ⟨q, rfl⟩ := Int.eq_ofNat_of_zero_le (show 0 ≤ p by omega)
  refine (rcut_any A c n b q w hn hr hlen (by omega)).mono fun e w' ⟨he, hb⟩ => ⟨?_, hb⟩
  rw [he]; simp only [cuB, cuE, c1, c2, if_false, Int.toNat_natCast]
/-- what is given, as cells; its box -/
def gvc (n0 n1 n2 n3 : Nat) (id : List UInt8) (z1 z2 : Int) (A : Option Addr) (l c : Nat) : Array Value := (([.int .u64 (n0 : Int), .int .u64 (n1 : Int), .int .u64 (n2 : Int), .int .u64 (n3 : Int)] : List Value) ++ bvs id ++ ([.int .i64 z1, .int .i64 z2, .slice A l c] : List Value)).toArray
section
variable {w : World} {g n0 n1 n2 n3 : Nat} {id : List UInt8} {z1 z2 : Int} {A : Option Addr} {l c : Nat}
theorem gv_num (h : w.heap[g]? = some (.cells (gvc n0 n1 n2 n3 id z1 z2 A l c) 29 (0, 0))) : (Instr.loadAt 24 (.pointer (some ⟨g, 0, none⟩))).run Tryz.prog w = .ok (.agg #[.int .u64 (n0 : Int), .int .u64 (n1 : Int), .int .u64 (n2 : Int), .int .u64 (n3 : Int)]) w := by
  refine run_loadAt_mid w g 0 24 [.int .u64 (n0 : Int), .int .u64 (n1 : Int), .int .u64 (n2 : Int), .int .u64 (n3 : Int)] _ (fun j v hv => ?_) Tryz.underlying24 rfl (by kernel_rfl)
  rw [cell_of_row w g (0 + j) _ 29 (0, 0) h, Nat.zero_add]
  have hj : j < 4 := by
    rcases Nat.lt_or_ge j 4 with h | h
    · exact h
    · rw [List.getElem?_eq_none (by simpa using h)] at hv; cases hv
  unfold gvc
  rw [List.getElem?_toArray, List.append_assoc, List.getElem?_append_left (by simpa using hj)]
  exact hv
theorem gv_id (hi : id.length = 32) (h : w.heap[g]? = some (.cells (gvc n0 n1 n2 n3 id z1 z2 A l c) 29 (0, 0))) : (Instr.loadAt 26 (.pointer (some ⟨g, 4, none⟩))).run Tryz.prog w = .ok (.agg (bvs id).toArray) w := by
  refine run_loadAt_mid w g 4 26 (bvs id) _ (fun j v hv => ?_) Tryz.underlying26 rfl (by rw [bvs_length, hi]; kernel_rfl)
  rw [cell_of_row w g (4 + j) _ 29 (0, 0) h]
  have hj : j < (bvs id).length := by
    rcases Nat.lt_or_ge j (bvs id).length with h | h
    · exact h
    · rw [List.getElem?_eq_none h] at hv; cases hv
  unfold gvc
  rw [List.getElem?_toArray, List.append_assoc, List.getElem?_append_right (by simp), List.getElem?_append_left (by simpa using hj)]
  simpa using hv
theorem gv_rest (hi : id.length = 32) (h : w.heap[g]? = some (.cells (gvc n0 n1 n2 n3 id z1 z2 A l c) 29 (0, 0))) : w.cell? ⟨g, 36, none⟩ = some (.int .i64 z1) ∧ w.cell? ⟨g, 37, none⟩ = some (.int .i64 z2) ∧ w.cell? ⟨g, 38, none⟩ = some (.slice A l c) := by
  have e : ∀ j, 36 ≤ j → (gvc n0 n1 n2 n3 id z1 z2 A l c)[j]? = ([.int .i64 z1, .int .i64 z2, .slice A l c] : List Value)[j - 36]? := fun j hj => by
    unfold gvc
    rw [List.getElem?_toArray, List.getElem?_append_right (by simp [bvs_length, hi]; omega)]
    congr 1
    simp [bvs_length, hi]
  refine ⟨?_, ?_, ?_⟩
  · rw [cell_of_row w g _ _ 29 (0, 0) h, e 36 (by decide)]; rfl
  · rw [cell_of_row w g _ _ 29 (0, 0) h, e 37 (by decide)]; rfl
  · rw [cell_of_row w g _ _ 29 (0, 0) h, e 38 (by decide)]; rfl
end
theorem same_x (A B : Option Addr) (c d n m : Nat) (bs : List UInt8) (w : World) (hl : bs.length = n) (hm : bs.length = m) (ha : Rd w A bs) (hb : Rd w B bs) (hn : n ≤ 281474976710656) :
    Calls Tryz.prog 11 #[.slice A n c, .slice B m d] w fun e w' => e = .returned (.bool true) ∧ ∃ k, w' = w.drewN k := same_at A B c d n m bs w hl hm ha hb hn
theorem twin_x (A : Option Addr) (c n : Nat) (bs : List UInt8) (w : World) (hl : bs.length = n) (hr : Rd w A bs) (hn : n ≤ 140737488351232) :
    Calls Tryz.prog 7 #[.slice A n c] w fun e w' => e = .returned (.slice (some ⟨w.heap.size, 0, none⟩) n (n + 1)) ∧ Row w' w.heap.size (bs ++ [77]) ∧ Below w.heap.size w w' := by
  subst hl; exact twin_any A c bs w hr hn
theorem left_x (B : Option Addr) (g d n : Nat) (bs : List UInt8) (w : World) (hl : bs.length = n) (hg : Row w g (bs ++ [77])) (hb : Rd w B bs) (hn : n ≤ 140737488351232) :
    Calls Tryz.prog 12 #[.slice (some ⟨g, 0, none⟩) n (n + 1), .slice B n d] w fun e w' => e = .returned (.bool true) ∧ ∃ k, w' = w.drewN k := by
  subst hl; exact left_any B g d bs w hg hb hn
theorem row_head' {w : World} {g : Nat} {bs : List UInt8} {x : UInt8} (h : Row w g (bs ++ [x])) : Rd w (some ⟨g, 0, none⟩) bs := by
  have := h.rd0.take bs.length
  rwa [List.take_left] at this
theorem ld_keys {w : World} {g : Nat} {l : List UInt8} (h : w.heap[g]? = some (.cells (bvs l).toArray 37 (0, 0))) (hl : l.length = 48) : (Instr.loadAt 37 (.pointer (some ⟨g, 0, none⟩))).run Tryz.prog w = .ok (.agg (bvs l).toArray) w :=
  ld_all (show Bt w g 37 l from h) 37 _ Tryz.underlying37 rfl 48 hl (by kernel_rfl)
end Go.Proofs.YtbloejlebikecaaGreatDoor

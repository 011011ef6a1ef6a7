/-
  burrowlaw08.lives, walked: it answers true. Condition: the library's table holds what its text lays.
-/
import Derived.Test.YtbloejlebikecaaGreatDoorMcd
import Derived.Test.YtbloejlebikecaaGreatDoorMce
import Derived.Test.YtbloejlebikecaaGreatDoorText
import Derived.Lib.SlBytesConst
namespace Go.Proofs.YtbloejlebikecaaGreatDoor
open Go.RowKit
set_option linter.unusedVariables false
set_option linter.unusedSimpArgs false

theorem jefe_in : sha (xr (kof [74, 101, 102, 101]) 54 ++ [119, 104, 97, 116, 32, 100, 111, 32, 121, 97, 32, 119, 97, 110, 116, 32, 102, 111, 114, 32, 110, 111, 116, 104, 105, 110, 103, 63]) = [162, 228, 133, 134, 61, 39, 249, 216, 100, 172, 141, 128, 36, 50, 161, 237, 71, 125, 140, 76, 111, 52, 157, 22, 212, 231, 233, 23, 198, 41, 202, 215] := by decide +kernel
theorem jefe_out : sha (xr (kof [74, 101, 102, 101]) 92 ++ [162, 228, 133, 134, 61, 39, 249, 216, 100, 172, 141, 128, 36, 50, 161, 237, 71, 125, 140, 76, 111, 52, 157, 22, 212, 231, 233, 23, 198, 41, 202, 215]) = [91, 220, 193, 70, 191, 96, 117, 78, 106, 4, 36, 38, 8, 149, 117, 199, 90, 0, 63, 8, 157, 39, 57, 131, 157, 236, 88, 185, 100, 236, 56, 67] := by decide +kernel
theorem jefe : hm [74, 101, 102, 101] [119, 104, 97, 116, 32, 100, 111, 32, 121, 97, 32, 119, 97, 110, 116, 32, 102, 111, 114, 32, 110, 111, 116, 104, 105, 110, 103, 63] = [91, 220, 193, 70, 191, 96, 117, 78, 106, 4, 36, 38, 8, 149, 117, 199, 90, 0, 63, 8, 157, 39, 57, 131, 157, 236, 88, 185, 100, 236, 56, 67] := by unfold hm; rw [jefe_in, jefe_out]
theorem hex_jefe : hexs [91, 220, 193, 70, 191, 96, 117, 78, 106, 4, 36, 38, 8, 149, 117, 199, 90, 0, 63, 8, 157, 39, 57, 131, 157, 236, 88, 185, 100, 236, 56, 67] 32 = { data := #[53, 98, 100, 99, 99, 49, 52, 54, 98, 102, 54, 48, 55, 53, 52, 101, 54, 97, 48, 52, 50, 52, 50, 54, 48, 56, 57, 53, 55, 53, 99, 55, 53, 97, 48, 48, 51, 102, 48, 56, 57, 100, 50, 55, 51, 57, 56, 51, 57, 100, 101, 99, 53, 56, 98, 57, 54, 52, 101, 99, 51, 56, 52, 51] } := by kernel_rfl
/-- three constant texts, and a list of the last two -/
theorem texts3 (w : World) (l1 l2 l3 : List UInt8) (f1 f2 f3 : Nat × Nat) (n2 n3 : Nat) (h2 : l2.length = n2) (h3 : l3.length = n3) (b2 : n2 ≤ 1048576) (b3 : n3 ≤ 1048576) :
    ∃ w4, w4 = (((w.alloc (.cells (bvs l1).toArray 5 f1)).alloc (.cells (bvs l2).toArray 5 f2)).alloc (.cells (bvs l3).toArray 5 f3)).alloc (.cells #[.slice (some ⟨w.heap.size + 1, 0, none⟩) n2 n2, .slice (some ⟨w.heap.size + 1 + 1, 0, none⟩) n3 n3] 27) ∧
      Hid (Below w.heap.size w w4) ∧ Hid (Rd w4 (some ⟨w.heap.size, 0, none⟩) l1) ∧
      Hid (Rws w4 (some ⟨w.heap.size + 1 + 1 + 1, 0, none⟩) 2 (fun r => if r = 0 then some ⟨w.heap.size + 1, 0, none⟩ else some ⟨w.heap.size + 1 + 1, 0, none⟩) (fun r => if r = 0 then n2 else n3) (fun r => if r = 0 then n2 else n3) (fun r => if r = 0 then l2 else l3)) := by
  refine ⟨_, rfl, ?_⟩
  have a1 : Below w.heap.size w (w.alloc (.cells (bvs l1).toArray 5 f1)) := (Below.refl _ _).alloc (Nat.le_refl _) _
  have r1 := rd_mark w l1 f1
  have s1 := al_size w (.cells (bvs l1).toArray 5 f1)
  generalize w.alloc (.cells (bvs l1).toArray 5 f1) = w1 at *
  have a2 : Below w1.heap.size w1 (w1.alloc (.cells (bvs l2).toArray 5 f2)) := (Below.refl _ _).alloc (Nat.le_refl _) _
  have r2 := rd_mark w1 l2 f2
  have s2 := al_size w1 (.cells (bvs l2).toArray 5 f2)
  generalize w1.alloc (.cells (bvs l2).toArray 5 f2) = w2 at *
  have a3 : Below w2.heap.size w2 (w2.alloc (.cells (bvs l3).toArray 5 f3)) := (Below.refl _ _).alloc (Nat.le_refl _) _
  have r3 := rd_mark w2 l3 f3
  have s3 := al_size w2 (.cells (bvs l3).toArray 5 f3)
  generalize w2.alloc (.cells (bvs l3).toArray 5 f3) = w3 at *
  rw [s1] at r2 s2
  rw [s2] at r3 s3
  generalize hob : (Obj.cells #[Value.slice (some ⟨w.heap.size + 1, 0, none⟩) n2 n2, Value.slice (some ⟨w.heap.size + 1 + 1, 0, none⟩) n3 n3] 27) = ob
  have a4 : Below w3.heap.size w3 (w3.alloc ob) := (Below.refl _ _).alloc (Nat.le_refl _) _
  have hn : (w3.alloc ob).heap[w3.heap.size]? = some ob := heap_alloc_new w3 ob
  generalize w3.alloc ob = w4 at *
  rw [s3] at hn
  subst hob
  have b1 := (a2.mono (by omega) : Below w.heap.size w1 w2)
  have b3' := (a3.mono (by omega) : Below w.heap.size w2 w3)
  have b4 := (a4.mono (by omega) : Below w.heap.size w3 w4)
  have c12 := Rd.below (Rd.below (Rd.below r1 a2 (Nat.le_refl _)) a3 (Nat.le_refl _)) a4 (Nat.le_refl _)
  have c2 := Rd.below (Rd.below r2 a3 (Nat.le_refl _)) a4 (Nat.le_refl _)
  have c3 := Rd.below r3 a4 (Nat.le_refl _)
  refine ⟨hid (((a1.trans b1).trans b3').trans b4), hid c12, hid fun r hr => ?_⟩
  rcases (show r = 0 ∨ r = 1 by omega) with rfl | rfl
  · exact ⟨⟨_, 0, rfl, lt_of_block hn, by rw [cell_of_row w4 _ _ _ 27 (0, 0) hn]; rfl⟩, h2, c2, Nat.le_refl _, (show n2 ≤ 140737488351232 by omega), fun h => by simp at h⟩
  · exact ⟨⟨_, 0, rfl, lt_of_block hn, by rw [cell_of_row w4 _ _ _ 27 (0, 0) hn]; rfl⟩, h3, c3, Nat.le_refl _, (show n3 ≤ 140737488351232 by omega), fun h => by simp at h⟩
/-- two constant texts -/
theorem texts2 (w : World) (l1 l2 : List UInt8) (f1 f2 : Nat × Nat) : ∃ w4, w4 = (w.alloc (.cells (bvs l1).toArray 5 f1)).alloc (.cells (bvs l2).toArray 5 f2) ∧ Hid (Below w.heap.size w w4) ∧ Hid (Rd w4 (some ⟨w.heap.size, 0, none⟩) l1) ∧ Hid (Rd w4 (some ⟨w.heap.size + 1, 0, none⟩) l2) := by
  refine ⟨_, rfl, ?_⟩
  have a1 : Below w.heap.size w (w.alloc (.cells (bvs l1).toArray 5 f1)) := (Below.refl _ _).alloc (Nat.le_refl _) _
  have r1 := rd_mark w l1 f1
  have s1 := al_size w (.cells (bvs l1).toArray 5 f1)
  generalize w.alloc (.cells (bvs l1).toArray 5 f1) = w1 at *
  have a2 : Below w1.heap.size w1 (w1.alloc (.cells (bvs l2).toArray 5 f2)) := (Below.refl _ _).alloc (Nat.le_refl _) _
  have r2 := rd_mark w1 l2 f2
  rw [s1] at r2
  exact ⟨hid (a1.trans (a2.mono (by omega))), hid (r1.below a2 (Nat.le_refl _)), hid r2⟩
theorem below_dN {B : Nat} {w w' : World} (h : Below B w w') (k : Nat) : Below B w (w'.drewN k) := by
  induction k with
  | zero => exact h
  | succ k ih => exact ih.drew
theorem conv_c (w : World) (C : Array Value) (n s : Nat) (h : w.heap.size = s) (hn : C.size = n) : (convert 27 27 (.slice (some ⟨s, 0, none⟩) n n)).run Tryz.prog (w.alloc (.cells C 5)) = .ok (.slice (some ⟨s, 0, none⟩) n n) (w.alloc (.cells C 5 (n, n + 1))) := by
  subst h; subst hn
  exact Lib.run_convert_bytes_const (P := Tryz.prog) w 27 5 C C.size C.size Tryz.underlying27 Tryz.underlying5
end Go.Proofs.YtbloejlebikecaaGreatDoor

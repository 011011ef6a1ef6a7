/-
  burrowlaw05.ShasNone, walked: it answers true. Conditions: none.
-/
import Derived.Test.YtikmhnlhaolbfaaDoorNone
import Derived.Test.YtikmhnlhaolbfaaDoorEqSum
import Derived.Test.YtikmhnlhaolbfaaDoorTk6
namespace Go.Proofs.YtikmhnlhaolbfaaDoor
open Go.RowKit
set_option linter.unusedVariables false
set_option linter.unusedSimpArgs false

/-- a run that no call made, and one that is not there, in a list -/
structure Nn (w w' : World) : Prop where
  below : Below w.heap.size w w'
  c0 : w'.cell? ⟨w.heap.size + 1, 0, none⟩ = some (.pointer none)
  c1 : w'.cell? ⟨w.heap.size + 1, 1, none⟩ = some (.pointer (some ⟨w.heap.size, 0, none⟩))
  z : w'.cell? ⟨w.heap.size, 0, none⟩ = some (.bool false)
theorem Nn.on {w w' w2 : World} (h : Nn w w') (hb : Below w'.heap.size w' w2) : Nn w w2 := by
  have h1 : w.heap.size + 1 < w'.heap.size := World.block_lt_of_cell? w' ⟨w.heap.size + 1, 0, none⟩ h.c0
  exact ⟨h.below.trans (hb.mono (by omega)), (hb.cell (p := ⟨w.heap.size + 1, 0, none⟩) h1).trans h.c0, (hb.cell (p := ⟨w.heap.size + 1, 1, none⟩) h1).trans h.c1, (hb.cell (p := ⟨w.heap.size, 0, none⟩) (show w.heap.size < _ by omega)).trans h.z⟩
theorem Nn.init (w : World) (t : TypeId) : Hid (Nn w ((w.alloc (.cells Tryd.zeroCells61 61)).alloc (.cells #[.pointer none, .pointer (some ⟨w.heap.size, 0, none⟩)] t))) := by
  have s1 : ∀ (w : World) (o : Obj), (w.alloc o).heap.size = w.heap.size + 1 := fun w o => Array.size_push _
  have h1 := heap_alloc_new (w.alloc (.cells Tryd.zeroCells61 61)) (.cells #[.pointer none, .pointer (some ⟨w.heap.size, 0, none⟩)] t)
  rw [s1] at h1
  refine hid ⟨((Below.refl _ _).alloc (Nat.le_refl _) _).alloc (by rw [s1]; omega) _, ?_, ?_, ?_⟩
  · rw [cell_of_row _ _ 0 _ t (0, 0) h1]; rfl
  · rw [cell_of_row _ _ 1 _ t (0, 0) h1]; rfl
  · rw [World.cell?_alloc_lt _ _ _ (by rw [s1]; exact Nat.lt_succ_self _), cell_of_row _ _ 0 _ 61 (0, 0) (heap_alloc_new w _)]; rfl
theorem eq_z (z : List UInt8) (hz : List.replicate 32 (0 : UInt8) = z) (w : World) : (Op.equalIn 10000 44 (.agg (bvs z).toArray) (.agg #[.int .u8 0, .int .u8 0, .int .u8 0, .int .u8 0, .int .u8 0, .int .u8 0, .int .u8 0, .int .u8 0, .int .u8 0, .int .u8 0, .int .u8 0, .int .u8 0, .int .u8 0, .int .u8 0, .int .u8 0, .int .u8 0, .int .u8 0, .int .u8 0, .int .u8 0, .int .u8 0, .int .u8 0, .int .u8 0, .int .u8 0, .int .u8 0, .int .u8 0, .int .u8 0, .int .u8 0, .int .u8 0, .int .u8 0, .int .u8 0, .int .u8 0, .int .u8 0])).run Tryd.prog w = .ok true w := by
  subst hz
  have h := eq_sum (List.replicate 32 0) (List.replicate 32 0) rfl rfl w
  have e : (bvs (List.replicate 32 0)).toArray = #[.int .u8 0, .int .u8 0, .int .u8 0, .int .u8 0, .int .u8 0, .int .u8 0, .int .u8 0, .int .u8 0, .int .u8 0, .int .u8 0, .int .u8 0, .int .u8 0, .int .u8 0, .int .u8 0, .int .u8 0, .int .u8 0, .int .u8 0, .int .u8 0, .int .u8 0, .int .u8 0, .int .u8 0, .int .u8 0, .int .u8 0, .int .u8 0, .int .u8 0, .int .u8 0, .int .u8 0, .int .u8 0, .int .u8 0, .int .u8 0, .int .u8 0, .int .u8 0] := rfl
  rw [e] at h ⊢
  rw [h]; simp
set_option maxRecDepth 100000 in
set_option maxHeartbeats 2000000 in
theorem none_law (A : Option Addr) (n c : Nat) (w : World) : Calls Tryd.prog 8 #[.slice A n c] w fun e w' => e = .returned (.bool true) ∧ Below w.heap.size w w' := by
  go_enter Tryd.func8, Tryd.ntmps8
  go_wp2_with fail
  have HT := Nn.init w 51
  generalize (w.alloc (.cells Tryd.zeroCells61 61)).alloc (.cells #[.pointer none, .pointer (some ⟨w.heap.size, 0, none⟩)] 51) = w0 at *
  go_loopw [4] (fun i wr => ∃ k : Nat, k ≤ 2 ∧ i = .int .i64 k ∧ Hid (Nn w wr)) (fun i _ => 2 - (intOf i).toNat)
  case atStart => exact ⟨0, by omega, rfl, HT⟩
  case round =>
    clear HT
    obtain ⟨k, hk, rfl, HT⟩ := hrel
    have hc0 := HT.out.c0
    have hc1 := HT.out.c1
    have hz0 := HT.out.z
    rcases (show k = 0 ∨ k = 1 ∨ k = 2 by omega) with rfl | rfl | rfl
    · go_wp2_with fail
      refine (write_none _ _ _ _).mono ?_
      rintro e wt ⟨rfl, rfl⟩
      go_wp2_with fail
      refine (sum_none _).mono ?_
      rintro e wt ⟨rfl, hb⟩
      have HT2 := hid (HT.out.on hb)
      clear hb HT
      generalize hz : List.replicate 32 (0 : UInt8) = z
      have he := eq_z z hz wt
      clear hz
      go_wp2
      go_roundw
      case rel => exact ⟨1, by omega, by go_num, HT2⟩
      case measure => simp [intOf]
    · go_wp2_with fail
      refine (write_zero _ _ _ _ _ hz0).mono ?_
      rintro e wt ⟨rfl, rfl⟩
      go_wp2_with fail
      refine (sum_zero _ _ hz0).mono ?_
      rintro e wt ⟨rfl, hb⟩
      have HT2 := hid (HT.out.on hb)
      clear hb HT
      generalize hz : List.replicate 32 (0 : UInt8) = z
      have he := eq_z z hz wt
      clear hz
      go_wp2
      go_roundw
      case rel => exact ⟨2, by omega, by go_num, HT2⟩
      case measure => simp [intOf]
    · go_wp2
      go_ret
      exact ⟨rfl, HT.out.below⟩
theorem none_at (A : Option Addr) (c : Nat) (bs : List UInt8) (n : Nat) (w : World) (_ : bs.length = n) (_ : Rd w A bs) (_ : n ≤ c) (_ : c ≤ 140737488351232) (_ : A = none → c = 0) (_ : Kt w) :
    Calls Tryd.prog 8 #[.slice A n c] w fun e w' => e = .returned (.bool true) ∧ Below w.heap.size w w' := none_law A n c w
end Go.Proofs.YtikmhnlhaolbfaaDoor

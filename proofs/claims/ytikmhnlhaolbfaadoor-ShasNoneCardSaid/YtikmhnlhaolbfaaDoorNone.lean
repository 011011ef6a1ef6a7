/-
  (*shas.Run).Sum and Write of a run that is not there, or that no call made, walked. Conditions: none.
-/
import Derived.Test.YtikmhnlhaolbfaaDoorNew
namespace Go.Proofs.YtikmhnlhaolbfaaDoor
open Go.RowKit
set_option linter.unusedVariables false
set_option linter.unusedSimpArgs false

/-- a run that no call made, or that is not there -/
theorem sum_none (w : World) : Calls Tryd.prog 40 #[.pointer none] w fun e w' => e = .returned (.agg (bvs (List.replicate 32 0)).toArray) ∧ Below w.heap.size w w' := by
  go_enter Tryd.func40, Tryd.ntmps40
  go_wp2_with fail
  have HZ1 : Hid (Bt (w.alloc (.cells #[.int .u8 0, .int .u8 0, .int .u8 0, .int .u8 0, .int .u8 0, .int .u8 0, .int .u8 0, .int .u8 0, .int .u8 0, .int .u8 0, .int .u8 0, .int .u8 0, .int .u8 0, .int .u8 0, .int .u8 0, .int .u8 0, .int .u8 0, .int .u8 0, .int .u8 0, .int .u8 0, .int .u8 0, .int .u8 0, .int .u8 0, .int .u8 0, .int .u8 0, .int .u8 0, .int .u8 0, .int .u8 0, .int .u8 0, .int .u8 0, .int .u8 0, .int .u8 0] 44)) w.heap.size 44 (List.replicate 32 0)) := hid (heap_alloc_new w _)
  have HB1 : Hid (Below w.heap.size w (w.alloc (.cells #[.int .u8 0, .int .u8 0, .int .u8 0, .int .u8 0, .int .u8 0, .int .u8 0, .int .u8 0, .int .u8 0, .int .u8 0, .int .u8 0, .int .u8 0, .int .u8 0, .int .u8 0, .int .u8 0, .int .u8 0, .int .u8 0, .int .u8 0, .int .u8 0, .int .u8 0, .int .u8 0, .int .u8 0, .int .u8 0, .int .u8 0, .int .u8 0, .int .u8 0, .int .u8 0, .int .u8 0, .int .u8 0, .int .u8 0, .int .u8 0, .int .u8 0, .int .u8 0] 44))) := hid ((Below.refl _ _).alloc (Nat.le_refl _) _)
  generalize w.alloc (.cells #[.int .u8 0, .int .u8 0, .int .u8 0, .int .u8 0, .int .u8 0, .int .u8 0, .int .u8 0, .int .u8 0, .int .u8 0, .int .u8 0, .int .u8 0, .int .u8 0, .int .u8 0, .int .u8 0, .int .u8 0, .int .u8 0, .int .u8 0, .int .u8 0, .int .u8 0, .int .u8 0, .int .u8 0, .int .u8 0, .int .u8 0, .int .u8 0, .int .u8 0, .int .u8 0, .int .u8 0, .int .u8 0, .int .u8 0, .int .u8 0, .int .u8 0, .int .u8 0] 44) = w1 at *
  have HZZ := HZ1.out
  unfold Bt at HZZ
  have HZZ := hid HZZ
  have HZR := hid (HZ1.out.row (m := List.replicate 32 0))
  have HBR := hid (p := Below w.heap.size w (w1.setRow w.heap.size (bvs (List.replicate 32 0)).toArray)) (below_setRow HB1.out (Nat.le_refl _) _)
  refine (there_none _).mono ?_
  rintro e wt ⟨rfl, rfl⟩
  go_wp2_with (refine wpList_store_row rfl 44 (.tmp 2) (.tmp 7) rfl w.heap.size (bvs (List.replicate 32 0)).toArray rfl rfl 44 _ HZZ.out (hi44 _ rfl).out rfl (bvs_all _) ?_)
  exact bodyPost_ret (v := .agg (bvs (List.replicate 32 0)).toArray) (results_cell_row (p := 2) (ty := 44) Tryd.results40 _ _ w.heap.size 44 (bvs (List.replicate 32 0)).toArray (0, 0) _ rfl HZR.out Tryd.underlying44 rfl (hi44 _ rfl).out) rfl ⟨rfl, HBR.out⟩
theorem sum_zero (g : Nat) (w : World) (h0 : w.cell? ⟨g, 0, none⟩ = some (.bool false)) : Calls Tryd.prog 40 #[.pointer (some ⟨g, 0, none⟩)] w fun e w' => e = .returned (.agg (bvs (List.replicate 32 0)).toArray) ∧ Below w.heap.size w w' := by
  have hlt : g < w.heap.size := World.block_lt_of_cell? w ⟨g, 0, none⟩ h0
  go_enter Tryd.func40, Tryd.ntmps40
  go_wp2_with fail
  have HZ1 : Hid (Bt (w.alloc (.cells #[.int .u8 0, .int .u8 0, .int .u8 0, .int .u8 0, .int .u8 0, .int .u8 0, .int .u8 0, .int .u8 0, .int .u8 0, .int .u8 0, .int .u8 0, .int .u8 0, .int .u8 0, .int .u8 0, .int .u8 0, .int .u8 0, .int .u8 0, .int .u8 0, .int .u8 0, .int .u8 0, .int .u8 0, .int .u8 0, .int .u8 0, .int .u8 0, .int .u8 0, .int .u8 0, .int .u8 0, .int .u8 0, .int .u8 0, .int .u8 0, .int .u8 0, .int .u8 0] 44)) w.heap.size 44 (List.replicate 32 0)) := hid (heap_alloc_new w _)
  have HB1 : Hid (Below w.heap.size w (w.alloc (.cells #[.int .u8 0, .int .u8 0, .int .u8 0, .int .u8 0, .int .u8 0, .int .u8 0, .int .u8 0, .int .u8 0, .int .u8 0, .int .u8 0, .int .u8 0, .int .u8 0, .int .u8 0, .int .u8 0, .int .u8 0, .int .u8 0, .int .u8 0, .int .u8 0, .int .u8 0, .int .u8 0, .int .u8 0, .int .u8 0, .int .u8 0, .int .u8 0, .int .u8 0, .int .u8 0, .int .u8 0, .int .u8 0, .int .u8 0, .int .u8 0, .int .u8 0, .int .u8 0] 44))) := hid ((Below.refl _ _).alloc (Nat.le_refl _) _)
  have HC0 := hid (show (w.alloc (.cells #[.int .u8 0, .int .u8 0, .int .u8 0, .int .u8 0, .int .u8 0, .int .u8 0, .int .u8 0, .int .u8 0, .int .u8 0, .int .u8 0, .int .u8 0, .int .u8 0, .int .u8 0, .int .u8 0, .int .u8 0, .int .u8 0, .int .u8 0, .int .u8 0, .int .u8 0, .int .u8 0, .int .u8 0, .int .u8 0, .int .u8 0, .int .u8 0, .int .u8 0, .int .u8 0, .int .u8 0, .int .u8 0, .int .u8 0, .int .u8 0, .int .u8 0, .int .u8 0] 44)).cell? ⟨g, 0, none⟩ = some (.bool false) by rw [World.cell?_alloc_lt _ _ _ hlt]; exact h0)
  clear h0 hlt
  generalize w.alloc (.cells #[.int .u8 0, .int .u8 0, .int .u8 0, .int .u8 0, .int .u8 0, .int .u8 0, .int .u8 0, .int .u8 0, .int .u8 0, .int .u8 0, .int .u8 0, .int .u8 0, .int .u8 0, .int .u8 0, .int .u8 0, .int .u8 0, .int .u8 0, .int .u8 0, .int .u8 0, .int .u8 0, .int .u8 0, .int .u8 0, .int .u8 0, .int .u8 0, .int .u8 0, .int .u8 0, .int .u8 0, .int .u8 0, .int .u8 0, .int .u8 0, .int .u8 0, .int .u8 0] 44) = w1 at *
  have HZZ := HZ1.out
  unfold Bt at HZZ
  have HZZ := hid HZZ
  have HZR := hid (HZ1.out.row (m := List.replicate 32 0))
  have HBR := hid (p := Below w.heap.size w (w1.setRow w.heap.size (bvs (List.replicate 32 0)).toArray)) (below_setRow HB1.out (Nat.le_refl _) _)
  refine (there_any g false _ HC0.out).mono ?_
  rintro e wt ⟨rfl, rfl⟩
  go_wp2_with (refine wpList_store_row rfl 44 (.tmp 2) (.tmp 7) rfl w.heap.size (bvs (List.replicate 32 0)).toArray rfl rfl 44 _ HZZ.out (hi44 _ rfl).out rfl (bvs_all _) ?_)
  exact bodyPost_ret (v := .agg (bvs (List.replicate 32 0)).toArray) (results_cell_row (p := 2) (ty := 44) Tryd.results40 _ _ w.heap.size 44 (bvs (List.replicate 32 0)).toArray (0, 0) _ rfl HZR.out Tryd.underlying44 rfl (hi44 _ rfl).out) rfl ⟨rfl, HBR.out⟩
theorem write_none (A : Option Addr) (n c : Nat) (w : World) : Calls Tryd.prog 39 #[.pointer none, .slice A n c] w fun e w' => e = .returned (.int .i64 2) ∧ w = w' := by
  go_enter Tryd.func39, Tryd.ntmps39
  go_wp2_with fail
  refine (there_none _).mono ?_
  rintro e wt ⟨rfl, rfl⟩
  go_wp2
  go_ret
  exact ⟨rfl, rfl⟩
theorem write_zero (g : Nat) (A : Option Addr) (n c : Nat) (w : World) (h0 : w.cell? ⟨g, 0, none⟩ = some (.bool false)) : Calls Tryd.prog 39 #[.pointer (some ⟨g, 0, none⟩), .slice A n c] w fun e w' => e = .returned (.int .i64 2) ∧ w = w' := by
  go_enter Tryd.func39, Tryd.ntmps39
  go_wp2_with fail
  refine (there_any g false _ h0).mono ?_
  rintro e wt ⟨rfl, rfl⟩
  go_wp2
  go_ret
  exact ⟨rfl, rfl⟩
end Go.Proofs.YtikmhnlhaolbfaaDoor

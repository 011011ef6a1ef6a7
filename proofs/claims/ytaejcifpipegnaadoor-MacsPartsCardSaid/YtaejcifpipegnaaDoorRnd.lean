/-
  burrowref05.round, table, walked: the document's own. Conditions: none.
-/
import Derived.Test.YtaejcifpipegnaaDoorTake
import Derived.Test.YtaejcifpipegnaaDoorOrd
namespace Go.Proofs.YtaejcifpipegnaaDoor
open Go.RowKit
set_option linter.unusedVariables false
set_option linter.unusedSimpArgs false

theorem rot_eq2 (x n : Nat) (hx : x < 4294967296) : bits .or .u32 ((x : Int) / ((2 ^ n : Nat) : Int)) (IntKind.u32.wrap ((x : Int) * ((2 ^ (32 - n) : Nat) : Int))) = ((rot x n : Nat) : Int) := by
  have e1 : IntKind.u32.wrap ((x : Int) * ((2 ^ (32 - n) : Nat) : Int)) = ((x * 2 ^ (32 - n) % 4294967296 : Nat) : Int) := by rw [IntKind.wrap_u32]; omega
  have e2 : (x : Int) / ((2 ^ n : Nat) : Int) = ((x / 2 ^ n : Nat) : Int) := by omega
  rw [e1, e2, u32_or_nat _ _ (dn_lt _ hx) (Nat.mod_lt _ (by decide)), rot]

theorem round_2 (x : Nat) (w : World) (hx : x < 4294967296) : Calls Tryd.prog 36 #[.int .u32 x, .int .u64 2] w fun e w' => e = .returned (.int .u32 (rot x 2 : Nat)) ∧ w = w' := by
  have hb : IntKind.u64.wrap (32 - 2) = 30 := by decide +kernel
  go_enter Tryd.func36, Tryd.ntmps36
  go_wp2
  go_ret
  exact ⟨by rw [← rot_eq2 x 2 hx]; rfl, rfl⟩
theorem round_6 (x : Nat) (w : World) (hx : x < 4294967296) : Calls Tryd.prog 36 #[.int .u32 x, .int .u64 6] w fun e w' => e = .returned (.int .u32 (rot x 6 : Nat)) ∧ w = w' := by
  have hb : IntKind.u64.wrap (32 - 6) = 26 := by decide +kernel
  go_enter Tryd.func36, Tryd.ntmps36
  go_wp2
  go_ret
  exact ⟨by rw [← rot_eq2 x 6 hx]; rfl, rfl⟩
theorem round_7 (x : Nat) (w : World) (hx : x < 4294967296) : Calls Tryd.prog 36 #[.int .u32 x, .int .u64 7] w fun e w' => e = .returned (.int .u32 (rot x 7 : Nat)) ∧ w = w' := by
  have hb : IntKind.u64.wrap (32 - 7) = 25 := by decide +kernel
  go_enter Tryd.func36, Tryd.ntmps36
  go_wp2
  go_ret
  exact ⟨by rw [← rot_eq2 x 7 hx]; rfl, rfl⟩
theorem round_11 (x : Nat) (w : World) (hx : x < 4294967296) : Calls Tryd.prog 36 #[.int .u32 x, .int .u64 11] w fun e w' => e = .returned (.int .u32 (rot x 11 : Nat)) ∧ w = w' := by
  have hb : IntKind.u64.wrap (32 - 11) = 21 := by decide +kernel
  go_enter Tryd.func36, Tryd.ntmps36
  go_wp2
  go_ret
  exact ⟨by rw [← rot_eq2 x 11 hx]; rfl, rfl⟩
theorem round_13 (x : Nat) (w : World) (hx : x < 4294967296) : Calls Tryd.prog 36 #[.int .u32 x, .int .u64 13] w fun e w' => e = .returned (.int .u32 (rot x 13 : Nat)) ∧ w = w' := by
  have hb : IntKind.u64.wrap (32 - 13) = 19 := by decide +kernel
  go_enter Tryd.func36, Tryd.ntmps36
  go_wp2
  go_ret
  exact ⟨by rw [← rot_eq2 x 13 hx]; rfl, rfl⟩
theorem round_17 (x : Nat) (w : World) (hx : x < 4294967296) : Calls Tryd.prog 36 #[.int .u32 x, .int .u64 17] w fun e w' => e = .returned (.int .u32 (rot x 17 : Nat)) ∧ w = w' := by
  have hb : IntKind.u64.wrap (32 - 17) = 15 := by decide +kernel
  go_enter Tryd.func36, Tryd.ntmps36
  go_wp2
  go_ret
  exact ⟨by rw [← rot_eq2 x 17 hx]; rfl, rfl⟩
theorem round_18 (x : Nat) (w : World) (hx : x < 4294967296) : Calls Tryd.prog 36 #[.int .u32 x, .int .u64 18] w fun e w' => e = .returned (.int .u32 (rot x 18 : Nat)) ∧ w = w' := by
  have hb : IntKind.u64.wrap (32 - 18) = 14 := by decide +kernel
  go_enter Tryd.func36, Tryd.ntmps36
  go_wp2
  go_ret
  exact ⟨by rw [← rot_eq2 x 18 hx]; rfl, rfl⟩
theorem round_19 (x : Nat) (w : World) (hx : x < 4294967296) : Calls Tryd.prog 36 #[.int .u32 x, .int .u64 19] w fun e w' => e = .returned (.int .u32 (rot x 19 : Nat)) ∧ w = w' := by
  have hb : IntKind.u64.wrap (32 - 19) = 13 := by decide +kernel
  go_enter Tryd.func36, Tryd.ntmps36
  go_wp2
  go_ret
  exact ⟨by rw [← rot_eq2 x 19 hx]; rfl, rfl⟩
theorem round_22 (x : Nat) (w : World) (hx : x < 4294967296) : Calls Tryd.prog 36 #[.int .u32 x, .int .u64 22] w fun e w' => e = .returned (.int .u32 (rot x 22 : Nat)) ∧ w = w' := by
  have hb : IntKind.u64.wrap (32 - 22) = 10 := by decide +kernel
  go_enter Tryd.func36, Tryd.ntmps36
  go_wp2
  go_ret
  exact ⟨by rw [← rot_eq2 x 22 hx]; rfl, rfl⟩
theorem round_25 (x : Nat) (w : World) (hx : x < 4294967296) : Calls Tryd.prog 36 #[.int .u32 x, .int .u64 25] w fun e w' => e = .returned (.int .u32 (rot x 25 : Nat)) ∧ w = w' := by
  have hb : IntKind.u64.wrap (32 - 25) = 7 := by decide +kernel
  go_enter Tryd.func36, Tryd.ntmps36
  go_wp2
  go_ret
  exact ⟨by rw [← rot_eq2 x 25 hx]; rfl, rfl⟩
set_option maxRecDepth 100000 in
/-- the table's slice -/
theorem table_any (w : World) : Calls Tryd.prog 29 #[] w fun e w' => e = .returned (.slice (some ⟨w.heap.size, 0, none⟩) 64 64) ∧ Hid (Us w' w.heap.size 56 kk) ∧ Below w.heap.size w w' := by
  go_enter Tryd.func29, Tryd.ntmps29
  go_wp2
  have h : Us (w.alloc (.cells (dv kk).toArray 56)) w.heap.size 56 kk := heap_alloc_new w _
  have hB : Below w.heap.size w (w.alloc (.cells (dv kk).toArray 56)) := (Below.refl _ _).alloc (Nat.le_refl _) _
  go_ret
  exact ⟨rfl, hid h, hB⟩
end Go.Proofs.YtaejcifpipegnaaDoor

/-
  shas.turn, walked: bits moved round. Conditions: none.
  shas.mix, walked: numbers taken against each other. Conditions: none.
  shas.spread: what its loops carry, and the region of its second loop, walked. Conditions: none.
  shas.spread, walked: a block's numbers. Conditions: none.
  shas.takeIn: what its loop carries, and the region that reckons, walked. Conditions: none.
  shas.takeIn, walked: a block is taken in. Condition: the library's table holds what its text lays.
-/
import Derived.Test.YtbloejlebikecaaGreatDoorWords
import Derived.Test.YtbloejlebikecaaGreatDoorSha
import Derived.Laws.BitsAllLaws
import Derived.Outline
import Derived.WalkLawsBesides
import Derived.WalkSpells
import Derived.Test.YtbloejlebikecaaGreatDoorUs
import Derived.Deep.RegionHeld3
import Derived.StillTail
import Derived.Test.YtbloejlebikecaaGreatDoorOrdT
import Derived.Deep.DeepCutAuto
import Derived.Deep.Cut
import Derived.Deep.WholeRow
import Derived.BigQuiet
namespace Go.Proofs.YtbloejlebikecaaGreatDoor
open Go.RowKit
set_option linter.unusedVariables false

theorem rot_eq (x s : Nat) (hx : x < 4294967296) (hs : s < 32) : bits .or .u32 (IntKind.u32.wrap ((x : Int) * ((2 ^ s : Nat) : Int))) ((x : Int) / ((2 ^ (32 - s) : Nat) : Int)) = ((rot x (32 - s) : Nat) : Int) := by
  have e1 : IntKind.u32.wrap ((x : Int) * ((2 ^ s : Nat) : Int)) = ((x * 2 ^ s % 4294967296 : Nat) : Int) := by rw [IntKind.wrap_u32]; omega
  have e2 : (x : Int) / ((2 ^ (32 - s) : Nat) : Int) = ((x / 2 ^ (32 - s) : Nat) : Int) := by omega
  rw [e1, e2, u32_or_nat _ _ (Nat.mod_lt _ (by decide)) (dn_lt _ hx), rot, Nat.or_comm, show 32 - (32 - s) = s by omega]

theorem rotl_2 (x : Nat) (w : World) (hx : x < 4294967296) : Calls Tryz.prog 123 #[.int .u32 x, .int .i64 (-2)] w fun e w' => e = .returned (.int .u32 (rot x 2 : Nat)) ∧ w = w' := by
  have hb : bits BinOp.and IntKind.u64 (IntKind.u64.wrap (-2)) 31 = 30 := by decide +kernel
  go_enter Tryz.func123, Tryz.ntmps123
  go_wp2_with (simp only [hb])
  go_ret
  exact ⟨by rw [← rot_eq x 30 hx (by decide)]; rfl, rfl⟩
theorem turn_2 (x : Nat) (w : World) (hx : x < 4294967296) : Calls Tryz.prog 121 #[.int .u32 x, .int .i64 2] w fun e w' => e = .returned (.int .u32 (rot x 2 : Nat)) ∧ w = w' := by
  go_enter Tryz.func121, Tryz.ntmps121
  go_wp2_with fail
  refine (rotl_2 x w hx).mono ?_
  rintro e w1 ⟨rfl, rfl⟩
  go_wp2
  go_ret
  exact ⟨rfl, rfl⟩
theorem rotl_6 (x : Nat) (w : World) (hx : x < 4294967296) : Calls Tryz.prog 123 #[.int .u32 x, .int .i64 (-6)] w fun e w' => e = .returned (.int .u32 (rot x 6 : Nat)) ∧ w = w' := by
  have hb : bits BinOp.and IntKind.u64 (IntKind.u64.wrap (-6)) 31 = 26 := by decide +kernel
  go_enter Tryz.func123, Tryz.ntmps123
  go_wp2_with (simp only [hb])
  go_ret
  exact ⟨by rw [← rot_eq x 26 hx (by decide)]; rfl, rfl⟩
theorem turn_6 (x : Nat) (w : World) (hx : x < 4294967296) : Calls Tryz.prog 121 #[.int .u32 x, .int .i64 6] w fun e w' => e = .returned (.int .u32 (rot x 6 : Nat)) ∧ w = w' := by
  go_enter Tryz.func121, Tryz.ntmps121
  go_wp2_with fail
  refine (rotl_6 x w hx).mono ?_
  rintro e w1 ⟨rfl, rfl⟩
  go_wp2
  go_ret
  exact ⟨rfl, rfl⟩
theorem rotl_7 (x : Nat) (w : World) (hx : x < 4294967296) : Calls Tryz.prog 123 #[.int .u32 x, .int .i64 (-7)] w fun e w' => e = .returned (.int .u32 (rot x 7 : Nat)) ∧ w = w' := by
  have hb : bits BinOp.and IntKind.u64 (IntKind.u64.wrap (-7)) 31 = 25 := by decide +kernel
  go_enter Tryz.func123, Tryz.ntmps123
  go_wp2_with (simp only [hb])
  go_ret
  exact ⟨by rw [← rot_eq x 25 hx (by decide)]; rfl, rfl⟩
theorem turn_7 (x : Nat) (w : World) (hx : x < 4294967296) : Calls Tryz.prog 121 #[.int .u32 x, .int .i64 7] w fun e w' => e = .returned (.int .u32 (rot x 7 : Nat)) ∧ w = w' := by
  go_enter Tryz.func121, Tryz.ntmps121
  go_wp2_with fail
  refine (rotl_7 x w hx).mono ?_
  rintro e w1 ⟨rfl, rfl⟩
  go_wp2
  go_ret
  exact ⟨rfl, rfl⟩
theorem rotl_11 (x : Nat) (w : World) (hx : x < 4294967296) : Calls Tryz.prog 123 #[.int .u32 x, .int .i64 (-11)] w fun e w' => e = .returned (.int .u32 (rot x 11 : Nat)) ∧ w = w' := by
  have hb : bits BinOp.and IntKind.u64 (IntKind.u64.wrap (-11)) 31 = 21 := by decide +kernel
  go_enter Tryz.func123, Tryz.ntmps123
  go_wp2_with (simp only [hb])
  go_ret
  exact ⟨by rw [← rot_eq x 21 hx (by decide)]; rfl, rfl⟩
theorem turn_11 (x : Nat) (w : World) (hx : x < 4294967296) : Calls Tryz.prog 121 #[.int .u32 x, .int .i64 11] w fun e w' => e = .returned (.int .u32 (rot x 11 : Nat)) ∧ w = w' := by
  go_enter Tryz.func121, Tryz.ntmps121
  go_wp2_with fail
  refine (rotl_11 x w hx).mono ?_
  rintro e w1 ⟨rfl, rfl⟩
  go_wp2
  go_ret
  exact ⟨rfl, rfl⟩
theorem rotl_13 (x : Nat) (w : World) (hx : x < 4294967296) : Calls Tryz.prog 123 #[.int .u32 x, .int .i64 (-13)] w fun e w' => e = .returned (.int .u32 (rot x 13 : Nat)) ∧ w = w' := by
  have hb : bits BinOp.and IntKind.u64 (IntKind.u64.wrap (-13)) 31 = 19 := by decide +kernel
  go_enter Tryz.func123, Tryz.ntmps123
  go_wp2_with (simp only [hb])
  go_ret
  exact ⟨by rw [← rot_eq x 19 hx (by decide)]; rfl, rfl⟩
theorem turn_13 (x : Nat) (w : World) (hx : x < 4294967296) : Calls Tryz.prog 121 #[.int .u32 x, .int .i64 13] w fun e w' => e = .returned (.int .u32 (rot x 13 : Nat)) ∧ w = w' := by
  go_enter Tryz.func121, Tryz.ntmps121
  go_wp2_with fail
  refine (rotl_13 x w hx).mono ?_
  rintro e w1 ⟨rfl, rfl⟩
  go_wp2
  go_ret
  exact ⟨rfl, rfl⟩
theorem rotl_17 (x : Nat) (w : World) (hx : x < 4294967296) : Calls Tryz.prog 123 #[.int .u32 x, .int .i64 (-17)] w fun e w' => e = .returned (.int .u32 (rot x 17 : Nat)) ∧ w = w' := by
  have hb : bits BinOp.and IntKind.u64 (IntKind.u64.wrap (-17)) 31 = 15 := by decide +kernel
  go_enter Tryz.func123, Tryz.ntmps123
  go_wp2_with (simp only [hb])
  go_ret
  exact ⟨by rw [← rot_eq x 15 hx (by decide)]; rfl, rfl⟩
theorem turn_17 (x : Nat) (w : World) (hx : x < 4294967296) : Calls Tryz.prog 121 #[.int .u32 x, .int .i64 17] w fun e w' => e = .returned (.int .u32 (rot x 17 : Nat)) ∧ w = w' := by
  go_enter Tryz.func121, Tryz.ntmps121
  go_wp2_with fail
  refine (rotl_17 x w hx).mono ?_
  rintro e w1 ⟨rfl, rfl⟩
  go_wp2
  go_ret
  exact ⟨rfl, rfl⟩
theorem rotl_18 (x : Nat) (w : World) (hx : x < 4294967296) : Calls Tryz.prog 123 #[.int .u32 x, .int .i64 (-18)] w fun e w' => e = .returned (.int .u32 (rot x 18 : Nat)) ∧ w = w' := by
  have hb : bits BinOp.and IntKind.u64 (IntKind.u64.wrap (-18)) 31 = 14 := by decide +kernel
  go_enter Tryz.func123, Tryz.ntmps123
  go_wp2_with (simp only [hb])
  go_ret
  exact ⟨by rw [← rot_eq x 14 hx (by decide)]; rfl, rfl⟩
theorem turn_18 (x : Nat) (w : World) (hx : x < 4294967296) : Calls Tryz.prog 121 #[.int .u32 x, .int .i64 18] w fun e w' => e = .returned (.int .u32 (rot x 18 : Nat)) ∧ w = w' := by
  go_enter Tryz.func121, Tryz.ntmps121
  go_wp2_with fail
  refine (rotl_18 x w hx).mono ?_
  rintro e w1 ⟨rfl, rfl⟩
  go_wp2
  go_ret
  exact ⟨rfl, rfl⟩
theorem rotl_19 (x : Nat) (w : World) (hx : x < 4294967296) : Calls Tryz.prog 123 #[.int .u32 x, .int .i64 (-19)] w fun e w' => e = .returned (.int .u32 (rot x 19 : Nat)) ∧ w = w' := by
  have hb : bits BinOp.and IntKind.u64 (IntKind.u64.wrap (-19)) 31 = 13 := by decide +kernel
  go_enter Tryz.func123, Tryz.ntmps123
  go_wp2_with (simp only [hb])
  go_ret
  exact ⟨by rw [← rot_eq x 13 hx (by decide)]; rfl, rfl⟩
theorem turn_19 (x : Nat) (w : World) (hx : x < 4294967296) : Calls Tryz.prog 121 #[.int .u32 x, .int .i64 19] w fun e w' => e = .returned (.int .u32 (rot x 19 : Nat)) ∧ w = w' := by
  go_enter Tryz.func121, Tryz.ntmps121
  go_wp2_with fail
  refine (rotl_19 x w hx).mono ?_
  rintro e w1 ⟨rfl, rfl⟩
  go_wp2
  go_ret
  exact ⟨rfl, rfl⟩
theorem rotl_22 (x : Nat) (w : World) (hx : x < 4294967296) : Calls Tryz.prog 123 #[.int .u32 x, .int .i64 (-22)] w fun e w' => e = .returned (.int .u32 (rot x 22 : Nat)) ∧ w = w' := by
  have hb : bits BinOp.and IntKind.u64 (IntKind.u64.wrap (-22)) 31 = 10 := by decide +kernel
  go_enter Tryz.func123, Tryz.ntmps123
  go_wp2_with (simp only [hb])
  go_ret
  exact ⟨by rw [← rot_eq x 10 hx (by decide)]; rfl, rfl⟩
theorem turn_22 (x : Nat) (w : World) (hx : x < 4294967296) : Calls Tryz.prog 121 #[.int .u32 x, .int .i64 22] w fun e w' => e = .returned (.int .u32 (rot x 22 : Nat)) ∧ w = w' := by
  go_enter Tryz.func121, Tryz.ntmps121
  go_wp2_with fail
  refine (rotl_22 x w hx).mono ?_
  rintro e w1 ⟨rfl, rfl⟩
  go_wp2
  go_ret
  exact ⟨rfl, rfl⟩
theorem rotl_25 (x : Nat) (w : World) (hx : x < 4294967296) : Calls Tryz.prog 123 #[.int .u32 x, .int .i64 (-25)] w fun e w' => e = .returned (.int .u32 (rot x 25 : Nat)) ∧ w = w' := by
  have hb : bits BinOp.and IntKind.u64 (IntKind.u64.wrap (-25)) 31 = 7 := by decide +kernel
  go_enter Tryz.func123, Tryz.ntmps123
  go_wp2_with (simp only [hb])
  go_ret
  exact ⟨by rw [← rot_eq x 7 hx (by decide)]; rfl, rfl⟩
theorem turn_25 (x : Nat) (w : World) (hx : x < 4294967296) : Calls Tryz.prog 121 #[.int .u32 x, .int .i64 25] w fun e w' => e = .returned (.int .u32 (rot x 25 : Nat)) ∧ w = w' := by
  go_enter Tryz.func121, Tryz.ntmps121
  go_wp2_with fail
  refine (rotl_25 x w hx).mono ?_
  rintro e w1 ⟨rfl, rfl⟩
  go_wp2
  go_ret
  exact ⟨rfl, rfl⟩
end Go.Proofs.YtbloejlebikecaaGreatDoor
namespace Go.Proofs.YtbloejlebikecaaGreatDoor
open Go.RowKit
set_option linter.unusedVariables false

/-- the first k of three numbers, taken against each other -/
def mx (x y z : Nat) : Nat → Nat
  | 0 => 0
  | 1 => x
  | 2 => x ^^^ y
  | _ => (x ^^^ y) ^^^ z
def nth3 (x y z : Nat) : Nat → Nat
  | 0 => x
  | 1 => y
  | _ => z
/-- three numbers in a block -/
def Tri (w : World) (g x y z : Nat) : Prop := w.cell? ⟨g, 0, none⟩ = some (.int .u32 (x : Int)) ∧ w.cell? ⟨g, 1, none⟩ = some (.int .u32 (y : Int)) ∧ w.cell? ⟨g, 2, none⟩ = some (.int .u32 (z : Int))
theorem Tri.at {w : World} {g x y z : Nat} (h : Tri w g x y z) (k : Nat) (hk : k < 3) : w.cell? ⟨g, k, none⟩ = some (.int .u32 (nth3 x y z k : Int)) := by
  match k, hk with
  | 0, _ => exact h.1
  | 1, _ => exact h.2.1
  | 2, _ => exact h.2.2
theorem mx_step (x y z k : Nat) (hk : k < 3) (hx : x < 4294967296) (hy : y < 4294967296) (hz : z < 4294967296) : bits .xor .u32 (mx x y z k : Int) (nth3 x y z k : Int) = ((mx x y z (k + 1) : Nat) : Int) := by
  match k, hk with
  | 0, _ => rw [mx, nth3, mx, u32_xor_nat _ _ (by decide) hx, Nat.zero_xor]
  | 1, _ => rw [mx, nth3, mx, u32_xor_nat _ _ hx hy]
  | 2, _ => rw [mx, nth3, mx, u32_xor_nat _ _ (xor_lt hx hy) hz] <;> simp
theorem mix_any (g x y z : Nat) (w : World) (h : Tri w g x y z) (hx : x < 4294967296) (hy : y < 4294967296) (hz : z < 4294967296) :
    Calls Tryz.prog 120 #[.slice (some ⟨g, 0, none⟩) 3 3] w fun e w' => e = .returned (.int .u32 ((x ^^^ y) ^^^ z : Nat)) ∧ w = w' := by
  have HT := hid h
  have HX := hid hx
  have HY := hid hy
  have HZ := hid hz
  clear h hx hy hz
  go_enter Tryz.func120, Tryz.ntmps120
  go_wp2
  go_loop [3, 8] (fun n i => ∃ k : Nat, k ≤ 3 ∧ i = .int .i64 k ∧ n = .int .u32 (mx x y z k : Int)) (fun _ i => 3 - (intOf i).toNat)
  case atStart => exact ⟨0, Nat.zero_le _, rfl, rfl⟩
  case round =>
    obtain ⟨k, hk, rfl, rfl⟩ := hrel
    by_cases hlt : k < 3
    · have hck := HT.out.at k hlt
      have HS := hid (mx_step x y z k hlt HX.out HY.out HZ.out)
      generalize nth3 x y z k = v at hck HS
      generalize mx x y z k = t at HS
      go_wp2
      go_round
      case rel => exact ⟨k + 1, by omega, by go_num, by rw [HS.out]⟩
      case measure => simp [intOf]; omega
    · obtain rfl : k = 3 := by omega
      rw [mx]
      go_wp2
      go_ret
      exact ⟨rfl, rfl⟩
end Go.Proofs.YtbloejlebikecaaGreatDoor
namespace Go.Proofs.YtbloejlebikecaaGreatDoor
open Go.RowKit
set_option linter.unusedVariables false
theorem i132 : (Tryz.prog.info? 177).map (·.size) = some 64 := by kernel_rfl
theorem dv_all (l : List Nat) : (dv l).toArray.all (·.oneCell') = true := all_oneCell_toArray (dv_one l)
theorem dv_size (l : List Nat) : (dv l).toArray.size = l.length := by simp [dv]
theorem Us.row {w : World} {g : Nat} {t : TypeId} {l m : List Nat} (h : Us w g t l) : Us (w.setRow g (dv m).toArray) g t m := setRow_heap w g _ _ t (0, 0) h
/-- what stands while a block is spread -/
structure Spr (w : World) (b : List UInt8) (l : List Nat) (w' : World) : Prop where
  below : Below w.heap.size w w'
  b : Bt w' w.heap.size 172 b
  z : Us w' (w.heap.size + 1) 177 (List.replicate 64 0)
  l : Us w' (w.heap.size + 1 + 1) 177 l
theorem Spr.init (w : World) (b : List UInt8) : Spr w b (List.replicate 64 0) (((w.alloc (.cells (bvs b).toArray 172)).alloc (.cells (dv (List.replicate 64 0)).toArray 177)).alloc (.cells (dv (List.replicate 64 0)).toArray 177)) := by
  have s1 : ∀ (w : World) (o : Obj), (w.alloc o).heap.size = w.heap.size + 1 := fun w o => Array.size_push _
  refine ⟨(((Below.refl _ _).alloc (by simp) _).alloc (by rw [s1]; omega) _).alloc (by rw [s1, s1]; omega) _, ?_, ?_, ?_⟩
  · exact Bt.alloc (Bt.alloc (heap_alloc_new _ _) _) _
  · have : Us ((w.alloc (.cells (bvs b).toArray 172)).alloc (.cells (dv (List.replicate 64 0)).toArray 177)) (w.heap.size + 1) 177 (List.replicate 64 0) := by rw [← s1 w]; exact heap_alloc_new _ _
    exact this.alloc _
  · rw [← s1 w (.cells (bvs b).toArray 172), ← s1 _ (.cells (dv (List.replicate 64 0)).toArray 177)]; exact heap_alloc_new _ _
theorem Spr.set {w w' : World} {b : List UInt8} {l : List Nat} (h : Spr w b l w') (k v : Nat) : Spr w b (l.set k v) (w'.setCell ⟨w.heap.size + 1 + 1, k, none⟩ (.int .u32 (v : Int))) :=
  ⟨h.below.setCell (by simp; omega) _, h.b.other _ (by omega), h.z.other _ (by omega), h.l.set k v⟩
theorem Spr.on {w w' w2 : World} {b : List UInt8} {l : List Nat} (h : Spr w b l w') (hb : Below w'.heap.size w' w2) : Spr w b l w2 :=
  ⟨h.below.trans (hb.mono (Nat.le_of_lt h.b.lt)), h.b.on hb, h.z.on hb, h.l.on hb⟩
theorem Spr.drew {w w' : World} {b : List UInt8} {l : List Nat} (h : Spr w b l w') : Spr w b l w'.drew := ⟨h.below.drew, h.b, h.z, h.l⟩
theorem Spr.alloc {w w' : World} {b : List UInt8} {l : List Nat} (h : Spr w b l w') (o : Obj) : Spr w b l (w'.alloc o) := ⟨h.below.alloc (Nat.le_of_lt h.b.lt) o, h.b.alloc o, h.z.alloc o, h.l.alloc o⟩
theorem Tri.new (w : World) (a b c : Nat) : Tri (w.alloc (.cells #[.int .u32 (a : Int), .int .u32 (b : Int), .int .u32 (c : Int)] 102)) w.heap.size a b c := by
  have h := heap_alloc_new w (.cells #[.int .u32 (a : Int), .int .u32 (b : Int), .int .u32 (c : Int)] 102)
  exact ⟨by rw [cell_of_row _ _ 0 _ 102 (0, 0) h]; rfl, by rw [cell_of_row _ _ 1 _ 102 (0, 0) h]; rfl, by rw [cell_of_row _ _ 2 _ 102 (0, 0) h]; rfl⟩
theorem Tri.n1 (w : World) (a b c : Nat) : Tri (w.alloc (.cells #[.int .u32 (a : Int), .int .u32 (b : Int), .int .u32 (c : Int)] 102)).drew w.heap.size a b c := Tri.new w a b c
theorem Tri.n2 (w : World) (A : Obj) (a b c : Nat) : Tri ((w.alloc A).alloc (.cells #[.int .u32 (a : Int), .int .u32 (b : Int), .int .u32 (c : Int)] 102)).drew (w.heap.size + 1) a b c := by
  have h := Tri.new (w.alloc A) a b c
  rwa [show (w.alloc A).heap.size = w.heap.size + 1 from Array.size_push _] at h
/-- what a round of the second loop leans on -/
theorem spr_facts {w wr : World} {b : List UInt8} {l : List Nat} {k : Nat} (HS : Spr w b l wr) (HL : l.length = 64) (HA : ∀ j, j < 64 → at' l j = at' (ext (own b 16) (k - 16)) j) (hk0 : 16 ≤ k) (hlt : k < 64) :
    ∃ p15 p16 p7 p2 x v16 v7 y zx zy : Nat, (k : Int) - 15 = (p15 : Int) ∧ (k : Int) - 16 = (p16 : Int) ∧ (k : Int) - 7 = (p7 : Int) ∧ (k : Int) - 2 = (p2 : Int) ∧ p15 < 64 ∧ p2 < 64 ∧
      wr.cell? ⟨w.heap.size + 1 + 1, p15, none⟩ = some (.int .u32 (x : Int)) ∧ wr.cell? ⟨w.heap.size + 1 + 1, p2, none⟩ = some (.int .u32 (y : Int)) ∧
      x < 4294967296 ∧ y < 4294967296 ∧ (x : Int) / 8 = (zx : Int) ∧ (y : Int) / 1024 = (zy : Int) ∧ rot x 7 < 4294967296 ∧ rot x 18 < 4294967296 ∧ zx < 4294967296 ∧ rot y 17 < 4294967296 ∧ rot y 19 < 4294967296 ∧ zy < 4294967296 ∧
      IntKind.i64.wrap (p16 : Int) = (p16 : Int) ∧ IntKind.i64.wrap (p7 : Int) = (p7 : Int) ∧ (p16 : Int) < 64 ∧ (p7 : Int) < 64 ∧ (k : Int) < 64 ∧ (0 : Int) ≤ p16 ∧ (0 : Int) ≤ p7 ∧ (0 : Int) ≤ k ∧
      (wr.cell? ⟨w.heap.size + 1 + 1, p16, none⟩ = some (.int .u32 (v16 : Int)) ∧ wr.cell? ⟨w.heap.size + 1 + 1, p7, none⟩ = some (.int .u32 (v7 : Int)) ∧ w.heap.size + 1 + 1 < wr.heap.size) ∧
      Hid (∀ W : World, Spr w b l W → (W.cell? ⟨w.heap.size + 1 + 1, p16, none⟩ = some (.int .u32 (v16 : Int)) ∧ W.cell? ⟨w.heap.size + 1 + 1, p7, none⟩ = some (.int .u32 (v7 : Int)) ∧ w.heap.size + 1 + 1 < W.heap.size) ∧ W.cell? ⟨w.heap.size + 1 + 1, k, none⟩ = some (.int .u32 (at' l k : Nat)) ∧ W.frozen? ⟨w.heap.size + 1 + 1, k, none⟩ = false) ∧
      Hid (∀ (W : World) (o : Obj), (W.cell? ⟨w.heap.size + 1 + 1, p16, none⟩ = some (.int .u32 (v16 : Int)) ∧ W.cell? ⟨w.heap.size + 1 + 1, p7, none⟩ = some (.int .u32 (v7 : Int)) ∧ w.heap.size + 1 + 1 < W.heap.size) → ((W.alloc o).cell? ⟨w.heap.size + 1 + 1, p16, none⟩ = some (.int .u32 (v16 : Int)) ∧ (W.alloc o).cell? ⟨w.heap.size + 1 + 1, p7, none⟩ = some (.int .u32 (v7 : Int)) ∧ w.heap.size + 1 + 1 < (W.alloc o).heap.size)) ∧
      Hid (∀ (W : World) (v : Value), (W.cell? ⟨w.heap.size + 1 + 1, p16, none⟩ = some (.int .u32 (v16 : Int)) ∧ W.cell? ⟨w.heap.size + 1 + 1, p7, none⟩ = some (.int .u32 (v7 : Int)) ∧ w.heap.size + 1 + 1 < W.heap.size) → ((W.setCell ⟨w.heap.size + 1 + 1, k, none⟩ v).cell? ⟨w.heap.size + 1 + 1, p16, none⟩ = some (.int .u32 (v16 : Int)) ∧ (W.setCell ⟨w.heap.size + 1 + 1, k, none⟩ v).cell? ⟨w.heap.size + 1 + 1, p7, none⟩ = some (.int .u32 (v7 : Int)) ∧ w.heap.size + 1 + 1 < (W.setCell ⟨w.heap.size + 1 + 1, k, none⟩ v).heap.size)) ∧
      Hid (IntKind.u32.wrap (IntKind.u32.wrap (IntKind.u32.wrap ((v16 : Int) + ((rot x 7 ^^^ rot x 18 ^^^ zx : Nat) : Int)) + (v7 : Int)) + ((rot y 17 ^^^ rot y 19 ^^^ zy : Nat) : Int)) = ((nxw (ext (own b 16) (k - 16)) : Nat) : Int)) := by
  have HM : Sm (ext (own b 16) (k - 16)) := ext_sm (own_sm b 16) _
  have hE : (ext (own b 16) (k - 16)).length = k := by rw [ext_length, own_length]; omega
  have lt : ∀ j, j < 64 → at' l j < 4294967296 := fun j hj => by rw [HA j hj]; exact at_sm HM _
  have b15 := lt (k - 15) (by omega)
  have b2 := lt (k - 2) (by omega)
  refine ⟨k - 15, k - 16, k - 7, k - 2, at' l (k - 15), at' l (k - 16), at' l (k - 7), at' l (k - 2), at' l (k - 15) / 8, at' l (k - 2) / 1024, by omega, by omega, by omega, by omega, by omega, by omega,
    HS.l.cell _ (by omega), HS.l.cell _ (by omega), b15, b2, by omega, by omega, rot_lt 7 b15, rot_lt 18 b15, by omega, rot_lt 17 b2, rot_lt 19 b2, by omega,
    by rw [IntKind.wrap_i64]; omega, by rw [IntKind.wrap_i64]; omega, by omega, by omega, by omega, by omega, by omega, by omega, ⟨HS.l.cell _ (by omega), HS.l.cell _ (by omega), HS.l.lt⟩,
    hid (fun W h => ⟨⟨h.l.cell _ (by omega), h.l.cell _ (by omega), h.l.lt⟩, h.l.cell _ (by omega), h.l.frozen _⟩),
    hid (fun W o h => ⟨by rw [World.cell?_alloc_lt _ _ _ h.2.2]; exact h.1, by rw [World.cell?_alloc_lt _ _ _ h.2.2]; exact h.2.1, by have := h.2.2; simp; omega⟩),
    hid (fun W v h => ⟨by rw [World.cell?_setCell_other _ _ _ _ (by simp; try omega)]; exact h.1, by rw [World.cell?_setCell_other _ _ _ _ (by simp; try omega)]; exact h.2.1, by have := h.2.2; simp; omega⟩), hid ?_⟩
  have e0 : nxw (ext (own b 16) (k - 16)) = (((at' l (k - 16) + s0 (at' l (k - 15))) % 4294967296 + at' l (k - 7)) % 4294967296 + s1 (at' l (k - 2))) % 4294967296 := by
    rw [nxw, hE, HA (k - 16) (by omega), HA (k - 15) (by omega), HA (k - 7) (by omega), HA (k - 2) (by omega)]
  rw [e0, s0, s1, show (2 : Nat) ^ 3 = 8 by decide, show (2 : Nat) ^ 10 = 1024 by decide, IntKind.wrap_u32, IntKind.wrap_u32, IntKind.wrap_u32]
  omega

/-- region n of a body -/
def findRegion (n : Nat) : Code → Option Code
  | .region i ops d => if i = n then some (.region i ops d) else none
  | .seq a b => match findRegion n a with
    | some c => some c
    | none => findRegion n b
  | .block _ c => findRegion n c
  | .scope c => findRegion n c
  | .loop c => findRegion n c
  | .cond _ a b => match findRegion n a with
    | some c => some c
    | none => findRegion n b
  | _ => none
/-- the region of the second loop that reckons -/
noncomputable def sp11 : Code := ((Tryz.f119.body.bind (findRegion 11)).getD .skip)
set_option maxRecDepth 100000 in
set_option maxHeartbeats 1000000 in
theorem sp11_ok {w wr : World} {b : List UInt8} {l : List Nat} {k : Nat} {Q : Exit → Act → World → Prop} (HS : Hid (Spr w b l wr)) (p16 p7 x v16 v7 y zx zy : Nat) (hp16 : (k : Int) - 16 = (p16 : Int)) (hp7 : (k : Int) - 7 = (p7 : Int))
    (b15 : x < 4294967296) (b2 : y < 4294967296) (hzx : (x : Int) / 8 = (zx : Int)) (hzy : (y : Int) / 1024 = (zy : Int)) (bx7 : rot x 7 < 4294967296) (bx18 : rot x 18 < 4294967296) (bzx : zx < 4294967296) (by17 : rot y 17 < 4294967296) (by19 : rot y 19 < 4294967296) (bzy : zy < 4294967296)
    (w16 : IntKind.i64.wrap (p16 : Int) = (p16 : Int)) (w7 : IntKind.i64.wrap (p7 : Int) = (p7 : Int)) (i16 : (p16 : Int) < 64) (i7 : (p7 : Int) < 64) (ik : (k : Int) < 64) (j16 : (0 : Int) ≤ p16) (j7 : (0 : Int) ≤ p7) (jk : (0 : Int) ≤ k)
    (hS : wr.cell? ⟨w.heap.size + 1 + 1, p16, none⟩ = some (.int .u32 (v16 : Int)) ∧ wr.cell? ⟨w.heap.size + 1 + 1, p7, none⟩ = some (.int .u32 (v7 : Int)) ∧ w.heap.size + 1 + 1 < wr.heap.size)
    (HC : Hid (∀ W : World, Spr w b l W → (W.cell? ⟨w.heap.size + 1 + 1, p16, none⟩ = some (.int .u32 (v16 : Int)) ∧ W.cell? ⟨w.heap.size + 1 + 1, p7, none⟩ = some (.int .u32 (v7 : Int)) ∧ w.heap.size + 1 + 1 < W.heap.size) ∧ W.cell? ⟨w.heap.size + 1 + 1, k, none⟩ = some (.int .u32 (at' l k : Nat)) ∧ W.frozen? ⟨w.heap.size + 1 + 1, k, none⟩ = false))
    (HKA : Hid (∀ (W : World) (o : Obj), (W.cell? ⟨w.heap.size + 1 + 1, p16, none⟩ = some (.int .u32 (v16 : Int)) ∧ W.cell? ⟨w.heap.size + 1 + 1, p7, none⟩ = some (.int .u32 (v7 : Int)) ∧ w.heap.size + 1 + 1 < W.heap.size) → ((W.alloc o).cell? ⟨w.heap.size + 1 + 1, p16, none⟩ = some (.int .u32 (v16 : Int)) ∧ (W.alloc o).cell? ⟨w.heap.size + 1 + 1, p7, none⟩ = some (.int .u32 (v7 : Int)) ∧ w.heap.size + 1 + 1 < (W.alloc o).heap.size)))
    (HKC : Hid (∀ (W : World) (v : Value), (W.cell? ⟨w.heap.size + 1 + 1, p16, none⟩ = some (.int .u32 (v16 : Int)) ∧ W.cell? ⟨w.heap.size + 1 + 1, p7, none⟩ = some (.int .u32 (v7 : Int)) ∧ w.heap.size + 1 + 1 < W.heap.size) → ((W.setCell ⟨w.heap.size + 1 + 1, k, none⟩ v).cell? ⟨w.heap.size + 1 + 1, p16, none⟩ = some (.int .u32 (v16 : Int)) ∧ (W.setCell ⟨w.heap.size + 1 + 1, k, none⟩ v).cell? ⟨w.heap.size + 1 + 1, p7, none⟩ = some (.int .u32 (v7 : Int)) ∧ w.heap.size + 1 + 1 < (W.setCell ⟨w.heap.size + 1 + 1, k, none⟩ v).heap.size)))
    (c0 c1 c2 c4 c8 c9 c10 c11 c12 c13 c14 c15 c16 c17 c18 c19 c20 c21 c22 c23 c24 c25 c26 c27 c28 c29 c30 c31 c32 c33 c34 c35 c36 c37 c38 c39 c40 c41 c42 c43 c44 c45 c46 c47 c48 c49 c50 c51 c52 c53 c54 c55 c56 c57 c58 c59 c60 c61 c62 c63 c64 c65 c66 : Value)
    (hQ : Hid (∀ (d37 d38 d39 d40 d41 d42 d43 d44 d45 d46 d47 d48 d49 d50 d51 d52 d53 d54 d55 d56 d57 d58 d59 d60 d61 d62 d63 d64 d65 : Value) (wn : World), Hid (Spr w b l wn) → Q .normal ⟨#[c0, c1, c2, .pointer (some ⟨w.heap.size + 1 + 1, 0, none⟩), c4, .int .i64 (k : Int), .int .u32 (x : Int), .int .u32 (y : Int), c8, c9, c10, c11, c12, c13, c14, c15, c16, c17, c18, c19, c20, c21, c22, c23, c24, c25, c26, c27, c28, c29, c30, c31, c32, c33, c34, c35, c36, d37, d38, d39, d40, d41, d42, d43, d44, d45, d46, d47, d48, d49, d50, d51, d52, d53, d54, d55, d56, d57, d58, d59, d60, d61, d62, d63, d64, d65, c66], []⟩ (wn.setCell ⟨w.heap.size + 1 + 1, k, none⟩ (.int .u32 (IntKind.u32.wrap (IntKind.u32.wrap (IntKind.u32.wrap ((v16 : Int) + ((rot x 7 ^^^ rot x 18 ^^^ zx : Nat) : Int)) + (v7 : Int)) + ((rot y 17 ^^^ rot y 19 ^^^ zy : Nat) : Int)))))))  :
    Code.wp Tryz.prog sp11 Q ⟨#[c0, c1, c2, .pointer (some ⟨w.heap.size + 1 + 1, 0, none⟩), c4, .int .i64 (k : Int), .int .u32 (x : Int), .int .u32 (y : Int), c8, c9, c10, c11, c12, c13, c14, c15, c16, c17, c18, c19, c20, c21, c22, c23, c24, c25, c26, c27, c28, c29, c30, c31, c32, c33, c34, c35, c36, c37, c38, c39, c40, c41, c42, c43, c44, c45, c46, c47, c48, c49, c50, c51, c52, c53, c54, c55, c56, c57, c58, c59, c60, c61, c62, c63, c64, c65, c66], []⟩ wr := by
  conv => arg 2; whnf
  have hs : wr.drew.cell? ⟨w.heap.size + 1 + 1, p16, none⟩ = some (.int .u32 (v16 : Int)) ∧ wr.drew.cell? ⟨w.heap.size + 1 + 1, p7, none⟩ = some (.int .u32 (v7 : Int)) ∧ w.heap.size + 1 + 1 < wr.drew.heap.size := hS
  refine wp_region_noPanic ?_
  refine Goes.region (fun (L : Array Bool) (w' : World) => w'.cell? ⟨w.heap.size + 1 + 1, p16, none⟩ = some (.int .u32 (v16 : Int)) ∧ w'.cell? ⟨w.heap.size + 1 + 1, p7, none⟩ = some (.int .u32 (v7 : Int)) ∧ w.heap.size + 1 + 1 < w'.heap.size) (by as_aux_lemma => kernel_rfl) ?_
  refine Goes.take (i := 0) (o := ⟨some 37, _, _, _, _, _⟩) (v := ?_) [] rfl (by as_aux_lemma => kernel_rfl) (by as_aux_lemma => kernel_rfl) (by as_aux_lemma => kernel_rfl) (fun _ _ _ h => h) (by as_aux_lemma => kernel_rfl) (fun L u h => h) (Or.inl ⟨by rfl, ?_⟩) hs ?_
  rotate_left
  · intro w hY; go_simp; try with_reducible rfl
  try simp only [putz]
  refine Goes.take (i := 1) (o := ⟨some 38, _, _, _, _, _⟩) (v := ?_) [] rfl (by as_aux_lemma => kernel_rfl) (by as_aux_lemma => kernel_rfl) (by as_aux_lemma => kernel_rfl) (fun _ _ _ h => h) (by as_aux_lemma => kernel_rfl) (fun L u h => h) (Or.inl ⟨by rfl, ?_⟩) hs ?_
  rotate_left
  · intro w hY; go_simp; try with_reducible rfl
  try simp only [putz]
  refine Goes.take (i := 2) (o := ⟨some 39, _, _, _, _, _⟩) (v := ?_) [] rfl (by as_aux_lemma => kernel_rfl) (by as_aux_lemma => kernel_rfl) (by as_aux_lemma => kernel_rfl) (fun _ _ _ h => h) (by as_aux_lemma => kernel_rfl) (fun L u h => h) (Or.inl ⟨by rfl, ?_⟩) hs ?_
  rotate_left
  · intro w hY; go_simp; try with_reducible rfl
  try simp only [putz]
  refine Goes.take (i := 3) (o := ⟨some 40, _, _, _, _, _⟩) (v := ?_) [] rfl (by as_aux_lemma => kernel_rfl) (by as_aux_lemma => kernel_rfl) (by as_aux_lemma => kernel_rfl) (fun _ _ _ h => h) (by as_aux_lemma => kernel_rfl) (fun L u h => h) (Or.inl ⟨by rfl, ?_⟩) hs ?_
  rotate_left
  · intro w hY; go_simp; try with_reducible rfl
  try simp only [putz]
  refine Goes.take (i := 4) (o := ⟨some 41, _, _, _, _, _⟩) (v := ?_) [] rfl (by as_aux_lemma => kernel_rfl) (by as_aux_lemma => kernel_rfl) (by as_aux_lemma => kernel_rfl) (fun _ _ _ h => h) (by as_aux_lemma => kernel_rfl) (fun L u h => h) (Or.inl ⟨by rfl, ?_⟩) hs ?_
  rotate_left
  · intro w hY; obtain ⟨up, hL⟩ := hY; have hX := hL.2.1; clear hL; (try dsimp only at hX); go_simp; try with_reducible rfl
  try simp only [putz]
  refine Goes.take (i := 5) (o := ⟨some 42, _, _, _, _, _⟩) (v := ?_) [] rfl (by as_aux_lemma => kernel_rfl) (by as_aux_lemma => kernel_rfl) (by as_aux_lemma => kernel_rfl) (fun _ _ _ h => h) (by as_aux_lemma => kernel_rfl) (fun L u h => h) (Or.inl ⟨by rfl, ?_⟩) hs ?_
  rotate_left
  · intro w hY; go_simp; try with_reducible rfl
  try simp only [putz]
  refine Goes.take (i := 7) (o := ⟨some 44, _, _, _, _, _⟩) (v := ?_) [] rfl (by as_aux_lemma => kernel_rfl) (by as_aux_lemma => kernel_rfl) (by as_aux_lemma => kernel_rfl) (fun _ _ _ h => h) (by as_aux_lemma => kernel_rfl) (fun L u h => h) (Or.inl ⟨by rfl, ?_⟩) hs ?_
  rotate_left
  · intro w hY; go_simp; try with_reducible rfl
  try simp only [putz]
  refine Goes.take (i := 9) (o := ⟨some 46, _, _, _, _, _⟩) (v := ?_) [] rfl (by as_aux_lemma => kernel_rfl) (by as_aux_lemma => kernel_rfl) (by as_aux_lemma => kernel_rfl) (fun _ _ _ h => h) (by as_aux_lemma => kernel_rfl) (fun L u h => h) (Or.inl ⟨by rfl, ?_⟩) hs ?_
  rotate_left
  · intro w hY; go_simp; try with_reducible rfl
  try simp only [putz]
  refine Goes.take (i := 10) (o := ⟨some 47, _, _, _, _, _⟩) (v := ?_) [] rfl (by as_aux_lemma => kernel_rfl) (by as_aux_lemma => kernel_rfl) (by as_aux_lemma => kernel_rfl) (fun _ _ _ h => h) (by as_aux_lemma => kernel_rfl) (fun L u h => h) (Or.inl ⟨by rfl, ?_⟩) hs ?_
  rotate_left
  · intro w hY; go_simp; try with_reducible rfl
  try simp only [putz]
  refine Goes.take (i := 14) (o := ⟨some 51, _, _, _, _, _⟩) (v := ?_) [] rfl (by as_aux_lemma => kernel_rfl) (by as_aux_lemma => kernel_rfl) (by as_aux_lemma => kernel_rfl) (fun _ _ _ h => h) (by as_aux_lemma => kernel_rfl) (fun L u h => h) (Or.inl ⟨by rfl, ?_⟩) hs ?_
  rotate_left
  · intro w hY; go_simp; try with_reducible rfl
  try simp only [putz]
  refine Goes.take (i := 15) (o := ⟨some 52, _, _, _, _, _⟩) (v := ?_) [] rfl (by as_aux_lemma => kernel_rfl) (by as_aux_lemma => kernel_rfl) (by as_aux_lemma => kernel_rfl) (fun _ _ _ h => h) (by as_aux_lemma => kernel_rfl) (fun L u h => h) (Or.inl ⟨by rfl, ?_⟩) hs ?_
  rotate_left
  · intro w hY; go_simp; try with_reducible rfl
  try simp only [putz]
  refine Goes.take (i := 16) (o := ⟨some 53, _, _, _, _, _⟩) (v := ?_) [] rfl (by as_aux_lemma => kernel_rfl) (by as_aux_lemma => kernel_rfl) (by as_aux_lemma => kernel_rfl) (fun _ _ _ h => h) (by as_aux_lemma => kernel_rfl) (fun L u h => h) (Or.inl ⟨by rfl, ?_⟩) hs ?_
  rotate_left
  · intro w hY; go_simp; try with_reducible rfl
  try simp only [putz]
  refine Goes.take (i := 17) (o := ⟨some 54, _, _, _, _, _⟩) (v := ?_) [] rfl (by as_aux_lemma => kernel_rfl) (by as_aux_lemma => kernel_rfl) (by as_aux_lemma => kernel_rfl) (fun _ _ _ h => h) (by as_aux_lemma => kernel_rfl) (fun L u h => h) (Or.inl ⟨by rfl, ?_⟩) hs ?_
  rotate_left
  · intro w hY; obtain ⟨up, hL⟩ := hY; have hX := hL.2.2.1; clear hL; (try dsimp only at hX); go_simp; try with_reducible rfl
  try simp only [putz]
  refine Goes.take (i := 19) (o := ⟨some 56, _, _, _, _, _⟩) (v := ?_) [] rfl (by as_aux_lemma => kernel_rfl) (by as_aux_lemma => kernel_rfl) (by as_aux_lemma => kernel_rfl) (fun _ _ _ h => h) (by as_aux_lemma => kernel_rfl) (fun L u h => h) (Or.inl ⟨by rfl, ?_⟩) hs ?_
  rotate_left
  · intro w hY; go_simp; try with_reducible rfl
  try simp only [putz]
  refine Goes.take (i := 21) (o := ⟨some 58, _, _, _, _, _⟩) (v := ?_) [] rfl (by as_aux_lemma => kernel_rfl) (by as_aux_lemma => kernel_rfl) (by as_aux_lemma => kernel_rfl) (fun _ _ _ h => h) (by as_aux_lemma => kernel_rfl) (fun L u h => h) (Or.inl ⟨by rfl, ?_⟩) hs ?_
  rotate_left
  · intro w hY; go_simp; try with_reducible rfl
  try simp only [putz]
  refine Goes.take (i := 23) (o := ⟨some 60, _, _, _, _, _⟩) (v := ?_) [] rfl (by as_aux_lemma => kernel_rfl) (by as_aux_lemma => kernel_rfl) (by as_aux_lemma => kernel_rfl) (fun _ _ _ h => h) (by as_aux_lemma => kernel_rfl) (fun L u h => h) (Or.inl ⟨by rfl, ?_⟩) hs ?_
  rotate_left
  · intro w hY; go_simp; try with_reducible rfl
  try simp only [putz]
  refine Goes.take (i := 24) (o := ⟨some 61, _, _, _, _, _⟩) (v := ?_) [] rfl (by as_aux_lemma => kernel_rfl) (by as_aux_lemma => kernel_rfl) (by as_aux_lemma => kernel_rfl) (fun _ _ _ h => h) (by as_aux_lemma => kernel_rfl) (fun L u h => h) (Or.inl ⟨by rfl, ?_⟩) hs ?_
  rotate_left
  · intro w hY; go_simp; try with_reducible rfl
  try simp only [putz]
  refine Goes.one (i := 6) (o := ⟨some 43, _, _, _, _, _⟩) (by as_aux_lemma => kernel_rfl) rfl (fun K hK => ?_)
  go_simp
  with_reducible refine (turn_7 _ _ b15).mono ?_
  rintro e wa ⟨rfl, rfl⟩
  go_wp2_with fail
  refine hK.out _ _ hs ?_
  clear hK K
  try simp only [putz]
  refine Goes.one (i := 8) (o := ⟨some 45, _, _, _, _, _⟩) (by as_aux_lemma => kernel_rfl) rfl (fun K hK => ?_)
  go_simp
  with_reducible refine (turn_18 _ _ b15).mono ?_
  rintro e wb ⟨rfl, rfl⟩
  go_wp2_with fail
  refine hK.out _ _ hs ?_
  clear hK K
  try simp only [putz]
  refine Goes.one (i := 11) (o := ⟨some 48, _, _, _, _, _⟩) (by as_aux_lemma => kernel_rfl) rfl (fun K hK => ?_)
  go_simp
  have T1 : Hid (Tri ((wr.alloc (.cells #[.int .u32 (rot x 7 : Nat), .int .u32 (rot x 18 : Nat), .int .u32 (zx : Int)] 102)).drew) wr.heap.size _ _ _) := hid (Tri.n1 wr _ _ _)
  have HN1 : Hid (Spr w b l ((wr.alloc (.cells #[.int .u32 (rot x 7 : Nat), .int .u32 (rot x 18 : Nat), .int .u32 (zx : Int)] 102)).drew)) := hid (HS.out.alloc _).drew
  have hs1 : ((wr.alloc (.cells #[.int .u32 (rot x 7 : Nat), .int .u32 (rot x 18 : Nat), .int .u32 (zx : Int)] 102)).drew).cell? ⟨w.heap.size + 1 + 1, p16, none⟩ = some (.int .u32 (v16 : Int)) ∧ ((wr.alloc (.cells #[.int .u32 (rot x 7 : Nat), .int .u32 (rot x 18 : Nat), .int .u32 (zx : Int)] 102)).drew).cell? ⟨w.heap.size + 1 + 1, p7, none⟩ = some (.int .u32 (v7 : Int)) ∧ w.heap.size + 1 + 1 < ((wr.alloc (.cells #[.int .u32 (rot x 7 : Nat), .int .u32 (rot x 18 : Nat), .int .u32 (zx : Int)] 102)).drew).heap.size := HKA.out wr _ hS
  refine hK.out _ _ hs1 ?_
  clear hK K hs
  generalize (wr.alloc (.cells #[.int .u32 (rot x 7 : Nat), .int .u32 (rot x 18 : Nat), .int .u32 (zx : Int)] 102)).drew = w1 at *
  generalize wr.heap.size = s1 at *
  have hs := hs1
  clear hs1
  try simp only [putz]
  refine Goes.one (i := 12) (o := ⟨some 49, _, _, _, _, _⟩) (by as_aux_lemma => kernel_rfl) rfl (fun K hK => ?_)
  go_simp
  with_reducible refine (mix_any _ _ _ _ _ T1.out bx7 bx18 bzx).mono ?_
  rintro e wc ⟨rfl, rfl⟩
  go_wp2_with fail
  refine hK.out _ _ hs ?_
  clear hK K
  try simp only [putz]
  refine Goes.take (i := 13) (o := ⟨some 50, _, _, _, _, _⟩) (v := ?_) [] rfl (by as_aux_lemma => kernel_rfl) (by as_aux_lemma => kernel_rfl) (by as_aux_lemma => kernel_rfl) (fun _ _ _ h => h) (by as_aux_lemma => kernel_rfl) (fun L u h => h) (Or.inl ⟨by rfl, ?_⟩) hs ?_
  rotate_left
  · intro w hY; go_simp; try with_reducible rfl
  try simp only [putz]
  refine Goes.take (i := 18) (o := ⟨some 55, _, _, _, _, _⟩) (v := ?_) [] rfl (by as_aux_lemma => kernel_rfl) (by as_aux_lemma => kernel_rfl) (by as_aux_lemma => kernel_rfl) (fun _ _ _ h => h) (by as_aux_lemma => kernel_rfl) (fun L u h => h) (Or.inl ⟨by rfl, ?_⟩) hs ?_
  rotate_left
  · intro w hY; go_simp; try with_reducible rfl
  try simp only [putz]
  refine Goes.one (i := 20) (o := ⟨some 57, _, _, _, _, _⟩) (by as_aux_lemma => kernel_rfl) rfl (fun K hK => ?_)
  go_simp
  with_reducible refine (turn_17 _ _ b2).mono ?_
  rintro e wd ⟨rfl, rfl⟩
  go_wp2_with fail
  refine hK.out _ _ hs ?_
  clear hK K
  try simp only [putz]
  refine Goes.one (i := 22) (o := ⟨some 59, _, _, _, _, _⟩) (by as_aux_lemma => kernel_rfl) rfl (fun K hK => ?_)
  go_simp
  with_reducible refine (turn_19 _ _ b2).mono ?_
  rintro e we ⟨rfl, rfl⟩
  go_wp2_with fail
  refine hK.out _ _ hs ?_
  clear hK K
  try simp only [putz]
  refine Goes.one (i := 25) (o := ⟨some 62, _, _, _, _, _⟩) (by as_aux_lemma => kernel_rfl) rfl (fun K hK => ?_)
  go_simp
  have T2 : Hid (Tri (w1.alloc (.cells #[.int .u32 (rot y 17 : Nat), .int .u32 (rot y 19 : Nat), .int .u32 (zy : Int)] 102)) w1.heap.size _ _ _) := hid (Tri.new w1 _ _ _)
  have HN2 : Hid (Spr w b l (w1.alloc (.cells #[.int .u32 (rot y 17 : Nat), .int .u32 (rot y 19 : Nat), .int .u32 (zy : Int)] 102))) := hid (HN1.out.alloc _)
  have hs2 : (w1.alloc (.cells #[.int .u32 (rot y 17 : Nat), .int .u32 (rot y 19 : Nat), .int .u32 (zy : Int)] 102)).cell? ⟨w.heap.size + 1 + 1, p16, none⟩ = some (.int .u32 (v16 : Int)) ∧ (w1.alloc (.cells #[.int .u32 (rot y 17 : Nat), .int .u32 (rot y 19 : Nat), .int .u32 (zy : Int)] 102)).cell? ⟨w.heap.size + 1 + 1, p7, none⟩ = some (.int .u32 (v7 : Int)) ∧ w.heap.size + 1 + 1 < (w1.alloc (.cells #[.int .u32 (rot y 17 : Nat), .int .u32 (rot y 19 : Nat), .int .u32 (zy : Int)] 102)).heap.size := HKA.out w1 _ hs
  refine hK.out _ _ hs2 ?_
  clear hK K hs
  generalize w1.alloc (.cells #[.int .u32 (rot y 17 : Nat), .int .u32 (rot y 19 : Nat), .int .u32 (zy : Int)] 102) = w2 at *
  generalize w1.heap.size = s2 at *
  have hs := hs2
  clear hs2
  try simp only [putz]
  refine Goes.one (i := 26) (o := ⟨some 63, _, _, _, _, _⟩) (by as_aux_lemma => kernel_rfl) rfl (fun K hK => ?_)
  go_simp
  with_reducible refine (mix_any _ _ _ _ _ T2.out by17 by19 bzy).mono ?_
  rintro e wn ⟨rfl, rfl⟩
  have HN := HN2
  obtain ⟨hSn, nk, nf⟩ := HC.out _ HN.out
  clear hs HN1 HN2 T1 T2
  have hs := hSn
  go_wp2_with fail
  refine hK.out _ _ hs ?_
  clear hK K
  try simp only [putz]
  refine Goes.take (i := 27) (o := ⟨some 64, _, _, _, _, _⟩) (v := ?_) [] rfl (by as_aux_lemma => kernel_rfl) (by as_aux_lemma => kernel_rfl) (by as_aux_lemma => kernel_rfl) (fun _ _ _ h => h) (by as_aux_lemma => kernel_rfl) (fun L u h => h) (Or.inl ⟨by rfl, ?_⟩) hs ?_
  rotate_left
  · intro w hY; go_simp; try with_reducible rfl
  try simp only [putz]
  refine Goes.take (i := 28) (o := ⟨some 65, _, _, _, _, _⟩) (v := ?_) [] rfl (by as_aux_lemma => kernel_rfl) (by as_aux_lemma => kernel_rfl) (by as_aux_lemma => kernel_rfl) (fun _ _ _ h => h) (by as_aux_lemma => kernel_rfl) (fun L u h => h) (Or.inl ⟨by rfl, ?_⟩) hs ?_
  rotate_left
  · intro w hY; go_simp; try with_reducible rfl
  try simp only [putz]
  refine Goes.one (i := 29) (o := ⟨none, _, _, _, _, _⟩) (by as_aux_lemma => kernel_rfl) rfl (fun K hK => ?_)
  go_simp
  refine hK.out _ _ (HKC.out _ _ hSn) ?_
  clear hK K
  try simp only [putz]
  refine Goes.done (by as_aux_lemma => kernel_rfl) ?_ _
  refine NoPanic.normal ?_
  exact hQ.out _ _ _ _ _ _ _ _ _ _ _ _ _ _ _ _ _ _ _ _ _ _ _ _ _ _ _ _ _ _ HN
end Go.Proofs.YtbloejlebikecaaGreatDoor
namespace Go.Proofs.YtbloejlebikecaaGreatDoor
open Go.RowKit
set_option linter.unusedVariables false
theorem hi132 (b : List UInt8) : Hid ((Tryz.prog.info? 177).map (·.size) = some (dv (wof b)).toArray.size) := by
  have h : (dv (wof b)).toArray.size = 64 := by rw [dv_size]; exact wof_length b
  rw [h]; exact hid i132
theorem ho132 (b : List UInt8) : Hid ((dv (List.replicate 64 0)).toArray.size = (dv (wof b)).toArray.size) := by
  have h : (dv (wof b)).toArray.size = 64 := by rw [dv_size]; exact wof_length b
  rw [h]; exact hid rfl
set_option maxRecDepth 100000 in
set_option maxHeartbeats 1000000 in
theorem spread_any (b : List UInt8) (w : World) (hb : b.length = 64) :
    Calls Tryz.prog 119 #[.agg (bvs b).toArray] w fun e w' => e = .returned (.agg (dv (wof b)).toArray) ∧ Below w.heap.size w w' := by
  have HB := hid hb
  clear hb
  go_enter Tryz.func119, Tryz.ntmps119
  go_wp2_with fail
  have HS := hid (Spr.init w b)
  have hlit : (dv (List.replicate 64 0)).toArray = #[.int .u32 0, .int .u32 0, .int .u32 0, .int .u32 0, .int .u32 0, .int .u32 0, .int .u32 0, .int .u32 0, .int .u32 0, .int .u32 0, .int .u32 0, .int .u32 0, .int .u32 0, .int .u32 0, .int .u32 0, .int .u32 0, .int .u32 0, .int .u32 0, .int .u32 0, .int .u32 0, .int .u32 0, .int .u32 0, .int .u32 0, .int .u32 0, .int .u32 0, .int .u32 0, .int .u32 0, .int .u32 0, .int .u32 0, .int .u32 0, .int .u32 0, .int .u32 0, .int .u32 0, .int .u32 0, .int .u32 0, .int .u32 0, .int .u32 0, .int .u32 0, .int .u32 0, .int .u32 0, .int .u32 0, .int .u32 0, .int .u32 0, .int .u32 0, .int .u32 0, .int .u32 0, .int .u32 0, .int .u32 0, .int .u32 0, .int .u32 0, .int .u32 0, .int .u32 0, .int .u32 0, .int .u32 0, .int .u32 0, .int .u32 0, .int .u32 0, .int .u32 0, .int .u32 0, .int .u32 0, .int .u32 0, .int .u32 0, .int .u32 0, .int .u32 0] := rfl
  rw [← hlit]
  clear hlit
  generalize ((w.alloc (.cells (bvs b).toArray 172)).alloc (.cells (dv (List.replicate 64 0)).toArray 177)).alloc (.cells (dv (List.replicate 64 0)).toArray 177) = w0 at *
  go_loopw [8] (fun i wr => ∃ (k : Nat) (l : List Nat), k ≤ 64 ∧ i = .int .i64 k ∧ Hid (Spr w b l wr) ∧ Hid (l.length = 64) ∧ Hid (∀ j, j < 64 → at' l j = part b k j)) (fun i _ => 64 - (intOf i).toNat)
  case atStart => exact ⟨0, List.replicate 64 0, by omega, rfl, HS, hid (by simp), hid (fun j hj => by rw [part_none, at_lt (by simpa using hj), List.getElem_replicate])⟩
  case round =>
    obtain ⟨k, l, hk, rfl, HS, HL, HA⟩ := hrel
    by_cases hlt : k < 64
    · obtain ⟨q, hq⟩ : ∃ q : Nat, q = k / 4 := ⟨_, rfl⟩
      have hqi : (k : Int) / 4 = (q : Int) := by omega
      have hq16 : q < 16 := by omega
      have HQ := hid hq
      clear hq
      have cw := HS.out.l.cell q (by have := HL.out; omega)
      have cf := HS.out.l.frozen q
      have cb := HS.out.b.cell k (by have := HB.out; omega)
      rw [HA.out q (by omega)] at cw
      have HP := hid (p := part b k q < 16777216) (by rw [HQ.out]; exact part_lt b k)
      have HST := hid (part_step b k (by have := HB.out; omega))
      have HBL := hid ((b[k]'(by have := HB.out; omega)).toNat_lt)
      generalize (b[k]'(by have := HB.out; omega)).toNat = x at *
      have HPE := hid (p := part b k q = part b k q) rfl
      generalize hpe : part b k q = t at cw HP
      have HT := hid hpe
      clear hpe HPE
      have HO := hid (or_step t x HP.out HBL.out)
      go_wp2
      go_region
      go_wp2
      go_roundw
      case rel =>
        refine ⟨k + 1, l.set q (t * 256 + x), by omega, by go_num, ?_, hid (by rw [List.length_set]; exact HL.out), hid ?_⟩
        · have := (HS.out.set q (t * 256 + x)).drew
          rw [← HO.out] at this
          exact hid this
        · intro j hj
          rw [at_set _ _ _ _ (by have := HL.out; omega), HST.out j, HA.out j hj, ← HQ.out]
          by_cases h : j = q
          · subst h; rw [if_pos rfl, if_pos rfl, HT.out]
          · rw [if_neg h, if_neg h]
      case measure => simp [intOf]; omega
    · obtain rfl : k = 64 := by omega
      have HA2 := hid (p := ∀ j, j < 64 → at' l j = at' (ext (own b 16) 0) j) (fun j hj => by rw [HA.out j hj, part_all b HB.out]; rfl)
      clear HA
      go_wp2
      go_loopw [5] (fun i wr => ∃ (k : Nat) (l : List Nat), 16 ≤ k ∧ k ≤ 64 ∧ i = .int .i64 k ∧ Hid (Spr w b l wr) ∧ Hid (l.length = 64) ∧ Hid (∀ j, j < 64 → at' l j = at' (ext (own b 16) (k - 16)) j)) (fun i _ => 64 - (intOf i).toNat)
      case atStart => exact ⟨16, l, by omega, by omega, rfl, HS, HL, HA2⟩
      case round =>
        clear HS HL HA2
        obtain ⟨k, l, hk0, hk, rfl, HS, HL, HA⟩ := hrel
        by_cases hlt : k < 64
        · have HF := spr_facts HS.out HL.out HA.out hk0 hlt
          have HK := hid hk0
          have HK2 := hid hk
          clear hk0 hk
          obtain ⟨p15, p16, p7, p2, x, v16, v7, y, zx, zy, hp15, hp16, hp7, hp2, l15, l2, c15, c2, b15, b2, hzx, hzy, bx7, bx18, bzx, by17, by19, bzy, w16, w7, i16, i7, ik, j16, j7, jk, hS, HC, HKA, HKC, HV⟩ := HF
          go_wp2
          go_region
          go_wp2_with fail
          refine sp11_ok (hid HS.out.drew) p16 p7 x v16 v7 y zx zy hp16 hp7 b15 b2 hzx hzy bx7 bx18 bzx by17 by19 bzy w16 w7 i16 i7 ik j16 j7 jk hS HC HKA HKC _ _ _ _ _ _ _ _ _ _ _ _ _ _ _ _ _ _ _ _ _ _ _ _ _ _ _ _ _ _ _ _ _ _ _ _ _ _ _ _ _ _ _ _ _ _ _ _ _ _ _ _ _ _ _ _ _ _ _ _ _ _ _ (hid ?_)
          intro d37 d38 d39 d40 d41 d42 d43 d44 d45 d46 d47 d48 d49 d50 d51 d52 d53 d54 d55 d56 d57 d58 d59 d60 d61 d62 d63 d64 d65 wn HN
          rw [HV.out]
          go_wp2
          go_roundw
          case rel =>
            have h0 := HK.out
            refine ⟨k + 1, l.set k (nxw (ext (own b 16) (k - 16))), by omega, by omega, by go_num, hid (HN.out.set _ _), hid (by rw [List.length_set]; exact HL.out), hid ?_⟩
            intro j hj
            rw [at_set _ _ _ _ (by have := HL.out; omega), show k + 1 - 16 = (k - 16) + 1 by omega, ext, at_end, ext_length, own_length, show 16 + (k - 16) = k by omega]
            by_cases h : j = k
            · rw [if_pos h, if_pos h]
            · rw [if_neg h, if_neg h, HA.out j hj]
          case measure => simp [intOf]; omega
        · obtain rfl : k = 64 := by omega
          have hl : l = wof b := by
            refine eq_of_at (by rw [HL.out, wof_length]) (fun j hj => ?_)
            rw [HA.out j (by have := HL.out; omega)]; rfl
          have HS2 : Hid (Spr w b (wof b) wr) := hid (hl ▸ HS.out)
          clear HA HL HS hl
          have HS := HS2
          clear HS2
          have HI := hi132 b
          have HO := ho132 b
          have HZ := hid (HS.out.z.row (m := wof b))
          have HBW := hid (p := Below w.heap.size w (wr.setRow (w.heap.size + 1) (dv (wof b)).toArray)) (below_setRow HS.out.below (Nat.le_succ _) _)
          go_upto_region 12 with fail
          have HDA := dv_all (wof b)
          have HZL := HS.out.l
          have HZZ := HS.out.z
          unfold Us at HZL HZZ
          have HZL := hid HZL
          have HZZ := hid HZZ
          generalize (dv (wof b)).toArray = dw at *
          go_wp2_with (first | (refine wpList_load_row rfl 177 (.tmp 3) rfl (w.heap.size + 1 + 1) rfl 177 dw (0, 0) _ HZL.out Tryz.underlying177 rfl HI.out ?_) | (refine wpList_store_row rfl 177 (.tmp 2) (.tmp 66) rfl (w.heap.size + 1) dw rfl rfl 177 _ HZZ.out HI.out HO.out (by assumption) ?_))
          exact bodyPost_ret (v := .agg (dv (wof b)).toArray) (results_cell_row (p := 2) (ty := 177) Tryz.results119 _ _ (w.heap.size + 1) 177 (dv (wof b)).toArray (0, 0) _ rfl HZ.out Tryz.underlying177 rfl (hi132 b).out) rfl ⟨rfl, HBW.out⟩
end Go.Proofs.YtbloejlebikecaaGreatDoor
namespace Go.Proofs.YtbloejlebikecaaGreatDoor
open Go.RowKit
set_option linter.unusedVariables false

/-- the library's numbers K, in their variable -/
def Kt (w : World) : Prop := ∀ j, j < 64 → w.cell? ⟨0, j, none⟩ = some (.int .u32 (at' kk j : Nat))
theorem Kt.lt {w : World} (h : Kt w) : 0 < w.heap.size := World.block_lt_of_cell? w ⟨0, 0, none⟩ (h 0 (by decide))
theorem Kt.on {w w' : World} (h : Kt w) (hb : Below w.heap.size w w') : Kt w' := fun j hj => (hb.cell (p := ⟨0, j, none⟩) h.lt).trans (h j hj)
/-- the region that reckons t -/
noncomputable def tk6 : Code := ((Tryz.f116.body.bind (findRegion 6)).getD .skip)
theorem not32 (e : Nat) (he : e < 4294967296) : 4294967295 ^^^ e = 4294967295 - e := by
  apply Nat.eq_of_testBit_eq
  intro i
  rw [show 4294967295 - e = 2 ^ 32 - (e + 1) by omega, Nat.testBit_two_pow_sub_succ (by omega), Nat.testBit_xor, show 4294967295 = 2 ^ 32 - 1 by decide, Nat.testBit_two_pow_sub_one]
  rcases Nat.lt_or_ge i 32 with h | h
  · simp [h]
  · have : e.testBit i = false := Nat.testBit_lt_two_pow (Nat.lt_of_lt_of_le he (Nat.pow_le_pow_right (n := 2) (i := 32) (by decide) h))
    rw [this]; simp
theorem t_eq (e f g h kv wv : Nat) (he : e < 4294967296) (hf : f < 4294967296) (hg : g < 4294967296) (m : Nat) :
    IntKind.u32.wrap (IntKind.u32.wrap (IntKind.u32.wrap (IntKind.u32.wrap ((h : Int) + (m : Int)) + bits BinOp.or IntKind.u32 (bits BinOp.and IntKind.u32 (e : Int) (f : Int)) (bits BinOp.and IntKind.u32 (bits BinOp.xor IntKind.u32 IntKind.u32.max (e : Int)) (g : Int))) + (kv : Int)) + (wv : Int)) = ((((((h + m) % 4294967296 + cho e f g) % 4294967296 + kv) % 4294967296 + wv) % 4294967296 : Nat) : Int) := by
  have e1 : bits BinOp.xor IntKind.u32 IntKind.u32.max (e : Int) = ((4294967295 - e : Nat) : Int) := by
    rw [← not32 e he]; exact u32_xor_nat 4294967295 e (by decide) he
  rw [e1, u32_and_nat e f he hf, u32_and_nat (4294967295 - e) g (by omega) hg, u32_or_nat _ _ (and_lt _ he) (and_lt _ (by omega)), IntKind.wrap_u32, IntKind.wrap_u32, IntKind.wrap_u32, IntKind.wrap_u32]
  unfold cho
  omega
set_option maxRecDepth 100000 in
set_option maxHeartbeats 1000000 in
theorem tk6_ok {wr : World} {g3 i e f g h kv wv tv : Nat} {Q : Exit → Act → World → Prop} (be : e < 4294967296) (b6 : rot e 6 < 4294967296) (b11 : rot e 11 < 4294967296) (b25 : rot e 25 < 4294967296)
    (i64 : (i : Int) < 64) (i0 : (0 : Int) ≤ i) (wi : IntKind.i64.wrap (i : Int) = (i : Int))
    (hS : wr.cell? ⟨0, i, none⟩ = some (.int .u32 (kv : Int)) ∧ wr.cell? ⟨g3, i, none⟩ = some (.int .u32 (wv : Int)) ∧ 0 < wr.heap.size ∧ g3 < wr.heap.size) (HKA : Hid (∀ (W : World) (o : Obj), (W.cell? ⟨0, i, none⟩ = some (.int .u32 (kv : Int)) ∧ W.cell? ⟨g3, i, none⟩ = some (.int .u32 (wv : Int)) ∧ 0 < W.heap.size ∧ g3 < W.heap.size) → ((W.alloc o).cell? ⟨0, i, none⟩ = some (.int .u32 (kv : Int)) ∧ (W.alloc o).cell? ⟨g3, i, none⟩ = some (.int .u32 (wv : Int)) ∧ 0 < (W.alloc o).heap.size ∧ g3 < (W.alloc o).heap.size)))
    (HT : Hid (IntKind.u32.wrap (IntKind.u32.wrap (IntKind.u32.wrap (IntKind.u32.wrap ((h : Int) + ((rot e 6 ^^^ rot e 11 ^^^ rot e 25 : Nat) : Int)) + bits BinOp.or IntKind.u32 (bits BinOp.and IntKind.u32 (e : Int) (f : Int)) (bits BinOp.and IntKind.u32 (bits BinOp.xor IntKind.u32 IntKind.u32.max (e : Int)) (g : Int))) + (kv : Int)) + (wv : Int)) = (tv : Int)))
    (c0 c1 c2 c3 c4 c6 c7 c8 c9 c15 c16 c17 c18 c19 c20 c21 c22 c23 c24 c25 c26 c27 c28 c29 c30 c31 c32 c33 c34 c35 c36 c37 c38 c39 c40 c41 c42 c43 c44 c45 c46 c47 c48 c49 c50 c51 c52 c53 c54 c55 c56 c57 c58 c59 c60 c61 c62 c63 c64 c65 c66 c67 c68 c69 c70 c71 c72 c73 c74 c75 c76 c77 c78 c79 c80 c81 c82 c83 c84 c85 c86 c87 c88 c89 c90 c91 c92 c93 c94 c95 c96 c97 c98 c99 c100 c101 c102 c103 c104 c105 c106 c107 c108 c109 c110 c111 c112 c113 c114 c115 c116 c117 c118 c119 c120 : Value)
    (hQ : Hid (∀ (d40 d41 d42 d43 d44 d45 d46 d47 d48 d49 d50 d51 d52 d53 d54 d55 d56 d57 d58 d59 d60 d61 d62 d63 d64 d65 d66 : Value) (wn : World), Hid (Below wr.heap.size wr wn) → Q .normal ⟨#[c0, c1, c2, c3, c4, .pointer (some ⟨g3, 0, none⟩), c6, c7, c8, c9, .int .u32 (e : Int), .int .u32 (f : Int), .int .u32 (g : Int), .int .u32 (h : Int), .int .i64 (i : Int), .int .u32 (tv : Int), c16, c17, c18, c19, c20, c21, c22, c23, c24, c25, c26, c27, c28, c29, c30, c31, c32, c33, c34, c35, c36, c37, c38, c39, d40, d41, d42, d43, d44, d45, d46, d47, d48, d49, d50, d51, d52, d53, d54, d55, d56, d57, d58, d59, d60, d61, d62, d63, d64, d65, d66, c67, c68, c69, c70, c71, c72, c73, c74, c75, c76, c77, c78, c79, c80, c81, c82, c83, c84, c85, c86, c87, c88, c89, c90, c91, c92, c93, c94, c95, c96, c97, c98, c99, c100, c101, c102, c103, c104, c105, c106, c107, c108, c109, c110, c111, c112, c113, c114, c115, c116, c117, c118, c119, c120], []⟩ wn)) :
    Code.wp Tryz.prog tk6 Q ⟨#[c0, c1, c2, c3, c4, .pointer (some ⟨g3, 0, none⟩), c6, c7, c8, c9, .int .u32 (e : Int), .int .u32 (f : Int), .int .u32 (g : Int), .int .u32 (h : Int), .int .i64 (i : Int), c15, c16, c17, c18, c19, c20, c21, c22, c23, c24, c25, c26, c27, c28, c29, c30, c31, c32, c33, c34, c35, c36, c37, c38, c39, c40, c41, c42, c43, c44, c45, c46, c47, c48, c49, c50, c51, c52, c53, c54, c55, c56, c57, c58, c59, c60, c61, c62, c63, c64, c65, c66, c67, c68, c69, c70, c71, c72, c73, c74, c75, c76, c77, c78, c79, c80, c81, c82, c83, c84, c85, c86, c87, c88, c89, c90, c91, c92, c93, c94, c95, c96, c97, c98, c99, c100, c101, c102, c103, c104, c105, c106, c107, c108, c109, c110, c111, c112, c113, c114, c115, c116, c117, c118, c119, c120], []⟩ wr := by
  conv => arg 2; whnf
  have hs : wr.drew.cell? ⟨0, i, none⟩ = some (.int .u32 (kv : Int)) ∧ wr.drew.cell? ⟨g3, i, none⟩ = some (.int .u32 (wv : Int)) ∧ 0 < wr.drew.heap.size ∧ g3 < wr.drew.heap.size := hS
  refine wp_region_noPanic ?_
  refine Goes.region (fun (L : Array Bool) (w' : World) => w'.cell? ⟨0, i, none⟩ = some (.int .u32 (kv : Int)) ∧ w'.cell? ⟨g3, i, none⟩ = some (.int .u32 (wv : Int)) ∧ 0 < w'.heap.size ∧ g3 < w'.heap.size) (by as_aux_lemma => kernel_rfl) ?_
  refine Goes.take (i := 0) (o := ⟨some 40, _, _, _, _, _⟩) (v := ?_) [] rfl (by as_aux_lemma => kernel_rfl) (by as_aux_lemma => kernel_rfl) (by as_aux_lemma => kernel_rfl) (fun _ _ _ h => h) (by as_aux_lemma => kernel_rfl) (fun L u h => h) (Or.inl ⟨by rfl, ?_⟩) hs ?_
  rotate_left
  · intro w hY; go_simp; try with_reducible rfl
  try simp only [putz]
  refine Goes.take (i := 1) (o := ⟨some 41, _, _, _, _, _⟩) (v := ?_) [] rfl (by as_aux_lemma => kernel_rfl) (by as_aux_lemma => kernel_rfl) (by as_aux_lemma => kernel_rfl) (fun _ _ _ h => h) (by as_aux_lemma => kernel_rfl) (fun L u h => h) (Or.inl ⟨by rfl, ?_⟩) hs ?_
  rotate_left
  · intro w hY; go_simp; try with_reducible rfl
  try simp only [putz]
  refine Goes.take (i := 3) (o := ⟨some 43, _, _, _, _, _⟩) (v := ?_) [] rfl (by as_aux_lemma => kernel_rfl) (by as_aux_lemma => kernel_rfl) (by as_aux_lemma => kernel_rfl) (fun _ _ _ h => h) (by as_aux_lemma => kernel_rfl) (fun L u h => h) (Or.inl ⟨by rfl, ?_⟩) hs ?_
  rotate_left
  · intro w hY; go_simp; try with_reducible rfl
  try simp only [putz]
  refine Goes.take (i := 5) (o := ⟨some 45, _, _, _, _, _⟩) (v := ?_) [] rfl (by as_aux_lemma => kernel_rfl) (by as_aux_lemma => kernel_rfl) (by as_aux_lemma => kernel_rfl) (fun _ _ _ h => h) (by as_aux_lemma => kernel_rfl) (fun L u h => h) (Or.inl ⟨by rfl, ?_⟩) hs ?_
  rotate_left
  · intro w hY; go_simp; try with_reducible rfl
  try simp only [putz]
  refine Goes.take (i := 10) (o := ⟨some 50, _, _, _, _, _⟩) (v := ?_) [] rfl (by as_aux_lemma => kernel_rfl) (by as_aux_lemma => kernel_rfl) (by as_aux_lemma => kernel_rfl) (fun _ _ _ h => h) (by as_aux_lemma => kernel_rfl) (fun L u h => h) (Or.inl ⟨by rfl, ?_⟩) hs ?_
  rotate_left
  · intro w hY; go_simp; try with_reducible rfl
  try simp only [putz]
  refine Goes.take (i := 11) (o := ⟨some 51, _, _, _, _, _⟩) (v := ?_) [] rfl (by as_aux_lemma => kernel_rfl) (by as_aux_lemma => kernel_rfl) (by as_aux_lemma => kernel_rfl) (fun _ _ _ h => h) (by as_aux_lemma => kernel_rfl) (fun L u h => h) (Or.inl ⟨by rfl, ?_⟩) hs ?_
  rotate_left
  · intro w hY; go_simp; try with_reducible rfl
  try simp only [putz]
  refine Goes.take (i := 12) (o := ⟨some 52, _, _, _, _, _⟩) (v := ?_) [] rfl (by as_aux_lemma => kernel_rfl) (by as_aux_lemma => kernel_rfl) (by as_aux_lemma => kernel_rfl) (fun _ _ _ h => h) (by as_aux_lemma => kernel_rfl) (fun L u h => h) (Or.inl ⟨by rfl, ?_⟩) hs ?_
  rotate_left
  · intro w hY; go_simp; try with_reducible rfl
  try simp only [putz]
  refine Goes.take (i := 13) (o := ⟨some 53, _, _, _, _, _⟩) (v := ?_) [] rfl (by as_aux_lemma => kernel_rfl) (by as_aux_lemma => kernel_rfl) (by as_aux_lemma => kernel_rfl) (fun _ _ _ h => h) (by as_aux_lemma => kernel_rfl) (fun L u h => h) (Or.inl ⟨by rfl, ?_⟩) hs ?_
  rotate_left
  · intro w hY; go_simp; try with_reducible rfl
  try simp only [putz]
  refine Goes.take (i := 14) (o := ⟨some 54, _, _, _, _, _⟩) (v := ?_) [] rfl (by as_aux_lemma => kernel_rfl) (by as_aux_lemma => kernel_rfl) (by as_aux_lemma => kernel_rfl) (fun _ _ _ h => h) (by as_aux_lemma => kernel_rfl) (fun L u h => h) (Or.inl ⟨by rfl, ?_⟩) hs ?_
  rotate_left
  · intro w hY; go_simp; try with_reducible rfl
  try simp only [putz]
  refine Goes.take (i := 15) (o := ⟨some 55, _, _, _, _, _⟩) (v := ?_) [] rfl (by as_aux_lemma => kernel_rfl) (by as_aux_lemma => kernel_rfl) (by as_aux_lemma => kernel_rfl) (fun _ _ _ h => h) (by as_aux_lemma => kernel_rfl) (fun L u h => h) (Or.inl ⟨by rfl, ?_⟩) hs ?_
  rotate_left
  · intro w hY; go_simp; try with_reducible rfl
  try simp only [putz]
  refine Goes.take (i := 16) (o := ⟨some 56, _, _, _, _, _⟩) (v := ?_) [] rfl (by as_aux_lemma => kernel_rfl) (by as_aux_lemma => kernel_rfl) (by as_aux_lemma => kernel_rfl) (fun _ _ _ h => h) (by as_aux_lemma => kernel_rfl) (fun L u h => h) (Or.inl ⟨by rfl, ?_⟩) hs ?_
  rotate_left
  · intro w hY; go_simp; try with_reducible rfl
  try simp only [putz]
  refine Goes.take (i := 17) (o := ⟨some 57, _, _, _, _, _⟩) (v := ?_) [] rfl (by as_aux_lemma => kernel_rfl) (by as_aux_lemma => kernel_rfl) (by as_aux_lemma => kernel_rfl) (fun _ _ _ h => h) (by as_aux_lemma => kernel_rfl) (fun L u h => h) (Or.inl ⟨by rfl, ?_⟩) hs ?_
  rotate_left
  · intro w hY; go_simp; try with_reducible rfl
  try simp only [putz]
  refine Goes.take (i := 19) (o := ⟨some 59, _, _, _, _, _⟩) (v := ?_) [] rfl (by as_aux_lemma => kernel_rfl) (by as_aux_lemma => kernel_rfl) (by as_aux_lemma => kernel_rfl) (fun _ _ _ h => h) (by as_aux_lemma => kernel_rfl) (fun L u h => h) (Or.inl ⟨by rfl, ?_⟩) hs ?_
  rotate_left
  · intro w hY; go_simp; try with_reducible rfl
  try simp only [putz]
  refine Goes.take (i := 20) (o := ⟨some 60, _, _, _, _, _⟩) (v := ?_) [] rfl (by as_aux_lemma => kernel_rfl) (by as_aux_lemma => kernel_rfl) (by as_aux_lemma => kernel_rfl) (fun _ _ _ h => h) (by as_aux_lemma => kernel_rfl) (fun L u h => h) (Or.inl ⟨by rfl, ?_⟩) hs ?_
  rotate_left
  · intro w hY; go_simp; try with_reducible rfl
  try simp only [putz]
  refine Goes.take (i := 21) (o := ⟨some 61, _, _, _, _, _⟩) (v := ?_) [] rfl (by as_aux_lemma => kernel_rfl) (by as_aux_lemma => kernel_rfl) (by as_aux_lemma => kernel_rfl) (fun _ _ _ h => h) (by as_aux_lemma => kernel_rfl) (fun L u h => h) (Or.inl ⟨by rfl, ?_⟩) hs ?_
  rotate_left
  · intro w hY; obtain ⟨up, hL⟩ := hY; have hX := hL.2.1; clear hL; (try dsimp only at hX); go_simp; try with_reducible rfl
  try simp only [putz]
  refine Goes.take (i := 23) (o := ⟨some 63, _, _, _, _, _⟩) (v := ?_) [] rfl (by as_aux_lemma => kernel_rfl) (by as_aux_lemma => kernel_rfl) (by as_aux_lemma => kernel_rfl) (fun _ _ _ h => h) (by as_aux_lemma => kernel_rfl) (fun L u h => h) (Or.inl ⟨by rfl, ?_⟩) hs ?_
  rotate_left
  · intro w hY; go_simp; try with_reducible rfl
  try simp only [putz]
  refine Goes.take (i := 24) (o := ⟨some 64, _, _, _, _, _⟩) (v := ?_) [] rfl (by as_aux_lemma => kernel_rfl) (by as_aux_lemma => kernel_rfl) (by as_aux_lemma => kernel_rfl) (fun _ _ _ h => h) (by as_aux_lemma => kernel_rfl) (fun L u h => h) (Or.inl ⟨by rfl, ?_⟩) hs ?_
  rotate_left
  · intro w hY; go_simp; try with_reducible rfl
  try simp only [putz]
  refine Goes.take (i := 25) (o := ⟨some 65, _, _, _, _, _⟩) (v := ?_) [] rfl (by as_aux_lemma => kernel_rfl) (by as_aux_lemma => kernel_rfl) (by as_aux_lemma => kernel_rfl) (fun _ _ _ h => h) (by as_aux_lemma => kernel_rfl) (fun L u h => h) (Or.inl ⟨by rfl, ?_⟩) hs ?_
  rotate_left
  · intro w hY; obtain ⟨up, hL⟩ := hY; have hX := hL.2.2.1; clear hL; (try dsimp only at hX); go_simp; try with_reducible rfl
  try simp only [putz]
  refine Goes.one (i := 2) (o := ⟨some 42, _, _, _, _, _⟩) (by as_aux_lemma => kernel_rfl) rfl (fun K hK => ?_)
  go_simp
  with_reducible refine (turn_6 _ _ be).mono ?_
  rintro e' wa ⟨rfl, rfl⟩
  go_wp2_with fail
  refine hK.out _ _ hs ?_
  clear hK K
  try simp only [putz]
  refine Goes.one (i := 4) (o := ⟨some 44, _, _, _, _, _⟩) (by as_aux_lemma => kernel_rfl) rfl (fun K hK => ?_)
  go_simp
  with_reducible refine (turn_11 _ _ be).mono ?_
  rintro e' wb ⟨rfl, rfl⟩
  go_wp2_with fail
  refine hK.out _ _ hs ?_
  clear hK K
  try simp only [putz]
  refine Goes.one (i := 6) (o := ⟨some 46, _, _, _, _, _⟩) (by as_aux_lemma => kernel_rfl) rfl (fun K hK => ?_)
  go_simp
  with_reducible refine (turn_25 _ _ be).mono ?_
  rintro e' wc ⟨rfl, rfl⟩
  go_wp2_with fail
  refine hK.out _ _ hs ?_
  clear hK K
  try simp only [putz]
  refine Goes.one (i := 7) (o := ⟨some 47, _, _, _, _, _⟩) (by as_aux_lemma => kernel_rfl) rfl (fun K hK => ?_)
  go_simp
  have T1 : Hid (Tri ((wr.alloc (.cells #[.int .u32 (rot e 6 : Nat), .int .u32 (rot e 11 : Nat), .int .u32 (rot e 25 : Nat)] 102)).drew) wr.heap.size _ _ _) := hid (Tri.n1 wr _ _ _)
  have hs1 : ((wr.alloc (.cells #[.int .u32 (rot e 6 : Nat), .int .u32 (rot e 11 : Nat), .int .u32 (rot e 25 : Nat)] 102)).drew).cell? ⟨0, i, none⟩ = some (.int .u32 (kv : Int)) ∧ ((wr.alloc (.cells #[.int .u32 (rot e 6 : Nat), .int .u32 (rot e 11 : Nat), .int .u32 (rot e 25 : Nat)] 102)).drew).cell? ⟨g3, i, none⟩ = some (.int .u32 (wv : Int)) ∧ 0 < ((wr.alloc (.cells #[.int .u32 (rot e 6 : Nat), .int .u32 (rot e 11 : Nat), .int .u32 (rot e 25 : Nat)] 102)).drew).heap.size ∧ g3 < ((wr.alloc (.cells #[.int .u32 (rot e 6 : Nat), .int .u32 (rot e 11 : Nat), .int .u32 (rot e 25 : Nat)] 102)).drew).heap.size := HKA.out wr _ hS
  refine hK.out _ _ hs1 ?_
  have HW : Hid (Below wr.heap.size wr ((wr.alloc (.cells #[.int .u32 (rot e 6 : Nat), .int .u32 (rot e 11 : Nat), .int .u32 (rot e 25 : Nat)] 102)).drew)) := hid (((Below.refl _ _).alloc (Nat.le_refl _) _).drew)
  clear hK K hs hS
  generalize (wr.alloc (.cells #[.int .u32 (rot e 6 : Nat), .int .u32 (rot e 11 : Nat), .int .u32 (rot e 25 : Nat)] 102)).drew = w1 at *
  generalize wr.heap.size = s1 at *
  have hs := hs1
  clear hs1
  try simp only [putz]
  refine Goes.one (i := 8) (o := ⟨some 48, _, _, _, _, _⟩) (by as_aux_lemma => kernel_rfl) rfl (fun K hK => ?_)
  go_simp
  with_reducible refine (mix_any _ _ _ _ _ T1.out b6 b11 b25).mono ?_
  rintro e' wd ⟨rfl, rfl⟩
  go_wp2_with fail
  refine hK.out _ _ hs ?_
  clear hK K
  try simp only [putz]
  refine Goes.take (i := 9) (o := ⟨some 49, _, _, _, _, _⟩) (v := ?_) [] rfl (by as_aux_lemma => kernel_rfl) (by as_aux_lemma => kernel_rfl) (by as_aux_lemma => kernel_rfl) (fun _ _ _ h => h) (by as_aux_lemma => kernel_rfl) (fun L u h => h) (Or.inl ⟨by rfl, ?_⟩) hs ?_
  rotate_left
  · intro w hY; go_simp; try with_reducible rfl
  try simp only [putz]
  refine Goes.take (i := 18) (o := ⟨some 58, _, _, _, _, _⟩) (v := ?_) [] rfl (by as_aux_lemma => kernel_rfl) (by as_aux_lemma => kernel_rfl) (by as_aux_lemma => kernel_rfl) (fun _ _ _ h => h) (by as_aux_lemma => kernel_rfl) (fun L u h => h) (Or.inl ⟨by rfl, ?_⟩) hs ?_
  rotate_left
  · intro w hY; go_simp; try with_reducible rfl
  try simp only [putz]
  refine Goes.take (i := 22) (o := ⟨some 62, _, _, _, _, _⟩) (v := ?_) [] rfl (by as_aux_lemma => kernel_rfl) (by as_aux_lemma => kernel_rfl) (by as_aux_lemma => kernel_rfl) (fun _ _ _ h => h) (by as_aux_lemma => kernel_rfl) (fun L u h => h) (Or.inl ⟨by rfl, ?_⟩) hs ?_
  rotate_left
  · intro w hY; go_simp; try with_reducible rfl
  try simp only [putz]
  refine Goes.take (i := 26) (o := ⟨some 66, _, _, _, _, _⟩) (v := ?_) [] rfl (by as_aux_lemma => kernel_rfl) (by as_aux_lemma => kernel_rfl) (by as_aux_lemma => kernel_rfl) (fun _ _ _ h => h) (by as_aux_lemma => kernel_rfl) (fun L u h => h) (Or.inl ⟨by rfl, ?_⟩) hs ?_
  rotate_left
  · intro w hY; go_simp; try with_reducible rfl
  try simp only [putz]
  refine Goes.take (i := 27) (o := ⟨some 15, _, _, _, _, _⟩) (v := ?_) [] rfl (by as_aux_lemma => kernel_rfl) (by as_aux_lemma => kernel_rfl) (by as_aux_lemma => kernel_rfl) (fun _ _ _ h => h) (by as_aux_lemma => kernel_rfl) (fun L u h => h) (Or.inl ⟨by rfl, ?_⟩) hs ?_
  rotate_left
  · intro w hY; go_simp; try with_reducible rfl
  try simp only [putz]
  refine Goes.done (by as_aux_lemma => kernel_rfl) ?_ _
  refine NoPanic.normal ?_
  rw [HT.out]
  exact hQ.out _ _ _ _ _ _ _ _ _ _ _ _ _ _ _ _ _ _ _ _ _ _ _ _ _ _ _ _ HW
end Go.Proofs.YtbloejlebikecaaGreatDoor
namespace Go.Proofs.YtbloejlebikecaaGreatDoor
open Go.RowKit
set_option linter.unusedVariables false

theorem i57 : (Tryz.prog.info? 170).map (·.size) = some 8 := by kernel_rfl
theorem i59 : (Tryz.prog.info? 172).map (·.size) = some 64 := by kernel_rfl
theorem bvs_size (l : List UInt8) : (bvs l).toArray.size = l.length := by simp [bvs]
theorem bvs_all (l : List UInt8) : (bvs l).toArray.all (·.oneCell') = true := all_oneCell_toArray (bvs_one l)
theorem hi59 (b : List UInt8) (h : b.length = 64) : Hid ((Tryz.prog.info? 172).map (·.size) = some (bvs b).toArray.size) := by rw [bvs_size, h]; exact hid i59
theorem hi57 (l : List Nat) (h : l.length = 8) : Hid ((Tryz.prog.info? 170).map (·.size) = some (dv l).toArray.size) := by rw [dv_size, h]; exact hid i57
theorem Us.rowOther {w : World} {g g' : Nat} {t : TypeId} {l : List Nat} (h : Us w g t l) (cs : Array Value) (hne : g ≠ g') : Us (w.setRow g' cs) g t l := (setRow_other w g' g cs hne).trans h
theorem Kt.drew {w : World} (h : Kt w) : Kt w.drew := h
theorem Kt.setOther {w : World} (h : Kt w) {g i : Nat} (v : Value) (hg : 0 ≠ g) : Kt (w.setCell ⟨g, i, none⟩ v) := fun j hj => (World.cell?_setCell_other _ _ _ _ (by intro e; injection e with e1; exact hg e1.symm)).trans (h j hj)
/-- what stands while a block is taken in: n's box, the answer's, the block's numbers, K -/
structure Tkc (w : World) (g3 : Nat) (l : List Nat) (b : List UInt8) (w' : World) : Prop where
  below : Below w.heap.size w w'
  n : Us w' w.heap.size 170 l
  z : Us w' (w.heap.size + 1 + 1) 170 (List.replicate 8 0)
  x : Us w' g3 177 (wof b)
  k : Kt w'
  lt : w.heap.size + 1 + 1 < g3
  k3 : 0 < w.heap.size
theorem Tkc.on {w w' w2 : World} {g3 : Nat} {l : List Nat} {b : List UInt8} (h : Tkc w g3 l b w') (hb : Below w'.heap.size w' w2) : Tkc w g3 l b w2 :=
  ⟨h.below.trans (hb.mono (Nat.le_of_lt h.n.lt)), h.n.on hb, h.z.on hb, h.x.on hb, h.k.on hb, h.lt, h.k3⟩
theorem Tkc.alloc {w w' : World} {g3 : Nat} {l : List Nat} {b : List UInt8} (h : Tkc w g3 l b w') (o : Obj) : Tkc w g3 l b (w'.alloc o) := h.on ((Below.refl _ _).alloc (Nat.le_refl _) o)
theorem Tkc.drew {w w' : World} {g3 : Nat} {l : List Nat} {b : List UInt8} (h : Tkc w g3 l b w') : Tkc w g3 l b w'.drew := ⟨h.below.drew, h.n, h.z, h.x, h.k, h.lt, h.k3⟩
theorem Tkc.drewN {w w' : World} {g3 : Nat} {l : List Nat} {b : List UInt8} (h : Tkc w g3 l b w') (n : Nat) : Tkc w g3 l b (w'.drewN n) := ⟨h.below.trans ⟨rfl, rfl, rfl, Nat.le_refl _, fun _ _ => rfl⟩, h.n, h.z, h.x, h.k, h.lt, h.k3⟩
theorem Tkc.set {w w' : World} {g3 : Nat} {l : List Nat} {b : List UInt8} (h : Tkc w g3 l b w') (k v : Nat) : Tkc w g3 (l.set k v) b (w'.setCell ⟨w.heap.size, k, none⟩ (.int .u32 (v : Int))) :=
  ⟨h.below.setCell (Nat.le_refl _) _, h.n.set k v, h.z.other _ (by omega), h.x.other _ (by have := h.lt; omega), h.k.setOther _ (by have := h.k3; omega), h.lt, h.k3⟩
theorem take_init (w : World) (l : List Nat) (b : List UInt8) : Hid (Us (((w.alloc (.cells (dv l).toArray 170)).alloc (.cells (bvs b).toArray 172)).alloc (.cells #[.int .u32 0, .int .u32 0, .int .u32 0, .int .u32 0, .int .u32 0, .int .u32 0, .int .u32 0, .int .u32 0] 170)) w.heap.size 170 l) ∧
    Hid (Bt (((w.alloc (.cells (dv l).toArray 170)).alloc (.cells (bvs b).toArray 172)).alloc (.cells #[.int .u32 0, .int .u32 0, .int .u32 0, .int .u32 0, .int .u32 0, .int .u32 0, .int .u32 0, .int .u32 0] 170)) (w.heap.size + 1) 172 b) ∧
    Hid (Us (((w.alloc (.cells (dv l).toArray 170)).alloc (.cells (bvs b).toArray 172)).alloc (.cells #[.int .u32 0, .int .u32 0, .int .u32 0, .int .u32 0, .int .u32 0, .int .u32 0, .int .u32 0, .int .u32 0] 170)) (w.heap.size + 1 + 1) 170 (List.replicate 8 0)) ∧
    Hid (Below w.heap.size w (((w.alloc (.cells (dv l).toArray 170)).alloc (.cells (bvs b).toArray 172)).alloc (.cells #[.int .u32 0, .int .u32 0, .int .u32 0, .int .u32 0, .int .u32 0, .int .u32 0, .int .u32 0, .int .u32 0] 170))) := by
  have s1 : ∀ (w : World) (o : Obj), (w.alloc o).heap.size = w.heap.size + 1 := fun w o => Array.size_push _
  refine ⟨hid (Us.alloc (Us.alloc (heap_alloc_new _ _) _) _), hid (Bt.alloc ?_ _), hid ?_, hid ((((Below.refl _ _).alloc (Nat.le_refl _) _).alloc (by rw [s1]; omega) _).alloc (by rw [s1, s1]; omega) _)⟩
  · rw [← s1 w (.cells (dv l).toArray 170)]; exact heap_alloc_new _ _
  · rw [← s1 w (.cells (dv l).toArray 170), ← s1 _ (.cells (bvs b).toArray 172)]; exact heap_alloc_new _ _
/-- the block's numbers in a box of their own -/
theorem take_box {w w1 : World} {l : List Nat} {b : List UInt8} (h1 : Us w1 w.heap.size 170 l) (h2 : Us w1 (w.heap.size + 1 + 1) 170 (List.replicate 8 0)) (h3 : Below w.heap.size w w1) (hK : Kt w) :
    Hid (Tkc w w1.heap.size l b ((w1.alloc (.cells #[.int .u32 0, .int .u32 0, .int .u32 0, .int .u32 0, .int .u32 0, .int .u32 0, .int .u32 0, .int .u32 0, .int .u32 0, .int .u32 0, .int .u32 0, .int .u32 0, .int .u32 0, .int .u32 0, .int .u32 0, .int .u32 0, .int .u32 0, .int .u32 0, .int .u32 0, .int .u32 0, .int .u32 0, .int .u32 0, .int .u32 0, .int .u32 0, .int .u32 0, .int .u32 0, .int .u32 0, .int .u32 0, .int .u32 0, .int .u32 0, .int .u32 0, .int .u32 0, .int .u32 0, .int .u32 0, .int .u32 0, .int .u32 0, .int .u32 0, .int .u32 0, .int .u32 0, .int .u32 0, .int .u32 0, .int .u32 0, .int .u32 0, .int .u32 0, .int .u32 0, .int .u32 0, .int .u32 0, .int .u32 0, .int .u32 0, .int .u32 0, .int .u32 0, .int .u32 0, .int .u32 0, .int .u32 0, .int .u32 0, .int .u32 0, .int .u32 0, .int .u32 0, .int .u32 0, .int .u32 0, .int .u32 0, .int .u32 0, .int .u32 0, .int .u32 0] 177)).setRow w1.heap.size (dv (wof b)).toArray)) := by
  rw [World.setRow_alloc_new]
  have hb : Below w1.heap.size w1 (w1.alloc (.cells (dv (wof b)).toArray 177)) := (Below.refl _ _).alloc (Nat.le_refl _) _
  refine hid ⟨h3.trans (hb.mono (Nat.le_of_lt h1.lt)), h1.on hb, h2.on hb, heap_alloc_new _ _, (hK.on h3).on hb, h2.lt, hK.lt⟩
theorem Tkc.cells {w w' : World} {g3 : Nat} {l : List Nat} {b : List UInt8} (h : Tkc w g3 l b w') (hl : l.length = 8) : ∀ j, j < 8 → w'.cell? ⟨w.heap.size, j, none⟩ = some (.int .u32 (at' l j : Nat)) := fun j hj => h.n.cell j (by omega)
theorem u_eq (a b c m : Nat) (ha : a < 4294967296) (hb : b < 4294967296) (hc : c < 4294967296) :
    ((m : Int) + bits BinOp.or IntKind.u32 (bits BinOp.or IntKind.u32 (bits BinOp.and IntKind.u32 (a : Int) (b : Int)) (bits BinOp.and IntKind.u32 (a : Int) (c : Int))) (bits BinOp.and IntKind.u32 (b : Int) (c : Int))) % 4294967296 = (((m + maj a b c) % 4294967296 : Nat) : Int) := by
  rw [u32_and_nat a b ha hb, u32_and_nat a c ha hc, u32_and_nat b c hb hc, u32_or_nat _ _ (and_lt _ ha) (and_lt _ ha), u32_or_nat _ _ (or_lt (and_lt _ ha) (and_lt _ ha)) (and_lt _ hb)]
  unfold maj
  omega
theorem idx57_0 (a b c d e f g h : Nat) (w : World) : (Instr.index 170 (.agg #[.int .u32 (a : Int), .int .u32 (b : Int), .int .u32 (c : Int), .int .u32 (d : Int), .int .u32 (e : Int), .int .u32 (f : Int), .int .u32 (g : Int), .int .u32 (h : Int)]) (.int .i64 0)).run Tryz.prog w = .ok (.int .u32 (a : Int)) w := by kernel_rfl
theorem idx57_1 (a b c d e f g h : Nat) (w : World) : (Instr.index 170 (.agg #[.int .u32 (a : Int), .int .u32 (b : Int), .int .u32 (c : Int), .int .u32 (d : Int), .int .u32 (e : Int), .int .u32 (f : Int), .int .u32 (g : Int), .int .u32 (h : Int)]) (.int .i64 1)).run Tryz.prog w = .ok (.int .u32 (b : Int)) w := by kernel_rfl
theorem idx57_2 (a b c d e f g h : Nat) (w : World) : (Instr.index 170 (.agg #[.int .u32 (a : Int), .int .u32 (b : Int), .int .u32 (c : Int), .int .u32 (d : Int), .int .u32 (e : Int), .int .u32 (f : Int), .int .u32 (g : Int), .int .u32 (h : Int)]) (.int .i64 2)).run Tryz.prog w = .ok (.int .u32 (c : Int)) w := by kernel_rfl
theorem idx57_3 (a b c d e f g h : Nat) (w : World) : (Instr.index 170 (.agg #[.int .u32 (a : Int), .int .u32 (b : Int), .int .u32 (c : Int), .int .u32 (d : Int), .int .u32 (e : Int), .int .u32 (f : Int), .int .u32 (g : Int), .int .u32 (h : Int)]) (.int .i64 3)).run Tryz.prog w = .ok (.int .u32 (d : Int)) w := by kernel_rfl
theorem idx57_4 (a b c d e f g h : Nat) (w : World) : (Instr.index 170 (.agg #[.int .u32 (a : Int), .int .u32 (b : Int), .int .u32 (c : Int), .int .u32 (d : Int), .int .u32 (e : Int), .int .u32 (f : Int), .int .u32 (g : Int), .int .u32 (h : Int)]) (.int .i64 4)).run Tryz.prog w = .ok (.int .u32 (e : Int)) w := by kernel_rfl
theorem idx57_5 (a b c d e f g h : Nat) (w : World) : (Instr.index 170 (.agg #[.int .u32 (a : Int), .int .u32 (b : Int), .int .u32 (c : Int), .int .u32 (d : Int), .int .u32 (e : Int), .int .u32 (f : Int), .int .u32 (g : Int), .int .u32 (h : Int)]) (.int .i64 5)).run Tryz.prog w = .ok (.int .u32 (f : Int)) w := by kernel_rfl
theorem idx57_6 (a b c d e f g h : Nat) (w : World) : (Instr.index 170 (.agg #[.int .u32 (a : Int), .int .u32 (b : Int), .int .u32 (c : Int), .int .u32 (d : Int), .int .u32 (e : Int), .int .u32 (f : Int), .int .u32 (g : Int), .int .u32 (h : Int)]) (.int .i64 6)).run Tryz.prog w = .ok (.int .u32 (g : Int)) w := by kernel_rfl
theorem idx57_7 (a b c d e f g h : Nat) (w : World) : (Instr.index 170 (.agg #[.int .u32 (a : Int), .int .u32 (b : Int), .int .u32 (c : Int), .int .u32 (d : Int), .int .u32 (e : Int), .int .u32 (f : Int), .int .u32 (g : Int), .int .u32 (h : Int)]) (.int .i64 7)).run Tryz.prog w = .ok (.int .u32 (h : Int)) w := by kernel_rfl
theorem idx57 (a b c d e f g h k : Nat) (hk : k < 8) (w : World) : (Instr.index 170 (.agg #[.int .u32 (a : Int), .int .u32 (b : Int), .int .u32 (c : Int), .int .u32 (d : Int), .int .u32 (e : Int), .int .u32 (f : Int), .int .u32 (g : Int), .int .u32 (h : Int)]) (.int .i64 (k : Int))).run Tryz.prog w = .ok (.int .u32 (at' [a, b, c, d, e, f, g, h] k : Nat)) w := by
  match k, hk with
  | 0, _ => exact idx57_0 a b c d e f g h w
  | 1, _ => exact idx57_1 a b c d e f g h w
  | 2, _ => exact idx57_2 a b c d e f g h w
  | 3, _ => exact idx57_3 a b c d e f g h w
  | 4, _ => exact idx57_4 a b c d e f g h w
  | 5, _ => exact idx57_5 a b c d e f g h w
  | 6, _ => exact idx57_6 a b c d e f g h w
  | 7, _ => exact idx57_7 a b c d e f g h w
theorem at_addl (l m : List Nat) (hl : l.length = 8) (hm : m.length = 8) (j : Nat) (hj : j < 8) : at' (addl l m) j = (at' l j + at' m j) % 4294967296 := by
  rw [at_lt (by rw [addl_length _ _ hl hm]; exact hj), at_lt (by omega), at_lt (by omega)]
  simp [addl]
theorem tk_alloc {g3 i : Nat} {kv wv : Nat} (W : World) (o : Obj) (h : W.cell? ⟨0, i, none⟩ = some (.int .u32 (kv : Int)) ∧ W.cell? ⟨g3, i, none⟩ = some (.int .u32 (wv : Int)) ∧ 0 < W.heap.size ∧ g3 < W.heap.size) :
    (W.alloc o).cell? ⟨0, i, none⟩ = some (.int .u32 (kv : Int)) ∧ (W.alloc o).cell? ⟨g3, i, none⟩ = some (.int .u32 (wv : Int)) ∧ 0 < (W.alloc o).heap.size ∧ g3 < (W.alloc o).heap.size :=
  ⟨by rw [World.cell?_alloc_lt _ _ _ h.2.2.1]; exact h.1, by rw [World.cell?_alloc_lt _ _ _ h.2.2.2]; exact h.2.1, by have := h.2.2.1; simp <;> omega, by have := h.2.2.2; simp <;> omega⟩
theorem wi_eq (k : Nat) (h : k < 64) : IntKind.i64.wrap (k : Int) = (k : Int) := by rw [IntKind.wrap_i64]; omega
set_option maxRecDepth 100000 in
set_option maxHeartbeats 4000000 in
theorem take_any (l : List Nat) (b : List UInt8) (w : World) (hl : l.length = 8) (hs : Sm l) (hb : b.length = 64) (hK : Kt w) :
    Calls Tryz.prog 116 #[.agg (dv l).toArray, .agg (bvs b).toArray] w fun e w' => e = .returned (.agg (dv (comp l b)).toArray) ∧ Below w.heap.size w w' := by
  have HB := hid hb
  have HL := hid hl
  have HSm := hid hs
  have HK := hid hK
  clear hb hl hs hK
  go_enter Tryz.func116, Tryz.ntmps116
  go_upto_region 1 with fail
  obtain ⟨H1, H2, H3, H4⟩ := take_init w l b
  generalize ((w.alloc (.cells (dv l).toArray 170)).alloc (.cells (bvs b).toArray 172)).alloc (.cells #[.int .u32 0, .int .u32 0, .int .u32 0, .int .u32 0, .int .u32 0, .int .u32 0, .int .u32 0, .int .u32 0] 170) = w0 at *
  go_wp2_with (refine wpList_load_row rfl 172 (.tmp 3) rfl (w.heap.size + 1) rfl 172 (bvs b).toArray (0, 0) _ H2.out Tryz.underlying172 rfl (hi59 b HB.out).out ?_)
  refine (spread_any b _ HB.out).mono ?_
  rintro e w1 ⟨rfl, hb1⟩
  have HT := take_box (b := b) (H1.out.on hb1) (H3.out.on hb1) (H4.out.trans (hb1.mono (Nat.le_of_lt H1.out.lt))) HK.out
  clear H1 H2 H3 H4 hb1
  go_wp2_with (refine wpList_store_row rfl 177 (.tmp 5) (.tmp 20) rfl w1.heap.size (dv (wof b)).toArray rfl rfl 177 _ (heap_alloc_new _ _) (hi132 b).out (ho132 b).out (dv_all _) ?_)
  simp only [Act.put]
  generalize (w1.alloc (.cells #[.int .u32 0, .int .u32 0, .int .u32 0, .int .u32 0, .int .u32 0, .int .u32 0, .int .u32 0, .int .u32 0, .int .u32 0, .int .u32 0, .int .u32 0, .int .u32 0, .int .u32 0, .int .u32 0, .int .u32 0, .int .u32 0, .int .u32 0, .int .u32 0, .int .u32 0, .int .u32 0, .int .u32 0, .int .u32 0, .int .u32 0, .int .u32 0, .int .u32 0, .int .u32 0, .int .u32 0, .int .u32 0, .int .u32 0, .int .u32 0, .int .u32 0, .int .u32 0, .int .u32 0, .int .u32 0, .int .u32 0, .int .u32 0, .int .u32 0, .int .u32 0, .int .u32 0, .int .u32 0, .int .u32 0, .int .u32 0, .int .u32 0, .int .u32 0, .int .u32 0, .int .u32 0, .int .u32 0, .int .u32 0, .int .u32 0, .int .u32 0, .int .u32 0, .int .u32 0, .int .u32 0, .int .u32 0, .int .u32 0, .int .u32 0, .int .u32 0, .int .u32 0, .int .u32 0, .int .u32 0, .int .u32 0, .int .u32 0, .int .u32 0, .int .u32 0] 177)).setRow w1.heap.size (dv (wof b)).toArray = w3 at *
  generalize w1.heap.size = g3 at *
  have hc := HT.out.cells HL.out
  have x0 : w3.cell? ⟨w.heap.size, 0, none⟩ = some (.int .u32 ((oct l).a : Nat)) := hc 0 (by decide)
  have x1 : w3.cell? ⟨w.heap.size, 1, none⟩ = some (.int .u32 ((oct l).b : Nat)) := hc 1 (by decide)
  have x2 : w3.cell? ⟨w.heap.size, 2, none⟩ = some (.int .u32 ((oct l).c : Nat)) := hc 2 (by decide)
  have x3 : w3.cell? ⟨w.heap.size, 3, none⟩ = some (.int .u32 ((oct l).d : Nat)) := hc 3 (by decide)
  have x4 : w3.cell? ⟨w.heap.size, 4, none⟩ = some (.int .u32 ((oct l).e : Nat)) := hc 4 (by decide)
  have x5 : w3.cell? ⟨w.heap.size, 5, none⟩ = some (.int .u32 ((oct l).f : Nat)) := hc 5 (by decide)
  have x6 : w3.cell? ⟨w.heap.size, 6, none⟩ = some (.int .u32 ((oct l).g : Nat)) := hc 6 (by decide)
  have x7 : w3.cell? ⟨w.heap.size, 7, none⟩ = some (.int .u32 ((oct l).h : Nat)) := hc 7 (by decide)
  clear hc
  go_quiet (fail)
  go_wp2_with fail
  clear x0 x1 x2 x3 x4 x5 x6 x7
  go_loopw [6, 7, 8, 9, 10, 11, 12, 13, 37] (fun s6 s7 s8 s9 s10 s11 s12 s13 i wr => ∃ (k : Nat) (o : Oct), k ≤ 64 ∧ i = .int .i64 k ∧ s6 = .int .u32 (o.a : Nat) ∧ s7 = .int .u32 (o.b : Nat) ∧ s8 = .int .u32 (o.c : Nat) ∧ s9 = .int .u32 (o.d : Nat) ∧ s10 = .int .u32 (o.e : Nat) ∧ s11 = .int .u32 (o.f : Nat) ∧ s12 = .int .u32 (o.g : Nat) ∧ s13 = .int .u32 (o.h : Nat) ∧ Hid o.Sm ∧ Hid (o = rnds (oct l) (wof b) k) ∧ Hid (Tkc w g3 l b wr)) (fun _ _ _ _ _ _ _ _ i _ => 64 - (intOf i).toNat)
  case atStart => exact ⟨0, oct l, by omega, rfl, rfl, rfl, rfl, rfl, rfl, rfl, rfl, rfl, hid (oct_sm HSm.out), hid rfl, hid (HT.out.drewN _)⟩
  case round =>
    clear HT
    obtain ⟨k, o, hk, rfl, rfl, rfl, rfl, rfl, rfl, rfl, rfl, rfl, HO, HR, HT⟩ := hrel
    by_cases hlt : k < 64
    · go_wp2_with fail
      have hkw := HT.out.x.lt
      have hkc := HT.out.x.cell k (by rw [wof_length]; exact hlt)
      have hkk := HT.out.k k hlt
      have hk3 := HT.out.k.lt
      refine tk6_ok (tv := tt o (at' kk k) (at' (wof b) k)) HO.out.e (rot_lt 6 HO.out.e) (rot_lt 11 HO.out.e) (rot_lt 25 HO.out.e) (by omega) (by omega) (wi_eq k hlt) ⟨hkk, hkc, hk3, hkw⟩ (hid tk_alloc) (hid (t_eq o.e o.f o.g o.h (at' kk k) (at' (wof b) k) HO.out.e HO.out.f HO.out.g _)) _ _ _ _ _ _ _ _ _ _ _ _ _ _ _ _ _ _ _ _ _ _ _ _ _ _ _ _ _ _ _ _ _ _ _ _ _ _ _ _ _ _ _ _ _ _ _ _ _ _ _ _ _ _ _ _ _ _ _ _ _ _ _ _ _ _ _ _ _ _ _ _ _ _ _ _ _ _ _ _ _ _ _ _ _ _ _ _ _ _ _ _ _ _ _ _ _ _ _ _ _ _ _ _ _ _ _ _ _ _ _ _ _ _ _ (hid ?_)
      intro d40 d41 d42 d43 d44 d45 d46 d47 d48 d49 d50 d51 d52 d53 d54 d55 d56 d57 d58 d59 d60 d61 d62 d63 d64 d65 d66 wn HN
      have HT2 := hid (HT.out.on HN.out)
      clear HT HN hkw hkc hkk hk3
      go_wp2_with fail
      refine (turn_2 o.a _ HO.out.a).mono ?_
      rintro e' wa ⟨rfl, rfl⟩
      go_wp2_with fail
      refine (turn_13 o.a _ HO.out.a).mono ?_
      rintro e' wa ⟨rfl, rfl⟩
      go_wp2_with fail
      refine (turn_22 o.a _ HO.out.a).mono ?_
      rintro e' wa ⟨rfl, rfl⟩
      go_wp2_with fail
      refine (mix_any _ _ _ _ _ (Tri.new _ _ _ _) (rot_lt 2 HO.out.a) (rot_lt 13 HO.out.a) (rot_lt 22 HO.out.a)).mono ?_
      rintro e' wa ⟨rfl, rfl⟩
      have HT := hid (HT2.out.alloc (.cells #[.int .u32 (rot o.a 2 : Nat), .int .u32 (rot o.a 13 : Nat), .int .u32 (rot o.a 22 : Nat)] 102))
      clear HT2
      generalize wn.alloc (.cells #[.int .u32 (rot o.a 2 : Nat), .int .u32 (rot o.a 13 : Nat), .int .u32 (rot o.a 22 : Nat)] 102) = wm at *
      go_upto_region 8 with fail
      rw [u_eq o.a o.b o.c _ HO.out.a HO.out.b HO.out.c]
      have hu : ((((rot o.a 2 ^^^ rot o.a 13 ^^^ rot o.a 22) + maj o.a o.b o.c) % 4294967296 : Nat) : Int) = (uu o : Int) := rfl
      rw [hu]
      have HRS := hid (p := rnd o (at' kk k) (at' (wof b) k) = rnds (oct l) (wof b) (k + 1)) (by rw [rnds, ← HR.out])
      have HOS := hid (rnd_sm HO.out (at' kk k) (at' (wof b) k))
      have HA1 := hid (show (rnd o (at' kk k) (at' (wof b) k)).a = (tt o (at' kk k) (at' (wof b) k) + uu o) % 4294967296 from rfl)
      have HA2 := hid (show (rnd o (at' kk k) (at' (wof b) k)).e = (o.d + tt o (at' kk k) (at' (wof b) k)) % 4294967296 from rfl)
      have HA3 := hid (show (rnd o (at' kk k) (at' (wof b) k)).b = o.a ∧ (rnd o (at' kk k) (at' (wof b) k)).c = o.b ∧ (rnd o (at' kk k) (at' (wof b) k)).d = o.c ∧ (rnd o (at' kk k) (at' (wof b) k)).f = o.e ∧ (rnd o (at' kk k) (at' (wof b) k)).g = o.f ∧ (rnd o (at' kk k) (at' (wof b) k)).h = o.g from ⟨rfl, rfl, rfl, rfl, rfl, rfl⟩)
      generalize rnd o (at' kk k) (at' (wof b) k) = o2 at *
      generalize tt o (at' kk k) (at' (wof b) k) = tv at *
      generalize uu o = uv at *
      go_wp2
      go_roundw
      case rel =>
        obtain ⟨e1, e2, e3, e4, e5, e6⟩ := HA3.out
        exact ⟨k + 1, o2, by omega, by go_num, by rw [HA1.out]; simp, by rw [e1], by rw [e2], by rw [e3], by rw [HA2.out]; simp, by rw [e4], by rw [e5], by rw [e6], HOS, HRS, HT⟩
      case measure => simp [intOf]; omega
    · obtain rfl : k = 64 := by omega
      have HR2 := hid (p := o.l = (rnds (oct l) (wof b) 64).l) (by rw [← HR.out])
      clear HR
      go_wp2_with fail
      obtain ⟨a1, a2, a3, a4, a5, a6, a7, a8⟩ := o
      have HOL := hid (p := [a1, a2, a3, a4, a5, a6, a7, a8] = (rnds (oct l) (wof b) 64).l) HR2.out
      clear HR2
      dsimp only at *
      go_loopw [109] (fun i wr => ∃ (k : Nat) (m : List Nat), k ≤ 8 ∧ i = .int .i64 k ∧ Hid (Tkc w g3 m b wr) ∧ Hid (m.length = 8) ∧ Hid (∀ j, j < 8 → at' m j = if j < k then (at' l j + at' [a1, a2, a3, a4, a5, a6, a7, a8] j) % 4294967296 else at' l j)) (fun i _ => 8 - (intOf i).toNat)
      case atStart => exact ⟨0, l, by omega, rfl, HT, HL, hid (fun j _ => by rw [if_neg (Nat.not_lt_zero _)])⟩
      case round =>
        clear HT
        obtain ⟨k, m, hk, rfl, HT, HM, HA⟩ := hrel
        by_cases hlt : k < 8
        · have hix := idx57 a1 a2 a3 a4 a5 a6 a7 a8 k hlt
          have hcl := HT.out.n.cell k (by have := HM.out; omega)
          have hfr := HT.out.n.frozen k
          rw [HA.out k hlt, if_neg (Nat.lt_irrefl _)] at hcl
          have HVV := hid (p := (((at' l k : Nat) : Int) + ((at' [a1, a2, a3, a4, a5, a6, a7, a8] k : Nat) : Int)) % 4294967296 = (((at' l k + at' [a1, a2, a3, a4, a5, a6, a7, a8] k) % 4294967296 : Nat) : Int)) (by omega)
          generalize hz : (at' l k + at' [a1, a2, a3, a4, a5, a6, a7, a8] k) % 4294967296 = z at HVV
          have HZ := hid hz
          clear hz
          go_wp2
          go_roundw
          case rel =>
            refine ⟨k + 1, m.set k z, by omega, by go_num, ?_, hid (by rw [List.length_set]; exact HM.out), hid ?_⟩
            · have := HT.out.set k z
              rw [← HVV.out] at this
              exact hid this
            · intro j hj
              rw [at_set _ _ _ _ (by have := HM.out; omega), HA.out j hj]
              by_cases h : j = k
              · subst h; rw [if_pos rfl, if_pos (by omega), HZ.out]
              · rw [if_neg h]
                by_cases h2 : j < k
                · rw [if_pos h2, if_pos (by omega)]
                · rw [if_neg h2, if_neg (by omega)]
          case measure => simp [intOf]; omega
        · obtain rfl : k = 8 := by omega
          have hme : m = comp l b := by
            refine eq_of_at (by rw [HM.out, comp_length _ _ HL.out]) (fun j hj => ?_)
            have hj8 : j < 8 := by have := HM.out; omega
            rw [HA.out j hj8, if_pos hj8, comp, at_addl _ _ HL.out rfl j hj8, HOL.out]
          have HT2 : Hid (Tkc w g3 (comp l b) b wr) := hid (hme ▸ HT.out)
          have HCL := hid (comp_length l b HL.out)
          clear HT HM HA hme
          generalize hr : comp l b = r at *
          have HRR := hid hr
          clear hr
          have HI := hi57 r HCL.out
          have HO8 : Hid ((dv (List.replicate 8 0)).toArray.size = (dv r).toArray.size) := hid (by rw [dv_size, dv_size, HCL.out, List.length_replicate])
          have HZ := hid (HT2.out.z.row (m := r))
          have HBW := hid (p := Below w.heap.size w (wr.setRow (w.heap.size + 1 + 1) (dv r).toArray)) (below_setRow HT2.out.below (Nat.le_succ_of_le (Nat.le_succ _)) _)
          go_upto_region 15 with fail
          have HDA := dv_all r
          have HZL := HT2.out.n
          have HZZ := HT2.out.z
          unfold Us at HZL HZZ
          have HZL := hid HZL
          have HZZ := hid HZZ
          go_wp2_with (first | (refine wpList_load_row rfl 170 (.tmp 2) rfl w.heap.size rfl 170 (dv r).toArray (0, 0) _ HZL.out Tryz.underlying170 rfl HI.out ?_) | (refine wpList_store_row rfl 170 (.tmp 4) (.tmp 120) rfl (w.heap.size + 1 + 1) (dv r).toArray rfl rfl 170 _ HZZ.out HI.out HO8.out HDA ?_))
          exact bodyPost_ret (v := .agg (dv r).toArray) (results_cell_row (p := 4) (ty := 170) Tryz.results116 _ _ (w.heap.size + 1 + 1) 170 (dv r).toArray (0, 0) _ rfl HZ.out Tryz.underlying170 rfl HI.out) rfl ⟨by rw [HRR.out], HBW.out⟩
end Go.Proofs.YtbloejlebikecaaGreatDoor

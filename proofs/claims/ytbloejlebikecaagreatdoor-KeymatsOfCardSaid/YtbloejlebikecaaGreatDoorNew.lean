/-
  shas.New, there, ending, walked. Conditions: none.
-/
import Derived.Test.YtbloejlebikecaaGreatDoorAdd
import Derived.Test.YtbloejlebikecaaGreatDoorTell
import Derived.Test.YtbloejlebikecaaGreatDoorPut
import Derived.Deep.Cut
namespace Go.Proofs.YtbloejlebikecaaGreatDoor
open Go.RowKit
set_option linter.unusedVariables false

theorem there_none (w : World) : Calls Tryz.prog 111 #[.pointer none] w fun e w' => e = .returned (.bool false) ∧ w = w' := by
  go_enter Tryz.func111, Tryz.ntmps111
  go_wp2
  go_ret
  exact ⟨rfl, rfl⟩
theorem there_any (g : Nat) (t : Bool) (w : World) (h : w.cell? ⟨g, 0, none⟩ = some (.bool t)) : Calls Tryz.prog 111 #[.pointer (some ⟨g, 0, none⟩)] w fun e w' => e = .returned (.bool t) ∧ w = w' := by
  go_enter Tryz.func111, Tryz.ntmps111
  go_wp2
  go_ret
  exact ⟨rfl, rfl⟩
set_option maxRecDepth 100000 in
theorem new_any (w : World) : Calls Tryz.prog 103 #[] w fun e w' => (∃ g, e = .returned (.pointer (some ⟨g, 0, none⟩)) ∧ w.heap.size ≤ g ∧ RunIs w' g []) ∧ Below w.heap.size w w' := by
  go_enter Tryz.func103, Tryz.ntmps103
  go_wp2_with fail
  refine (squares_any w).mono ?_
  rintro e w1 ⟨rfl, hb⟩
  go_wp2
  have hc : List.foldl (fun (cs : Array Value) (x : Value × Nat) => cs.setIfInBounds (1 + x.snd) x.fst) (Tryz.zeroCells174.setIfInBounds 0 (Value.bool true)) (dv hh).zipIdx = (rc hh (List.replicate 64 0) 0).toArray := by kernel_rfl
  rw [hc]
  have hR : RunIs (w1.alloc (.cells (rc hh (List.replicate 64 0) 0).toArray 174)) w1.heap.size [] := ⟨List.replicate 64 0, rfl, rfl, heap_alloc_new _ _⟩
  have hB : Below w.heap.size w (w1.alloc (.cells (rc hh (List.replicate 64 0) 0).toArray 174)) := hb.alloc hb.size _
  have hS := hb.size
  exact bodyPost_ret (v := .pointer (some ⟨w1.heap.size, 0, none⟩)) (by simp [results, Tryz.results103, go_sem]) rfl ⟨⟨w1.heap.size, rfl, hS, hR⟩, hB⟩
theorem run_make_u64 (w : World) (n : Nat) (h : n ≤ 281474976710656) :
    (Instr.makeSlice 27 (.int .u64 (n : Int)) (.int .u64 (n : Int))).run Tryz.prog w = .ok (.slice (some ⟨w.heap.size, 0, none⟩) n n) (w.alloc (.cells (bvs (List.replicate n 0)).toArray 5)) := by
  obtain ⟨i0, hi, hz0, hz1, hz2⟩ := info_parts u8_info
  have := run_make (P := Tryz.prog) w 27 5 i0 (.int .u8 0) Tryz.underlying27 hi hz0 .u64 .u64 (n : Int) (n : Int) (by omega) (by omega) (by rw [hz2]; omega) (by omega)
  rw [this, hz1, Int.toNat_natCast, Nat.mul_one, made_bytes]
set_option maxRecDepth 100000 in
theorem ending_any (n : Nat) (w : World) (hn : n ≤ 140737488355328) :
    Calls Tryz.prog 112 #[.int .u64 (n : Int)] w fun e w' => (∃ g k, e = .returned (.slice (some ⟨g, 0, none⟩) k k) ∧ k = (tail n).length ∧ w.heap.size ≤ g ∧ Row w' g (tail n)) ∧ Below w.heap.size w w' := by
  obtain ⟨q, hq⟩ : ∃ q, q = nought n := ⟨_, rfl⟩
  have hq2 := hq
  unfold nought at hq2
  have hq64 : q < 64 := by omega
  have ho : (IntKind.u64.wrap (55 - (n : Int))) % 64 = (q : Int) := by rw [IntKind.wrap_u64]; omega
  have hot : (IntKind.u64.wrap (55 - (n : Int))).tmod 64 = (q : Int) := by rw [Int.tmod_eq_emod_of_nonneg (by rw [IntKind.wrap_u64]; omega)]; exact ho
  obtain ⟨k, hk⟩ : ∃ k, k = q + 1 := ⟨_, rfl⟩
  have hw : IntKind.u64.wrap (1 + (q : Int)) = (k : Int) := by rw [IntKind.wrap_u64]; omega
  have hmk := run_make_u64 w k (by omega)
  have h8 : IntKind.u64.wrap (8 * (n : Int)) = ((8 * n : Nat) : Int) := by rw [IntKind.wrap_u64]; omega
  have HQ := hid hq
  have HK := hid hk
  have HN := hid hn
  have HQ64 := hid hq64
  clear hq hq2 hn hk hq64
  go_enter Tryz.func112, Tryz.ntmps112
  go_upto_region 3 with fail
  have HR : Hid (Row (w.alloc (.cells (bvs (List.replicate k 0)).toArray 5)) w.heap.size (List.replicate k 0)) := hid (heap_alloc_new _ _)
  have HB := hid ((Below.refl w.heap.size w).alloc (Nat.le_refl _) (.cells (bvs (List.replicate k 0)).toArray 5))
  generalize w.alloc (.cells (bvs (List.replicate k 0)).toArray 5) = w1 at *
  have hc := HR.out.cell 0 (by have := HK.out; simp; omega)
  have hf := HR.out.frozen 0
  have hk0 : 0 < k := by have := HK.out; omega
  have HR2 := hid (HR.out.set 0 128)
  have HB2 := hid (p := Below w.heap.size w (w1.setCell ⟨w.heap.size, 0, none⟩ (.int .u8 128))) (HB.out.setCell (Nat.le_refl _) _)
  go_upto_region 4 with fail
  have e0 : (((128 : UInt8).toNat : Nat) : Int) = 128 := rfl
  rw [e0] at HR2
  have hck := hid hc
  have hcf := hid hf
  clear hc hf
  generalize w1.setCell ⟨w.heap.size, 0, none⟩ (.int .u8 128) = w2 at *
  go_wp2_with fail
  have HLk := hid (show ((List.replicate k (0 : UInt8)).set 0 128).length = k by simp)
  have HTL := hid (show (List.replicate k (0 : UInt8)).set 0 128 ++ be (8 * n) 8 = tail n by
    rw [HK.out, HQ.out, List.replicate_succ, List.set_cons_zero, tail]; rfl)
  have hput := put_any (some ⟨w.heap.size, 0, none⟩) k (8 * n) 8 8 ((List.replicate k (0 : UInt8)).set 0 128) w2 HR2.out.rd0 (by rw [HLk.out]; have := HK.out; have := HQ64.out; omega) (by have := HN.out; omega) (by decide)
  rw [HLk.out, HTL.out] at hput
  refine hput.mono ?_
  rintro e w3 ⟨rfl, HR3, hb3⟩
  have hlen : k + 8 = (tail n).length := by rw [tail_length, HK.out, HQ.out]; omega
  have hB := HB2.out.trans (hb3.mono HB2.out.size)
  have hs := HB2.out.size
  go_wp2
  go_ret
  exact ⟨⟨w2.heap.size, (tail n).length, rfl, rfl, hs, HR3⟩, hB⟩
end Go.Proofs.YtbloejlebikecaaGreatDoor

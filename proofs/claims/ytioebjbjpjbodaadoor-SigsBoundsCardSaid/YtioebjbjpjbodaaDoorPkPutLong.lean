/-
  nums.PutLong, walked: the bytes, then all 32 of a long number, in new memory. Condition: no more than 2^47 bytes came in.
-/
import Derived.Test.YtioebjbjpjbodaaDoorPkPut
import Derived.StillTailTactics
namespace Go.Proofs.YtioebjbjpjbodaaDoor
open Go.RowKit
set_option linter.unusedVariables false

theorem Rd.alloc {w : World} {A : Option Addr} {bs : List UInt8} (h : Rd w A bs) (o : Obj) : Rd (w.alloc o) A bs :=
  h.below ((Below.refl w.heap.size w).alloc (Nat.le_refl _) o) (Nat.le_refl _)

theorem RdW.of_block {w : World} {g h t : Nat} {ws : List Nat} (hw : ∀ x ∈ ws, x < 18446744073709551616) (hh : w.heap[h]? = some (.cells (ws.map fun (x : Nat) => Value.int .u64 (x : Int)).toArray t (0, 0))) (hne : h ≠ g) :
    RdW w g (some ⟨h, 0, none⟩) ws := by
  refine ⟨hw, fun hp => ⟨h, 0, rfl, lt_of_block hh, hne, fun j hj => ?_⟩⟩
  rw [cell_of_row _ _ _ _ t (0, 0) hh]
  simp [hj]

theorem slice_tail (g n m : Nat) (hm : 0 < m) (w : World) :
    (Instr.slice 73 (.slice (some ⟨g, 0, none⟩) (n + m) (n + m)) (some (.int .i64 (n : Int))) none none).run Tryd.prog w = .ok (.slice (some ⟨g, n, none⟩) m m) w := by
  have h5 : Tryd.prog.elem 73 = 5 := by kernel_rfl
  rw [run_slice_l (P := Tryd.prog) w 73 (some ⟨g, 0, none⟩) (n + m) (n + m) (by rw [h5]; exact Tryd.underlying73) .i64 (n : Int) (by omega) (by omega)]
  have hs : (sizeOf 5).run Tryd.prog w = .ok 1 w := by kernel_rfl
  rw [h5, hs]
  simp only [Result.andThen, sliced, Int.toNat_natCast]
  rw [if_neg (by omega)]
  simp only [Option.map, Nat.mul_one, add_plain, Nat.zero_add]
  rw [show n + m - n = m from by omega]

set_option maxRecDepth 100000 in
theorem putLong_any (A : Option Addr) (cp n0 n1 n2 n3 : Nat) (bs : List UInt8) (w : World) (hr : Rd w A bs) (hn : bs.length ≤ 140737488355328)
    (h0 : n0 < 18446744073709551616) (h1 : n1 < 18446744073709551616) (h2 : n2 < 18446744073709551616) (h3 : n3 < 18446744073709551616) :
    Calls Tryd.prog 37 #[.slice A bs.length cp, .agg #[.int .u64 (n0 : Int), .int .u64 (n1 : Int), .int .u64 (n2 : Int), .int .u64 (n3 : Int)]] w fun e w' =>
      e = .returned (.slice (some ⟨w.heap.size + 1, 0, none⟩) (bs.length + 32) (bs.length + 32)) ∧
      Row w' (w.heap.size + 1) (bs ++ be (wnum [n0, n1, n2, n3]) 32) ∧ Below w.heap.size w w' := by
  go_enter Tryd.func37, Tryd.ntmps37
  go_wp2_with fail
  have HA := hid (hr.alloc (.cells #[.int .u64 (n0 : Int), .int .u64 (n1 : Int), .int .u64 (n2 : Int), .int .u64 (n3 : Int)] 24))
  have HN := hid (heap_alloc_new w (.cells #[.int .u64 (n0 : Int), .int .u64 (n1 : Int), .int .u64 (n2 : Int), .int .u64 (n3 : Int)] 24))
  have HB := hid ((Below.refl w.heap.size w).alloc (Nat.le_refl _) (.cells #[.int .u64 (n0 : Int), .int .u64 (n1 : Int), .int .u64 (n2 : Int), .int .u64 (n3 : Int)] 24))
  have HS := hid (p := (w.alloc (.cells #[.int .u64 (n0 : Int), .int .u64 (n1 : Int), .int .u64 (n2 : Int), .int .u64 (n3 : Int)] 24)).heap.size = w.heap.size + 1) (by simp)
  generalize w.alloc (.cells #[.int .u64 (n0 : Int), .int .u64 (n1 : Int), .int .u64 (n2 : Int), .int .u64 (n3 : Int)] 24) = w0 at *
  refine (longer_at A cp 32 _ rfl bs w0 HA.out (by omega)).mono ?_
  rintro e w1 ⟨rfl, HR, hb1⟩
  have HR1 := hid HR
  clear HR
  have HN1 := hid ((hb1.block w.heap.size (by have := HS.out; omega)).trans HN.out)
  have hlt := HR1.out.lt
  have HW := hid (RdW.of_block (w := w1) (g := w0.heap.size) (h := w.heap.size) (t := 24) (ws := [n0, n1, n2, n3]) (by simp; omega) HN1.out (by have := HS.out; omega))
  have hsl := slice_tail w0.heap.size bs.length 32 (by omega)
  go_wp2_with fail
  go_still_tail 5, (by kernel_rfl)
  change wpList _ _ _ _ _ w1.drew
  have HR2 := hid (p := Row w1.drew w0.heap.size (bs ++ List.replicate 32 0)) HR1.out
  have HW2 := hid (p := RdW w1.drew w0.heap.size (some ⟨w.heap.size, 0, none⟩) [n0, n1, n2, n3]) HW.out
  have HB2 := hid (p := Below w.heap.size w w1.drew) ((HB.out.trans (hb1.mono (by have := HS.out; omega))).drew)
  clear HR1 HW hb1 hlt HN1 hsl
  generalize w1.drew = w2 at *
  go_wp2_with fail
  refine (lay_any _ _ w0.heap.size bs.length 32 32 4 _ [n0, n1, n2, n3] _ (fun _ => rfl) HR2.out (by simp) (by simp; omega) HW2.out (by simp) (by simp)).mono ?_
  rintro e w3 ⟨rfl, HR3, hg3⟩
  rw [laid_tail] at HR3
  have HR4 := hid HR3
  have HB3 := hid (HB2.out.grown hg3 (by have := HR2.out.lt; have := HS.out; omega) (by have := HS.out; simp; omega))
  clear HR3 hg3
  go_wp2
  go_ret
  rw [← HS.out]
  exact ⟨rfl, HR4.out, HB3.out⟩
end Go.Proofs.YtioebjbjpjbodaaDoor

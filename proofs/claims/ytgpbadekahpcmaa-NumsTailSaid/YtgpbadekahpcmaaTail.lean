/-
  burrowlaw01.NumsTail, walked: it answers true at every number and every count. Conditions: none.
-/
import Derived.Test.YtgpbadekahpcmaaAlive
import Derived.Test.YtgpbadekahpcmaaSame
import Derived.Deep.RegionHeld3
namespace Go.Proofs.Ytgpbadekahpcmaa
open Go.RowKit
set_option linter.unusedVariables false

/-- x[1:], x a new block's whole slice: wherever it begins, it reads as the rest -/
theorem slice_one (w2 : World) (g k : Nat) (a : UInt8) (bs : List UInt8) (hl : bs.length = k) (hr : Row w2 g (a :: bs)) :
    ∃ D : Addr, (∀ w : World, (Instr.slice 23 (.slice (some ⟨g, 0, none⟩) (k + 1) (k + 1)) (some (.int .i64 1)) none none).run Try.prog w = .ok (.slice (some D) k k) w) ∧ Rd w2 (some D) bs := by
  rcases Nat.eq_zero_or_pos k with rfl | hk
  · refine ⟨⟨g, 0, none⟩, fun w => ?_, ?_⟩
    · rw [run_slice_l (P := Try.prog) w 23 (some ⟨g, 0, none⟩) (0 + 1) (0 + 1) Try.underlying23 .i64 1 (by omega) (by omega)]
      have h5 : Try.prog.elem 23 = 5 := by kernel_rfl
      have hs : (sizeOf 5).run Try.prog w = .ok 1 w := by kernel_rfl
      rw [h5, hs]
      rfl
    · obtain rfl : bs = [] := List.eq_nil_of_length_eq_zero hl
      exact Rd.nil _ _
  · refine ⟨⟨g, 1, none⟩, fun w => ?_, ?_⟩
    · have h := slice_tail g 1 k hk w
      rw [Nat.add_comm 1 k] at h
      exact h
    · have h := hr.rd 1 k
      have e : ((a :: bs).drop 1).take k = bs := by
        simp only [List.drop_succ_cons, List.drop_zero]
        exact List.take_of_length_le (by omega)
      rw [e] at h
      exact h

theorem same_n (A B : Option Addr) (c d n : Nat) (bs : List UInt8) (w : World) (hl : bs.length = n) (ha : Rd w A bs) (hb : Rd w B bs) (hn : n ≤ 281474976710656) :
    Calls Try.prog 9 #[.slice A n c, .slice B n d] w fun e w' => e = .returned (.bool true) ∧ ∃ k, w' = w.drewN k := by
  subst hl; exact same_true A B c d bs w ha hb hn

theorem first_byte (n k : Nat) : (((UInt8.ofNat (n / 256 ^ k)).toNat : Nat) : Int) = (n : Int) / 2 ^ (8 * k) % 256 := by
  rw [UInt8.toNat_ofNat', ← two_pow_bytes, Nat.mul_comm k 8]
  rfl

set_option maxRecDepth 100000 in
set_option maxHeartbeats 1600000 in
theorem tail_any (n b : Nat) (w : World) (hn : n < 18446744073709551616) (hb : b < 256) : Calls Try.prog 3 #[.int .u64 (n : Int), .int .u8 (b : Int)] w fun e w' => e = .returned (.bool true) ∧ Below w.heap.size w w' := by
  obtain ⟨k, hk⟩ : ∃ k, k = b % 8 := ⟨_, rfl⟩
  have HK := hid hk
  have hk8 : k < 8 := by omega
  clear hk
  have hbk : ((b : Int) % 8) = (k : Int) := by have := HK.out; omega
  have Hbk := hid hbk
  clear hbk
  go_enter Try.func3, Try.ntmps3
  go_wp2_with fail
  rw [Hbk.out]
  refine (put_any none 0 n k k [] w (Rd.nil _ _) (by simp) hn (by omega)).mono ?_
  rintro e w1 ⟨rfl, HR, hb1⟩
  have HR1 := hid (p := Row w1 w.heap.size (be n k)) HR
  clear HR
  rw [show ([] : List UInt8).length + k = k from by simp]
  go_wp2_with fail
  refine (put_any none 0 n (k + 1) (k + 1) [] w1 (Rd.nil _ _) (by simp) hn (by omega)).mono ?_
  rintro e w2 ⟨rfl, HR, hb2⟩
  have HR2 := hid (p := Row w2 w1.heap.size (be n (k + 1))) HR
  have HR12 := hid (HR1.out.below hb2 HR1.out.lt)
  have HB2 := hid (hb1.trans (hb2.mono hb1.size))
  clear HR hb1 hb2 HR1
  rw [show ([] : List UInt8).length + (k + 1) = k + 1 from by simp]
  have hc0 : w2.cell? ⟨w1.heap.size, 0, none⟩ = some (.int .u8 ((n : Int) / 2 ^ (8 * k) % 256)) := by
    rw [HR2.out.cell 0 (by simp [be])]
    simp only [be, List.getElem_cons_zero]
    rw [first_byte]
  have HL1 := hid (p := Rd w2 (some ⟨w.heap.size, 0, none⟩) (be n k)) HR12.out.rd0
  obtain ⟨D, hsl, hD⟩ := slice_one w2 w1.heap.size k _ _ (be_length n k) HR2.out
  have HL2 := hid hD
  clear hD
  have HLen := hid (be_length n k)
  have hz1 := HR12.out.lt
  have hz2 := HR2.out.lt
  clear HR12 HR2
  go_wp2_with fail
  have hw8 : IntKind.i64.wrap (8 * (k : Int)) = 8 * (k : Int) := IntWalk.i64_in _ (by omega)
  have h80 : (0 : Int) ≤ 8 * (k : Int) := by omega
  have h8t : (8 * (k : Int)).toNat = 8 * k := by omega
  go_region_held3 (fun w' => w'.cell? ⟨w1.heap.size, 0, none⟩ = some (.int .u8 ((n : Int) / 2 ^ (8 * k) % 256))) (first | go_keep | (exact (hb3.cell (p := ⟨w1.heap.size, 0, none⟩) (by simpa using hz2)).trans hc0))
    (first | (go_at_call 8; refine (alive_any _).mono ?_; rintro e w3 ⟨rfl, hb3⟩) | (go_at_call 9; refine (same_n _ _ _ _ k (be n k) _ HLen.out (by exact Rd.below (w := w2.drew) HL1.out hb3 (Nat.le_refl _)) (by exact Rd.below (w := w2.drew) HL2.out hb3 (Nat.le_refl _)) (by omega)).mono ?_; rintro e w4 ⟨rfl, nq, rfl⟩))
  have HB3 := hid (HB2.out.drew.trans (hb3.mono HB2.out.size))
  clear hb3 hc0 hsl
  go_wp2
  go_ret
  refine ⟨by rw [IntKind.wrap_u8]; simp, below_drewN HB3.out nq⟩
end Go.Proofs.Ytgpbadekahpcmaa

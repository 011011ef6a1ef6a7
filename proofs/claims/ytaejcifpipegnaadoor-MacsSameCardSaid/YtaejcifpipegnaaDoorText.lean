/-
  burrowlaw08.text, walked: a sum as digits of 16. Conditions: none.
-/
import Derived.Test.YtaejcifpipegnaaDoorTell
import Derived.BigQuiet
namespace Go.Proofs.YtaejcifpipegnaaDoor
open Go.RowKit
set_option linter.unusedVariables false
set_option linter.unusedSimpArgs false

/-- a digit of 16 -/
def dig (n : Nat) : ByteArray := ⟨#[([48, 49, 50, 51, 52, 53, 54, 55, 56, 57, 97, 98, 99, 100, 101, 102] : List UInt8).getD n 0]⟩
/-- bytes as digits of 16, the first n of them -/
def hexs (b : List UInt8) : Nat → ByteArray
  | 0 => ⟨#[]⟩
  | n + 1 => (hexs b n ++ dig ((b.getD n 0).toNat / 16)) ++ dig ((b.getD n 0).toNat % 16)
theorem dig_0 (w : World) : (Instr.sliceAt 9 (.string { data := #[48, 49, 50, 51, 52, 53, 54, 55, 56, 57, 97, 98, 99, 100, 101, 102] }) (some (.int .u8 0)) (some (.int .u8 1)) none).run Tryd.prog w = .ok (.string (dig 0)) w := by kernel_rfl
theorem dig_1 (w : World) : (Instr.sliceAt 9 (.string { data := #[48, 49, 50, 51, 52, 53, 54, 55, 56, 57, 97, 98, 99, 100, 101, 102] }) (some (.int .u8 1)) (some (.int .u8 2)) none).run Tryd.prog w = .ok (.string (dig 1)) w := by kernel_rfl
theorem dig_2 (w : World) : (Instr.sliceAt 9 (.string { data := #[48, 49, 50, 51, 52, 53, 54, 55, 56, 57, 97, 98, 99, 100, 101, 102] }) (some (.int .u8 2)) (some (.int .u8 3)) none).run Tryd.prog w = .ok (.string (dig 2)) w := by kernel_rfl
theorem dig_3 (w : World) : (Instr.sliceAt 9 (.string { data := #[48, 49, 50, 51, 52, 53, 54, 55, 56, 57, 97, 98, 99, 100, 101, 102] }) (some (.int .u8 3)) (some (.int .u8 4)) none).run Tryd.prog w = .ok (.string (dig 3)) w := by kernel_rfl
theorem dig_4 (w : World) : (Instr.sliceAt 9 (.string { data := #[48, 49, 50, 51, 52, 53, 54, 55, 56, 57, 97, 98, 99, 100, 101, 102] }) (some (.int .u8 4)) (some (.int .u8 5)) none).run Tryd.prog w = .ok (.string (dig 4)) w := by kernel_rfl
theorem dig_5 (w : World) : (Instr.sliceAt 9 (.string { data := #[48, 49, 50, 51, 52, 53, 54, 55, 56, 57, 97, 98, 99, 100, 101, 102] }) (some (.int .u8 5)) (some (.int .u8 6)) none).run Tryd.prog w = .ok (.string (dig 5)) w := by kernel_rfl
theorem dig_6 (w : World) : (Instr.sliceAt 9 (.string { data := #[48, 49, 50, 51, 52, 53, 54, 55, 56, 57, 97, 98, 99, 100, 101, 102] }) (some (.int .u8 6)) (some (.int .u8 7)) none).run Tryd.prog w = .ok (.string (dig 6)) w := by kernel_rfl
theorem dig_7 (w : World) : (Instr.sliceAt 9 (.string { data := #[48, 49, 50, 51, 52, 53, 54, 55, 56, 57, 97, 98, 99, 100, 101, 102] }) (some (.int .u8 7)) (some (.int .u8 8)) none).run Tryd.prog w = .ok (.string (dig 7)) w := by kernel_rfl
theorem dig_8 (w : World) : (Instr.sliceAt 9 (.string { data := #[48, 49, 50, 51, 52, 53, 54, 55, 56, 57, 97, 98, 99, 100, 101, 102] }) (some (.int .u8 8)) (some (.int .u8 9)) none).run Tryd.prog w = .ok (.string (dig 8)) w := by kernel_rfl
theorem dig_9 (w : World) : (Instr.sliceAt 9 (.string { data := #[48, 49, 50, 51, 52, 53, 54, 55, 56, 57, 97, 98, 99, 100, 101, 102] }) (some (.int .u8 9)) (some (.int .u8 10)) none).run Tryd.prog w = .ok (.string (dig 9)) w := by kernel_rfl
theorem dig_10 (w : World) : (Instr.sliceAt 9 (.string { data := #[48, 49, 50, 51, 52, 53, 54, 55, 56, 57, 97, 98, 99, 100, 101, 102] }) (some (.int .u8 10)) (some (.int .u8 11)) none).run Tryd.prog w = .ok (.string (dig 10)) w := by kernel_rfl
theorem dig_11 (w : World) : (Instr.sliceAt 9 (.string { data := #[48, 49, 50, 51, 52, 53, 54, 55, 56, 57, 97, 98, 99, 100, 101, 102] }) (some (.int .u8 11)) (some (.int .u8 12)) none).run Tryd.prog w = .ok (.string (dig 11)) w := by kernel_rfl
theorem dig_12 (w : World) : (Instr.sliceAt 9 (.string { data := #[48, 49, 50, 51, 52, 53, 54, 55, 56, 57, 97, 98, 99, 100, 101, 102] }) (some (.int .u8 12)) (some (.int .u8 13)) none).run Tryd.prog w = .ok (.string (dig 12)) w := by kernel_rfl
theorem dig_13 (w : World) : (Instr.sliceAt 9 (.string { data := #[48, 49, 50, 51, 52, 53, 54, 55, 56, 57, 97, 98, 99, 100, 101, 102] }) (some (.int .u8 13)) (some (.int .u8 14)) none).run Tryd.prog w = .ok (.string (dig 13)) w := by kernel_rfl
theorem dig_14 (w : World) : (Instr.sliceAt 9 (.string { data := #[48, 49, 50, 51, 52, 53, 54, 55, 56, 57, 97, 98, 99, 100, 101, 102] }) (some (.int .u8 14)) (some (.int .u8 15)) none).run Tryd.prog w = .ok (.string (dig 14)) w := by kernel_rfl
theorem dig_15 (w : World) : (Instr.sliceAt 9 (.string { data := #[48, 49, 50, 51, 52, 53, 54, 55, 56, 57, 97, 98, 99, 100, 101, 102] }) (some (.int .u8 15)) (some (.int .u8 16)) none).run Tryd.prog w = .ok (.string (dig 15)) w := by kernel_rfl
theorem dig_at (n : Nat) (h : n < 16) (w : World) : (Instr.sliceAt 9 (.string { data := #[48, 49, 50, 51, 52, 53, 54, 55, 56, 57, 97, 98, 99, 100, 101, 102] }) (some (.int .u8 (n : Int))) (some (.int .u8 ((n : Int) + 1))) none).run Tryd.prog w = .ok (.string (dig n)) w := by
  match n, h with
  | 0, _ => exact dig_0 w
  | 1, _ => exact dig_1 w
  | 2, _ => exact dig_2 w
  | 3, _ => exact dig_3 w
  | 4, _ => exact dig_4 w
  | 5, _ => exact dig_5 w
  | 6, _ => exact dig_6 w
  | 7, _ => exact dig_7 w
  | 8, _ => exact dig_8 w
  | 9, _ => exact dig_9 w
  | 10, _ => exact dig_10 w
  | 11, _ => exact dig_11 w
  | 12, _ => exact dig_12 w
  | 13, _ => exact dig_13 w
  | 14, _ => exact dig_14 w
  | 15, _ => exact dig_15 w
  | n + 16, h => exact absurd h (by omega)
theorem dig_size (n : Nat) : (dig n).size = 1 := rfl
theorem hexs_size (b : List UInt8) (n : Nat) : (hexs b n).size = 2 * n := by
  induction n with
  | zero => rfl
  | succ n ih => rw [hexs, ByteArray.size_append, ByteArray.size_append, ih, dig_size, dig_size]; omega
theorem and15 (x : Nat) (h : x < 256) : bits BinOp.and IntKind.u8 (x : Int) 15 = ((x % 16 : Nat) : Int) := by
  have e : bits BinOp.and IntKind.u8 (x : Int) ((15 : Nat) : Int) = ((x &&& 15 : Nat) : Int) := u8_and_nat x 15 h (by decide)
  rw [show x % 16 = x &&& 15 from (Nat.and_two_pow_sub_one_eq_mod x 4).symm]
  exact e
set_option maxRecDepth 100000 in
set_option maxHeartbeats 1000000 in
theorem text_any (b : List UInt8) (w : World) (hb : b.length = 32) : Calls Tryd.prog 19 #[.agg (bvs b).toArray] w fun e w' => e = .returned (.string (hexs b 32)) ∧ Below w.heap.size w w' := by
  have HB := hid hb
  clear hb
  go_enter Tryd.func19, Tryd.ntmps19
  go_wp2_with fail
  have HT : Hid (Below w.heap.size w (w.alloc (.cells (bvs b).toArray 29)) ∧ Bt (w.alloc (.cells (bvs b).toArray 29)) w.heap.size 29 b) := hid ⟨(Below.refl _ _).alloc (Nat.le_refl _) _, heap_alloc_new w _⟩
  generalize w.alloc (.cells (bvs b).toArray 29) = w0 at *
  go_loopw [3, 4] (fun s i wr => ∃ k : Nat, k ≤ 32 ∧ i = .int .i64 k ∧ s = .string (hexs b k) ∧ Hid (Below w.heap.size w wr ∧ Bt wr w.heap.size 29 b)) (fun _ i _ => 32 - (intOf i).toNat)
  case atStart => exact ⟨0, by omega, rfl, rfl, HT⟩
  case round =>
    clear HT
    obtain ⟨k, hk, rfl, rfl, HT⟩ := hrel
    by_cases hlt : k < 32
    · have hc := HT.out.2.cell k (by have := HB.out; omega)
      have hki : (k : Int) < 32 := by omega
      have hk0 : (0 : Int) ≤ k := by omega
      have hx := (b[k]'(by have := HB.out; omega)).toNat_lt
      have HX := hid (show b.getD k 0 = b[k]'(by have := HB.out; omega) by rw [List.getD_eq_getElem?_getD, List.getElem?_eq_getElem (by have := HB.out; omega)]; rfl)
      have HXS := hid (p := hexs b (k + 1) = (hexs b k ++ dig ((b[k]'(by have := HB.out; omega)).toNat / 16)) ++ dig ((b[k]'(by have := HB.out; omega)).toNat % 16)) (by rw [hexs, HX.out])
      clear HX
      generalize (b[k]'(by have := HB.out; omega)).toNat = x at *
      obtain ⟨p, hp⟩ : ∃ p, p = x / 16 := ⟨_, rfl⟩
      obtain ⟨q, hq⟩ : ∃ q, q = x % 16 := ⟨_, rfl⟩
      have hpi : (x : Int) / 16 = (p : Int) := by omega
      have hqi : bits BinOp.and IntKind.u8 (x : Int) 15 = (q : Int) := by rw [hq]; exact and15 x hx
      have hpw : IntKind.u8.wrap ((p : Int) + 1) = (p : Int) + 1 := by rw [IntKind.wrap_u8]; omega
      have hqw : IntKind.u8.wrap ((q : Int) + 1) = (q : Int) + 1 := by rw [IntKind.wrap_u8]; omega
      have hdp := dig_at p (by omega)
      have hdq := dig_at q (by omega)
      rw [← hp, ← hq] at HXS
      clear hp hq
      have z1 := hexs_size b k
      have z2 := dig_size p
      have z3 := dig_size q
      have hl1 : (9223372036854775807 < (hexs b k).size + (dig p).size) = False := by rw [z1, z2]; simp; omega
      have hl2 : (9223372036854775807 < (hexs b k).size + (dig p).size + (dig q).size) = False := by rw [z1, z2, z3]; simp; omega
      have hl3 : (9223372036854775807 < (hexs b k ++ dig p).size) = False := by rw [ByteArray.size_append, z1, z2]; simp; omega
      have hl4 : (9223372036854775807 < (hexs b k ++ dig p).size + (dig q).size) = False := by rw [ByteArray.size_append, z1, z2, z3]; simp; omega
      clear z1 z2 z3
      generalize dig p = dp at *
      generalize dig q = dq at *
      generalize hexs b k = sk at *
      go_wp2_with fail
      go_quiet (fail)
      go_wp2
      go_roundw
      case rel => exact ⟨k + 1, by omega, by go_num, by rw [HXS.out], hid ⟨below_drewN HT.out.1 _, HT.out.2⟩⟩
      case measure => simp [intOf]; omega
    · obtain rfl : k = 32 := by omega
      go_wp2
      go_ret
      exact ⟨rfl, HT.out.1⟩
end Go.Proofs.YtaejcifpipegnaaDoor

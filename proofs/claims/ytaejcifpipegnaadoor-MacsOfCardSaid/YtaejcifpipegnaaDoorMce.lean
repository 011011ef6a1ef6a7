/-
  macs.Same, walked: whether both are the same bytes. Condition: 2^47 bytes at most.
-/
import Derived.Test.YtaejcifpipegnaaDoorMca
import Derived.BigQuiet
namespace Go.Proofs.YtaejcifpipegnaaDoor
open Go.RowKit
set_option linter.unusedVariables false
set_option linter.unusedSimpArgs false

theorem wrap_pos (n : Nat) (h : n < 9223372036854775808) : IntKind.i64.wrap (n : Int) = (n : Int) := by rw [IntKind.wrap_i64]; omega
theorem i64_xor_nat (a b : Nat) (ha : a < 9223372036854775808) (hb : b < 9223372036854775808) : bits .xor .i64 (a : Int) (b : Int) = ((a ^^^ b : Nat) : Int) := by
  have hx : a ^^^ b < 2 ^ 63 := Nat.xor_lt_two_pow (by omega) (by omega)
  show IntKind.i64.wrap ((BitVec.ofInt 64 (a : Int) ^^^ BitVec.ofInt 64 (b : Int)).toNat : Int) = _
  rw [BitVec.toNat_xor, ofInt_u64 a (by omega), ofInt_u64 b (by omega)]
  exact wrap_pos _ (by omega)
theorem i64_or_nat (a b : Nat) (ha : a < 9223372036854775808) (hb : b < 9223372036854775808) : bits .or .i64 (a : Int) (b : Int) = ((a ||| b : Nat) : Int) := by
  have hx : a ||| b < 2 ^ 63 := Nat.or_lt_two_pow (by omega) (by omega)
  show IntKind.i64.wrap ((BitVec.ofInt 64 (a : Int) ||| BitVec.ofInt 64 (b : Int)).toNat : Int) = _
  rw [BitVec.toNat_or, ofInt_u64 a (by omega), ofInt_u64 b (by omega)]
  exact wrap_pos _ (by omega)
/-- where two lists part, looked at up to here -/
def ap (a b : List UInt8) : Nat → Nat
  | 0 => a.length ^^^ b.length
  | j + 1 => ap a b j ||| (a.getD j 0 ^^^ b.getD j 0).toNat
theorem ap_lt (a b : List UInt8) (ha : a.length < 9223372036854775808) (hb : b.length < 9223372036854775808) (j : Nat) : ap a b j < 9223372036854775808 := by
  induction j with
  | zero => have : a.length ^^^ b.length < 2 ^ 63 := Nat.xor_lt_two_pow (by omega) (by omega); rw [ap]; omega
  | succ j ih => have : ap a b j ||| (a.getD j 0 ^^^ b.getD j 0).toNat < 2 ^ 63 := Nat.or_lt_two_pow (by omega) (by have := (a.getD j 0 ^^^ b.getD j 0).toNat_lt; omega); rw [ap]; omega
theorem xor_none (a b : Nat) : a ^^^ b = 0 ↔ a = b := by
  constructor
  · intro h
    have : a ^^^ b ^^^ b = 0 ^^^ b := by rw [h]
    rwa [Nat.xor_assoc, Nat.xor_self, Nat.xor_zero, Nat.zero_xor] at this
  · rintro rfl; exact Nat.xor_self a
theorem or_none (a b : Nat) : a ||| b = 0 ↔ a = 0 ∧ b = 0 := by
  constructor
  · intro h
    have h1 : a ≤ a ||| b := Nat.left_le_or
    have h2 : b ≤ a ||| b := Nat.right_le_or
    omega
  · rintro ⟨rfl, rfl⟩; rfl
theorem ap_none (a b : List UInt8) (j : Nat) : ap a b j = 0 ↔ a.length = b.length ∧ ∀ i, i < j → a.getD i 0 = b.getD i 0 := by
  induction j with
  | zero => rw [ap, xor_none]; exact ⟨fun h => ⟨h, fun i hi => absurd hi (Nat.not_lt_zero _)⟩, fun h => h.1⟩
  | succ j ih =>
    have e : (a.getD j 0 ^^^ b.getD j 0).toNat = 0 ↔ a.getD j 0 = b.getD j 0 := by
      rw [UInt8.toNat_xor, xor_none]; exact ⟨fun h => UInt8.toNat.inj h, fun h => by rw [h]⟩
    rw [ap, or_none, ih, e]
    constructor
    · rintro ⟨⟨h1, h2⟩, h3⟩
      refine ⟨h1, fun i hi => ?_⟩
      rcases Nat.lt_or_ge i j with h | h
      · exact h2 i h
      · obtain rfl : i = j := by omega
        exact h3
    · rintro ⟨h1, h2⟩
      exact ⟨⟨h1, fun i hi => h2 i (by omega)⟩, h2 j (by omega)⟩
theorem ap_all (a b : List UInt8) : ap a b (min a.length b.length) = 0 ↔ a = b := by
  rw [ap_none]
  constructor
  · rintro ⟨h1, h2⟩
    apply List.ext_getElem h1
    intro i hi1 hi2
    have := h2 i (by omega)
    rwa [List.getD_eq_getElem?_getD, List.getD_eq_getElem?_getD, List.getElem?_eq_getElem hi1, List.getElem?_eq_getElem hi2] at this
  · rintro rfl; exact ⟨rfl, fun i _ => rfl⟩
theorem Rd.cellD {w : World} {A : Option Addr} {bs : List UInt8} (h : Rd w A bs) (j : Nat) (hj : j < bs.length) : ∃ g o, A = some ⟨g, o, none⟩ ∧ w.cell? ⟨g, o + j, none⟩ = some (.int .u8 (((bs.getD j 0).toNat : Nat) : Int)) := by
  obtain ⟨g, o, h1, _, h2⟩ := h (by omega)
  refine ⟨g, o, h1, ?_⟩
  rw [h2 j hj, List.getD_eq_getElem?_getD, List.getElem?_eq_getElem hj]; rfl
set_option maxRecDepth 100000 in
set_option maxHeartbeats 2000000 in
theorem macsame_any (A B : Option Addr) (n c m d : Nat) (a b : List UInt8) (w : World) (hn : a.length = n) (hm : b.length = m) (hra : Rd w A a) (hrb : Rd w B b) (hcn : n ≤ 140737488355328) (hcm : m ≤ 140737488355328) :
    Calls Tryd.prog 15 #[.slice A n c, .slice B m d] w fun e w' => e = .returned (.bool (decide (a = b))) ∧ ∃ k, w' = w.drewN k := by
  have HA := hid hra
  have HB := hid hrb
  have HN := hid hn
  have HM := hid hm
  have HCN := hid hcn
  have HCM := hid hcm
  have hx : bits .xor .i64 (n : Int) (m : Int) = ((ap a b 0 : Nat) : Int) := by rw [i64_xor_nat n m (by omega) (by omega), ap, hn, hm]
  have HLT := hid (ap_lt a b (by omega) (by omega))
  have HEQ := hid (ap_all a b)
  clear hra hrb hcn hcm
  have HNI := hid (show ∀ z : Nat, z < 9223372036854775808 → IntKind.i64.wrap (z : Int) = (z : Int) from wrap_pos)
  by_cases hle : n ≤ m
  · have hli : (n : Int) ≤ (m : Int) := by omega
    have hQ := hid (show min a.length b.length = n by omega)
    have hQ1 := hid (show n ≤ n ∧ n ≤ m by omega)
    clear hn hm hle
    go_enter Tryd.func15, Tryd.ntmps15
    go_wp2_with fail
    clear hli hx
    go_loopw [5, 17] (fun s i wr => ∃ j k : Nat, j ≤ n ∧ i = .int .i64 j ∧ s = .int .i64 ((ap a b j : Nat) : Int) ∧ Hid (wr = w.drewN k)) (fun _ i _ => n - (intOf i).toNat)
    case atStart => exact ⟨0, 0, Nat.zero_le _, rfl, rfl, hid rfl⟩
    case round =>
      obtain ⟨j, k, hj, rfl, rfl, HW⟩ := hrel
      by_cases hlt : j < n
      · have HJ := hid hlt
        obtain ⟨ga, oa, rfl, hca⟩ := HA.out.cellD j (by have := HN.out; have := hQ1.out; omega)
        obtain ⟨gb, ob, rfl, hcb⟩ := HB.out.cellD j (by have := HM.out; have := hQ1.out; omega)
        have hca : wr.cell? ⟨ga, oa + j, none⟩ = some (.int .u8 (((a.getD j 0).toNat : Nat) : Int)) := by rw [HW.out]; exact hca
        have hcb : wr.cell? ⟨gb, ob + j, none⟩ = some (.int .u8 (((b.getD j 0).toNat : Nat) : Int)) := by rw [HW.out]; exact hcb
        have hx1 := xor_u8 (a.getD j 0) (b.getD j 0)
        have hc1 := HNI.out (a.getD j 0 ^^^ b.getD j 0).toNat (by have := (a.getD j 0 ^^^ b.getD j 0).toNat_lt; omega)
        have ho1 := i64_or_nat (ap a b j) (a.getD j 0 ^^^ b.getD j 0).toNat (HLT.out j) (by have := (a.getD j 0 ^^^ b.getD j 0).toNat_lt; omega)
        have HS := hid (show (((ap a b j) ||| (a.getD j 0 ^^^ b.getD j 0).toNat : Nat) : Int) = ((ap a b (j + 1) : Nat) : Int) from rfl)
        rw [HS.out] at ho1
        have hi1 : (j : Int) < (n : Int) := by have := hQ1.out; omega
        have hi2 : (j : Int) < (m : Int) := by have := hQ1.out; omega
        have hi0 : (0 : Int) ≤ (j : Int) := by omega
        have hw1 : IntKind.i64.wrap ((j : Int) + 1) = (j : Int) + 1 := by have := HCN.out; have := hQ1.out; rw [IntKind.wrap_i64]; omega
        generalize (((a.getD j 0 ^^^ b.getD j 0).toNat : Nat) : Int) = x1 at *
        generalize (((a.getD j 0).toNat : Nat) : Int) = x2 at *
        generalize (((b.getD j 0).toNat : Nat) : Int) = x3 at *
        go_wp2_with fail
        go_quiet (fail)
        go_wp2
        go_roundw
        case rel => exact ⟨j + 1, k + nq, HJ.out, by go_num, rfl, by rw [HW.out]; exact hid (World.drewN_drewN ..)⟩
        case measure => have := HJ.out; simp [intOf]; omega
      · obtain rfl : j = n := by omega
        have HF := hid (p := ((((ap a b j : Nat) : Int) == 0) = decide (a = b))) (by
          have := HEQ.out; rw [hQ.out] at this
          by_cases h : a = b
          · rw [this.2 h]; simp [h]
          · rw [decide_eq_false h]; have h2 : ap a b j ≠ 0 := fun e => h (this.1 e); simp; omega)
        have hf := HF.out
        generalize ((ap a b j : Nat) : Int) = z at *
        go_wp2
        go_ret
        exact ⟨rfl, k, HW.out⟩
  · have hli : ¬ (n : Int) ≤ (m : Int) := by omega
    have hQ := hid (show min a.length b.length = m by omega)
    have hQ1 := hid (show m ≤ n ∧ m ≤ m by omega)
    clear hn hm hle
    go_enter Tryd.func15, Tryd.ntmps15
    go_wp2_with fail
    clear hli hx
    go_loopw [5, 17] (fun s i wr => ∃ j k : Nat, j ≤ m ∧ i = .int .i64 j ∧ s = .int .i64 ((ap a b j : Nat) : Int) ∧ Hid (wr = w.drewN k)) (fun _ i _ => m - (intOf i).toNat)
    case atStart => exact ⟨0, 0, Nat.zero_le _, rfl, rfl, hid rfl⟩
    case round =>
      obtain ⟨j, k, hj, rfl, rfl, HW⟩ := hrel
      by_cases hlt : j < m
      · have HJ := hid hlt
        obtain ⟨ga, oa, rfl, hca⟩ := HA.out.cellD j (by have := HN.out; have := hQ1.out; omega)
        obtain ⟨gb, ob, rfl, hcb⟩ := HB.out.cellD j (by have := HM.out; have := hQ1.out; omega)
        have hca : wr.cell? ⟨ga, oa + j, none⟩ = some (.int .u8 (((a.getD j 0).toNat : Nat) : Int)) := by rw [HW.out]; exact hca
        have hcb : wr.cell? ⟨gb, ob + j, none⟩ = some (.int .u8 (((b.getD j 0).toNat : Nat) : Int)) := by rw [HW.out]; exact hcb
        have hx1 := xor_u8 (a.getD j 0) (b.getD j 0)
        have hc1 := HNI.out (a.getD j 0 ^^^ b.getD j 0).toNat (by have := (a.getD j 0 ^^^ b.getD j 0).toNat_lt; omega)
        have ho1 := i64_or_nat (ap a b j) (a.getD j 0 ^^^ b.getD j 0).toNat (HLT.out j) (by have := (a.getD j 0 ^^^ b.getD j 0).toNat_lt; omega)
        have HS := hid (show (((ap a b j) ||| (a.getD j 0 ^^^ b.getD j 0).toNat : Nat) : Int) = ((ap a b (j + 1) : Nat) : Int) from rfl)
        rw [HS.out] at ho1
        have hi1 : (j : Int) < (n : Int) := by have := hQ1.out; omega
        have hi2 : (j : Int) < (m : Int) := by have := hQ1.out; omega
        have hi0 : (0 : Int) ≤ (j : Int) := by omega
        have hw1 : IntKind.i64.wrap ((j : Int) + 1) = (j : Int) + 1 := by have := HCN.out; have := hQ1.out; rw [IntKind.wrap_i64]; omega
        generalize (((a.getD j 0 ^^^ b.getD j 0).toNat : Nat) : Int) = x1 at *
        generalize (((a.getD j 0).toNat : Nat) : Int) = x2 at *
        generalize (((b.getD j 0).toNat : Nat) : Int) = x3 at *
        go_wp2_with fail
        go_quiet (fail)
        go_wp2
        go_roundw
        case rel => exact ⟨j + 1, k + nq, HJ.out, by go_num, rfl, by rw [HW.out]; exact hid (World.drewN_drewN ..)⟩
        case measure => have := HJ.out; simp [intOf]; omega
      · obtain rfl : j = m := by omega
        have HF := hid (p := ((((ap a b j : Nat) : Int) == 0) = decide (a = b))) (by
          have := HEQ.out; rw [hQ.out] at this
          by_cases h : a = b
          · rw [this.2 h]; simp [h]
          · rw [decide_eq_false h]; have h2 : ap a b j ≠ 0 := fun e => h (this.1 e); simp; omega)
        have hf := HF.out
        generalize ((ap a b j : Nat) : Int) = z at *
        go_wp2
        go_ret
        exact ⟨rfl, k, HW.out⟩
end Go.Proofs.YtaejcifpipegnaaDoor

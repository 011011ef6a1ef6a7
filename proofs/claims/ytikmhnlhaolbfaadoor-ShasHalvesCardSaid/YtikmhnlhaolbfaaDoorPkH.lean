/-
  burrowref05.Of, walked: the document's own sum. Condition: no more than 2^46 bytes.
  burrowref05.Bytes, As, walked: the document's own. Conditions: a thousand parts at most, each of 2^20 bytes at most.
  nums.Get, walked: refused, or the number that the first bytes tell. Conditions: none on the count.
  nums.GetBytes, walked: refused, or the bytes that stand behind their count, and how many that was. Condition: the slice's capacity is at most 2^47.
  The document's own answers (burrowref01), walked: Told, Get, GetLong, GetBytes. Conditions: sizes within 2^46.
  The document's own PutLong (burrowref01), walked. Condition: no more than 2^46 bytes came in.
  burrowref02.Of, Bit and Bits, walked. Conditions: none.
  A region that draws its order: two laws of Ord said shorter. Conditions: none.
  math/bits.LeadingZeros64, Div64, Rem64, Mul64, walked. Conditions: Div64's: the high word is below what is divided by.
  Boxes that a region makes while it draws its order: those that stand first among what a law carries. Conditions: none.
  burrowref03.Word, word, walked. Conditions: none of its own.
-/
import Derived.Test.YtikmhnlhaolbfaaDoorPkG
import Derived.Test.YtikmhnlhaolbfaaDoorPkA
import Derived.Deep.Cut
import Derived.Deep.Onto
import Derived.Test.YtikmhnlhaolbfaaDoorPkC
import Derived.Test.YtikmhnlhaolbfaaDoorPkF
import Derived.Test.YtikmhnlhaolbfaaDoorPkB
import Derived.Deep.QuietTactic
import Derived.BigQuiet
import Derived.Test.YtikmhnlhaolbfaaDoorPkE
import Derived.Shelf.Small.Bits
import Derived.Shelf.Bits.Mul64
import Derived.Deep.DeepCutAuto
import Derived.Deep.CutBlock
namespace Go.Proofs.YtikmhnlhaolbfaaDoor
open Go.RowKit
set_option linter.unusedVariables false
set_option linter.unusedSimpArgs false

set_option maxRecDepth 100000 in
set_option maxHeartbeats 4000000 in
theorem refof_any (A : Option Addr) (c : Nat) (bs : List UInt8) (n : Nat) (w : World) (hl : bs.length = n) (hr : Rd w A bs) (hc : n ≤ c) (hA : A = none → c = 0) (hn : n ≤ 70368744177664) :
    Calls Tryd.prog 34 #[.slice A n c] w fun e w' => e = .returned (.agg (bvs (sha bs)).toArray) ∧ Below w.heap.size w w' := by
  have HL := hid hl
  have HR := hid hr
  have HN := hid hn
  have HAc := hid hA
  clear hl hr hc hA hn
  have HB1 : Hid (Below w.heap.size w (w.alloc (.cells #[.int .u8 0, .int .u8 0, .int .u8 0, .int .u8 0, .int .u8 0, .int .u8 0, .int .u8 0, .int .u8 0, .int .u8 0, .int .u8 0, .int .u8 0, .int .u8 0, .int .u8 0, .int .u8 0, .int .u8 0, .int .u8 0, .int .u8 0, .int .u8 0, .int .u8 0, .int .u8 0, .int .u8 0, .int .u8 0, .int .u8 0, .int .u8 0, .int .u8 0, .int .u8 0, .int .u8 0, .int .u8 0, .int .u8 0, .int .u8 0, .int .u8 0, .int .u8 0] 44))) := hid ((Below.refl _ _).alloc (Nat.le_refl _) _)
  have HF0 : Hid (Fo w [] (.slice none 0 0) (w.alloc (.cells #[.int .u8 0, .int .u8 0, .int .u8 0, .int .u8 0, .int .u8 0, .int .u8 0, .int .u8 0, .int .u8 0, .int .u8 0, .int .u8 0, .int .u8 0, .int .u8 0, .int .u8 0, .int .u8 0, .int .u8 0, .int .u8 0, .int .u8 0, .int .u8 0, .int .u8 0, .int .u8 0, .int .u8 0, .int .u8 0, .int .u8 0, .int .u8 0, .int .u8 0, .int .u8 0, .int .u8 0, .int .u8 0, .int .u8 0, .int .u8 0, .int .u8 0, .int .u8 0] 44))) := hid ⟨HB1.out, heap_alloc_new w _, Ow.nil _ _⟩
  obtain ⟨A1, c1, n1, w2, R1, HF1, HN1⟩ := HF0.out.app (HR.out.below HB1.out (Nat.le_refl _)) HL.out HAc.out (by simp; have := HN.out; omega)
  obtain ⟨A2, c2, n2, w3, R2, HF2, HN2⟩ := HF1.out.push 128 128 rfl (by rw [List.nil_append, HL.out]; have := HN.out; omega)
  have HF3 := hid (p := Fo w (pad bs 0) (.slice A2 n2 c2) w3) (by have := HF2.out; simpa [pad] using this)
  have HN3 := hid (p := n2 = n + 1) (by rw [HN2.out, List.nil_append, HL.out])
  clear HF0 HF1 HF2 HN1 HN2
  go_enter Tryd.func34, Tryd.ntmps34
  go_wp2_with (first | (at_builtin; refine step_append rfl (.const (.slice none 0 0)) (.tmp 11) rfl rfl _ _ rfl rfl (.slice A1 n1 c1) w2 R1.out ?_) | (at_builtin; refine step_append rfl (.tmp 12) (.tmp 13) rfl rfl _ _ rfl rfl (.slice A2 n2 c2) w3 R2.out ?_))
  clear R1 R2 HB1
  have HNo := hid (show nought n < 64 from Nat.mod_lt _ (by decide))
  go_loopw [3] (fun s wr => ∃ (j m c' : Nat) (A' : Option Addr), j ≤ nought n ∧ s = .slice A' m c' ∧ Hid (m = n + 1 + j) ∧ Hid (Fo w (pad bs j) (.slice A' m c') wr)) (fun s _ => n + 65 - lenV s)
  case atStart => exact ⟨0, n2, c2, A2, Nat.zero_le _, rfl, HN3, HF3⟩
  case round =>
    clear HN3 HF3
    obtain ⟨j, m, c', A', hj, rfl, HM, HF⟩ := hrel
    have HJ := hid hj
    clear hj
    by_cases hlt : j < nought n
    · have hmi : (m : Int) % 64 ≠ 56 := by have h1 := HM.out; have h2 := HJ.out; have h3 := hlt; unfold nought at h3; omega
      have hmt : (m : Int).tmod 64 ≠ 56 := by rw [Int.tmod_eq_emod_of_nonneg (by omega)]; exact hmi
      have hmb : (((m : Int) % 64) == 56) = false := by simpa using hmi
      have hmtb : (((m : Int).tmod 64) == 56) = false := by simpa using hmt
      have HLT := hid hlt
      clear hlt
      obtain ⟨A3, c3, n3, w4, R3, HF3, HN3⟩ := HF.out.push 0 0 rfl (by rw [pad_length, HL.out]; have h1 := HN.out; have h2 := HJ.out; have h3 := HNo.out; omega)
      have HF4 := hid (p := Fo w (pad bs (j + 1)) (.slice A3 n3 c3) w4) (by have := HF3.out; rwa [pad_step] at this)
      have HN4 := hid (p := n3 = n + 1 + (j + 1)) (by rw [HN3.out, pad_length, HL.out]; omega)
      clear HF3 HN3
      go_wp2_with (at_builtin; refine step_append rfl (.tmp 19) (.tmp 20) rfl rfl _ _ rfl rfl (.slice A3 n3 c3) w4 R3.out ?_)
      refine ⟨⟨j + 1, n3, c3, A3, HLT.out, rfl, HN4, HF4⟩, ?_⟩
      have h1 := HM.out; have h2 := HN4.out; have h3 := HLT.out; have h4 := HNo.out
      show n + 65 - n3 < n + 65 - m
      omega
    · obtain rfl : j = nought n := by have := HJ.out; omega
      have hmi : (m : Int) % 64 = 56 := by have h1 := HM.out; unfold nought at h1; omega
      have hmt : (m : Int).tmod 64 = 56 := by rw [Int.tmod_eq_emod_of_nonneg (by omega)]; exact hmi
      obtain ⟨N, hNN⟩ : ∃ N, N = 8 * n := ⟨_, rfl⟩
      have hN8 : IntKind.u64.wrap (8 * IntKind.u64.wrap (n : Int)) = (N : Int) := by have := HN.out; rw [IntKind.wrap_u64, IntKind.wrap_u64]; omega
      have hN9 : IntKind.u64.wrap (8 * (n : Int)) = (N : Int) := by have := HN.out; rw [IntKind.wrap_u64]; omega
      have hn0 : IntKind.u64.wrap (n : Int) = (n : Int) := by have := HN.out; rw [IntKind.wrap_u64]; omega
      have HNN := hid hNN
      clear hNN hlt
      go_upto_region 6 with fail
      go_loopw [3, 5] (fun s i wr => ∃ (k m c' : Nat) (A' : Option Addr), k ≤ 8 ∧ i = .int .i64 k ∧ s = .slice A' m c' ∧ Hid (m = n + 1 + nought n + k) ∧ Hid (Fo w (pad bs (nought n) ++ (be N 8).take k) (.slice A' m c') wr)) (fun _ i _ => 8 - (intOf i).toNat)
      case atStart => exact ⟨0, m, c', A', by omega, rfl, rfl, HM, hid (by rw [List.take_zero, List.append_nil]; exact HF.out)⟩
      case round =>
        clear HF HM hmi hmt hN8 hN9 hn0
        obtain ⟨k, m, c', A', hk, rfl, rfl, HM, HF⟩ := hrel
        have HKl := hid (show (pad bs (nought n) ++ (be N 8).take k).length + 1 ≤ 140737488355328 by rw [List.length_append, pad_length, List.length_take, be_length, HL.out]; have h1 := HN.out; have h2 := HNo.out; omega)
        rcases (show k = 0 ∨ k = 1 ∨ k = 2 ∨ k = 3 ∨ k = 4 ∨ k = 5 ∨ k = 6 ∨ k = 7 ∨ k = 8 by omega) with rfl | rfl | rfl | rfl | rfl | rfl | rfl | rfl | rfl
        · obtain ⟨A3, c3, n3, w4, R3, HF3, HN3⟩ := HF.out.push (UInt8.ofNat (N / 256 ^ (7 - 0))) ((N : Int) / 72057594037927936 % 256) (by rw [UInt8.toNat_ofNat']; omega) HKl.out
          have HF4 := hid (p := Fo w (pad bs (nought n) ++ (be N 8).take (0 + 1)) (.slice A3 n3 c3) w4) (by have := HF3.out; rw [List.append_assoc, ← be_take N 0 (by decide)] at this; exact this)
          have HN4 := hid (p := n3 = n + 1 + nought n + 1) (by rw [HN3.out, List.length_append, pad_length, List.length_take, be_length, HL.out]; omega)
          clear HF3 HN3
          go_wp2_with (at_builtin; refine step_append rfl (.tmp 30) (.tmp 37) rfl rfl _ _ rfl rfl (.slice A3 n3 c3) w4 R3.out ?_)
          exact ⟨⟨1, n3, c3, A3, by decide, by go_num, rfl, HN4, HF4⟩, by simp [intOf]⟩
        · obtain ⟨A3, c3, n3, w4, R3, HF3, HN3⟩ := HF.out.push (UInt8.ofNat (N / 256 ^ (7 - 1))) ((N : Int) / 281474976710656 % 256) (by rw [UInt8.toNat_ofNat']; omega) HKl.out
          have HF4 := hid (p := Fo w (pad bs (nought n) ++ (be N 8).take (1 + 1)) (.slice A3 n3 c3) w4) (by have := HF3.out; rw [List.append_assoc, ← be_take N 1 (by decide)] at this; exact this)
          have HN4 := hid (p := n3 = n + 1 + nought n + 2) (by rw [HN3.out, List.length_append, pad_length, List.length_take, be_length, HL.out]; omega)
          clear HF3 HN3
          go_wp2_with (at_builtin; refine step_append rfl (.tmp 30) (.tmp 37) rfl rfl _ _ rfl rfl (.slice A3 n3 c3) w4 R3.out ?_)
          exact ⟨⟨2, n3, c3, A3, by decide, by go_num, rfl, HN4, HF4⟩, by simp [intOf]⟩
        · obtain ⟨A3, c3, n3, w4, R3, HF3, HN3⟩ := HF.out.push (UInt8.ofNat (N / 256 ^ (7 - 2))) ((N : Int) / 1099511627776 % 256) (by rw [UInt8.toNat_ofNat']; omega) HKl.out
          have HF4 := hid (p := Fo w (pad bs (nought n) ++ (be N 8).take (2 + 1)) (.slice A3 n3 c3) w4) (by have := HF3.out; rw [List.append_assoc, ← be_take N 2 (by decide)] at this; exact this)
          have HN4 := hid (p := n3 = n + 1 + nought n + 3) (by rw [HN3.out, List.length_append, pad_length, List.length_take, be_length, HL.out]; omega)
          clear HF3 HN3
          go_wp2_with (at_builtin; refine step_append rfl (.tmp 30) (.tmp 37) rfl rfl _ _ rfl rfl (.slice A3 n3 c3) w4 R3.out ?_)
          exact ⟨⟨3, n3, c3, A3, by decide, by go_num, rfl, HN4, HF4⟩, by simp [intOf]⟩
        · obtain ⟨A3, c3, n3, w4, R3, HF3, HN3⟩ := HF.out.push (UInt8.ofNat (N / 256 ^ (7 - 3))) ((N : Int) / 4294967296 % 256) (by rw [UInt8.toNat_ofNat']; omega) HKl.out
          have HF4 := hid (p := Fo w (pad bs (nought n) ++ (be N 8).take (3 + 1)) (.slice A3 n3 c3) w4) (by have := HF3.out; rw [List.append_assoc, ← be_take N 3 (by decide)] at this; exact this)
          have HN4 := hid (p := n3 = n + 1 + nought n + 4) (by rw [HN3.out, List.length_append, pad_length, List.length_take, be_length, HL.out]; omega)
          clear HF3 HN3
          go_wp2_with (at_builtin; refine step_append rfl (.tmp 30) (.tmp 37) rfl rfl _ _ rfl rfl (.slice A3 n3 c3) w4 R3.out ?_)
          exact ⟨⟨4, n3, c3, A3, by decide, by go_num, rfl, HN4, HF4⟩, by simp [intOf]⟩
        · obtain ⟨A3, c3, n3, w4, R3, HF3, HN3⟩ := HF.out.push (UInt8.ofNat (N / 256 ^ (7 - 4))) ((N : Int) / 16777216 % 256) (by rw [UInt8.toNat_ofNat']; omega) HKl.out
          have HF4 := hid (p := Fo w (pad bs (nought n) ++ (be N 8).take (4 + 1)) (.slice A3 n3 c3) w4) (by have := HF3.out; rw [List.append_assoc, ← be_take N 4 (by decide)] at this; exact this)
          have HN4 := hid (p := n3 = n + 1 + nought n + 5) (by rw [HN3.out, List.length_append, pad_length, List.length_take, be_length, HL.out]; omega)
          clear HF3 HN3
          go_wp2_with (at_builtin; refine step_append rfl (.tmp 30) (.tmp 37) rfl rfl _ _ rfl rfl (.slice A3 n3 c3) w4 R3.out ?_)
          exact ⟨⟨5, n3, c3, A3, by decide, by go_num, rfl, HN4, HF4⟩, by simp [intOf]⟩
        · obtain ⟨A3, c3, n3, w4, R3, HF3, HN3⟩ := HF.out.push (UInt8.ofNat (N / 256 ^ (7 - 5))) ((N : Int) / 65536 % 256) (by rw [UInt8.toNat_ofNat']; omega) HKl.out
          have HF4 := hid (p := Fo w (pad bs (nought n) ++ (be N 8).take (5 + 1)) (.slice A3 n3 c3) w4) (by have := HF3.out; rw [List.append_assoc, ← be_take N 5 (by decide)] at this; exact this)
          have HN4 := hid (p := n3 = n + 1 + nought n + 6) (by rw [HN3.out, List.length_append, pad_length, List.length_take, be_length, HL.out]; omega)
          clear HF3 HN3
          go_wp2_with (at_builtin; refine step_append rfl (.tmp 30) (.tmp 37) rfl rfl _ _ rfl rfl (.slice A3 n3 c3) w4 R3.out ?_)
          exact ⟨⟨6, n3, c3, A3, by decide, by go_num, rfl, HN4, HF4⟩, by simp [intOf]⟩
        · obtain ⟨A3, c3, n3, w4, R3, HF3, HN3⟩ := HF.out.push (UInt8.ofNat (N / 256 ^ (7 - 6))) ((N : Int) / 256 % 256) (by rw [UInt8.toNat_ofNat']; omega) HKl.out
          have HF4 := hid (p := Fo w (pad bs (nought n) ++ (be N 8).take (6 + 1)) (.slice A3 n3 c3) w4) (by have := HF3.out; rw [List.append_assoc, ← be_take N 6 (by decide)] at this; exact this)
          have HN4 := hid (p := n3 = n + 1 + nought n + 7) (by rw [HN3.out, List.length_append, pad_length, List.length_take, be_length, HL.out]; omega)
          clear HF3 HN3
          go_wp2_with (at_builtin; refine step_append rfl (.tmp 30) (.tmp 37) rfl rfl _ _ rfl rfl (.slice A3 n3 c3) w4 R3.out ?_)
          exact ⟨⟨7, n3, c3, A3, by decide, by go_num, rfl, HN4, HF4⟩, by simp [intOf]⟩
        · obtain ⟨A3, c3, n3, w4, R3, HF3, HN3⟩ := HF.out.push (UInt8.ofNat (N / 256 ^ (7 - 7))) ((N : Int) % 256) (by rw [UInt8.toNat_ofNat']; omega) HKl.out
          have HF4 := hid (p := Fo w (pad bs (nought n) ++ (be N 8).take (7 + 1)) (.slice A3 n3 c3) w4) (by have := HF3.out; rw [List.append_assoc, ← be_take N 7 (by decide)] at this; exact this)
          have HN4 := hid (p := n3 = n + 1 + nought n + 8) (by rw [HN3.out, List.length_append, pad_length, List.length_take, be_length, HL.out]; omega)
          clear HF3 HN3
          go_wp2_with (at_builtin; refine step_append rfl (.tmp 30) (.tmp 37) rfl rfl _ _ rfl rfl (.slice A3 n3 c3) w4 R3.out ?_)
          exact ⟨⟨8, n3, c3, A3, by decide, by go_num, rfl, HN4, HF4⟩, by simp [intOf]⟩
        · have HFF := hid (p := Fo w (full bs) (.slice A' m c') wr) (by have := HF.out; rw [List.take_of_length_le (by rw [be_length]; decide), HNN.out, ← HL.out, pad_full] at this; exact this)
          have HML := hid (p := m = (full bs).length) (by rw [HM.out, full, List.length_append, tail_length, HL.out]; omega)
          clear HF HM HKl
          have HF9 := hid (HFF.out.alloc (.cells #[.int .u32 1779033703, .int .u32 3144134277, .int .u32 1013904242, .int .u32 2773480762, .int .u32 1359893119, .int .u32 2600822924, .int .u32 528734635, .int .u32 1541459225] 56))
          have HH9 : Hid (Us (wr.alloc (.cells #[.int .u32 1779033703, .int .u32 3144134277, .int .u32 1013904242, .int .u32 2773480762, .int .u32 1359893119, .int .u32 2600822924, .int .u32 528734635, .int .u32 1541459225] 56)) wr.heap.size 56 hh) := hid (heap_alloc_new _ _)
          have hsz9 := HFF.out.sz
          go_wp2_with fail
          generalize wr.alloc (.cells #[.int .u32 1779033703, .int .u32 3144134277, .int .u32 1013904242, .int .u32 2773480762, .int .u32 1359893119, .int .u32 2600822924, .int .u32 528734635, .int .u32 1541459225] 56) = w9 at *
          obtain ⟨ga, rfl, hmx, hmc, hga, hgb, hbytes⟩ := ow_at HF9.out.own (by rw [← HML.out, HML.out, full, List.length_append, tail_length]; omega)
          have hgal : ga < wr.heap.size := by
            rcases HFF.out.own.2 with ⟨h1, _⟩ | ⟨g', cap, cur, h1, _, hh', _⟩
            · injection h1 with e1; cases e1
            · injection h1 with e1; injection e1 with e1; injection e1 with e1; subst e1; exact lt_of_block hh'
          generalize hghe : wr.heap.size = gh at *
          have HMC := hid hmc
          have HLo0 := hid (p := ∀ gt W, Us W gt 32 kk → Below w9.heap.size w9 W → gt = w9.heap.size → Lo w (full bs) ga gh gt hh W) (fun gt W hk hb hgt => by
            have hlh := HH9.out.lt
            exact ⟨HF9.out.below.trans (hb.mono HF9.out.below.size), HF9.out.z.on hb, HH9.out.on hb, hk, fun j hj => (hb.cell (p := ⟨ga, 0 + j, none⟩) hga).trans (hbytes j hj), Nat.lt_of_lt_of_le hga hb.size, by omega, by omega, by omega⟩)
          clear hbytes hga hgb hsz9 hgal hghe hmx hmc
          refine (table_any w9).mono ?_
          rintro e w10 ⟨rfl, hk10, hb10⟩
          have HLo := hid (HLo0.out _ w10 hk10.out hb10 rfl)
          clear HLo0 HF9 HH9 HFF hk10 hb10
          generalize w9.heap.size = gt at *
          have HD := hid (full_whole bs)
          go_wp2_with fail
          go_loopw [8] (fun i wr => ∃ (q iv : Nat) (hq : List Nat), i = .int .i64 iv ∧ iv ≤ m ∧ Hid (iv = 64 * q) ∧ Hid (hq = eat hh (full bs) q) ∧ Hid (Lo w (full bs) ga gh gt hq wr)) (fun i _ => m - (intOf i).toNat)
          case atStart => exact ⟨0, 0, hh, rfl, Nat.zero_le _, hid rfl, hid rfl, HLo⟩
          case round =>
            clear HLo
            obtain ⟨q, iv, hq, rfl, him, HIV, HQE, HLo⟩ := hrel
            have HIM := hid him
            clear him
            by_cases hlt : iv < m
            · have h64 : iv + 64 ≤ m := by have h1 := HML.out; have h2 := HD.out; have h3 := HIV.out; omega
              have hlti : (iv : Int) < (m : Int) := by omega
              obtain ⟨iv2, hiv2⟩ : ∃ iv2, iv2 = iv + 64 := ⟨_, rfl⟩
              have hsl := slice_blk ga m c' iv iv2 hiv2 h64 HMC.out
              have hw : IntKind.i64.wrap ((iv : Int) + 64) = (iv2 : Int) := by have h1 := HML.out; have h2 := HN.out; have h3 := HL.out; rw [IntKind.wrap_i64]; rw [full, List.length_append, tail_length] at h1; have h4 := HNo.out; rw [h3] at h1; omega
              have HQ8 := hid (show hq.length = 8 by rw [HQE.out]; exact so_length _ _)
              have HQS := hid (show Sm hq by rw [HQE.out]; exact so_sm _ _)
              have HB64 := hid (show ((full bs).drop iv |>.take 64).length = 64 by have h1 := HML.out; simp; omega)
              have HBB := hid (p := ∀ j, (hj : j < ((full bs).drop iv |>.take 64).length) → wr.drew.cell? ⟨ga, iv + j, none⟩ = some (.int .u8 ((((full bs).drop iv |>.take 64)[j].toNat : Nat) : Int))) (fun j hj => by
                have h1 := HML.out
                have hj2 : j < 64 := by rw [HB64.out] at hj; exact hj
                have h2 := HLo.out.b (iv + j) (by omega)
                rw [Nat.zero_add] at h2
                refine Eq.trans h2 ?_
                simp)
              have HI56 := hi56 hq HQ8.out
              rw [dv_size, ← dv_length] at HI56
              have hR : wr.drew.rangeAt gh 0 (dv hq) := HLo.out.h.range
              have H64 := hid h64
              have HI2 := hid hiv2
              clear hiv2 h64
              go_wp2_with fail
              refine wp_region_noPanic ?_
              refine Goes.region (fun (L : Array Bool) (wX : World) => (L.getD 8 true = false → wX.rangeAt gh 0 (dv hq))) (by as_aux_lemma => kernel_rfl) ?_
              refine Goes.take (i := 0) (o := { dst := some 47, op := _, type := _, pos := _, after := _, guard := _ }) [8] rfl (by as_aux_lemma => kernel_rfl) (by as_aux_lemma => kernel_rfl) (by as_aux_lemma => kernel_rfl) (fun _ _ _ h => h) (by as_aux_lemma => kernel_rfl) (fun L u h e => h (by rw [getD_set_ne true (by decide)]; exact e)) (yieldsIf_load_mid (by rfl) 56 (.tmp 6) rfl gh 0 rfl (dv hq) _ (fun W hY => by obtain ⟨up, hU, hL⟩ := hY; exact hL (hU 8 (by simp))) Tryd.underlying56 rfl HI56.out) (fun _ => hR) ?_
              try simp only [Act.put, List.setIfInBounds_toArray, List.set_cons_zero, List.set_cons_succ]
              refine Goes.take (i := 1) (o := { dst := some 48, op := _, type := _, pos := _, after := _, guard := _ }) (v := ?_) [] rfl (by as_aux_lemma => kernel_rfl) (by as_aux_lemma => kernel_rfl) (by as_aux_lemma => kernel_rfl) (fun _ _ _ h => h) (by as_aux_lemma => kernel_rfl) (fun L u h e => h (by rw [getD_set_ne true (by decide)]; exact e)) (Or.inl ⟨by rfl, ?_⟩) (fun _ => hR) ?_
              rotate_left
              · intro w hY; go_simp; try with_reducible rfl
              try simp only [Act.put, List.setIfInBounds_toArray, List.set_cons_zero, List.set_cons_succ]
              refine Goes.take (i := 2) (o := { dst := some 49, op := _, type := _, pos := _, after := _, guard := _ }) (v := ?_) [] rfl (by as_aux_lemma => kernel_rfl) (by as_aux_lemma => kernel_rfl) (by as_aux_lemma => kernel_rfl) (fun _ _ _ h => h) (by as_aux_lemma => kernel_rfl) (fun L u h e => h (by rw [getD_set_ne true (by decide)]; exact e)) (Or.inl ⟨by rfl, ?_⟩) (fun _ => hR) ?_
              rotate_left
              · intro w hY; go_simp; try with_reducible rfl
              try simp only [Act.put, List.setIfInBounds_toArray, List.set_cons_zero, List.set_cons_succ]
              refine Goes.take (i := 3) (o := { dst := some 50, op := _, type := _, pos := _, after := _, guard := _ }) (v := ?_) [] rfl (by as_aux_lemma => kernel_rfl) (by as_aux_lemma => kernel_rfl) (by as_aux_lemma => kernel_rfl) (fun _ _ _ h => h) (by as_aux_lemma => kernel_rfl) (fun L u h e => h (by rw [getD_set_ne true (by decide)]; exact e)) (Or.inl ⟨by rfl, ?_⟩) (fun _ => hR) ?_
              rotate_left
              · intro w hY; go_simp; try with_reducible rfl
              try simp only [Act.put, List.setIfInBounds_toArray, List.set_cons_zero, List.set_cons_succ]
              refine Goes.take (i := 4) (o := { dst := some 51, op := _, type := _, pos := _, after := _, guard := _ }) (v := ?_) [] rfl (by as_aux_lemma => kernel_rfl) (by as_aux_lemma => kernel_rfl) (by as_aux_lemma => kernel_rfl) (fun _ _ _ h => h) (by as_aux_lemma => kernel_rfl) (fun L u h e => h (by rw [getD_set_ne true (by decide)]; exact e)) (Or.inl ⟨by rfl, ?_⟩) (fun _ => hR) ?_
              rotate_left
              · intro w hY; go_simp; try with_reducible rfl
              try simp only [Act.put, List.setIfInBounds_toArray, List.set_cons_zero, List.set_cons_succ]
              refine Goes.take (i := 5) (o := { dst := some 52, op := _, type := _, pos := _, after := _, guard := _ }) (v := ?_) [] rfl (by as_aux_lemma => kernel_rfl) (by as_aux_lemma => kernel_rfl) (by as_aux_lemma => kernel_rfl) (fun _ _ _ h => h) (by as_aux_lemma => kernel_rfl) (fun L u h e => h (by rw [getD_set_ne true (by decide)]; exact e)) (Or.inl ⟨by rfl, ?_⟩) (fun _ => hR) ?_
              rotate_left
              · intro w hY; go_simp; try with_reducible rfl
              try simp only [Act.put, List.setIfInBounds_toArray, List.set_cons_zero, List.set_cons_succ]
              refine Goes.take (i := 6) (o := { dst := some 53, op := _, type := _, pos := _, after := _, guard := _ }) (v := ?_) [] rfl (by as_aux_lemma => kernel_rfl) (by as_aux_lemma => kernel_rfl) (by as_aux_lemma => kernel_rfl) (fun _ _ _ h => h) (by as_aux_lemma => kernel_rfl) (fun L u h e => h (by rw [getD_set_ne true (by decide)]; exact e)) (Or.inl ⟨by rfl, ?_⟩) (fun _ => hR) ?_
              rotate_left
              · intro w hY; go_simp; try with_reducible rfl
              try simp only [Act.put, List.setIfInBounds_toArray, List.set_cons_zero, List.set_cons_succ]
              refine Goes.one (i := 7) (o := { dst := some 54, op := _, type := _, pos := _, after := _, guard := _ }) (by as_aux_lemma => kernel_rfl) rfl (fun K hK => ?_)
              go_simp
              refine (block_any hq ((full bs).drop iv |>.take 64) ga iv gt (c' - iv) _ HQ8.out HQS.out HB64.out HBB.out HLo.out.la HLo.out.k).mono ?_
              rintro e' wb ⟨rfl, hb2⟩
              go_wp2_with fail
              have HL2 := hid (HLo.out.drew.on hb2)
              have hR2 : wb.rangeAt gh 0 (dv hq) := HL2.out.h.range
              refine hK.out _ _ (fun _ => hR2) ?_
              clear hK K hR hb2
              have hR := hR2
              clear hR2
              try simp only [Act.put, List.setIfInBounds_toArray, List.set_cons_zero, List.set_cons_succ]
              refine Goes.one (i := 8) (o := { dst := none, op := _, type := _, pos := _, after := _, guard := _ }) (by as_aux_lemma => kernel_rfl) rfl (fun K hK => ?_)
              refine step_store_mid rfl 56 (.tmp 6) (.tmp 54) rfl gh 0 (dv (comp hq ((full bs).drop iv |>.take 64))).toArray rfl rfl (by rw [dv_size, comp_length _ _ HQ8.out]; exact HL2.out.h.there 8 (by rw [HQ8.out]; exact Nat.le_refl _)) (hi56 _ (comp_length _ _ HQ8.out)).out (dv_all _) ?_
              refine hK.out _ _ (fun e => absurd e (by as_aux_lemma => decide +kernel)) ?_
              clear hK K
              try simp only [Act.put, List.setIfInBounds_toArray, List.set_cons_zero, List.set_cons_succ]
              refine Goes.done (by as_aux_lemma => kernel_rfl) ?_ _
              refine NoPanic.normal ?_
              go_wp2
              have HLN := hid (HL2.out.cells (m := comp hq ((full bs).drop iv |>.take 64)) (HQ8.out.trans (comp_length _ _ HQ8.out).symm))
              refine ⟨⟨q + 1, iv2, comp hq ((full bs).drop iv |>.take 64), rfl, by rw [HI2.out]; exact H64.out, hid (by rw [HI2.out, HIV.out]; omega), hid (by rw [eat, ← HQE.out, ← HIV.out]), HLN⟩, ?_⟩
              have h1 := H64.out
              have h2 := HI2.out
              simp [intOf]
              omega
            · obtain rfl : iv = m := by have := HIM.out; omega
              have HQF := hid (p := hq = eat hh (full bs) ((full bs).length / 64)) (by rw [HQE.out]; congr 1; have h1 := HML.out; have h2 := HIV.out; omega)
              have HQ8 := hid (show hq.length = 8 by rw [HQF.out]; exact so_length _ _)
              have HQo := HLo.out.out
              clear HLo HQE HIV hlt
              go_wp2_with fail
              generalize hw4 : wr.alloc (.cells #[.int .u8 0, .int .u8 0, .int .u8 0, .int .u8 0, .int .u8 0, .int .u8 0, .int .u8 0, .int .u8 0, .int .u8 0, .int .u8 0, .int .u8 0, .int .u8 0, .int .u8 0, .int .u8 0, .int .u8 0, .int .u8 0, .int .u8 0, .int .u8 0, .int .u8 0, .int .u8 0, .int .u8 0, .int .u8 0, .int .u8 0, .int .u8 0, .int .u8 0, .int .u8 0, .int .u8 0, .int .u8 0, .int .u8 0, .int .u8 0, .int .u8 0, .int .u8 0] 44) = w4 at *
              generalize hgo : wr.heap.size = go at *
              clear hw4 hgo
              go_loopw [10] (fun i wr => ∃ (k : Nat) (mm : List UInt8), k ≤ 32 ∧ i = .int .i64 k ∧ Hid (Lq w gh go hq mm wr) ∧ Hid (mm.length = 32) ∧ Hid (∀ j, j < k → mm[j]? = some (sb hq j))) (fun i _ => 32 - (intOf i).toNat)
              case atStart => exact ⟨0, List.replicate 32 0, by omega, rfl, HQo, hid rfl, hid (fun j hj => absurd hj (Nat.not_lt_zero _))⟩
              case round =>
                clear HQo
                obtain ⟨k, mm, hk, rfl, HQo, HM, HA⟩ := hrel
                by_cases hlt : k < 32
                · obtain ⟨q4, hq4⟩ : ∃ q : Nat, q = k / 4 := ⟨_, rfl⟩
                  have hqi : (k : Int) / 4 = (q4 : Int) := by omega
                  have hq8 : q4 < 8 := by omega
                  have HQ4 := hid hq4
                  clear hq4
                  have hcn := HQo.out.h.cell q4 (by have := HQ8.out; omega)
                  have hcm := HQo.out.m.cell k (by have := HM.out; omega)
                  have hfm := HQo.out.m.frozen k
                  generalize (mm[k]'(by have := HM.out; omega)).toNat = old at hcm
                  rcases (show k % 4 = 0 ∨ k % 4 = 1 ∨ k % 4 = 2 ∨ k % 4 = 3 by omega) with hr | hr | hr | hr
                  · have hri : (k : Int) % 4 = 0 := by omega
                    have HV := hid (sb_val hq k 0 hr)
                    rw [← HQ4.out] at HV
                    have HR := hid hr
                    clear hr
                    go_wp2
                    refine ⟨⟨k + 1, mm.set k (sb hq k), by omega, by go_num, ?_, hid (by rw [List.length_set]; exact HM.out), hid ?_⟩, by simp [intOf]; omega⟩
                    · have := HQo.out.set k (sb hq k)
                      rw [HV.out] at this
                      simpa using hid this
                    · intro j hj
                      rw [List.getElem?_set]
                      by_cases h : k = j
                      · subst h; rw [if_pos rfl, if_pos (by have := HM.out; omega)]
                      · rw [if_neg h]; exact HA.out j (by omega)
                  · have hri : (k : Int) % 4 = 1 := by omega
                    have HV := hid (sb_val hq k 1 hr)
                    rw [← HQ4.out] at HV
                    have HR := hid hr
                    clear hr
                    go_wp2
                    refine ⟨⟨k + 1, mm.set k (sb hq k), by omega, by go_num, ?_, hid (by rw [List.length_set]; exact HM.out), hid ?_⟩, by simp [intOf]; omega⟩
                    · have := HQo.out.set k (sb hq k)
                      rw [HV.out] at this
                      simpa using hid this
                    · intro j hj
                      rw [List.getElem?_set]
                      by_cases h : k = j
                      · subst h; rw [if_pos rfl, if_pos (by have := HM.out; omega)]
                      · rw [if_neg h]; exact HA.out j (by omega)
                  · have hri : (k : Int) % 4 = 2 := by omega
                    have HV := hid (sb_val hq k 2 hr)
                    rw [← HQ4.out] at HV
                    have HR := hid hr
                    clear hr
                    go_wp2
                    refine ⟨⟨k + 1, mm.set k (sb hq k), by omega, by go_num, ?_, hid (by rw [List.length_set]; exact HM.out), hid ?_⟩, by simp [intOf]; omega⟩
                    · have := HQo.out.set k (sb hq k)
                      rw [HV.out] at this
                      simpa using hid this
                    · intro j hj
                      rw [List.getElem?_set]
                      by_cases h : k = j
                      · subst h; rw [if_pos rfl, if_pos (by have := HM.out; omega)]
                      · rw [if_neg h]; exact HA.out j (by omega)
                  · have hri : (k : Int) % 4 = 3 := by omega
                    have HV := hid (sb_val hq k 3 hr)
                    rw [← HQ4.out] at HV
                    have HR := hid hr
                    clear hr
                    go_wp2
                    refine ⟨⟨k + 1, mm.set k (sb hq k), by omega, by go_num, ?_, hid (by rw [List.length_set]; exact HM.out), hid ?_⟩, by simp [intOf]; omega⟩
                    · have := HQo.out.set k (sb hq k)
                      rw [HV.out] at this
                      simpa using hid this
                    · intro j hj
                      rw [List.getElem?_set]
                      by_cases h : k = j
                      · subst h; rw [if_pos rfl, if_pos (by have := HM.out; omega)]
                      · rw [if_neg h]; exact HA.out j (by omega)
                · obtain rfl : k = 32 := by omega
                  have hme : mm = spell hq := by
                    apply List.ext_getElem?
                    intro j
                    rcases Nat.lt_or_ge j 32 with h | h
                    · rw [HA.out j h, spell_at hq j (by have := HQ8.out; omega)]; rfl
                    · rw [List.getElem?_eq_none (by have := HM.out; omega), List.getElem?_eq_none (by rw [spell_length, HQ8.out]; exact h)]
                  have hms : mm = sha bs := by rw [hme, HQF.out]; rfl
                  have HT2 : Hid (Lq w gh go hq (sha bs) wr) := hid (hms ▸ HQo.out)
                  have HCL := hid (sha_length bs)
                  clear HQo HM HA hme hms
                  generalize hr : sha bs = r at *
                  have HRR := hid hr
                  clear hr
                  have HI := hi44 r HCL.out
                  have HO8 : Hid ((bvs (List.replicate 32 0)).toArray.size = (bvs r).toArray.size) := hid (by rw [bvs_size, bvs_size, HCL.out, List.length_replicate])
                  have HZ := hid (HT2.out.z.row (m := r))
                  have HBW := hid (p := Below w.heap.size w (wr.setRow w.heap.size (bvs r).toArray)) (below_setRow HT2.out.below (Nat.le_refl _) _)
                  go_upto_region 20 with fail
                  have HDA := bvs_all r
                  have HZL := HT2.out.m
                  have HZZ := HT2.out.z
                  unfold Bt at HZL HZZ
                  have HZL := hid HZL
                  have HZZ := hid HZZ
                  go_wp2_with (first | (refine wpList_load_row rfl 44 (.tmp 9) rfl go rfl 44 (bvs r).toArray (0, 0) _ HZL.out Tryd.underlying44 rfl HI.out ?_) | (refine wpList_store_row rfl 44 (.tmp 2) (.tmp 71) rfl w.heap.size (bvs r).toArray rfl rfl 44 _ HZZ.out HI.out HO8.out HDA ?_))
                  exact bodyPost_ret (v := .agg (bvs r).toArray) (results_cell_row (p := 2) (ty := 44) Tryd.results34 _ _ w.heap.size 44 (bvs r).toArray (0, 0) _ rfl HZ.out Tryd.underlying44 rfl HI.out) rfl ⟨by rw [HRR.out], HBW.out⟩
end Go.Proofs.YtikmhnlhaolbfaaDoor
namespace Go.Proofs.YtikmhnlhaolbfaaDoor
open Go.RowKit
set_option linter.unusedVariables false
set_option linter.unusedSimpArgs false

/-- a slice of the call's own; what came in as it was -/
def Bf (w : World) (X : List UInt8) (v : Value) (w' : World) : Prop := Below w.heap.size w w' ∧ Ow w' w.heap.size v X
theorem Bf.old {w wr : World} {X : List UInt8} {v : Value} (h : Bf w X v wr) : Below w.heap.size w wr := h.1
theorem Bf.form {w wr : World} {X : List UInt8} {A : Option Addr} {m c : Nat} (h : Bf w X (.slice A m c) wr) : m = X.length ∧ X.length ≤ c ∧ Rd wr A X ∧ (A = none → c = 0) := by
  obtain ⟨A2, c2, hv, h1, _, h2, h3⟩ := h.2.form
  injection hv with e1 e2 e3
  subst e1; subst e3
  exact ⟨e2, h1, h2, h3⟩
theorem Bf.out {w wr w2 : World} {X : List UInt8} {v : Value} {e : Ending} {bs : List UInt8} (h : Below w.heap.size w wr) (ho : OutO wr bs e w2) : ∃ A m c, e = .returned (.slice A m c) ∧ Hid (Bf w bs (.slice A m c) w2) := by
  obtain ⟨v2, rfl, how, hb⟩ := ho
  obtain ⟨A, c, rfl, _, _, _, _⟩ := how.form
  exact ⟨A, _, c, rfl, hid ⟨h.trans (hb.mono h.size), World.ownsRow.mono how h.size⟩⟩
theorem rb_at {w wr : World} {X : List UInt8} {A : Option Addr} {m c : Nat} (H : Hid (Bf w X (.slice A m c) wr)) (B : Option Addr) (d n : Nat) (ls : List UInt8) (hl : ls.length = n) (hr : Rd wr B ls) (hB : B = none → d = 0) (hX : X.length ≤ 35184372088832) (hn : n ≤ 35184372088832) :
    Calls Tryd.prog 118 #[.slice A m c, .slice B n d] wr fun e w' => ∃ A2 m2 c2, e = .returned (.slice A2 m2 c2) ∧ Hid (Bf w (X ++ (be n 4 ++ ls)) (.slice A2 m2 c2) w') := by
  obtain ⟨hm, _, h2, h3⟩ := H.out.form
  subst hm; subst hl
  refine (rputBytes_any A B c d X ls wr h2 hr h3 hB hX hn).mono ?_
  exact fun e w1 h => Bf.out (X := X) (v := .slice A X.length c) H.out.old h
theorem rp_at {w wr : World} {X : List UInt8} {A : Option Addr} {m c : Nat} (H : Hid (Bf w X (.slice A m c) wr)) (n : Nat) (hX : X.length ≤ 35184372088832) (hn : n < 18446744073709551616) :
    Calls Tryd.prog 119 #[.slice A m c, .int .u64 (n : Int), .int .i64 4] wr fun e w' => ∃ A2 m2 c2, e = .returned (.slice A2 m2 c2) ∧ Hid (Bf w (X ++ be n 4) (.slice A2 m2 c2) w') := by
  obtain ⟨hm, _, h2, h3⟩ := H.out.form
  subst hm
  refine (rput_any A c n 4 4 X wr h2 h3 (by omega) hn (by decide) (by decide)).mono ?_
  exact fun e w1 h => Bf.out (X := X) (v := .slice A X.length c) H.out.old h
set_option maxRecDepth 100000 in
set_option maxHeartbeats 4000000 in
theorem refBytes_any (st : ByteArray) (a0 : Option Addr) (n0 c0 : Nat) (A : Nat → Option Addr) (L C : Nat → Nat) (xs : Nat → List UInt8) (w : World) (hR : Rws w a0 n0 A L C xs) (hn : n0 ≤ 1000) (hL : ∀ r, r < n0 → L r ≤ 1048576) (hs : st.size ≤ 1000000) :
    Calls Tryd.prog 91 #[.string st, .slice a0 n0 c0] w fun e w' => ∃ A2 m2 c2, e = .returned (.slice A2 m2 c2) ∧ Hid (Bf w (spelt st.data.toList n0 xs n0) (.slice A2 m2 c2) w') := by
  have HR := hid hR
  have HL := hid hL
  have HS := hid hs
  have HSL := hid (show st.data.toList.length = st.size by rw [Array.length_toList]; rfl)
  clear hR hL hs
  obtain ⟨cap, w1, RC, HRD, HB1⟩ := conv_str st w
  have hcv := RC.out
  have H1 := hid (p := Bf w [] (.slice none 0 0) w1) ⟨HB1.out, Ow.nil _ _⟩
  go_enter Tryd.func91, Tryd.ntmps91
  go_wp2_with fail
  clear hcv RC
  refine (rb_at H1 (some ⟨w.heap.size, 0, none⟩) cap st.size st.data.toList HSL.out HRD.out (fun h => by cases h) (by decide) (by have := HS.out; omega)).mono ?_
  rintro e w2 ⟨A2, m2, c2, rfl, H2⟩
  clear H1 HRD HB1
  have hw : IntKind.u64.wrap (n0 : Int) = (n0 : Int) := by rw [IntKind.wrap_u64]; omega
  go_wp2_with fail
  refine (rp_at H2 n0 (by have := HS.out; simp [be_length, HSL.out]; omega) (by omega)).mono ?_
  rintro e w3 ⟨A3, m3, c3, rfl, H3⟩
  have H4 := hid (p := Bf w (spelt st.data.toList n0 xs 0) (.slice A3 m3 c3) w3) (by have := H3.out; simpa [spelt, flat, HSL.out] using this)
  clear H2 H3 hw
  go_wp2_with fail
  go_loopw [5, 6] (fun s i wr => ∃ (k m c : Nat) (A' : Option Addr), k ≤ n0 ∧ i = .int .i64 k ∧ s = .slice A' m c ∧ Hid (Bf w (spelt st.data.toList n0 xs k) (.slice A' m c) wr)) (fun _ i _ => n0 - (intOf i).toNat)
  case atStart => exact ⟨0, m3, c3, A3, Nat.zero_le _, rfl, rfl, H4⟩
  case round =>
    clear H4
    obtain ⟨k, m, c, A', hk, rfl, rfl, HF⟩ := hrel
    by_cases hlt : k < n0
    · obtain ⟨⟨go, o, rfl, hgo, hcell⟩, hl1, hrd1, hlc, hcb, hac⟩ := HR.out k hlt
      have hcell2 := (HF.out.old.cell (p := ⟨go, o + k, none⟩) hgo).trans hcell
      have HL1 := hid hl1
      have HRD := hid (hrd1.below HF.out.old (Nat.le_refl _))
      have HAC := hid hac
      have HLk := hid (HL.out k hlt)
      have HLT := hid hlt
      have HSP := hid (spelt_length st.data.toList n0 xs k (fun r hr => by rw [(HR.out r (by omega)).2.1]; exact HL.out r (by omega)))
      clear hcell hl1 hrd1 hlc hcb hac hgo
      go_wp2_with fail
      refine (rb_at HF (A k) (C k) (L k) (xs k) HL1.out HRD.out HAC.out (by have h1 := HSP.out; have h2 := HSL.out; have h3 := HS.out; have h5 := HLT.out; rw [h2] at h1; omega) (by have := HLk.out; omega)).mono ?_
      rintro e w4 ⟨A4, m4, c4, rfl, H4⟩
      have H5 := hid (p := Bf w (spelt st.data.toList n0 xs (k + 1)) (.slice A4 m4 c4) w4) (by have := H4.out; rw [← HL1.out] at this; simpa [spelt, flat] using this)
      clear H4 hcell2
      go_wp2
      exact ⟨⟨k + 1, m4, c4, A4, HLT.out, by go_num, rfl, H5⟩, by have := HLT.out; simp [intOf]; omega⟩
    · obtain rfl : k = n0 := by omega
      go_wp2
      go_ret
      exact ⟨A', m, c, rfl, HF⟩
set_option maxRecDepth 100000 in
set_option maxHeartbeats 4000000 in
theorem refAs_any (st : ByteArray) (a0 : Option Addr) (n0 c0 : Nat) (A : Nat → Option Addr) (L C : Nat → Nat) (xs : Nat → List UInt8) (w : World) (hR : Rws w a0 n0 A L C xs) (hn : n0 ≤ 1000) (hL : ∀ r, r < n0 → L r ≤ 1048576) (hs : st.size ≤ 1000000) :
    Calls Tryd.prog 46 #[.string st, .slice a0 n0 c0] w fun e w' => e = .returned (.agg (bvs (sha (spelt st.data.toList n0 xs n0))).toArray) ∧ Below w.heap.size w w' := by
  have HR := hid hR
  have HL := hid hL
  have HS := hid hs
  have HSL := hid (show st.data.toList.length = st.size by rw [Array.length_toList]; rfl)
  clear hR hL hs
  have HZ1 : Hid (Bt (w.alloc (.cells #[.int .u8 0, .int .u8 0, .int .u8 0, .int .u8 0, .int .u8 0, .int .u8 0, .int .u8 0, .int .u8 0, .int .u8 0, .int .u8 0, .int .u8 0, .int .u8 0, .int .u8 0, .int .u8 0, .int .u8 0, .int .u8 0, .int .u8 0, .int .u8 0, .int .u8 0, .int .u8 0, .int .u8 0, .int .u8 0, .int .u8 0, .int .u8 0, .int .u8 0, .int .u8 0, .int .u8 0, .int .u8 0, .int .u8 0, .int .u8 0, .int .u8 0, .int .u8 0] 44)) w.heap.size 44 (List.replicate 32 0)) := hid (heap_alloc_new w _)
  have HB1 : Hid (Below w.heap.size w (w.alloc (.cells #[.int .u8 0, .int .u8 0, .int .u8 0, .int .u8 0, .int .u8 0, .int .u8 0, .int .u8 0, .int .u8 0, .int .u8 0, .int .u8 0, .int .u8 0, .int .u8 0, .int .u8 0, .int .u8 0, .int .u8 0, .int .u8 0, .int .u8 0, .int .u8 0, .int .u8 0, .int .u8 0, .int .u8 0, .int .u8 0, .int .u8 0, .int .u8 0, .int .u8 0, .int .u8 0, .int .u8 0, .int .u8 0, .int .u8 0, .int .u8 0, .int .u8 0, .int .u8 0] 44))) := hid ((Below.refl _ _).alloc (Nat.le_refl _) _)
  have HR1 := hid (p := Rws (w.alloc (.cells #[.int .u8 0, .int .u8 0, .int .u8 0, .int .u8 0, .int .u8 0, .int .u8 0, .int .u8 0, .int .u8 0, .int .u8 0, .int .u8 0, .int .u8 0, .int .u8 0, .int .u8 0, .int .u8 0, .int .u8 0, .int .u8 0, .int .u8 0, .int .u8 0, .int .u8 0, .int .u8 0, .int .u8 0, .int .u8 0, .int .u8 0, .int .u8 0, .int .u8 0, .int .u8 0, .int .u8 0, .int .u8 0, .int .u8 0, .int .u8 0, .int .u8 0, .int .u8 0] 44)) a0 n0 A L C xs) (fun r hr => by
    obtain ⟨⟨go, o, h1, h2, h3⟩, h4, h5, h6, h7, h8⟩ := HR.out r hr
    exact ⟨⟨go, o, h1, Nat.lt_of_lt_of_le h2 HB1.out.size, (HB1.out.cell (p := ⟨go, o + r, none⟩) h2).trans h3⟩, h4, h5.below HB1.out (Nat.le_refl _), h6, h7, h8⟩)
  go_enter Tryd.func46, Tryd.ntmps46
  go_wp2_with fail
  generalize w.alloc (.cells #[.int .u8 0, .int .u8 0, .int .u8 0, .int .u8 0, .int .u8 0, .int .u8 0, .int .u8 0, .int .u8 0, .int .u8 0, .int .u8 0, .int .u8 0, .int .u8 0, .int .u8 0, .int .u8 0, .int .u8 0, .int .u8 0, .int .u8 0, .int .u8 0, .int .u8 0, .int .u8 0, .int .u8 0, .int .u8 0, .int .u8 0, .int .u8 0, .int .u8 0, .int .u8 0, .int .u8 0, .int .u8 0, .int .u8 0, .int .u8 0, .int .u8 0, .int .u8 0] 44) = w1 at *
  refine (refBytes_any st a0 n0 c0 A L C xs w1 HR1.out hn HL.out HS.out).mono ?_
  rintro e w2 ⟨A2, m2, c2, rfl, H2⟩
  go_wp2_with fail
  obtain ⟨hm, h1, h2, h3⟩ := H2.out.form
  have HM := hid hm
  have H1 := hid h1
  have H2r := hid h2
  have H3 := hid h3
  have HZ2 := hid (HZ1.out.on H2.out.old)
  have HB2 := hid (HB1.out.trans (H2.out.old.mono HB1.out.size))
  have HSP := hid (spelt_length st.data.toList n0 xs n0 (fun r hr => by rw [(HR.out r hr).2.1]; exact HL.out r hr))
  clear hm h1 h2 h3
  refine (refof_any A2 c2 (spelt st.data.toList n0 xs n0) m2 w2 HM.out.symm H2r.out (by rw [HM.out]; exact H1.out) H3.out (by rw [HM.out]; have h1 := HSP.out; have h2 := HSL.out; have h3 := HS.out; rw [h2] at h1; omega)).mono ?_
  rintro e w3 ⟨rfl, hb3⟩
  have HZ3 := hid (HZ2.out.on hb3)
  have HB3 := hid (HB2.out.trans (hb3.mono HB2.out.size))
  have HQ := hid (sha_length (spelt st.data.toList n0 xs n0))
  clear hb3
  generalize hr : sha (spelt st.data.toList n0 xs n0) = r at *
  have HRR := hid hr
  clear hr
  have HI44 := hi44 r HQ.out
  have HO8 : Hid ((bvs (List.replicate 32 0)).toArray.size = (bvs r).toArray.size) := hid (by rw [bvs_size, bvs_size, HQ.out, List.length_replicate])
  have HZR := hid (HZ3.out.row (m := r))
  have HBR := hid (p := Below w.heap.size w (w3.setRow w.heap.size (bvs r).toArray)) (below_setRow HB3.out (Nat.le_refl _) _)
  have HDA := bvs_all r
  have HZZ := HZ3.out
  unfold Bt at HZZ
  have HZZ := hid HZZ
  go_wp2_with (refine wpList_store_row rfl 44 (.tmp 4) (.tmp 8) rfl w.heap.size (bvs r).toArray rfl rfl 44 _ HZZ.out HI44.out HO8.out HDA ?_)
  exact bodyPost_ret (v := .agg (bvs r).toArray) (results_cell_row (p := 4) (ty := 44) Tryd.results46 _ _ w.heap.size 44 (bvs r).toArray (0, 0) _ rfl HZR.out Tryd.underlying44 rfl HI44.out) rfl ⟨by rw [HRR.out], HBR.out⟩
end Go.Proofs.YtikmhnlhaolbfaaDoor
namespace Go.Proofs.YtikmhnlhaolbfaaDoor
open Go.RowKit
set_option linter.unusedVariables false

end Go.Proofs.YtikmhnlhaolbfaaDoor
namespace Go.Proofs.YtikmhnlhaolbfaaDoor
open Go.RowKit
set_option linter.unusedVariables false

end Go.Proofs.YtikmhnlhaolbfaaDoor
namespace Go.Proofs.YtikmhnlhaolbfaaDoor
open Go.RowKit
set_option linter.unusedVariables false

theorem below_of_drewN {w w' : World} {k : Nat} (h : Below (w.drewN k).heap.size (w.drewN k) w') : Below w.heap.size w w' := ⟨h.os, h.tape, h.output, h.size, h.block⟩

theorem ret_int {k : IntKind} {a b : Int} (h : a = b) : Ending.returned (.int k a) = .returned (.int k b) := by rw [h]

/-- a number that a call tells, in a world that only drew -/
def SaysN (w : World) (t : Nat) (e : Ending) (w' : World) : Prop := e = .returned (.int .u64 (t : Int)) ∧ ∃ k, w' = w.drewN k

set_option maxRecDepth 100000 in
theorem rtold_any (m : Nat) : ∀ (A : Option Addr) (c : Nat) (bs : List UInt8) (w : World), bs.length = m → Rd w A bs → m ≤ c → c ≤ 9223372036854775807 → m ≤ 8 →
    Calls Tryd.prog 105 #[.slice A m c] w (SaysN w (tell bs)) := by
  induction m with
  | zero =>
    intro A c bs w hl hr hc hc2 h8
    obtain rfl : bs = [] := List.eq_nil_of_length_eq_zero hl
    go_enter Tryd.func105, Tryd.ntmps105
    go_wp2
    go_ret
    exact ⟨rfl, 0, rfl⟩
  | succ m ih =>
    intro A c bs w hl hr hc hc2 h8
    have hm : m < bs.length := by omega
    have HS := hid (p := tell bs = tell (bs.take m) * 256 + bs[m].toNat) (by rw [← tell_take_succ bs m hm, List.take_of_length_le (by omega)])
    have hT : tell (bs.take m) < 72057594037927936 := Nat.lt_of_lt_of_le (tell_lt (bs.take m)) (pow256_le (k := (bs.take m).length) (by rw [List.length_take]; omega))
    have hX : bs[m].toNat < 256 := bs[m].toNat_lt
    obtain ⟨g, o, rfl, hg, hcell⟩ := hr (by omega)
    have k0 := hcell m hm
    clear hcell
    have IH := hid (fun w' (hw : Rd w' (some ⟨g, o, none⟩) (bs.take m)) => ih (some ⟨g, o, none⟩) c (bs.take m) w' (by rw [List.length_take]; omega) hw (by omega) hc2 (by omega))
    clear ih
    have HR := hid (hr.take m)
    generalize bs[m].toNat = x at *
    generalize tell (bs.take m) = t at *
    clear hr hm
    have hne : (((m + 1 : Nat) : Int) == 0) = false := by simp; omega
    go_enter Tryd.func105, Tryd.ntmps105
    go_wp2
    have hw1 : IntKind.u64.wrap (256 * (t : Int)) = 256 * (t : Int) := IntWalk.u64_in _ (by omega)
    have hw2 : IntKind.u64.wrap (x : Int) = (x : Int) := IntWalk.u64_in _ (by omega)
    have hw3 : IntKind.u64.wrap (256 * (t : Int) + (x : Int)) = 256 * (t : Int) + (x : Int) := IntWalk.u64_in _ (by omega)
    have i1 : (m : Int) < (m : Int) + 1 := by omega
    have i2 : (0 : Int) ≤ (m : Int) := by omega
    have i3 : (m : Int) ≤ (c : Int) := by omega
    go_quiet ((go_at_call 105; exact Calls.quiet_of (IH.out _ (by exact HR.out))))
    go_wp2
    go_ret
    exact ⟨ret_int (by rw [HS.out]; omega), nq, rfl⟩

/-- two results, in a world that only drew -/
def Says2 (w : World) (a b : Int) (e : Ending) (w' : World) : Prop := e = .returned (.tuple #[.int .u64 a, .int .i64 b]) ∧ ∃ k, w' = w.drewN k

theorem rget_arg (A : Option Addr) (n c : Nat) (k : Int) (w : World) (hk : k < 0 ∨ 8 < k) : Calls Tryd.prog 106 #[.slice A n c, .int .i64 k] w (Says2 w 0 1) := by
  rcases hk with hk | hk
  · go_enter Tryd.func106, Tryd.ntmps106
    go_wp2
    go_ret2
    exact ⟨rfl, 0, rfl⟩
  · have h' : ¬ k < 0 := by omega
    go_enter Tryd.func106, Tryd.ntmps106
    go_wp2
    go_ret2
    exact ⟨rfl, 0, rfl⟩

theorem rget_short (A : Option Addr) (n c : Nat) (k : Int) (w : World) (h0 : 0 ≤ k) (h8 : k ≤ 8) (hk : (n : Int) < k) : Calls Tryd.prog 106 #[.slice A n c, .int .i64 k] w (Says2 w 0 5) := by
  go_enter Tryd.func106, Tryd.ntmps106
  go_wp2
  go_ret2
  exact ⟨rfl, 0, rfl⟩

set_option maxRecDepth 100000 in
theorem rget_ok (A : Option Addr) (c K : Nat) (bs : List UInt8) (w : World) (hr : Rd w A bs) (hc : bs.length ≤ c) (hc2 : c ≤ 9223372036854775807) (h8 : K ≤ 8) (hk : K ≤ bs.length) :
    Calls Tryd.prog 106 #[.slice A bs.length c, .int .i64 (K : Int)] w (Says2 w (tell (bs.take K) : Int) 0) := by
  have HT := hid (rtold_any K A c (bs.take K) w (by rw [List.length_take]; omega) (hr.take K) (by omega) hc2 h8)
  go_enter Tryd.func106, Tryd.ntmps106
  go_wp2_with fail
  refine HT.out.mono ?_
  rintro e w' ⟨rfl, nq, rfl⟩
  go_wp2
  go_ret2
  exact ⟨rfl, nq, rfl⟩

theorem Rd.drewN {w : World} {A : Option Addr} {bs : List UInt8} (h : Rd w A bs) (k : Nat) : Rd (w.drewN k) A bs := h

theorem rtold_len (A : Option Addr) (c t : Nat) (bs : List UInt8) (w : World) (hl : bs.length = 8) (hc : 8 ≤ c) (hc2 : c ≤ 9223372036854775807) (ht : tell bs = t) (hr : Rd w A bs) :
    Calls Tryd.prog 105 #[.slice A 8 c] w (SaysN w t) := by
  subst ht; exact rtold_any 8 A c bs w hl hr hc hc2 (by omega)

theorem rgetLong_short (A : Option Addr) (n c : Nat) (w : World) (hn : n < 32) :
    Calls Tryd.prog 64 #[.slice A n c] w fun e w' => e = .returned (.tuple #[.agg #[.int .u64 0, .int .u64 0, .int .u64 0, .int .u64 0], .int .i64 5]) ∧ Below w.heap.size w w' := by
  go_enter Tryd.func64, Tryd.ntmps64
  go_wp2
  refine bodyPost_ret (v := .tuple #[.agg #[.int .u64 0, .int .u64 0, .int .u64 0, .int .u64 0], .int .i64 5]) (by simp [results, Tryd.results64, go_sem]) rfl ⟨rfl, ?_⟩
  exact ((Below.refl _ _).alloc (Nat.le_refl _) _).alloc (by simp) _

/-- the result's box and the number's, while it is made -/
def GL (w wk : World) (x y : Array Value) : Prop := Below w.heap.size w wk ∧ wk.heap[w.heap.size]? = some (.cells x 24 (0, 0)) ∧ wk.heap[w.heap.size + 1]? = some (.cells y 24 (0, 0))
theorem GL.drewN {w wk : World} {x y : Array Value} (h : GL w wk x y) (k : Nat) : GL w (wk.drewN k) x y := ⟨below_drewN h.1 k, h.2⟩
theorem GL.cell {w wk : World} {x y : Array Value} (h : GL w wk x y) (i : Nat) (v : Value) (hv : y[i]? = some v) : wk.cell? ⟨w.heap.size + 1, i, none⟩ = some v := by rw [cell_of_row _ _ _ _ 24 (0, 0) h.2.2, hv]
theorem GL.cell0 {w wk : World} {x y : Array Value} (h : GL w wk x y) (i : Nat) (v : Value) (hv : x[i]? = some v) : wk.cell? ⟨w.heap.size, i, none⟩ = some v := by rw [cell_of_row _ _ _ _ 24 (0, 0) h.2.1, hv]
theorem GL.frozen {w wk : World} {x y : Array Value} (h : GL w wk x y) (i : Nat) : wk.frozen? ⟨w.heap.size + 1, i, none⟩ = false := by simp [World.frozen?, h.2.2]
theorem GL.frozen0 {w wk : World} {x y : Array Value} (h : GL w wk x y) (i : Nat) : wk.frozen? ⟨w.heap.size, i, none⟩ = false := by simp [World.frozen?, h.2.1]
theorem GL.set {w wk : World} {x y : Array Value} (h : GL w wk x y) (i : Nat) (v : Value) : GL w (wk.setCell ⟨w.heap.size + 1, i, none⟩ v) x (y.setIfInBounds i v) :=
  ⟨h.1.setCell (by simp) v, (Below.heap_setCell wk _ v _ (by simp)).trans h.2.1, by simp [World.setCell, Array.getElem?_modify, h.2.2]⟩

set_option maxRecDepth 100000 in
set_option maxHeartbeats 800000 in
theorem rgetLong_ok (A : Option Addr) (c : Nat) (bs : List UInt8) (w : World) (hr : Rd w A bs) (hc : bs.length ≤ c) (hc2 : c ≤ 9223372036854775807) (h4 : 32 ≤ bs.length) :
    Calls Tryd.prog 64 #[.slice A bs.length c] w fun e w' => e = .returned (.tuple #[.agg #[.int .u64 (word bs 3 : Int), .int .u64 (word bs 2 : Int), .int .u64 (word bs 1 : Int), .int .u64 (word bs 0 : Int)], .int .i64 0]) ∧
      Below w.heap.size w w' := by
  obtain ⟨g, o, rfl, hg, hcell⟩ := hr (by omega)
  have H0 := hid ((hr.cut 0 (some ⟨g, o, none⟩) (fun ad h _ => by injection h with h; subst h; rw [add_plain]; rfl)).take 8)
  have H1 := hid ((hr.cut 8 (some ⟨g, o + 8, none⟩) (fun ad h _ => by injection h with h; subst h; rw [add_plain])).take 8)
  have H2 := hid ((hr.cut 16 (some ⟨g, o + 16, none⟩) (fun ad h _ => by injection h with h; subst h; rw [add_plain])).take 8)
  have H3 := hid ((hr.cut 24 (some ⟨g, o + 24, none⟩) (fun ad h _ => by injection h with h; subst h; rw [add_plain])).take 8)
  have HL : Hid (∀ k, k ≤ 24 → ((bs.drop k).take 8).length = 8) := hid (fun k hk => by simp; omega)
  have W0 := hid (p := tell ((bs.drop 0).take 8) = word bs 0) rfl
  have W1 := hid (p := tell ((bs.drop 8).take 8) = word bs 1) rfl
  have W2 := hid (p := tell ((bs.drop 16).take 8) = word bs 2) rfl
  have W3 := hid (p := tell ((bs.drop 24).take 8) = word bs 3) rfl
  clear hcell hr
  have h32 : decide ((bs.length : Int) < 32) = false := by simp; omega
  generalize word bs 0 = x0 at *
  generalize word bs 1 = x1 at *
  generalize word bs 2 = x2 at *
  generalize word bs 3 = x3 at *
  go_enter Tryd.func64, Tryd.ntmps64
  go_wp2
  have G0 := hid (p := GL w ((w.alloc (.cells #[.int .u64 0, .int .u64 0, .int .u64 0, .int .u64 0] 24)).alloc (.cells #[.int .u64 0, .int .u64 0, .int .u64 0, .int .u64 0] 24)) #[.int .u64 0, .int .u64 0, .int .u64 0, .int .u64 0] #[.int .u64 0, .int .u64 0, .int .u64 0, .int .u64 0]) ⟨((Below.refl _ _).alloc (Nat.le_refl _) _).alloc (by simp) _, (Below.heap_alloc _ _ _ (by simp)).trans (heap_alloc_new _ _), by
    have := heap_alloc_new (w.alloc (.cells #[.int .u64 0, .int .u64 0, .int .u64 0, .int .u64 0] 24)) (.cells #[.int .u64 0, .int .u64 0, .int .u64 0, .int .u64 0] 24)
    simpa using this⟩
  generalize (w.alloc (.cells #[.int .u64 0, .int .u64 0, .int .u64 0, .int .u64 0] 24)).alloc (.cells #[.int .u64 0, .int .u64 0, .int .u64 0, .int .u64 0] 24) = w0 at *
  refine wp_loop_rounds 5 ?_
  rw [rounds_succ]
  go_wp2_with fail
  refine (rtold_len _ _ x3 _ _ (HL.out 24 (by omega)) (by omega) (by omega) W3.out (H3.out.below G0.out.1 (Nat.le_refl _))).mono ?_
  rintro e w' ⟨rfl, q0, rfl⟩
  have G0' := hid (G0.out.drewN q0)
  clear G0
  generalize w0.drewN q0 = v0 at *
  have c0 := G0'.out.cell 0 _ rfl
  have f0 := G0'.out.frozen 0
  go_wp2
  clear c0 f0
  have G1 := hid (p := GL w (v0.setCell ⟨w.heap.size + 1, 0, none⟩ (.int .u64 (x3 : Int))) #[.int .u64 0, .int .u64 0, .int .u64 0, .int .u64 0] #[.int .u64 (x3 : Int), .int .u64 0, .int .u64 0, .int .u64 0]) (G0'.out.set 0 _)
  clear G0'
  generalize v0.setCell ⟨w.heap.size + 1, 0, none⟩ (.int .u64 (x3 : Int)) = w1 at *
  rw [rounds_succ]
  go_wp2_with fail
  refine (rtold_len _ _ x2 _ _ (HL.out 16 (by omega)) (by omega) (by omega) W2.out (H2.out.below G1.out.1 (Nat.le_refl _))).mono ?_
  rintro e w' ⟨rfl, q1, rfl⟩
  have G1' := hid (G1.out.drewN q1)
  clear G1
  generalize w1.drewN q1 = v1 at *
  have c1 := G1'.out.cell 1 _ rfl
  have f1 := G1'.out.frozen 1
  go_wp2
  clear c1 f1
  have G2 := hid (p := GL w (v1.setCell ⟨w.heap.size + 1, 1, none⟩ (.int .u64 (x2 : Int))) #[.int .u64 0, .int .u64 0, .int .u64 0, .int .u64 0] #[.int .u64 (x3 : Int), .int .u64 (x2 : Int), .int .u64 0, .int .u64 0]) (G1'.out.set 1 _)
  clear G1'
  generalize v1.setCell ⟨w.heap.size + 1, 1, none⟩ (.int .u64 (x2 : Int)) = w2 at *
  rw [rounds_succ]
  go_wp2_with fail
  refine (rtold_len _ _ x1 _ _ (HL.out 8 (by omega)) (by omega) (by omega) W1.out (H1.out.below G2.out.1 (Nat.le_refl _))).mono ?_
  rintro e w' ⟨rfl, q2, rfl⟩
  have G2' := hid (G2.out.drewN q2)
  clear G2
  generalize w2.drewN q2 = v2 at *
  have c2 := G2'.out.cell 2 _ rfl
  have f2 := G2'.out.frozen 2
  go_wp2
  clear c2 f2
  have G3 := hid (p := GL w (v2.setCell ⟨w.heap.size + 1, 2, none⟩ (.int .u64 (x1 : Int))) #[.int .u64 0, .int .u64 0, .int .u64 0, .int .u64 0] #[.int .u64 (x3 : Int), .int .u64 (x2 : Int), .int .u64 (x1 : Int), .int .u64 0]) (G2'.out.set 2 _)
  clear G2'
  generalize v2.setCell ⟨w.heap.size + 1, 2, none⟩ (.int .u64 (x1 : Int)) = w3 at *
  rw [rounds_succ]
  go_wp2_with fail
  refine (rtold_len _ _ x0 _ _ (HL.out 0 (by omega)) (by omega) (by omega) W0.out (H0.out.below G3.out.1 (Nat.le_refl _))).mono ?_
  rintro e w' ⟨rfl, q3, rfl⟩
  have G3' := hid (G3.out.drewN q3)
  clear G3
  generalize w3.drewN q3 = v3 at *
  have c3 := G3'.out.cell 3 _ rfl
  have f3 := G3'.out.frozen 3
  go_wp2
  clear c3 f3
  have G4 := hid (p := GL w (v3.setCell ⟨w.heap.size + 1, 3, none⟩ (.int .u64 (x0 : Int))) #[.int .u64 0, .int .u64 0, .int .u64 0, .int .u64 0] #[.int .u64 (x3 : Int), .int .u64 (x2 : Int), .int .u64 (x1 : Int), .int .u64 (x0 : Int)]) (G3'.out.set 3 _)
  clear G3'
  generalize v3.setCell ⟨w.heap.size + 1, 3, none⟩ (.int .u64 (x0 : Int)) = w4 at *
  rw [rounds_succ]
  have c0 := G4.out.cell 0 _ rfl
  have c1 := G4.out.cell 1 _ rfl
  have c2 := G4.out.cell 2 _ rfl
  have c3 := G4.out.cell 3 _ rfl
  have d0 := G4.out.cell0 0 _ rfl
  have d1 := G4.out.cell0 1 _ rfl
  have d2 := G4.out.cell0 2 _ rfl
  have d3 := G4.out.cell0 3 _ rfl
  have e0 := G4.out.frozen0 0
  have e1 := G4.out.frozen0 1
  have e2 := G4.out.frozen0 2
  have e3 := G4.out.frozen0 3
  go_wp2
  refine bodyPost_ret (v := .tuple #[.agg #[.int .u64 (x3 : Int), .int .u64 (x2 : Int), .int .u64 (x1 : Int), .int .u64 (x0 : Int)], .int .i64 0]) (by simp [results, Tryd.results64, go_sem, d0, d1, d2, d3]) rfl ⟨rfl, ?_⟩
  exact (((G4.out.1.setCell (Nat.le_refl _) _).setCell (Nat.le_refl _) _).setCell (Nat.le_refl _) _).setCell (Nat.le_refl _) _
end Go.Proofs.YtikmhnlhaolbfaaDoor
namespace Go.Proofs.YtikmhnlhaolbfaaDoor
open Go.RowKit
set_option linter.unusedVariables false

theorem be_words' (n0 n1 n2 n3 : Nat) (h0 : n0 < 18446744073709551616) (h1 : n1 < 18446744073709551616) (h2 : n2 < 18446744073709551616) (h3 : n3 < 18446744073709551616) :
    be (wnum [n0, n1, n2, n3]) 32 = be n3 8 ++ (be n2 8 ++ (be n1 8 ++ (be n0 8 ++ []))) := by
  have p8 : (256 : Nat) ^ 8 = 18446744073709551616 := by decide
  have step : ∀ x r, x < 18446744073709551616 → be (x + 18446744073709551616 * r) 8 = be x 8 := by
    intro x r hx
    rw [← be_mod, ← be_mod x 8, p8]
    congr 1
    omega
  have cut : ∀ x r k, x < 18446744073709551616 → be (x + 18446744073709551616 * r) (k + 8) = be r k ++ be x 8 := by
    intro x r k hx
    rw [be_add, step x r hx, p8]
    congr 2
    omega
  simp only [wnum]
  rw [show (32 : Nat) = 24 + 8 from rfl, cut _ _ _ h0, show (24 : Nat) = 16 + 8 from rfl, cut _ _ _ h1, show (16 : Nat) = 8 + 8 from rfl, cut _ _ _ h2, step _ _ h3]
  simp

set_option maxRecDepth 100000 in
set_option maxHeartbeats 1600000 in
theorem rputLong_any (A : Option Addr) (c n0 n1 n2 n3 : Nat) (bs : List UInt8) (w : World) (hr : Rd w A bs) (hA : A = none → c = 0) (hn : bs.length ≤ 140737488351232)
    (h0 : n0 < 18446744073709551616) (h1 : n1 < 18446744073709551616) (h2 : n2 < 18446744073709551616) (h3 : n3 < 18446744073709551616) :
    Calls Tryd.prog 63 #[.slice A bs.length c, .agg #[.int .u64 (n0 : Int), .int .u64 (n1 : Int), .int .u64 (n2 : Int), .int .u64 (n3 : Int)]] w (OutO w (bs ++ be (wnum [n0, n1, n2, n3]) 32)) := by
  rw [be_words' n0 n1 n2 n3 h0 h1 h2 h3]
  go_enter Tryd.func63, Tryd.ntmps63
  go_wp2
  have HR0 := hid (hr.alloc (.cells #[.int .u64 (n0 : Int), .int .u64 (n1 : Int), .int .u64 (n2 : Int), .int .u64 (n3 : Int)] 24))
  have HB0 := hid ((Below.refl w.heap.size w).alloc (Nat.le_refl _) (.cells #[.int .u64 (n0 : Int), .int .u64 (n1 : Int), .int .u64 (n2 : Int), .int .u64 (n3 : Int)] 24))
  have HX0 := hid (heap_alloc_new w (.cells #[.int .u64 (n0 : Int), .int .u64 (n1 : Int), .int .u64 (n2 : Int), .int .u64 (n3 : Int)] 24))
  generalize w.alloc (.cells #[.int .u64 (n0 : Int), .int .u64 (n1 : Int), .int .u64 (n2 : Int), .int .u64 (n3 : Int)] 24) = w0 at *
  obtain ⟨gn, hgn⟩ : ∃ gn, gn = w.heap.size := ⟨_, rfl⟩
  rw [← hgn] at HX0 ⊢
  have HG := hid hgn
  clear hgn
  have HL0 := hid (Rd.nil w0 none)
  have m0 : w0.cell? ⟨gn, 0, none⟩ = some (.int .u64 (n0 : Int)) := by rw [cell_of_row _ _ _ _ 24 (0, 0) HX0.out]; rfl
  refine wp_loop_rounds 5 ?_
  rw [rounds_succ]
  go_wp2_with fail
  refine (row_any 8 n0 8 w0 h0 rfl (by omega)).mono ?_
  rintro e w1 ⟨v1, rfl, how1, hb1⟩
  have HB1 := hid (HB0.out.trans (hb1.mono HB0.out.size))
  have HX1 := hid ((hb1.block _ (lt_of_block HX0.out)).trans HX0.out)
  have HL1 := hid (HL0.out.below hb1 (Nat.le_refl _))
  have HR1 := hid (HR0.out.below hb1 (Nat.le_refl _))
  obtain ⟨B1, d1, rfl, hd1, hq1, hrB1, hB1⟩ := how1.form
  rw [be_length] at hd1 ⊢
  have HS1 := hid hrB1
  clear how1 hrB1 hb1 HB0 HX0 HL0 HR0 hd1 hq1
  go_wp2_with fail
  refine (behind_any B1 none d1 0 (be n0 8) [] 8 0 (be_length _ _) rfl w1 HS1.out HL1.out hB1 (fun _ => rfl) (by omega)).mono ?_
  rintro e w2 ⟨v2, rfl, how2, hb2⟩
  have HB2 := hid (HB1.out.trans (hb2.mono HB1.out.size))
  have HX2 := hid ((hb2.block _ (lt_of_block HX1.out)).trans HX1.out)
  have HR2 := hid (HR1.out.below hb2 (Nat.le_refl _))
  obtain ⟨L2, e2, rfl, hd2, hq2, hrL2, hN2⟩ := how2.form
  rw [show ((be n0 8 ++ []) : List UInt8).length = 8 from by simp [be_length]] at hd2 ⊢
  have HL2 := hid hrL2
  clear how2 hrL2 hb2 HB1 HX1 HL1 HR1 HS1 hd2 hq2 hB1
  have m1 : w2.cell? ⟨gn, 1, none⟩ = some (.int .u64 (n1 : Int)) := by rw [cell_of_row _ _ _ _ 24 (0, 0) HX2.out]; rfl
  go_wp2
  rw [rounds_succ]
  go_wp2_with fail
  refine (row_any 8 n1 8 w2 h1 rfl (by omega)).mono ?_
  rintro e w3 ⟨v3, rfl, how3, hb3⟩
  have HB3 := hid (HB2.out.trans (hb3.mono HB2.out.size))
  have HX3 := hid ((hb3.block _ (lt_of_block HX2.out)).trans HX2.out)
  have HL3 := hid (HL2.out.below hb3 (Nat.le_refl _))
  have HR3 := hid (HR2.out.below hb3 (Nat.le_refl _))
  obtain ⟨B3, d3, rfl, hd3, hq3, hrB3, hB3⟩ := how3.form
  rw [be_length] at hd3 ⊢
  have HS3 := hid hrB3
  clear how3 hrB3 hb3 HB2 HX2 HL2 HR2 hd3 hq3
  go_wp2_with fail
  refine (behind_any B3 L2 d3 e2 (be n1 8) (be n0 8 ++ []) 8 8 (be_length _ _) (by simp [be_length]) w3 HS3.out HL3.out hB3 hN2 (by omega)).mono ?_
  rintro e w4 ⟨v4, rfl, how4, hb4⟩
  have HB4 := hid (HB3.out.trans (hb4.mono HB3.out.size))
  have HX4 := hid ((hb4.block _ (lt_of_block HX3.out)).trans HX3.out)
  have HR4 := hid (HR3.out.below hb4 (Nat.le_refl _))
  obtain ⟨L4, e4, rfl, hd4, hq4, hrL4, hN4⟩ := how4.form
  rw [show ((be n1 8 ++ (be n0 8 ++ [])) : List UInt8).length = 16 from by simp [be_length]] at hd4 ⊢
  have HL4 := hid hrL4
  clear how4 hrL4 hb4 HB3 HX3 HL3 HR3 HS3 hd4 hq4 hB3 hN2
  have m2 : w4.cell? ⟨gn, 2, none⟩ = some (.int .u64 (n2 : Int)) := by rw [cell_of_row _ _ _ _ 24 (0, 0) HX4.out]; rfl
  go_wp2
  rw [rounds_succ]
  go_wp2_with fail
  refine (row_any 8 n2 8 w4 h2 rfl (by omega)).mono ?_
  rintro e w5 ⟨v5, rfl, how5, hb5⟩
  have HB5 := hid (HB4.out.trans (hb5.mono HB4.out.size))
  have HX5 := hid ((hb5.block _ (lt_of_block HX4.out)).trans HX4.out)
  have HL5 := hid (HL4.out.below hb5 (Nat.le_refl _))
  have HR5 := hid (HR4.out.below hb5 (Nat.le_refl _))
  obtain ⟨B5, d5, rfl, hd5, hq5, hrB5, hB5⟩ := how5.form
  rw [be_length] at hd5 ⊢
  have HS5 := hid hrB5
  clear how5 hrB5 hb5 HB4 HX4 HL4 HR4 hd5 hq5
  go_wp2_with fail
  refine (behind_any B5 L4 d5 e4 (be n2 8) (be n1 8 ++ (be n0 8 ++ [])) 8 16 (be_length _ _) (by simp [be_length]) w5 HS5.out HL5.out hB5 hN4 (by omega)).mono ?_
  rintro e w6 ⟨v6, rfl, how6, hb6⟩
  have HB6 := hid (HB5.out.trans (hb6.mono HB5.out.size))
  have HX6 := hid ((hb6.block _ (lt_of_block HX5.out)).trans HX5.out)
  have HR6 := hid (HR5.out.below hb6 (Nat.le_refl _))
  obtain ⟨L6, e6, rfl, hd6, hq6, hrL6, hN6⟩ := how6.form
  rw [show ((be n2 8 ++ (be n1 8 ++ (be n0 8 ++ []))) : List UInt8).length = 24 from by simp [be_length]] at hd6 ⊢
  have HL6 := hid hrL6
  clear how6 hrL6 hb6 HB5 HX5 HL5 HR5 HS5 hd6 hq6 hB5 hN4
  have m3 : w6.cell? ⟨gn, 3, none⟩ = some (.int .u64 (n3 : Int)) := by rw [cell_of_row _ _ _ _ 24 (0, 0) HX6.out]; rfl
  go_wp2
  rw [rounds_succ]
  go_wp2_with fail
  refine (row_any 8 n3 8 w6 h3 rfl (by omega)).mono ?_
  rintro e w7 ⟨v7, rfl, how7, hb7⟩
  have HB7 := hid (HB6.out.trans (hb7.mono HB6.out.size))
  have HX7 := hid ((hb7.block _ (lt_of_block HX6.out)).trans HX6.out)
  have HL7 := hid (HL6.out.below hb7 (Nat.le_refl _))
  have HR7 := hid (HR6.out.below hb7 (Nat.le_refl _))
  obtain ⟨B7, d7, rfl, hd7, hq7, hrB7, hB7⟩ := how7.form
  rw [be_length] at hd7 ⊢
  have HS7 := hid hrB7
  clear how7 hrB7 hb7 HB6 HX6 HL6 HR6 hd7 hq7
  go_wp2_with fail
  refine (behind_any B7 L6 d7 e6 (be n3 8) (be n2 8 ++ (be n1 8 ++ (be n0 8 ++ []))) 8 24 (be_length _ _) (by simp [be_length]) w7 HS7.out HL7.out hB7 hN6 (by omega)).mono ?_
  rintro e w8 ⟨v8, rfl, how8, hb8⟩
  have HB8 := hid (HB7.out.trans (hb8.mono HB7.out.size))
  have HX8 := hid ((hb8.block _ (lt_of_block HX7.out)).trans HX7.out)
  have HR8 := hid (HR7.out.below hb8 (Nat.le_refl _))
  obtain ⟨L8, e8, rfl, hd8, hq8, hrL8, hN8⟩ := how8.form
  rw [show ((be n3 8 ++ (be n2 8 ++ (be n1 8 ++ (be n0 8 ++ [])))) : List UInt8).length = 32 from by simp [be_length]] at hd8 ⊢
  have HL8 := hid hrL8
  clear how8 hrL8 hb8 HB7 HX7 HL7 HR7 HS7 hd8 hq8 hB7 hN6
  go_wp2
  rw [rounds_succ]
  go_wp2_with fail
  refine (behind_any A L8 c e8 bs _ bs.length 32 rfl (by simp [be_length]) w8 HR8.out HL8.out hA hN8 (by omega)).mono ?_
  intro e w9 ho
  have HO := hid (ho.trans HB8.out)
  clear ho
  obtain ⟨v9, rfl, how9, hb9⟩ := HO.out
  clear how9 hb9
  go_wp2
  go_ret
  exact HO.out
end Go.Proofs.YtikmhnlhaolbfaaDoor
namespace Go.Proofs.YtikmhnlhaolbfaaDoor
open Go.RowKit
set_option linter.unusedVariables false

theorem rof_any (n : Nat) (w : World) (h : n < 18446744073709551616) : Calls Tryd.prog 61 #[.int .u64 (n : Int)] w fun e w' => e = .returned (num n) ∧ Below w.heap.size w w' := by
  have hn := hid (num_small n h)
  go_enter Tryd.func61, Tryd.ntmps61
  go_wp2
  refine bodyPost_ret (v := .agg #[.int .u64 (n : Int), .int .u64 0, .int .u64 0, .int .u64 0]) (by simp [results, Tryd.results61, go_sem]) rfl ⟨by rw [hn.out], ?_⟩
  repeat (first | exact Below.refl _ _ | refine Below.drew ?_ | refine bal ?_ _)

theorem tm2 (a p : Nat) : (((a : Int) / 2 ^ p).tmod 2) = ((a / 2 ^ p % 2 : Nat) : Int) := by
  have e : ((a : Int) / 2 ^ p) = ((a / 2 ^ p : Nat) : Int) := by simp
  rw [e, Int.tmod_eq_emod_of_nonneg (Int.natCast_nonneg _)]
  exact (Int.natCast_emod _ _).symm
theorem rbit_in (x q p : Nat) (n : Int) (w : World) (hq : q < 4) (hp : p < 64) (h : n = 64 * (q : Int) + p) : Calls Tryd.prog 68 #[num x, .int .i64 n] w fun e w' => e = .returned (.int .u64 ((wd x q / 2 ^ p % 2 : Nat) : Int)) ∧ Below w.heap.size w w' := by
  have h0 : 0 ≤ n := by omega
  have h1 : n < 256 := by omega
  have e1 : n / 64 = (q : Int) := by omega
  have e2 : n % 64 = (p : Int) := by omega
  have HL := hid (wd_lt x q)
  clear h
  have hc : q = 0 ∨ q = 1 ∨ q = 2 ∨ q = 3 := by omega
  clear hq
  rcases hc with rfl | rfl | rfl | rfl
  all_goals
    go_enter Tryd.func68, Tryd.ntmps68
    go_wp2
    go_ret
    refine ⟨?_, bal (Below.refl _ _) _⟩
    exact congrArg Ending.returned (congrArg (Value.int IntKind.u64) (tm2 _ p))
theorem rbit_out (x : Nat) (n : Int) (w : World) (h : n < 0 ∨ 256 ≤ n) : Calls Tryd.prog 68 #[num x, .int .i64 n] w fun e w' => e = .returned (.int .u64 0) ∧ Below w.heap.size w w' := by
  rcases h with h | h
  · go_enter Tryd.func68, Tryd.ntmps68
    go_wp2
    go_ret
    exact ⟨rfl, bal (Below.refl _ _) _⟩
  · have h2 : ¬ n < 0 := by omega
    go_enter Tryd.func68, Tryd.ntmps68
    go_wp2
    go_ret
    exact ⟨rfl, bal (Below.refl _ _) _⟩
theorem rbit_any (x : Nat) (n : Int) (w : World) (hx : x < 2 ^ 256) : Calls Tryd.prog 68 #[num x, .int .i64 n] w fun e w' => e = .returned (.int .u64 (bi x n : Int)) ∧ Below w.heap.size w w' := by
  by_cases h : 0 ≤ n ∧ n < 256
  · obtain ⟨k, rfl⟩ := Int.eq_ofNat_of_zero_le h.1
    have e : ((k : Nat) : Int) = 64 * ((k / 64 : Nat) : Int) + ((k % 64 : Nat) : Int) := by omega
    have hb := bi_word x (k % 64) (k : Int) ((k / 64 : Nat) : Int) hx e (Nat.mod_lt _ (by decide))
    rw [wi_nat x (k / 64) hx] at hb
    have := rbit_in x (k / 64) (k % 64) (k : Int) w (by omega) (Nat.mod_lt _ (by decide)) e
    rw [hb] at this
    exact this
  · have hb : bi x n = 0 := by
      unfold bi
      by_cases h2 : n < 0
      · rw [if_pos h2]
      · rw [if_neg h2]
        exact bitAt_high x _ 256 hx (by omega)
    rw [hb]
    exact rbit_out x n w (by omega)

end Go.Proofs.YtikmhnlhaolbfaaDoor
namespace Go.Proofs.YtikmhnlhaolbfaaDoor
open Go.RowKit
set_option linter.unusedVariables false
/-- one put into the registers that are written out: what it leaves -/
theorem putz : (∀ (a : Act) (d : Nat) (v : Value), a.put (some d) v = { a with tmps := a.tmps.setIfInBounds d v }) ∧ (∀ (a : Act) (v : Value), a.put none v = a) ∧ (∀ (l : List Value) (i : Nat) (v : Value), l.toArray.setIfInBounds i v = (l.set i v).toArray) ∧ (∀ (a : Value) (l : List Value) (v : Value), (a :: l).set 0 v = v :: l) ∧ (∀ (a : Value) (l : List Value) (n : Nat) (v : Value), (a :: l).set (n + 1) v = a :: l.set n v) :=
  ⟨fun _ _ _ => rfl, fun _ _ => rfl, fun l i v => List.setIfInBounds_toArray l i v, fun _ _ _ => rfl, fun _ _ _ _ => rfl⟩
section
variable {P : Program} {md : Region.Mode} {ops : Array Oper} {Q : Exit → Act → World → Prop} {S : Array Bool → World → Prop}
/-- the same, what can be reckoned left out -/
theorem Goes.tk {i : Nat} {o : Oper} {v : Value} (W : List Nat) {n : Nat} {up : Array Bool} {a : Act} {w : World} (ho : ops[i]? = some o := by exact rfl) (hn : Region.noSelect ops = true := by kernel_rfl) (hf : Region.free md ops up i = true := by kernel_rfl) (hr : (Region.ready md ops up).contains i = true := by kernel_rfl)
    (hp : ∀ c a w, Q (.panic c) (a.put o.dst v) w → Q (.panic c) a w := by exact fun _ _ _ h => h) (hW : (W.all fun j => Region.waitsFor md ops j i && !(up.getD j true)) = true := by kernel_rfl) (hS : ∀ (L : Array Bool) (u : World), S (L.setIfInBounds i true) u → S L u := by exact fun L u h => h)
    (y : YieldsIf P ops (Yet S W) o v a) (s : S (up.setIfInBounds i true) w) (H : Goes P md ops Q S n (up.setIfInBounds i true) (a.put o.dst v) w) : Goes P md ops Q S (n + 1) up a w :=
  Goes.take W ho hn hf hr hp hW hS y s H
end
end Go.Proofs.YtikmhnlhaolbfaaDoor
namespace Go.Proofs.YtikmhnlhaolbfaaDoor
open Go.RowKit Go.Shelf
set_option linter.unusedVariables false

def lz_ren : Go.Shelf.Ren := ⟨fun | 129 => 99 | 134 => 121 | n => n, fun | 53 => 22 | 3 => 3 | 4 => 4 | 46 => 91 | 5 => 5 | 9 => 9 | n => n, fun | n => n⟩
theorem lz_lays : Go.Proofs.Lays.n134 Tryd.prog lz_ren := {
  mixed := by kernel_rfl
  f129 := Tryd.func99.trans (congrArg some (by kernel_rfl))
  f134 := Tryd.func121.trans (congrArg some (by kernel_rfl))
  t3 := Tryd.underlying3
  a3 := Tryd.isAgg3
  z3 := Tryd.sizeOf3
  v3 := Tryd.zeroValue3
  t4 := Tryd.underlying4
  a4 := Tryd.isAgg4
  z4 := Tryd.sizeOf4
  v4 := Tryd.zeroValue4
  t5 := Tryd.underlying5
  a5 := Tryd.isAgg5
  z5 := Tryd.sizeOf5
  v5 := Tryd.zeroValue5
  t9 := Tryd.underlying9
  a9 := Tryd.isAgg9
  z9 := Tryd.sizeOf9
  v9 := Tryd.zeroValue9
  t46 := Tryd.underlying91
  a46 := Tryd.isAgg91
  z46 := Tryd.sizeOf91
  v46 := Tryd.zeroValue91
  t53 := Tryd.underlying22
  a53 := Tryd.isAgg22
  z53 := Tryd.sizeOf22
  v53 := Tryd.zeroValue22 }
theorem lz_any (x s : Nat) (w : World) (hx : x < 18446744073709551616) (hs : s + nbits x = 64) : Calls Tryd.prog 121 #[.int .u64 (x : Int)] w fun e w' => e = .returned (.int .i64 (s : Int)) ∧ w' = w := by
  refine (Any.bits_LeadingZeros64 lz_lays (x : Int) w (by omega) (by omega)).mono fun e w' ⟨he, hw⟩ => ?_
  rw [he, hw, Int.toNat_natCast, bitLen_nbits x hx]
  refine ⟨?_, rfl⟩
  rw [show (64 : Int) - (nbits x : Int) = (s : Int) by omega]
/-- a round's numbers do not go round -/
theorem half_wraps {y1 y0 q r u1 : Nat} (hq : q ≤ 4294967297) (hr : r < 4294967296) (h1 : y1 < 4294967296) (h0 : y0 < 4294967296) (hu : u1 < 4294967296) :
    ∃ z1 z2 : Nat, IntKind.u64.wrap ((q : Int) * (y0 : Int)) = (z2 : Int) ∧ IntKind.u64.wrap (4294967296 * (r : Int)) = 4294967296 * (r : Int) ∧ IntKind.u64.wrap (4294967296 * (r : Int) + (u1 : Int)) = (z1 : Int) ∧ z1 = r * 4294967296 + u1 ∧ z2 = q * y0 := by
  have a : q * y0 ≤ 4294967297 * 4294967295 := Nat.mul_le_mul hq (by omega)
  refine ⟨_, _, ?_, ?_, ?_, rfl, rfl⟩
  · rw [← Int.natCast_mul, IntWalk.u64_in _ (by omega)]
  · rw [IntWalk.u64_in _ (by omega)]
  · rw [IntWalk.u64_in _ (by omega)]; omega
theorem half_down {u u1 y1 y0 q r d : Nat} (X : y1 < 4294967296 ∧ y0 < 4294967296 ∧ 2147483648 ≤ y1 ∧ u1 < 4294967296 ∧ u < y1 * 4294967296 + y0 ∧ (u * 4294967296 + u1) / (y1 * 4294967296 + y0) = d) (L : u = q * y1 + r ∧ d ≤ q ∧ q ≤ 4294967297 ∧ r < 4294967296) (ht : 4294967296 ≤ q ∨ r * 4294967296 + u1 < q * y0) :
    ∃ q' r' : Nat, IntKind.u64.wrap ((q : Int) - 1) = (q' : Int) ∧ IntKind.u64.wrap ((r : Int) + (y1 : Int)) = (r' : Int) ∧ q' < q ∧ (4294967296 ≤ r' → d = q') ∧ (r' < 4294967296 → u = q' * y1 + r' ∧ d ≤ q' ∧ q' ≤ 4294967297 ∧ r' < 4294967296) := by
  obtain ⟨x1, x2, x3, x4, x5, x6⟩ := X
  obtain ⟨l1, l2, l3, l4⟩ := L
  have hp : 0 < y1 * 4294967296 + y0 := by omega
  have hm := half_most x5 x4
  have hl : d ≤ q - 1 ∧ 1 ≤ q := by
    rw [← x6] at l2 ⊢
    refine half_less hp hm l2 ?_
    rcases ht with ht | ht
    · exact Or.inl ht
    · exact Or.inr ((half_test l1).1 ht)
  obtain ⟨k, rfl⟩ : ∃ k, q = k + 1 := ⟨q - 1, by omega⟩
  rw [Nat.add_sub_cancel] at hl
  have e : u = k * y1 + (r + y1) := by rw [l1, Nat.succ_mul]; omega
  refine ⟨k, r + y1, ?_, ?_, by omega, fun hr => ?_, fun hr => ⟨e, hl.1, by omega, hr⟩⟩
  · rw [IntWalk.u64_in _ (by omega)]; omega
  · rw [IntWalk.u64_in _ (by omega)]; omega
  · have := half_broken (u1 := u1) e hp x2 (by omega) hr (by rw [x6]; exact hl.1)
    rw [this, x6]
theorem half_stop {u u1 y1 y0 q r d : Nat} (X : y1 < 4294967296 ∧ y0 < 4294967296 ∧ 2147483648 ≤ y1 ∧ u1 < 4294967296 ∧ u < y1 * 4294967296 + y0 ∧ (u * 4294967296 + u1) / (y1 * 4294967296 + y0) = d) (L : u = q * y1 + r ∧ d ≤ q ∧ q ≤ 4294967297 ∧ r < 4294967296) (hq : q < 4294967296) (ht : ¬ r * 4294967296 + u1 < q * y0) : d = q := by
  obtain ⟨x1, x2, x3, x4, x5, x6⟩ := X
  obtain ⟨l1, l2, l3, l4⟩ := L
  rw [← x6] at l2
  have := half_done (by omega) l2 (by have := mt (half_test (u1 := u1) (y0 := y0) l1).2 ht; omega)
  rw [this, x6]
/-- what stands at the beginning of a half -/
theorem half_start {u u1 y1 y0 d : Nat} (x1 : y1 < 4294967296) (x2 : y0 < 4294967296) (x3 : 2147483648 ≤ y1) (x4 : u1 < 4294967296) (x5 : u < y1 * 4294967296 + y0) (x6 : (u * 4294967296 + u1) / (y1 * 4294967296 + y0) = d) :
    ∃ q r : Nat, IntKind.u64.wrap ((u : Int) / (y1 : Int)) = (q : Int) ∧ IntKind.u64.wrap ((u : Int) - IntKind.u64.wrap ((q : Int) * (y1 : Int))) = (r : Int) ∧ (u = q * y1 + r ∧ d ≤ q ∧ q ≤ 4294967297 ∧ r < 4294967296) := by
  obtain ⟨f1, f2, f3⟩ := half_first x3 x2 x5
  have e0 : ((u : Int) / (y1 : Int)) = ((u / y1 : Nat) : Int) := by simp
  have hlast : d ≤ u / y1 := by
    rw [← x6]
    refine Nat.le_of_lt_succ (Nat.div_lt_of_lt_mul ?_)
    have : u + 1 ≤ (u / y1 + 1) * y1 := by rw [Nat.add_mul]; omega
    have h2 : (u + 1) * 4294967296 ≤ (u / y1 + 1) * y1 * 4294967296 := Nat.mul_le_mul_right _ this
    have h3 : (u / y1 + 1) * (y1 * 4294967296 + y0) = (u / y1 + 1) * y1 * 4294967296 + (u / y1 + 1) * y0 := by rw [Nat.mul_add, Nat.mul_assoc]
    have h4 : Nat.succ (u / y1) = u / y1 + 1 := rfl
    rw [h4, Nat.mul_comm (y1 * 4294967296 + y0), h3]
    omega
  rw [e0]
  generalize u / y1 = q at *
  generalize u % y1 = r at *
  have hz : IntKind.u64.wrap ((q : Int) * (y1 : Int)) = ((q * y1 : Nat) : Int) := by
    rw [← Int.natCast_mul]
    generalize q * y1 = z at *
    rw [IntWalk.u64_in _ (by omega)]
  refine ⟨q, r, ?_, ?_, f2, hlast, f1, by omega⟩
  · rw [IntWalk.u64_in _ (by omega)]
  · rw [hz]
    generalize q * y1 = z at *
    rw [IntWalk.u64_in _ (by omega)]; omega
theorem half_parts (Y : Nat) (h : Y < 18446744073709551616) : ∃ a b : Nat, (Y : Int) / 4294967296 = (a : Int) ∧ bits .and .u64 (Y : Int) 4294967295 = (b : Int) ∧ a * 4294967296 + b = Y ∧ a < 4294967296 ∧ b < 4294967296 := by
  refine ⟨Y / 4294967296, Y % 4294967296, by omega, Mul64.maskN Y h, by omega, by omega, by omega⟩
theorem two_halves (u u1 u0 : Nat) : u * 18446744073709551616 + (u1 * 4294967296 + u0) = (u * 4294967296 + u1) * 4294967296 + u0 := by omega
/-- what is divided, and what by, moved up so that the highest bit is set -/
theorem moved_up {hi lo y s t : Nat} (hy : hi < y) (hl : lo < 18446744073709551616) (hs : s + nbits y = 64) (ht : t + s = 64) :
    ∃ Y u l : Nat, IntKind.u64.wrap ((y : Int) * 2 ^ s) = (Y : Int) ∧ bits .or .u64 (IntKind.u64.wrap ((hi : Int) * 2 ^ s)) ((lo : Int) / 2 ^ t) = (u : Int) ∧ IntKind.u64.wrap ((lo : Int) * 2 ^ s) = (l : Int) ∧ Y = y * 2 ^ s ∧ 9223372036854775808 ≤ Y ∧ Y < 18446744073709551616 ∧ u < Y ∧ l < 18446744073709551616 ∧ (hi * 18446744073709551616 + lo) * 2 ^ s = u * 18446744073709551616 + l := by
  have h1 := nbits_lt y
  have h2 := nbits_le y (by omega)
  have hW : (18446744073709551616 : Nat) = 2 ^ t * 2 ^ s := by rw [← Nat.pow_add, ht]
  have hps := Nat.two_pow_pos s
  have hpt := Nat.two_pow_pos t
  have hY1 : y * 2 ^ s < 18446744073709551616 := by
    have := Nat.mul_lt_mul_of_pos_right h1 hps
    rwa [← Nat.pow_add, show nbits y + s = 64 by omega] at this
  have hb := nbits_pos y (by omega)
  have hY2 : 9223372036854775808 ≤ y * 2 ^ s := by
    have := Nat.mul_le_mul_right (2 ^ s) h2
    rwa [← Nat.pow_add, show nbits y - 1 + s = 63 by omega] at this
  have hu : hi * 2 ^ s < 18446744073709551616 := Nat.lt_of_le_of_lt (Nat.mul_le_mul_right _ (Nat.le_of_lt hy)) hY1
  have hlo : lo / 2 ^ t < 2 ^ s := by rw [Nat.div_lt_iff_lt_mul hpt, Nat.mul_comm, ← hW]; exact hl
  have hlo2 : lo / 2 ^ t < 18446744073709551616 := Nat.lt_of_le_of_lt (Nat.div_le_self _ _) hl
  have e1 : lo * 2 ^ s = lo / 2 ^ t * 18446744073709551616 + lo % 2 ^ t * 2 ^ s := by
    rw [hW, ← Nat.mul_assoc, ← Nat.add_mul]
    congr 1
    have := Nat.div_add_mod lo (2 ^ t)
    rw [Nat.mul_comm] at this; exact this.symm
  have hlw : lo % 2 ^ t * 2 ^ s < 18446744073709551616 := by
    rw [hW]; exact Nat.mul_lt_mul_of_pos_right (Nat.mod_lt _ hpt) hps
  have e2 : (hi * 18446744073709551616 + lo) * 2 ^ s = (hi * 2 ^ s + lo / 2 ^ t) * 18446744073709551616 + lo % 2 ^ t * 2 ^ s := by
    rw [Nat.add_mul, e1, Nat.add_mul, Nat.mul_right_comm]; omega
  have hw : ∀ a : Nat, a * 2 ^ s < 18446744073709551616 → IntKind.u64.wrap ((a : Int) * 2 ^ s) = ((a * 2 ^ s : Nat) : Int) := fun a ha => by
    have : ((a : Int) * 2 ^ s) = ((a * 2 ^ s : Nat) : Int) := by simp
    rw [this, IntWalk.u64_in _ (by omega)]
  refine ⟨y * 2 ^ s, hi * 2 ^ s + lo / 2 ^ t, lo % 2 ^ t * 2 ^ s, hw y hY1, ?_, ?_, rfl, hY2, hY1, ?_, hlw, e2⟩
  · rw [hw hi hu, show ((lo : Int) / 2 ^ t) = ((lo / 2 ^ t : Nat) : Int) by simp, u64_or_nat _ _ hu hlo2]
    congr 1
    have h := Nat.shiftLeft_add_eq_or_of_lt hlo hi
    rw [Nat.shiftLeft_eq] at h
    omega
  · have : ((lo : Int) * 2 ^ s) = ((lo * 2 ^ s : Nat) : Int) := by simp
    rw [this, IntKind.wrap_u64, e1]
    omega
  · have hle : (hi * 18446744073709551616 + lo) < y * 18446744073709551616 := by
      have := Nat.mul_le_mul_right 18446744073709551616 (Nat.succ_le_of_lt hy)
      rw [Nat.succ_mul] at this; omega
    have h3 := Nat.mul_lt_mul_of_pos_right hle hps
    rw [e2, Nat.mul_right_comm] at h3
    omega
set_option maxRecDepth 100000 in
set_option maxHeartbeats 4000000 in
theorem div64_none (lo y : Nat) (w : World) (hy : 0 < y) (hl : lo < 18446744073709551616) (hY : y < 18446744073709551616) : Calls Tryd.prog 107 #[.int .u64 0, .int .u64 (lo : Int), .int .u64 (y : Int)] w fun e w' => e = .returned (.tuple #[.int .u64 ((lo / y : Nat) : Int), .int .u64 ((lo % y : Nat) : Int)]) ∧ Below w.heap.size w w' := by
  have n0 : ((y : Int) = 0) = False := eq_false (by omega)
  have n1 : ((y : Int) ≤ 0) = False := eq_false (by omega)
  have hd : lo / y ≤ lo := Nat.div_le_self _ _
  have hr : lo % y < y := Nat.mod_lt _ hy
  obtain ⟨q, eq⟩ : ∃ q, lo / y = q := ⟨_, rfl⟩
  obtain ⟨r, er⟩ : ∃ r, lo % y = r := ⟨_, rfl⟩
  have A1 : IntKind.u64.wrap ((lo : Int) / (y : Int)) = (q : Int) := by
    rw [← Int.natCast_ediv, eq, IntWalk.u64_in _ (by omega)]
  have A3 : (lo : Int) % (y : Int) = (r : Int) := by rw [← Int.natCast_emod, er]
  have A4 : (lo : Int).tmod (y : Int) = (r : Int) := by rw [Int.tmod_eq_emod_of_nonneg (by omega), ← Int.natCast_emod, er]
  have EQ := hid eq
  have ER := hid er
  clear eq er hd hr
  go_enter Tryd.func107, Tryd.ntmps107
  go_upto_region 6 with fail
  go_region
  all_goals
    go_wp2
    exact bodyPost_ret (v := .tuple #[.int .u64 (q : Int), .int .u64 (r : Int)]) (by simp [results, Tryd.results107, go_sem]) rfl ⟨by rw [EQ.out, ER.out], (Below.refl _ _).drew⟩
set_option maxRecDepth 100000 in
set_option maxHeartbeats 4000000 in
theorem div64_some (hi lo y : Nat) (w : World) (hy : hi < y) (h0 : hi ≠ 0) (hl : lo < 18446744073709551616) (hY : y < 18446744073709551616) : Calls Tryd.prog 107 #[.int .u64 (hi : Int), .int .u64 (lo : Int), .int .u64 (y : Int)] w fun e w' => e = .returned (.tuple #[.int .u64 (((hi * 18446744073709551616 + lo) / y : Nat) : Int), .int .u64 (((hi * 18446744073709551616 + lo) % y : Nat) : Int)]) ∧ Below w.heap.size w w' := by
  have hnb := nbits_up y 64 hY
  obtain ⟨s, hs⟩ : ∃ s, s + nbits y = 64 := ⟨64 - nbits y, by omega⟩
  obtain ⟨t, ht⟩ : ∃ t, t + s = 64 := ⟨64 - s, by omega⟩
  obtain ⟨Y, u, l, E1, E2, E3, e4, e5, e6, e7, e8, e9⟩ := moved_up hy hl hs ht
  have n0 : ((y : Int) = 0) = False := eq_false (by omega)
  have n1 : ((y : Int) ≤ (hi : Int)) = False := eq_false (by omega)
  have n2 : ((hi : Int) = 0) = False := eq_false (by omega)
  have n4 : ((hi : Int) == 0) = false := by simpa using h0
  have n5 : ((y : Int) == 0) = false := by have : ¬ y = 0 := by omega
                                           simpa using this
  have s1 : IntKind.u64.wrap (s : Int) = (s : Int) := IntWalk.u64_in _ (by omega)
  have s2 : min s 64 = s := by omega
  have s3 : IntKind.u64.wrap (64 - (s : Int)) = (t : Int) := by rw [IntWalk.u64_in _ (by omega)]; omega
  have s4 : min t 64 = t := by omega
  obtain ⟨y1, y0, Y1, Y0, hYs, l1, l2⟩ := half_parts Y e6
  obtain ⟨u1, u0, U1, U0, hls, l4, l5⟩ := half_parts l e8
  have l3 : 2147483648 ≤ y1 := by clear e9 e4 hs ht; omega
  have hy0 : 0 < y := Nat.lt_of_le_of_lt (Nat.zero_le _) hy
  obtain ⟨d1, ed1⟩ : ∃ z, (u * 4294967296 + u1) / (y1 * 4294967296 + y0) = z := ⟨_, rfl⟩
  obtain ⟨r1, er1⟩ : ∃ z, (u * 4294967296 + u1) % (y1 * 4294967296 + y0) = z := ⟨_, rfl⟩
  have hd1 := half_most (u1 := u1) (show u < y1 * 4294967296 + y0 by omega) l4
  have hr1 := Nat.mod_lt (u * 4294967296 + u1) (show 0 < y1 * 4294967296 + y0 by omega)
  have hdm1 := Nat.div_add_mod (u * 4294967296 + u1) (y1 * 4294967296 + y0)
  rw [ed1] at hd1
  rw [er1] at hr1
  rw [ed1, er1] at hdm1
  obtain ⟨d2, ed2⟩ : ∃ z, (r1 * 4294967296 + u0) / (y1 * 4294967296 + y0) = z := ⟨_, rfl⟩
  obtain ⟨r2, er2⟩ : ∃ z, (r1 * 4294967296 + u0) % (y1 * 4294967296 + y0) = z := ⟨_, rfl⟩
  have hd2 := half_most (u1 := u0) hr1 l5
  have hr2 := Nat.mod_lt (r1 * 4294967296 + u0) (show 0 < y1 * 4294967296 + y0 by omega)
  have hdm2 := Nat.div_add_mod (r1 * 4294967296 + u0) (y1 * 4294967296 + y0)
  rw [ed2] at hd2
  rw [er2] at hr2
  rw [ed2, er2] at hdm2
  have X1 := hid (show y1 < 4294967296 ∧ y0 < 4294967296 ∧ 2147483648 ≤ y1 ∧ u1 < 4294967296 ∧ u < y1 * 4294967296 + y0 ∧ (u * 4294967296 + u1) / (y1 * 4294967296 + y0) = d1 from ⟨l1, l2, l3, l4, by omega, ed1⟩)
  have X2 := hid (show y1 < 4294967296 ∧ y0 < 4294967296 ∧ 2147483648 ≤ y1 ∧ u0 < 4294967296 ∧ r1 < y1 * 4294967296 + y0 ∧ (r1 * 4294967296 + u0) / (y1 * 4294967296 + y0) = d2 from ⟨l1, l2, l3, l5, hr1, ed2⟩)
  obtain ⟨q1, r1', F1, G1, hL1⟩ := half_start l1 l2 l3 l4 (show u < y1 * 4294967296 + y0 by omega) ed1
  obtain ⟨q2, r2', F2, G2, hL2⟩ := half_start l1 l2 l3 l5 hr1 ed2
  rw [hYs] at hdm1 hdm2 hr1 hr2
  have V1 : IntKind.u64.wrap (IntKind.u64.wrap (IntKind.u64.wrap ((u : Int) * 4294967296) + (u1 : Int)) - IntKind.u64.wrap ((d1 : Int) * (Y : Int))) = (r1 : Int) := by
    have : ((d1 : Int) * (Y : Int)) = ((Y * d1 : Nat) : Int) := by rw [Int.natCast_mul]; exact Int.mul_comm _ _
    rw [this]
    simp only [IntKind.wrap_u64]
    omega
  have V2 : IntKind.u64.wrap (IntKind.u64.wrap (IntKind.u64.wrap ((r1 : Int) * 4294967296) + (u0 : Int)) - IntKind.u64.wrap ((d2 : Int) * (Y : Int))) = (r2 : Int) := by
    have : ((d2 : Int) * (Y : Int)) = ((Y * d2 : Nat) : Int) := by rw [Int.natCast_mul]; exact Int.mul_comm _ _
    rw [this]
    simp only [IntKind.wrap_u64]
    omega
  have V3 : IntKind.u64.wrap (IntKind.u64.wrap ((d1 : Int) * 4294967296) + (d2 : Int)) = ((d1 * 4294967296 + d2 : Nat) : Int) := by
    simp only [IntKind.wrap_u64]
    omega
  have hboth := half_both (u := u) (u1 := u1) (u0 := u0) (y := Y) (q1 := d1) (q0 := d2) (r1 := r1) (r0 := r2) (by rw [Nat.mul_comm d1]; exact hdm1.symm) (by rw [Nat.mul_comm d2]; exact hdm2.symm)
  have hmv := moved_div (n := hi * 18446744073709551616 + lo) (y := y) (s := s) (q := d1 * 4294967296 + d2) (r := r2) hy0 (by rw [e9, ← e4, ← hboth, ← hls]; exact two_halves u u1 u0) (by rw [← e4]; exact hr2)
  obtain ⟨o1, o2⟩ := hmv
  have V4 : (r2 : Int) / 2 ^ s = (((hi * 18446744073709551616 + lo) % y : Nat) : Int) := by rw [← o2]; simp
  rw [o1] at V3
  obtain ⟨O1, eO1⟩ : ∃ z, (hi * 18446744073709551616 + lo) / y = z := ⟨_, rfl⟩
  obtain ⟨O2, eO2⟩ : ∃ z, (hi * 18446744073709551616 + lo) % y = z := ⟨_, rfl⟩
  rw [eO1] at V3
  rw [eO2] at V4
  have L1 := hid hL1
  have L2 := hid hL2
  clear hL1 hL2
  have P1 := hid eO1
  have P2 := hid eO2
  have HY := hid hY
  have HS := hid hs
  have ny1 : ((y1 : Int) = 0) = False := eq_false (by omega)
  have ny2 : ¬ y1 = 0 := by omega
  clear hnb hs ht e4 e5 e6 e7 e8 e9 hYs hls l1 l2 l3 l4 l5 ed1 er1 hd1 hr1 hdm1 ed2 er2 hd2 hr2 hdm2 hboth o1 o2 eO1 eO2 hy h0 hl hY
  go_enter Tryd.func107, Tryd.ntmps107
  go_upto_block 0 with (go_at_call 121; refine (lz_any y s _ HY.out HS.out).mono ?_; rintro e w' ⟨rfl, rfl⟩)
  go_cut [15, 16] (fun s15 s16 wx => s15 = .int .u64 (d1 : Int) ∧ (∃ x : Nat, s16 = .int .u64 (x : Int)) ∧ wx = w')
  case first =>
    go_wp2_with fail
    go_loop [15, 16] (fun a b => ∃ q r : Nat, a = .int .u64 (q : Int) ∧ b = .int .u64 (r : Int) ∧ Hid (u = q * y1 + r ∧ d1 ≤ q ∧ q ≤ 4294967297 ∧ r < 4294967296)) (fun a _ => (intOf a).toNat)
    case atStart => exact ⟨q1, r1', rfl, rfl, L1⟩
    case round =>
      obtain ⟨q, r, rfl, rfl, HL⟩ := hrel
      have X := X1.out
      obtain ⟨z1, z2, w1, w2, w4, ez1, ez2⟩ := half_wraps HL.out.2.2.1 HL.out.2.2.2 X.1 X.2.1 X.2.2.2.1
      by_cases c0 : (4294967296 : Int) ≤ (q : Int)
      · clear w1 w2 w4
        obtain ⟨q', r', v1, v2, HLt, S5, S6⟩ := half_down X HL.out (Or.inl (by omega))
        have HLt := hid HLt
        have S5 := hid S5
        have S6 := hid S6
        clear X HL ez1 ez2
        by_cases hr : 4294967296 ≤ r'
        · have c2 : (4294967296 : Int) ≤ (r' : Int) := by omega
          have e := hid (S5.out hr)
          clear S5 S6 hr
          go_wp2
          go_meet
          exact ⟨by rw [e.out], ⟨r', rfl⟩, rfl⟩
        · have c2 : ¬ (4294967296 : Int) ≤ (r' : Int) := by omega
          have e := hid (S6.out (by omega))
          clear S5 S6 hr
          go_wp2
          go_round
          case rel => exact ⟨q', r', rfl, rfl, e⟩
          case measure => have := HLt.out; simp [intOf]; omega
      · by_cases c1 : (z1 : Int) < (z2 : Int)
        · obtain ⟨q', r', v1, v2, HLt, S5, S6⟩ := half_down X HL.out (Or.inr (by rw [← ez1, ← ez2]; omega))
          have HLt := hid HLt
          have S5 := hid S5
          have S6 := hid S6
          clear X HL ez1 ez2
          by_cases hr : 4294967296 ≤ r'
          · have c2 : (4294967296 : Int) ≤ (r' : Int) := by omega
            have e := hid (S5.out hr)
            clear S5 S6 hr
            go_wp2
            go_meet
            exact ⟨by rw [e.out], ⟨r', rfl⟩, rfl⟩
          · have c2 : ¬ (4294967296 : Int) ≤ (r' : Int) := by omega
            have e := hid (S6.out (by omega))
            clear S5 S6 hr
            go_wp2
            go_round
            case rel => exact ⟨q', r', rfl, rfl, e⟩
            case measure => have := HLt.out; simp [intOf]; omega
        · have e := hid (half_stop X HL.out (by omega) (by rw [← ez1, ← ez2]; omega))
          clear X HL ez1 ez2
          go_wp2
          go_meet
          exact ⟨by rw [e.out], ⟨r, rfl⟩, rfl⟩
  case rest =>
    obtain ⟨rfl, ⟨x1, rfl⟩, hwc⟩ := hcut
    have hwc' := hwc.symm
    clear hwc
    subst hwc'
    go_upto_block 2 with fail
    go_cut [18, 16] (fun s18 s16 wx => s18 = .int .u64 (d2 : Int) ∧ (∃ x : Nat, s16 = .int .u64 (x : Int)) ∧ wx = w')
    case first =>
      go_wp2_with fail
      go_loop [18, 16] (fun a b => ∃ q r : Nat, a = .int .u64 (q : Int) ∧ b = .int .u64 (r : Int) ∧ Hid (r1 = q * y1 + r ∧ d2 ≤ q ∧ q ≤ 4294967297 ∧ r < 4294967296)) (fun a _ => (intOf a).toNat)
      case atStart => exact ⟨q2, r2', rfl, rfl, L2⟩
      case round =>
        obtain ⟨q, r, rfl, rfl, HL⟩ := hrel
        have X := X2.out
        obtain ⟨z1, z2, w1, w2, w4, ez1, ez2⟩ := half_wraps HL.out.2.2.1 HL.out.2.2.2 X.1 X.2.1 X.2.2.2.1
        by_cases c0 : (4294967296 : Int) ≤ (q : Int)
        · clear w1 w2 w4
          obtain ⟨q', r', v1, v2, HLt, S5, S6⟩ := half_down X HL.out (Or.inl (by omega))
          have HLt := hid HLt
          have S5 := hid S5
          have S6 := hid S6
          clear X HL ez1 ez2
          by_cases hr : 4294967296 ≤ r'
          · have c2 : (4294967296 : Int) ≤ (r' : Int) := by omega
            have e := hid (S5.out hr)
            clear S5 S6 hr
            go_wp2
            go_meet
            exact ⟨by rw [e.out], ⟨r', rfl⟩, rfl⟩
          · have c2 : ¬ (4294967296 : Int) ≤ (r' : Int) := by omega
            have e := hid (S6.out (by omega))
            clear S5 S6 hr
            go_wp2
            go_round
            case rel => exact ⟨q', r', rfl, rfl, e⟩
            case measure => have := HLt.out; simp [intOf]; omega
        · by_cases c1 : (z1 : Int) < (z2 : Int)
          · obtain ⟨q', r', v1, v2, HLt, S5, S6⟩ := half_down X HL.out (Or.inr (by rw [← ez1, ← ez2]; omega))
            have HLt := hid HLt
            have S5 := hid S5
            have S6 := hid S6
            clear X HL ez1 ez2
            by_cases hr : 4294967296 ≤ r'
            · have c2 : (4294967296 : Int) ≤ (r' : Int) := by omega
              have e := hid (S5.out hr)
              clear S5 S6 hr
              go_wp2
              go_meet
              exact ⟨by rw [e.out], ⟨r', rfl⟩, rfl⟩
            · have c2 : ¬ (4294967296 : Int) ≤ (r' : Int) := by omega
              have e := hid (S6.out (by omega))
              clear S5 S6 hr
              go_wp2
              go_round
              case rel => exact ⟨q', r', rfl, rfl, e⟩
              case measure => have := HLt.out; simp [intOf]; omega
          · have e := hid (half_stop X HL.out (by omega) (by rw [← ez1, ← ez2]; omega))
            clear X HL ez1 ez2
            go_wp2
            go_meet
            exact ⟨by rw [e.out], ⟨r, rfl⟩, rfl⟩
    case rest =>
      obtain ⟨rfl, ⟨x2, rfl⟩, hwc⟩ := hcut
      have hwc' := hwc.symm
      clear hwc
      subst hwc'
      go_wp2
      exact bodyPost_ret (v := .tuple #[.int .u64 (O1 : Int), .int .u64 (O2 : Int)]) (by simp [results, Tryd.results107, go_sem]) rfl ⟨by rw [P1.out, P2.out], Below.refl _ _⟩
theorem div64_any (hi lo y q r : Nat) (w : World) (hy : hi < y) (hl : lo < 18446744073709551616) (hY : y < 18446744073709551616) (hq : (hi * 18446744073709551616 + lo) / y = q) (hr : (hi * 18446744073709551616 + lo) % y = r) : Calls Tryd.prog 107 #[.int .u64 (hi : Int), .int .u64 (lo : Int), .int .u64 (y : Int)] w fun e w' => e = .returned (.tuple #[.int .u64 (q : Int), .int .u64 (r : Int)]) ∧ Below w.heap.size w w' := by
  subst hq; subst hr
  by_cases h0 : hi = 0
  · subst h0
    rw [Nat.zero_mul, Nat.zero_add]
    exact div64_none lo y w hy hl hY
  · exact div64_some hi lo y w hy h0 hl hY
end Go.Proofs.YtikmhnlhaolbfaaDoor
namespace Go.Proofs.YtikmhnlhaolbfaaDoor
open Go.RowKit
set_option linter.unusedVariables false

theorem Env.hd {w w' : World} {l : List (Nat × Nat)} {g x : Nat} (h : Env w ((g, x) :: l) w') : (w'.cell? ⟨g, 0, none⟩ = some (.int .u64 (wd x 0 : Int)) ∧ w'.cell? ⟨g, 1, none⟩ = some (.int .u64 (wd x 1 : Int)) ∧ w'.cell? ⟨g, 2, none⟩ = some (.int .u64 (wd x 2 : Int)) ∧ w'.cell? ⟨g, 3, none⟩ = some (.int .u64 (wd x 3 : Int))) ∧ (∀ i, w'.frozen? ⟨g, i, none⟩ = false) ∧ g < w'.heap.size ∧ g ≠ w'.heap.size :=
  ⟨h.cell g x (by simp), h.frozen g x (by simp), h.lt g x (by simp), Nat.ne_of_lt (h.lt g x (by simp))⟩
theorem Env.tl {w w' : World} {l : List (Nat × Nat)} {g x : Nat} (h : Env w ((g, x) :: l) w') : Env w l w' := h.perm (by intro p hp; simp [hp])
/-- a block that none of these is, made since -/
def Fsh (w : World) (l : List (Nat × Nat)) (g : Nat) : Prop := w.heap.size ≤ g ∧ ∀ p ∈ l, p.1 ≠ g
theorem Env.fresh {w w' : World} {l : List (Nat × Nat)} (h : Env w l w') : Fsh w l w'.heap.size := ⟨h.1.size, fun p hp => Nat.ne_of_lt (h.2 p hp).lt⟩
theorem Fsh.ne {w : World} {l : List (Nat × Nat)} {g g' x : Nat} (h : Fsh w ((g, x) :: l) g') : g ≠ g' ∧ (g = g') = False ∧ (g' = g) = False := by
  have := h.2 (g, x) (by simp)
  exact ⟨this, eq_false this, eq_false (Ne.symm this)⟩
theorem Env.setHd {w w' : World} {l : List (Nat × Nat)} {g x : Nat} (h : Env w ((g, x) :: l) w') (hf : Fsh w l g) (y : Nat) : Env w ((g, y) :: l) (fil w' g y) :=
  h.set g x y l (by simp) hf.1 (fun p hp => ⟨by simp [hp], hf.2 p hp⟩)
theorem Env.setHd2 {w w' : World} {l : List (Nat × Nat)} {g1 g2 x1 x2 : Nat} (h : Env w ((g2, x2) :: (g1, x1) :: l) w') (hf2 : Fsh w l g1) (hf : Fsh w ((g1, x1) :: l) g2) (y1 y2 : Nat) : Env w ((g1, y1) :: (g2, y2) :: l) (fil (fil w' g1 y1) g2 y2) ∧ Env w ((g1, y1) :: (g2, y2) :: l) (fil (fil w' g2 y2) g1 y1) := by
  have hne := hf.ne.1
  constructor
  · have h1 := h.set g1 x1 y1 ((g2, x2) :: l) (by simp) hf2.1 (fun p hp => by
      rcases List.mem_cons.1 hp with rfl | hp
      · exact ⟨by simp, Ne.symm hne⟩
      · exact ⟨by simp [hp], hf2.2 p hp⟩)
    exact (h1.set g2 x2 y2 ((g1, y1) :: l) (by simp) hf.1 (fun p hp => by
      rcases List.mem_cons.1 hp with rfl | hp
      · exact ⟨by simp, hne⟩
      · exact ⟨by simp [hp], hf.2 p (by simp [hp])⟩)).perm (by intro p hp; simp only [List.mem_cons] at hp ⊢; rcases hp with h | h | h <;> simp [h])
  · have h1 := h.setHd hf y2
    exact h1.set g1 x1 y1 ((g2, y2) :: l) (by simp) hf2.1 (fun p hp => by
      rcases List.mem_cons.1 hp with rfl | hp
      · exact ⟨by simp, Ne.symm hne⟩
      · exact ⟨by simp [hp], hf2.2 p hp⟩)
theorem Env.fresh2 {w w' : World} {l : List (Nat × Nat)} (h : Env w l w') (x : Nat) : Fsh w ((w'.heap.size, x) :: l) (w'.heap.size + 1) :=
  ⟨Nat.le_succ_of_le h.1.size, fun p hp => by
    rcases List.mem_cons.1 hp with rfl | hp
    · exact Nat.ne_of_lt (Nat.lt_succ_self _)
    · exact Nat.ne_of_lt (Nat.lt_succ_of_lt (h.2 p hp).lt)⟩
theorem Env.dr {w w' : World} {l : List (Nat × Nat)} (h : Env w l w') : Env w l w'.drew := h.drew
end Go.Proofs.YtikmhnlhaolbfaaDoor
namespace Go.Proofs.YtikmhnlhaolbfaaDoor
open Go.RowKit
set_option linter.unusedVariables false

theorem rwd_one {p : Nat} (h : p < 18446744073709551616) : wd p 0 = p := by
  unfold wd; rw [Nat.pow_zero, Nat.div_one, Nat.mod_eq_of_lt h]
set_option maxRecDepth 100000 in
set_option maxHeartbeats 4000000 in
theorem rword_yes (a : Nat) (w : World) (ha : a < 2 ^ 256) (h : a < 18446744073709551616) : Calls Tryd.prog 60 #[num a] w fun e w' => e = .returned (.bool true) ∧ Below w.heap.size w w' := by
  have hw := wd_lt a 0
  have e : wd a 0 = a := rwd_one h
  have q1 := eq_yes a (wd a 0) e.symm
  have HW := hid hw
  clear hw ha h e
  have H0 := hid (((Env.refl w).new a).perm (l' := [(w.heap.size, a)]) (by simp))
  go_enter Tryd.func60, Tryd.ntmps60
  go_wp2_with fail
  generalize w.alloc (.cells (cls a) 24) = w0 at *
  generalize hzg_a : w.heap.size = g_a at *
  go_upto_region 1 with fail
  have hs := H0.out.drew
  refine wp_region_noPanic ?_
  refine Goes.region (fun (L : Array Bool) (w' : World) => w'.cell? ⟨g_a, 0, none⟩ = some (.int .u64 (wd (a) 0 : Int)) ∧ w'.cell? ⟨g_a, 1, none⟩ = some (.int .u64 (wd (a) 1 : Int)) ∧ w'.cell? ⟨g_a, 2, none⟩ = some (.int .u64 (wd (a) 2 : Int)) ∧ w'.cell? ⟨g_a, 3, none⟩ = some (.int .u64 (wd (a) 3 : Int))) (by kernel_rfl) ?_
  generalize w0.drew = wdr at *
  have hJJ := hid (And.intro (Env.cell hs g_a (a) (by simp)).1 (And.intro (Env.cell hs g_a (a) (by simp)).2.1 (And.intro (Env.cell hs g_a (a) (by simp)).2.2.1 (Env.cell hs g_a (a) (by simp)).2.2.2)))
  refine Goes.tk (i := 0) (o := ⟨some 3, _, _, _, _, _⟩) (v := ?_) [] (y := Or.inl ⟨by rfl, ?_⟩) (s := hJJ.out) (H := ?_)
  rotate_left
  · rintro w ⟨up, -, hX⟩; (try dsimp only at hX); obtain ⟨x0, x1, x2, x3⟩ := hX; go_simp; try with_reducible rfl
  try simp only [putz]
  refine Goes.tk (i := 1) (o := ⟨some 4, _, _, _, _, _⟩) (v := ?_) [] (y := Or.inl ⟨by rfl, ?_⟩) (s := hJJ.out) (H := ?_)
  rotate_left
  · rintro w ⟨up, -, hX⟩; (try dsimp only at hX); obtain ⟨x0, x1, x2, x3⟩ := hX; go_simp; try with_reducible rfl
  try simp only [putz]
  refine Goes.tk (i := 2) (o := ⟨some 5, _, _, _, _, _⟩) (v := ?_) [] (y := Or.inl ⟨by rfl, ?_⟩) (s := hJJ.out) (H := ?_)
  rotate_left
  · rintro w ⟨up, -, hX⟩; (try dsimp only at hX); obtain ⟨x0, x1, x2, x3⟩ := hX; go_simp; try with_reducible rfl
  try simp only [putz]
  clear hJJ
  refine Goes.one (i := 3) (o := ⟨some 6, _, _, _, _, _⟩) (by kernel_rfl) rfl (fun K hK => ?_)
  go_simp
  with_reducible refine (env_of (rof_any (wd a 0) _ HW.out) hs).mono ?_
  rintro e wn1 ⟨rfl, hs1⟩
  go_wp2_with fail
  refine hK.out _ _ (⟨(Env.cell hs1 g_a (a) (by simp)).1, (Env.cell hs1 g_a (a) (by simp)).2.1, (Env.cell hs1 g_a (a) (by simp)).2.2.1, (Env.cell hs1 g_a (a) (by simp)).2.2.2⟩) ?_
  clear hK K
  try simp only [putz]
  clear hs
  have hs := hs1
  clear hs1
  have hJJ := hid (And.intro (Env.cell hs g_a (a) (by simp)).1 (And.intro (Env.cell hs g_a (a) (by simp)).2.1 (And.intro (Env.cell hs g_a (a) (by simp)).2.2.1 (Env.cell hs g_a (a) (by simp)).2.2.2)))
  refine Goes.tk (i := 4) (o := ⟨some 7, _, _, _, _, _⟩) (v := ?_) [] (y := Or.inl ⟨by rfl, ?_⟩) (s := hJJ.out) (H := ?_)
  rotate_left
  · intro w hY; go_simp; try with_reducible rfl
  try simp only [putz]
  refine Goes.tk (i := 5) (o := ⟨some 2, _, _, _, _, _⟩) (v := ?_) [] (y := Or.inl ⟨by rfl, ?_⟩) (s := hJJ.out) (H := ?_)
  rotate_left
  · intro w hY; go_simp; try with_reducible rfl
  try simp only [putz]
  clear hJJ
  refine Goes.done (by kernel_rfl) ?_ _
  refine NoPanic.normal ?_
  go_wp2_with fail
  exact bodyPost_ret (v := .bool true) (by simp [results, Tryd.results60, go_sem]) rfl ⟨rfl, hs.1⟩
set_option maxRecDepth 100000 in
set_option maxHeartbeats 4000000 in
theorem rword_no (a : Nat) (w : World) (ha : a < 2 ^ 256) (h : 18446744073709551616 ≤ a) : Calls Tryd.prog 60 #[num a] w fun e w' => e = .returned (.bool false) ∧ Below w.heap.size w w' := by
  have hw := wd_lt a 0
  have q1 := eq_no a (wd a 0) ha (Nat.lt_trans hw (by decide)) (by omega)
  have HW := hid hw
  clear hw ha h
  have H0 := hid (((Env.refl w).new a).perm (l' := [(w.heap.size, a)]) (by simp))
  go_enter Tryd.func60, Tryd.ntmps60
  go_wp2_with fail
  generalize w.alloc (.cells (cls a) 24) = w0 at *
  generalize hzg_a : w.heap.size = g_a at *
  go_upto_region 1 with fail
  have hs := H0.out.drew
  refine wp_region_noPanic ?_
  refine Goes.region (fun (L : Array Bool) (w' : World) => w'.cell? ⟨g_a, 0, none⟩ = some (.int .u64 (wd (a) 0 : Int)) ∧ w'.cell? ⟨g_a, 1, none⟩ = some (.int .u64 (wd (a) 1 : Int)) ∧ w'.cell? ⟨g_a, 2, none⟩ = some (.int .u64 (wd (a) 2 : Int)) ∧ w'.cell? ⟨g_a, 3, none⟩ = some (.int .u64 (wd (a) 3 : Int))) (by kernel_rfl) ?_
  generalize w0.drew = wdr at *
  have hJJ := hid (And.intro (Env.cell hs g_a (a) (by simp)).1 (And.intro (Env.cell hs g_a (a) (by simp)).2.1 (And.intro (Env.cell hs g_a (a) (by simp)).2.2.1 (Env.cell hs g_a (a) (by simp)).2.2.2)))
  refine Goes.tk (i := 0) (o := ⟨some 3, _, _, _, _, _⟩) (v := ?_) [] (y := Or.inl ⟨by rfl, ?_⟩) (s := hJJ.out) (H := ?_)
  rotate_left
  · rintro w ⟨up, -, hX⟩; (try dsimp only at hX); obtain ⟨x0, x1, x2, x3⟩ := hX; go_simp; try with_reducible rfl
  try simp only [putz]
  refine Goes.tk (i := 1) (o := ⟨some 4, _, _, _, _, _⟩) (v := ?_) [] (y := Or.inl ⟨by rfl, ?_⟩) (s := hJJ.out) (H := ?_)
  rotate_left
  · rintro w ⟨up, -, hX⟩; (try dsimp only at hX); obtain ⟨x0, x1, x2, x3⟩ := hX; go_simp; try with_reducible rfl
  try simp only [putz]
  refine Goes.tk (i := 2) (o := ⟨some 5, _, _, _, _, _⟩) (v := ?_) [] (y := Or.inl ⟨by rfl, ?_⟩) (s := hJJ.out) (H := ?_)
  rotate_left
  · rintro w ⟨up, -, hX⟩; (try dsimp only at hX); obtain ⟨x0, x1, x2, x3⟩ := hX; go_simp; try with_reducible rfl
  try simp only [putz]
  clear hJJ
  refine Goes.one (i := 3) (o := ⟨some 6, _, _, _, _, _⟩) (by kernel_rfl) rfl (fun K hK => ?_)
  go_simp
  with_reducible refine (env_of (rof_any (wd a 0) _ HW.out) hs).mono ?_
  rintro e wn1 ⟨rfl, hs1⟩
  go_wp2_with fail
  refine hK.out _ _ (⟨(Env.cell hs1 g_a (a) (by simp)).1, (Env.cell hs1 g_a (a) (by simp)).2.1, (Env.cell hs1 g_a (a) (by simp)).2.2.1, (Env.cell hs1 g_a (a) (by simp)).2.2.2⟩) ?_
  clear hK K
  try simp only [putz]
  clear hs
  have hs := hs1
  clear hs1
  have hJJ := hid (And.intro (Env.cell hs g_a (a) (by simp)).1 (And.intro (Env.cell hs g_a (a) (by simp)).2.1 (And.intro (Env.cell hs g_a (a) (by simp)).2.2.1 (Env.cell hs g_a (a) (by simp)).2.2.2)))
  refine Goes.tk (i := 4) (o := ⟨some 7, _, _, _, _, _⟩) (v := ?_) [] (y := Or.inl ⟨by rfl, ?_⟩) (s := hJJ.out) (H := ?_)
  rotate_left
  · intro w hY; go_simp; try with_reducible rfl
  try simp only [putz]
  refine Goes.tk (i := 5) (o := ⟨some 2, _, _, _, _, _⟩) (v := ?_) [] (y := Or.inl ⟨by rfl, ?_⟩) (s := hJJ.out) (H := ?_)
  rotate_left
  · intro w hY; go_simp; try with_reducible rfl
  try simp only [putz]
  clear hJJ
  refine Goes.done (by kernel_rfl) ?_ _
  refine NoPanic.normal ?_
  go_wp2_with fail
  exact bodyPost_ret (v := .bool false) (by simp [results, Tryd.results60, go_sem]) rfl ⟨rfl, hs.1⟩
theorem rword_any (a : Nat) (v : Bool) (w : World) (ha : a < 2 ^ 256) (hv : decide (a < 18446744073709551616) = v) : Calls Tryd.prog 60 #[num a] w fun e w' => e = .returned (.bool v) ∧ Below w.heap.size w w' := by
  subst hv
  by_cases h : a < 18446744073709551616
  · rw [decide_eq_true h]; exact rword_yes a w ha h
  · rw [decide_eq_false h]; exact rword_no a w ha (by omega)
theorem rget_at (A : Option Addr) (c n K t : Nat) (bs : List UInt8) (w : World) (hl : bs.length = n) (hr : Rd w A bs) (hc : n ≤ c) (hc2 : c ≤ 9223372036854775807) (h8 : K ≤ 8) (hk : K ≤ n) (ht : tell (bs.take K) = t) :
    Calls Tryd.prog 106 #[.slice A n c, .int .i64 (K : Int)] w (Says2 w (t : Int) 0) := by
  subst hl; subst ht; exact rget_ok A c K bs w hr hc hc2 h8 hk
set_option maxRecDepth 100000 in
set_option maxHeartbeats 4000000 in
theorem rwords_any (A : Option Addr) (c K m R : Nat) (bs : List UInt8) (w : World) (hl : bs.length = 8 * K) (hr : Rd w A bs) (hA : A = none → c = 0) (hc : bs.length ≤ c) (hc2 : c ≤ 9223372036854775807) (hK : K ≤ 1000000) (hm0 : 0 < m) (hm : m < 18446744073709551616) (hR : tell bs % m = R) :
    Calls Tryd.prog 65 #[.slice A bs.length c, .int .u64 (m : Int)] w fun e w' => e = .returned (.int .u64 (R : Int)) ∧ Below w.heap.size w w' := by
  have HR := hid hr
  have HM := hid hm
  have H0 := hid hm0
  have HC := hid hc
  have HC2 := hid hc2
  have HL := hid hl
  have HA := hid hA
  have ER0 := hid hR
  have hn : bs.length ≤ 8000000 := by omega
  obtain ⟨n, en⟩ : ∃ n, bs.length = n := ⟨_, rfl⟩
  rw [en] at hn
  have EN := hid en
  clear hr hm hm0 hc hc2 hl hA hR
  rw [en]
  clear en
  go_enter Tryd.func65, Tryd.ntmps65
  go_wp2_with fail
  go_loopw [5, 6] (fun s5 s6 wr => ∃ j p r : Nat, Hid (p = 8 * j ∧ j ≤ K) ∧ s6 = .int .i64 (p : Int) ∧ s5 = .int .u64 (r : Int) ∧ Hid (r = tell (bs.take p) % m) ∧ Hid (Below w.heap.size w wr)) (fun _ s _ => n - (intOf s).toNat)
  case atStart => exact ⟨0, 0, 0, hid ⟨rfl, by omega⟩, rfl, rfl, hid (by simp [tell]), hid (Below.refl _ _)⟩
  case round =>
    obtain ⟨j, p, r, hj, rfl, rfl, P, H⟩ := hrel
    by_cases h : j = K
    · have hpn : p = n := by have := EN.out; have := HL.out; have := hj.out; omega
      have nlt : ¬ ((p : Int) < (n : Int)) := by omega
      have PE := hid (show r = R by rw [← ER0.out, P.out, hpn, ← EN.out, List.take_length])
      clear hpn h
      go_wp2
      exact bodyPost_ret (v := .int .u64 (r : Int)) (by simp [results, Tryd.results65, go_sem]) rfl ⟨by rw [PE.out], H.out⟩
    · have hlt : p + 8 ≤ n := by have := EN.out; have := HL.out; have := hj.out; omega
      have lt1 : (p : Int) < (n : Int) := by omega
      have i1 : p ≤ n := by omega
      have i2 : (p : Int) ≤ (n : Int) := by omega
      have i3 : (0 : Int) ≤ (p : Int) := by omega
      have i5 : IntKind.i64.wrap (p : Int) = (p : Int) := IntWalk.i64_in _ (by omega)
      have i4 : IntKind.i64.wrap ((p : Int) + 8) = ((p + 8 : Nat) : Int) := by rw [IntWalk.i64_in _ (by omega)]; omega
      have hlB : p < bs.length := by have := EN.out; omega
      obtain ⟨g, o, hAe, hg, hcell⟩ := HR.out (by omega)
      have hcut : Hid (Rd w (some ⟨g, o + p, none⟩) (bs.drop p)) := hid (HR.out.cut p _ (fun ad had _ => by rw [hAe] at had; injection had with had; subst had; rw [add_plain]))
      have hl8 : ((bs.drop p).take 8).length = 8 := by simp; have := EN.out; omega
      have HT := hid (show tell (bs.take (p + 8)) = tell (bs.take p) * 18446744073709551616 + tell ((bs.drop p).take 8) by
        have e : bs.take (p + 8) = bs.take p ++ (bs.drop p).take 8 := by rw [List.take_add]
        rw [e, tell_append, hl8])
      have RL := hid (show r < m by rw [P.out]; exact Nat.mod_lt _ H0.out)
      obtain ⟨t, et⟩ : ∃ t, tell ((bs.drop p).take 8) = t := ⟨_, rfl⟩
      have TL := hid (show t < 18446744073709551616 by
        have := tell_lt ((bs.drop p).take 8)
        rw [hl8, et] at this; exact this)
      obtain ⟨r', er⟩ : ∃ z, (r * 18446744073709551616 + t) % m = z := ⟨_, rfl⟩
      have ER := hid er
      have P2 := hid (show r' = tell (bs.take (p + 8)) % m by rw [HT.out, et, ← er, P.out, Nat.add_mod, Nat.mod_mul_mod, ← Nat.add_mod])
      have ET := hid et
      have HDL : Hid (((bs.drop p).length : Nat) = n - p) := hid (by simp; rw [EN.out])
      have HQ : Hid (p + 8 = 8 * (j + 1) ∧ j + 1 ≤ K) := hid (by have := hj.out; omega)
      have hcn : Hid (n ≤ c) := hid (by have := HC.out; rw [EN.out] at this; exact this)
      subst hAe
      have hcp : ¬ c = p := by have := hcn.out; omega
      have hcp2 : c - p ≤ 9223372036854775807 ∧ n - p ≤ c - p ∧ 8 ≤ n - p := by have := hcn.out; have := HC2.out; omega
      have HCP := hid hcp2
      clear er et hcell hl8 hlB h hcp2
      go_wp2_with fail
      refine (rget_at (some ⟨g, o + p, none⟩) (c - p) (n - p) 8 t (bs.drop p) wr HDL.out (hcut.out.below H.out (Nat.le_refl _)) HCP.out.2.1 HCP.out.1 (by omega) HCP.out.2.2 ET.out).mono ?_
      rintro e w1 ⟨rfl, q, rfl⟩
      have H1 := hid (below_drewN H.out q)
      go_wp2_with fail
      refine (div64_any r t m _ r' _ (Nat.lt_of_lt_of_le RL.out (Nat.le_refl _)) TL.out HM.out rfl ER.out).mono ?_
      rintro e w2 ⟨rfl, hb⟩
      have H2 := hid (H1.out.trans (hb.mono H1.out.size))
      go_wp2_with fail
      go_roundw
      case measure => simp [intOf]; omega
      case rel => exact ⟨j + 1, p + 8, r', HQ, rfl, rfl, P2, H2⟩
end Go.Proofs.YtikmhnlhaolbfaaDoor

/-
  The document's own answers (burrowref01), walked: Put, PutLong, PutBytes. Conditions: sizes within 2^46.
-/
import Derived.Test.YtgpbadekahpcmaaGreatDoorRef
import Derived.Test.YtgpbadekahpcmaaGreatDoorPutBytes
namespace Go.Proofs.YtgpbadekahpcmaaGreatDoor
open Go.RowKit
set_option linter.unusedVariables false

theorem row_none (n : Nat) (ki : Int) (w : World) (hn : n < 18446744073709551616) (hk : ki ≤ 0) (h1 : -9223372036854775808 ≤ ki) : Calls Tryz.prog 26 #[.int .u64 (n : Int), .int .i64 ki] w (OutO w []) := by
  have HO := hid (p := OutO w [] (.returned (.slice none 0 0)) w) ⟨_, rfl, Ow.nil _ _, Below.refl _ _⟩
  go_enter Tryz.func26, Tryz.ntmps26
  go_wp2
  go_ret
  exact HO.out

/-- at any count -/
theorem row_at (n K : Nat) (ki : Int) (w : World) (hn : n < 18446744073709551616) (hK : K = (max ki 0).toNat) (h8 : ki ≤ 8) (h1 : -9223372036854775808 ≤ ki) : Calls Tryz.prog 26 #[.int .u64 (n : Int), .int .i64 ki] w (OutO w (be n K)) := by
  rcases (show ki ≤ 0 ∨ 0 < ki from by omega) with h | h
  · obtain rfl : K = 0 := by omega
    exact row_none n ki w hn h h1
  · exact row_any K n ki w hn (by omega) (by omega)

theorem OutO.trans {w w1 w2 : World} {bs : List UInt8} {e : Ending} (h : OutO w1 bs e w2) (hb : Below w.heap.size w w1) : OutO w bs e w2 := by
  obtain ⟨v, rfl, how, hb2⟩ := h
  refine ⟨v, rfl, ?_, hb.trans (hb2.mono hb.size)⟩
  refine ⟨how.1, ?_⟩
  rcases how.2 with h | ⟨g, cap, cur, h1, h2, h3⟩
  · exact .inl h
  · exact .inr ⟨g, cap, cur, h1, Nat.le_trans hb.size h2, h3⟩

set_option maxRecDepth 100000 in
theorem rput_any (A : Option Addr) (c n K : Nat) (k : Int) (bs : List UInt8) (w : World) (hr : Rd w A bs) (hA : A = none → c = 0) (hn : bs.length ≤ 140737488351232) (hx : n < 18446744073709551616) (hK : K = (min (max k 0) 8).toNat) (h1 : -9223372036854775808 ≤ k) :
    Calls Tryz.prog 11 #[.slice A bs.length c, .int .u64 (n : Int), .int .i64 k] w (OutO w (bs ++ be n K)) := by
  have HK := hid hK
  clear hK
  rcases (show k ≤ 8 ∨ 8 < k from by omega) with h | h
  · go_enter Tryz.func11, Tryz.ntmps11
    go_wp2_with fail
    refine (row_at n K _ w hx (by have := HK.out; omega) (by omega) (by omega)).mono ?_
    rintro e w1 ⟨v1, rfl, how1, hb1⟩
    obtain ⟨B, d, rfl, hd1, hd2, hrB, hB0⟩ := how1.form
    rw [be_length] at hd1 ⊢
    have HR := hid (hr.below hb1 (Nat.le_refl _))
    have HRB := hid hrB
    clear how1 hrB
    have hK8 : K ≤ 8 := by have := HK.out; omega
    go_wp2_with fail
    refine (behind_any A B c d bs (be n K) bs.length K rfl (be_length _ _) w1 HR.out HRB.out hA hB0 (by omega)).mono ?_
    intro e w2 ho
    have HO := hid (ho.trans hb1)
    clear ho
    obtain ⟨v2, rfl, how2, hb2⟩ := HO.out
    clear how2 hb2
    go_wp2
    go_ret
    exact HO.out
  · go_enter Tryz.func11, Tryz.ntmps11
    go_wp2_with fail
    refine (row_at n K _ w hx (by have := HK.out; omega) (by omega) (by omega)).mono ?_
    rintro e w1 ⟨v1, rfl, how1, hb1⟩
    obtain ⟨B, d, rfl, hd1, hd2, hrB, hB0⟩ := how1.form
    rw [be_length] at hd1 ⊢
    have HR := hid (hr.below hb1 (Nat.le_refl _))
    have HRB := hid hrB
    clear how1 hrB
    have hK8 : K ≤ 8 := by have := HK.out; omega
    go_wp2_with fail
    refine (behind_any A B c d bs (be n K) bs.length K rfl (be_length _ _) w1 HR.out HRB.out hA hB0 (by omega)).mono ?_
    intro e w2 ho
    have HO := hid (ho.trans hb1)
    clear ho
    obtain ⟨v2, rfl, how2, hb2⟩ := HO.out
    clear how2 hb2
    go_wp2
    go_ret
    exact HO.out
set_option maxRecDepth 100000 in
theorem rputBytes_any (A B : Option Addr) (c d : Nat) (bs ls : List UInt8) (w : World) (hr : Rd w A bs) (hl : Rd w B ls) (hA : A = none → c = 0) (hB : B = none → d = 0) (hn : bs.length ≤ 35184372088832) (hm : ls.length ≤ 35184372088832) :
    Calls Tryz.prog 13 #[.slice A bs.length c, .slice B ls.length d] w (OutO w (bs ++ (be ls.length 4 ++ ls))) := by
  go_enter Tryz.func13, Tryz.ntmps13
  go_wp2_with fail
  refine (row_at ls.length 4 _ w (by omega) rfl (by omega) (by omega)).mono ?_
  rintro e w1 ⟨v1, rfl, how1, hb1⟩
  obtain ⟨B1, d1, rfl, hd1, hd2, hrB, hB0⟩ := how1.form
  rw [be_length] at hd1 ⊢
  have HR := hid (hr.below hb1 (Nat.le_refl _))
  have HL := hid (hl.below hb1 (Nat.le_refl _))
  have HRB := hid hrB
  clear how1 hrB
  go_wp2_with fail
  refine (behind_any B1 B d1 d (be ls.length 4) ls 4 ls.length (be_length _ _) rfl w1 HRB.out HL.out hB0 hB (by omega)).mono ?_
  rintro e w2 ⟨v2, rfl, how2, hb2⟩
  have hb12 := hb1.trans (hb2.mono hb1.size)
  obtain ⟨B2, d2, rfl, hd21, hd22, hrB2, hB20⟩ := how2.form
  rw [List.length_append, be_length] at hd21 ⊢
  have HR2 := hid (HR.out.below hb2 (Nat.le_refl _))
  have HRB2 := hid hrB2
  clear how2 hrB2
  go_wp2_with fail
  refine (behind_any A B2 c d2 bs (be ls.length 4 ++ ls) bs.length (4 + ls.length) rfl (by simp [be_length]) w2 HR2.out HRB2.out hA hB20 (by omega)).mono ?_
  intro e w3 ho
  have HO := hid (ho.trans hb12)
  clear ho
  obtain ⟨v3, rfl, how3, hb3⟩ := HO.out
  clear how3 hb3
  go_wp2
  go_ret
  exact HO.out
end Go.Proofs.YtgpbadekahpcmaaGreatDoor

/-
  The document's own answers (burrowref01), walked: Put, PutLong, PutBytes. Conditions: sizes within 2^46.
  The document's lown PutLong (burrowref01), walked. Condition: no more than 2^46 bytes came in.
-/
import Derived.Test.YtgmnpkgnedngjaaDoorRef
import Derived.Test.YtgmnpkgnedngjaaDoorPkI
namespace Go.Proofs.YtgmnpkgnedngjaaDoor
open Go.RowKit
set_option linter.unusedVariables false

theorem row_none (n : Nat) (ki : Int) (w : World) (hn : n < 18446744073709551616) (hk : ki ≤ 0) (h1 : -9223372036854775808 ≤ ki) : Calls Tryd.prog 33 #[.int .u64 (n : Int), .int .i64 ki] w (OutO w []) := by
  have HO := hid (p := OutO w [] (.returned (.slice none 0 0)) w) ⟨_, rfl, Ow.nil _ _, Below.refl _ _⟩
  go_enter Tryd.func33, Tryd.ntmps33
  go_wp2
  go_ret
  exact HO.out

/-- at any count -/
theorem row_at (n K : Nat) (ki : Int) (w : World) (hn : n < 18446744073709551616) (hK : K = (max ki 0).toNat) (h8 : ki ≤ 8) (h1 : -9223372036854775808 ≤ ki) : Calls Tryd.prog 33 #[.int .u64 (n : Int), .int .i64 ki] w (OutO w (be n K)) := by
  rcases (show ki ≤ 0 ∨ 0 < ki from by omega) with h | h
  · obtain rfl : K = 0 := by omega
    exact row_none n ki w hn h h1
  · exact row_any K n ki w hn (by omega) (by omega)

theorem OutO.trans {w w1 w2 : World} {bs : List UInt8} {e : Ending} (h : OutO w1 bs e w2) (hb : Below w.heap.size w w1) : OutO w bs e w2 := by
  obtain ⟨v, rfl, how, hb2⟩ := h
  refine ⟨v, rfl, ?_, hb.trans (hb2.mono hb.size)⟩
  refine ⟨how.1, ?_⟩
  rcases how.2 with h | ⟨g, cap, cur, h1, h2, h3⟩
  · exact .inl h
  · exact .inr ⟨g, cap, cur, h1, Nat.le_trans hb.size h2, h3⟩

set_option maxRecDepth 100000 in
theorem rput_any (A : Option Addr) (c n K : Nat) (k : Int) (bs : List UInt8) (w : World) (hr : Rd w A bs) (hA : A = none → c = 0) (hn : bs.length ≤ 140737488351232) (hx : n < 18446744073709551616) (hK : K = (min (max k 0) 8).toNat) (h1 : -9223372036854775808 ≤ k) :
    Calls Tryd.prog 43 #[.slice A bs.length c, .int .u64 (n : Int), .int .i64 k] w (OutO w (bs ++ be n K)) := by
  have HK := hid hK
  clear hK
  rcases (show k ≤ 8 ∨ 8 < k from by omega) with h | h
  · go_enter Tryd.func43, Tryd.ntmps43
    go_wp2_with fail
    refine (row_at n K _ w hx (by have := HK.out; omega) (by omega) (by omega)).mono ?_
    rintro e w1 ⟨v1, rfl, how1, hb1⟩
    obtain ⟨B, d, rfl, hd1, hd2, hrB, hB0⟩ := how1.form
    rw [be_length] at hd1 ⊢
    have HR := hid (hr.below hb1 (Nat.le_refl _))
    have HRB := hid hrB
    clear how1 hrB
    have hK8 : K ≤ 8 := by have := HK.out; omega
    go_wp2_with fail
    refine (behind_any A B c d bs (be n K) bs.length K rfl (be_length _ _) w1 HR.out HRB.out hA hB0 (by omega)).mono ?_
    intro e w2 ho
    have HO := hid (ho.trans hb1)
    clear ho
    obtain ⟨v2, rfl, how2, hb2⟩ := HO.out
    clear how2 hb2
    go_wp2
    go_ret
    exact HO.out
  · go_enter Tryd.func43, Tryd.ntmps43
    go_wp2_with fail
    refine (row_at n K _ w hx (by have := HK.out; omega) (by omega) (by omega)).mono ?_
    rintro e w1 ⟨v1, rfl, how1, hb1⟩
    obtain ⟨B, d, rfl, hd1, hd2, hrB, hB0⟩ := how1.form
    rw [be_length] at hd1 ⊢
    have HR := hid (hr.below hb1 (Nat.le_refl _))
    have HRB := hid hrB
    clear how1 hrB
    have hK8 : K ≤ 8 := by have := HK.out; omega
    go_wp2_with fail
    refine (behind_any A B c d bs (be n K) bs.length K rfl (be_length _ _) w1 HR.out HRB.out hA hB0 (by omega)).mono ?_
    intro e w2 ho
    have HO := hid (ho.trans hb1)
    clear ho
    obtain ⟨v2, rfl, how2, hb2⟩ := HO.out
    clear how2 hb2
    go_wp2
    go_ret
    exact HO.out
set_option maxRecDepth 100000 in
theorem rputBytes_any (A B : Option Addr) (c d : Nat) (bs ls : List UInt8) (w : World) (hr : Rd w A bs) (hl : Rd w B ls) (hA : A = none → c = 0) (hB : B = none → d = 0) (hn : bs.length ≤ 35184372088832) (hm : ls.length ≤ 35184372088832) :
    Calls Tryd.prog 42 #[.slice A bs.length c, .slice B ls.length d] w (OutO w (bs ++ (be ls.length 4 ++ ls))) := by
  go_enter Tryd.func42, Tryd.ntmps42
  go_wp2_with fail
  refine (row_at ls.length 4 _ w (by omega) rfl (by omega) (by omega)).mono ?_
  rintro e w1 ⟨v1, rfl, how1, hb1⟩
  obtain ⟨B1, d1, rfl, hd1, hd2, hrB, hB0⟩ := how1.form
  rw [be_length] at hd1 ⊢
  have HR := hid (hr.below hb1 (Nat.le_refl _))
  have HL := hid (hl.below hb1 (Nat.le_refl _))
  have HRB := hid hrB
  clear how1 hrB
  go_wp2_with fail
  refine (behind_any B1 B d1 d (be ls.length 4) ls 4 ls.length (be_length _ _) rfl w1 HRB.out HL.out hB0 hB (by omega)).mono ?_
  rintro e w2 ⟨v2, rfl, how2, hb2⟩
  have hb12 := hb1.trans (hb2.mono hb1.size)
  obtain ⟨B2, d2, rfl, hd21, hd22, hrB2, hB20⟩ := how2.form
  rw [List.length_append, be_length] at hd21 ⊢
  have HR2 := hid (HR.out.below hb2 (Nat.le_refl _))
  have HRB2 := hid hrB2
  clear how2 hrB2
  go_wp2_with fail
  refine (behind_any A B2 c d2 bs (be ls.length 4 ++ ls) bs.length (4 + ls.length) rfl (by simp [be_length]) w2 HR2.out HRB2.out hA hB20 (by omega)).mono ?_
  intro e w3 ho
  have HO := hid (ho.trans hb12)
  clear ho
  obtain ⟨v3, rfl, how3, hb3⟩ := HO.out
  clear how3 hb3
  go_wp2
  go_ret
  exact HO.out
end Go.Proofs.YtgmnpkgnedngjaaDoor
namespace Go.Proofs.YtgmnpkgnedngjaaDoor
open Go.RowKit
set_option linter.unusedVariables false

theorem be_words' (n0 n1 n2 n3 : Nat) (h0 : n0 < 18446744073709551616) (h1 : n1 < 18446744073709551616) (h2 : n2 < 18446744073709551616) (h3 : n3 < 18446744073709551616) :
    be (wnum [n0, n1, n2, n3]) 32 = be n3 8 ++ (be n2 8 ++ (be n1 8 ++ (be n0 8 ++ []))) := by
  have p8 : (256 : Nat) ^ 8 = 18446744073709551616 := by decide
  have step : ∀ x r, x < 18446744073709551616 → be (x + 18446744073709551616 * r) 8 = be x 8 := by
    intro x r hx
    rw [← be_mod, ← be_mod x 8, p8]
    congr 1
    omega
  have cut : ∀ x r k, x < 18446744073709551616 → be (x + 18446744073709551616 * r) (k + 8) = be r k ++ be x 8 := by
    intro x r k hx
    rw [be_add, step x r hx, p8]
    congr 2
    omega
  simp only [wnum]
  rw [show (32 : Nat) = 24 + 8 from rfl, cut _ _ _ h0, show (24 : Nat) = 16 + 8 from rfl, cut _ _ _ h1, show (16 : Nat) = 8 + 8 from rfl, cut _ _ _ h2, step _ _ h3]
  simp

set_option maxRecDepth 100000 in
set_option maxHeartbeats 1600000 in
theorem rputLong_any (A : Option Addr) (c n0 n1 n2 n3 : Nat) (bs : List UInt8) (w : World) (hr : Rd w A bs) (hA : A = none → c = 0) (hn : bs.length ≤ 140737488351232)
    (h0 : n0 < 18446744073709551616) (h1 : n1 < 18446744073709551616) (h2 : n2 < 18446744073709551616) (h3 : n3 < 18446744073709551616) :
    Calls Tryd.prog 21 #[.slice A bs.length c, .agg #[.int .u64 (n0 : Int), .int .u64 (n1 : Int), .int .u64 (n2 : Int), .int .u64 (n3 : Int)]] w (OutO w (bs ++ be (wnum [n0, n1, n2, n3]) 32)) := by
  rw [be_words' n0 n1 n2 n3 h0 h1 h2 h3]
  go_enter Tryd.func21, Tryd.ntmps21
  go_wp2
  have HR0 := hid (hr.alloc (.cells #[.int .u64 (n0 : Int), .int .u64 (n1 : Int), .int .u64 (n2 : Int), .int .u64 (n3 : Int)] 24))
  have HB0 := hid ((Below.refl w.heap.size w).alloc (Nat.le_refl _) (.cells #[.int .u64 (n0 : Int), .int .u64 (n1 : Int), .int .u64 (n2 : Int), .int .u64 (n3 : Int)] 24))
  have HX0 := hid (heap_alloc_new w (.cells #[.int .u64 (n0 : Int), .int .u64 (n1 : Int), .int .u64 (n2 : Int), .int .u64 (n3 : Int)] 24))
  generalize w.alloc (.cells #[.int .u64 (n0 : Int), .int .u64 (n1 : Int), .int .u64 (n2 : Int), .int .u64 (n3 : Int)] 24) = w0 at *
  obtain ⟨gn, hgn⟩ : ∃ gn, gn = w.heap.size := ⟨_, rfl⟩
  rw [← hgn] at HX0 ⊢
  have HG := hid hgn
  clear hgn
  have HL0 := hid (Rd.nil w0 none)
  have m0 : w0.cell? ⟨gn, 0, none⟩ = some (.int .u64 (n0 : Int)) := by rw [cell_of_row _ _ _ _ 24 (0, 0) HX0.out]; rfl
  refine wp_loop_rounds 5 ?_
  rw [rounds_succ]
  go_wp2_with fail
  refine (row_any 8 n0 8 w0 h0 rfl (by omega)).mono ?_
  rintro e w1 ⟨v1, rfl, how1, hb1⟩
  have HB1 := hid (HB0.out.trans (hb1.mono HB0.out.size))
  have HX1 := hid ((hb1.block _ (lt_of_block HX0.out)).trans HX0.out)
  have HL1 := hid (HL0.out.below hb1 (Nat.le_refl _))
  have HR1 := hid (HR0.out.below hb1 (Nat.le_refl _))
  obtain ⟨B1, d1, rfl, hd1, hq1, hrB1, hB1⟩ := how1.form
  rw [be_length] at hd1 ⊢
  have HS1 := hid hrB1
  clear how1 hrB1 hb1 HB0 HX0 HL0 HR0 hd1 hq1
  go_wp2_with fail
  refine (behind_any B1 none d1 0 (be n0 8) [] 8 0 (be_length _ _) rfl w1 HS1.out HL1.out hB1 (fun _ => rfl) (by omega)).mono ?_
  rintro e w2 ⟨v2, rfl, how2, hb2⟩
  have HB2 := hid (HB1.out.trans (hb2.mono HB1.out.size))
  have HX2 := hid ((hb2.block _ (lt_of_block HX1.out)).trans HX1.out)
  have HR2 := hid (HR1.out.below hb2 (Nat.le_refl _))
  obtain ⟨L2, e2, rfl, hd2, hq2, hrL2, hN2⟩ := how2.form
  rw [show ((be n0 8 ++ []) : List UInt8).length = 8 from by simp [be_length]] at hd2 ⊢
  have HL2 := hid hrL2
  clear how2 hrL2 hb2 HB1 HX1 HL1 HR1 HS1 hd2 hq2 hB1
  have m1 : w2.cell? ⟨gn, 1, none⟩ = some (.int .u64 (n1 : Int)) := by rw [cell_of_row _ _ _ _ 24 (0, 0) HX2.out]; rfl
  go_wp2
  rw [rounds_succ]
  go_wp2_with fail
  refine (row_any 8 n1 8 w2 h1 rfl (by omega)).mono ?_
  rintro e w3 ⟨v3, rfl, how3, hb3⟩
  have HB3 := hid (HB2.out.trans (hb3.mono HB2.out.size))
  have HX3 := hid ((hb3.block _ (lt_of_block HX2.out)).trans HX2.out)
  have HL3 := hid (HL2.out.below hb3 (Nat.le_refl _))
  have HR3 := hid (HR2.out.below hb3 (Nat.le_refl _))
  obtain ⟨B3, d3, rfl, hd3, hq3, hrB3, hB3⟩ := how3.form
  rw [be_length] at hd3 ⊢
  have HS3 := hid hrB3
  clear how3 hrB3 hb3 HB2 HX2 HL2 HR2 hd3 hq3
  go_wp2_with fail
  refine (behind_any B3 L2 d3 e2 (be n1 8) (be n0 8 ++ []) 8 8 (be_length _ _) (by simp [be_length]) w3 HS3.out HL3.out hB3 hN2 (by omega)).mono ?_
  rintro e w4 ⟨v4, rfl, how4, hb4⟩
  have HB4 := hid (HB3.out.trans (hb4.mono HB3.out.size))
  have HX4 := hid ((hb4.block _ (lt_of_block HX3.out)).trans HX3.out)
  have HR4 := hid (HR3.out.below hb4 (Nat.le_refl _))
  obtain ⟨L4, e4, rfl, hd4, hq4, hrL4, hN4⟩ := how4.form
  rw [show ((be n1 8 ++ (be n0 8 ++ [])) : List UInt8).length = 16 from by simp [be_length]] at hd4 ⊢
  have HL4 := hid hrL4
  clear how4 hrL4 hb4 HB3 HX3 HL3 HR3 HS3 hd4 hq4 hB3 hN2
  have m2 : w4.cell? ⟨gn, 2, none⟩ = some (.int .u64 (n2 : Int)) := by rw [cell_of_row _ _ _ _ 24 (0, 0) HX4.out]; rfl
  go_wp2
  rw [rounds_succ]
  go_wp2_with fail
  refine (row_any 8 n2 8 w4 h2 rfl (by omega)).mono ?_
  rintro e w5 ⟨v5, rfl, how5, hb5⟩
  have HB5 := hid (HB4.out.trans (hb5.mono HB4.out.size))
  have HX5 := hid ((hb5.block _ (lt_of_block HX4.out)).trans HX4.out)
  have HL5 := hid (HL4.out.below hb5 (Nat.le_refl _))
  have HR5 := hid (HR4.out.below hb5 (Nat.le_refl _))
  obtain ⟨B5, d5, rfl, hd5, hq5, hrB5, hB5⟩ := how5.form
  rw [be_length] at hd5 ⊢
  have HS5 := hid hrB5
  clear how5 hrB5 hb5 HB4 HX4 HL4 HR4 hd5 hq5
  go_wp2_with fail
  refine (behind_any B5 L4 d5 e4 (be n2 8) (be n1 8 ++ (be n0 8 ++ [])) 8 16 (be_length _ _) (by simp [be_length]) w5 HS5.out HL5.out hB5 hN4 (by omega)).mono ?_
  rintro e w6 ⟨v6, rfl, how6, hb6⟩
  have HB6 := hid (HB5.out.trans (hb6.mono HB5.out.size))
  have HX6 := hid ((hb6.block _ (lt_of_block HX5.out)).trans HX5.out)
  have HR6 := hid (HR5.out.below hb6 (Nat.le_refl _))
  obtain ⟨L6, e6, rfl, hd6, hq6, hrL6, hN6⟩ := how6.form
  rw [show ((be n2 8 ++ (be n1 8 ++ (be n0 8 ++ []))) : List UInt8).length = 24 from by simp [be_length]] at hd6 ⊢
  have HL6 := hid hrL6
  clear how6 hrL6 hb6 HB5 HX5 HL5 HR5 HS5 hd6 hq6 hB5 hN4
  have m3 : w6.cell? ⟨gn, 3, none⟩ = some (.int .u64 (n3 : Int)) := by rw [cell_of_row _ _ _ _ 24 (0, 0) HX6.out]; rfl
  go_wp2
  rw [rounds_succ]
  go_wp2_with fail
  refine (row_any 8 n3 8 w6 h3 rfl (by omega)).mono ?_
  rintro e w7 ⟨v7, rfl, how7, hb7⟩
  have HB7 := hid (HB6.out.trans (hb7.mono HB6.out.size))
  have HX7 := hid ((hb7.block _ (lt_of_block HX6.out)).trans HX6.out)
  have HL7 := hid (HL6.out.below hb7 (Nat.le_refl _))
  have HR7 := hid (HR6.out.below hb7 (Nat.le_refl _))
  obtain ⟨B7, d7, rfl, hd7, hq7, hrB7, hB7⟩ := how7.form
  rw [be_length] at hd7 ⊢
  have HS7 := hid hrB7
  clear how7 hrB7 hb7 HB6 HX6 HL6 HR6 hd7 hq7
  go_wp2_with fail
  refine (behind_any B7 L6 d7 e6 (be n3 8) (be n2 8 ++ (be n1 8 ++ (be n0 8 ++ []))) 8 24 (be_length _ _) (by simp [be_length]) w7 HS7.out HL7.out hB7 hN6 (by omega)).mono ?_
  rintro e w8 ⟨v8, rfl, how8, hb8⟩
  have HB8 := hid (HB7.out.trans (hb8.mono HB7.out.size))
  have HX8 := hid ((hb8.block _ (lt_of_block HX7.out)).trans HX7.out)
  have HR8 := hid (HR7.out.below hb8 (Nat.le_refl _))
  obtain ⟨L8, e8, rfl, hd8, hq8, hrL8, hN8⟩ := how8.form
  rw [show ((be n3 8 ++ (be n2 8 ++ (be n1 8 ++ (be n0 8 ++ [])))) : List UInt8).length = 32 from by simp [be_length]] at hd8 ⊢
  have HL8 := hid hrL8
  clear how8 hrL8 hb8 HB7 HX7 HL7 HR7 HS7 hd8 hq8 hB7 hN6
  go_wp2
  rw [rounds_succ]
  go_wp2_with fail
  refine (behind_any A L8 c e8 bs _ bs.length 32 rfl (by simp [be_length]) w8 HR8.out HL8.out hA hN8 (by omega)).mono ?_
  intro e w9 ho
  have HO := hid (ho.trans HB8.out)
  clear ho
  obtain ⟨v9, rfl, how9, hb9⟩ := HO.out
  clear how9 hb9
  go_wp2
  go_ret
  exact HO.out
end Go.Proofs.YtgmnpkgnedngjaaDoor

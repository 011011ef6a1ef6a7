/-
  burrowlaw01.NumsWritten, walked: it answers true at every bytes, every number and every count. Condition: the slices are within the form's own reach.
-/
import Derived.Test.YtgpbadekahpcmaaGreatDoorHold
namespace Go.Proofs.YtgpbadekahpcmaaGreatDoor
open Go.RowKit
set_option linter.unusedVariables false

theorem Row.head {w : World} {g : Nat} {bs : List UInt8} {x : UInt8} (h : Row w g (bs ++ [x])) : Rd w (some ⟨g, 0, none⟩) bs := by
  have := h.rd0.take bs.length
  rwa [List.take_left] at this

theorem same_at (A B : Option Addr) (c d n m : Nat) (bs : List UInt8) (w : World) (hl : bs.length = n) (hm : bs.length = m) (ha : Rd w A bs) (hb : Rd w B bs) (hn : n ≤ 281474976710656) :
    Calls Tryz.prog 10 #[.slice A n c, .slice B m d] w fun e w' => e = .returned (.bool true) ∧ ∃ k, w' = w.drewN k := by
  subst hl; subst hm; exact same_true A B c d bs w ha hb hn

set_option maxRecDepth 100000 in
set_option maxHeartbeats 6400000 in
theorem written_any (A B : Option Addr) (c d N n0 n1 n2 n3 : Nat) (k : Int) (bs ls : List UInt8) (w : World) (ha : Rd w A bs) (hb : Rd w B ls) (hc : bs.length ≤ c) (hc2 : c ≤ 140737488355328) (hd : ls.length ≤ d) (hd2 : d ≤ 140737488355328) (hAn : A = none → c = 0) (hBn : B = none → d = 0)
    (hN : N < 18446744073709551616) (hk1 : -9223372036854775808 ≤ k) (hk2 : k ≤ 9223372036854775807) (h0 : n0 < 18446744073709551616) (h1 : n1 < 18446744073709551616) (h2 : n2 < 18446744073709551616) (h3 : n3 < 18446744073709551616) :
    Calls Tryz.prog 3 #[.slice A bs.length c, .slice B ls.length d, .agg #[.int .u64 (N : Int), .int .i64 k, .int .u64 (n0 : Int), .int .u64 (n1 : Int), .int .u64 (n2 : Int), .int .u64 (n3 : Int)]] w fun e w' => e = .returned (.bool true) ∧ Below w.heap.size w w' := by
  obtain ⟨K, hK⟩ : ∃ K, K = (min (max k 0) 8).toNat := ⟨_, rfl⟩
  have HK := hid hK
  have hK8 : K ≤ 8 := by omega
  clear hK
  go_enter Tryz.func3, Tryz.ntmps3
  go_wp2_with fail
  have hc0 : ((w.alloc (.cells #[.int .u64 (N : Int), .int .i64 k, .int .u64 (n0 : Int), .int .u64 (n1 : Int), .int .u64 (n2 : Int), .int .u64 (n3 : Int)] 27)).alloc (.cells #[.int .i64 (bs.length : Int), .int .i64 (ls.length : Int)] 3)).cell? ⟨w.heap.size + 1, 0, none⟩ = some (.int .i64 (bs.length : Int)) := by
    simp
  have hc1 : ((w.alloc (.cells #[.int .u64 (N : Int), .int .i64 k, .int .u64 (n0 : Int), .int .u64 (n1 : Int), .int .u64 (n2 : Int), .int .u64 (n3 : Int)] 27)).alloc (.cells #[.int .i64 (bs.length : Int), .int .i64 (ls.length : Int)] 3)).cell? ⟨w.heap.size + 1, 1, none⟩ = some (.int .i64 (ls.length : Int)) := by
    simp
  have C0 := hid (p := Car w w.heap.size #[.int .u64 (N : Int), .int .i64 k, .int .u64 (n0 : Int), .int .u64 (n1 : Int), .int .u64 (n2 : Int), .int .u64 (n3 : Int)] 27 [] ((w.alloc (.cells #[.int .u64 (N : Int), .int .i64 k, .int .u64 (n0 : Int), .int .u64 (n1 : Int), .int .u64 (n2 : Int), .int .u64 (n3 : Int)] 27)).alloc (.cells #[.int .i64 (bs.length : Int), .int .i64 (ls.length : Int)] 3))) (Car.alloc ⟨(Below.refl _ _).alloc (Nat.le_refl _) _, heap_alloc_new _ _, Rws.nil _⟩ _)
  generalize (w.alloc (.cells #[.int .u64 (N : Int), .int .i64 k, .int .u64 (n0 : Int), .int .u64 (n1 : Int), .int .u64 (n2 : Int), .int .u64 (n3 : Int)] 27)).alloc (.cells #[.int .i64 (bs.length : Int), .int .i64 (ls.length : Int)] 3) = w0 at *
  rcases Nat.lt_or_ge 1048576 (bs.length + ls.length) with hs | hs
  · refine (beyond_yes (w.heap.size + 1) bs.length ls.length w0 hc0 hc1 hs (by omega) (by omega)).mono ?_
    rintro e w' ⟨rfl, rfl⟩
    clear hc0 hc1
    go_wp2
    go_ret
    exact ⟨rfl, C0.out.bel⟩
  · refine (beyond_no (w.heap.size + 1) bs.length ls.length w0 hc0 hc1 hs).mono ?_
    rintro e w' ⟨rfl, rfl⟩
    clear hc0 hc1
    go_wp2_with fail
    -- t
    refine (twin_any A c bs w0 (ha.below C0.out.bel (Nat.le_refl _)) (by omega)).mono ?_
    rintro e w1 ⟨rfl, HR, hb1⟩
    have C1 := hid ((C0.out.below hb1).add HR)
    have z1 : w.heap.size ≤ w0.heap.size := C0.out.bel.size
    have l1 := HR.lt
    clear C0 HR hb1
    generalize w0.heap.size = gt at *
    go_wp2_with fail
    -- u
    refine (twin_any B d ls w1 (hb.below C1.out.bel (Nat.le_refl _)) (by omega)).mono ?_
    rintro e w2 ⟨rfl, HR, hb2⟩
    have C2 := hid ((C1.out.below hb2).add HR)
    have l2 := HR.lt
    clear C1 HR hb2
    generalize w1.heap.size = gu at *
    -- x
    have zc0 := C2.out.cell 0 _ rfl
    have zc1 := C2.out.cell 1 _ rfl
    have zc2 := C2.out.cell 2 _ rfl
    have zc3 := C2.out.cell 3 _ rfl
    have zc4 := C2.out.cell 4 _ rfl
    have zc5 := C2.out.cell 5 _ rfl
    go_wp2_with fail
    clear zc0 zc1 zc2 zc3 zc4 zc5
    refine (put_any _ _ N K k bs w2 (C2.out.row.get (by simp) : Row w2 gt (bs ++ [77])).head (by omega) hN HK.out).mono ?_
    rintro e w3 ⟨rfl, HR, hb3⟩
    have C3 := hid ((C2.out.below hb3).add HR)
    have l3 := HR.lt
    clear C2 HR hb3
    generalize w2.heap.size = gx at *
    have zc0 := C3.out.cell 0 _ rfl
    have zc1 := C3.out.cell 1 _ rfl
    have zc2 := C3.out.cell 2 _ rfl
    have zc3 := C3.out.cell 3 _ rfl
    have zc4 := C3.out.cell 4 _ rfl
    have zc5 := C3.out.cell 5 _ rfl
    go_wp2_with fail
    clear zc0 zc1 zc2 zc3 zc4 zc5
    refine (putLong_any _ _ n0 n1 n2 n3 bs w3 (C3.out.row.get (by simp) : Row w3 gt (bs ++ [77])).head (by omega) h0 h1 h2 h3).mono ?_
    rintro e w4 ⟨rfl, HR, hb4⟩
    have C4 := hid ((C3.out.below hb4).add HR)
    have l4 := HR.lt
    clear C3 HR hb4
    generalize hgy : w3.heap.size + 1 = gy at *
    have l3' : gx < gy := by omega
    have HGY := hid hgy
    clear hgy
    go_wp2_with fail
    refine (putBytes_any _ _ _ _ bs ls w4 (C4.out.row.get (by simp) : Row w4 gt (bs ++ [77])).head (C4.out.row.get (by simp) : Row w4 gu (ls ++ [77])).head (by omega) (by omega)).mono ?_
    rintro e w5 ⟨rfl, HR, hb5⟩
    have C5 := hid ((C4.out.below hb5).add HR)
    have l5 := HR.lt
    clear C4 HR hb5
    generalize w4.heap.size = gw at *
    go_wp2_with fail
    refine (putBytes_any _ _ _ _ bs ls w5 (C5.out.row.get (by simp) : Row w5 gt (bs ++ [77])).head (C5.out.row.get (by simp) : Row w5 gu (ls ++ [77])).head (by omega) (by omega)).mono ?_
    rintro e w6 ⟨rfl, HR, hb6⟩
    have C6 := hid ((C5.out.below hb6).add HR)
    have l6 := HR.lt
    clear C5 HR hb6
    generalize w5.heap.size = gv at *
    have zc0 := C6.out.cell 0 _ rfl
    have zc1 := C6.out.cell 1 _ rfl
    have zc2 := C6.out.cell 2 _ rfl
    have zc3 := C6.out.cell 3 _ rfl
    have zc4 := C6.out.cell 4 _ rfl
    have zc5 := C6.out.cell 5 _ rfl
    go_wp2_with fail
    -- the document's own answers
    refine (rput_any A c N K k bs w6 (ha.below C6.out.bel (Nat.le_refl _)) hAn (by omega) hN HK.out hk1).mono ?_
    rintro e w7 ⟨v7, rfl, how, hb7⟩
    obtain ⟨R7, q7, rfl, _, _, hr7, _⟩ := how.form
    have C7 := hid (C6.out.below hb7)
    have HR7 := hid hr7
    clear C6 hb7 how hr7 zc0 zc1 zc2 zc3 zc4 zc5
    go_wp2_with fail
    refine (same_at _ _ _ _ (bs.length + K) _ (bs ++ be N K) w7 (by simp [be_length]) (by simp) (C7.out.row.get (by simp) : Row w7 gx (bs ++ be N K)).rd0 HR7.out (by omega)).mono ?_
    rintro e w8 ⟨rfl, p8, rfl⟩
    have C8 := hid (C7.out.drewN p8)
    clear C7 HR7
    generalize w7.drewN p8 = w8 at *
    have zc0 := C8.out.cell 0 _ rfl
    have zc1 := C8.out.cell 1 _ rfl
    have zc2 := C8.out.cell 2 _ rfl
    have zc3 := C8.out.cell 3 _ rfl
    have zc4 := C8.out.cell 4 _ rfl
    have zc5 := C8.out.cell 5 _ rfl
    go_wp2_with fail
    clear zc0 zc1 zc2 zc3 zc4 zc5
    refine (rputLong_any A c n0 n1 n2 n3 bs w8 (ha.below C8.out.bel (Nat.le_refl _)) hAn (by omega) h0 h1 h2 h3).mono ?_
    rintro e w9 ⟨v9, rfl, how, hb9⟩
    obtain ⟨R9, q9, rfl, _, _, hr9, _⟩ := how.form
    have C9 := hid (C8.out.below hb9)
    have HR9 := hid hr9
    clear C8 hb9 how hr9
    go_wp2_with fail
    refine (same_at _ _ _ _ (bs.length + 32) _ (bs ++ be (wnum [n0, n1, n2, n3]) 32) w9 (by simp [be_length]) (by simp) (C9.out.row.get (by simp) : Row w9 gy (bs ++ be (wnum [n0, n1, n2, n3]) 32)).rd0 HR9.out (by omega)).mono ?_
    rintro e w10 ⟨rfl, p10, rfl⟩
    have C10 := hid (C9.out.drewN p10)
    clear C9 HR9
    generalize w9.drewN p10 = w10 at *
    go_wp2_with fail
    refine (rputBytes_any A B c d bs ls w10 (ha.below C10.out.bel (Nat.le_refl _)) (hb.below C10.out.bel (Nat.le_refl _)) hAn hBn (by omega) (by omega)).mono ?_
    rintro e w11 ⟨v11, rfl, how, hb11⟩
    obtain ⟨R11, q11, rfl, _, _, hr11, _⟩ := how.form
    have C11 := hid (C10.out.below hb11)
    have HR11 := hid hr11
    clear C10 hb11 how hr11
    go_wp2_with fail
    refine (same_at _ _ _ _ (bs.length + (4 + ls.length)) _ (bs ++ (be ls.length 4 ++ ls)) w11 (by simp [be_length]) (by simp) (C11.out.row.get (by simp) : Row w11 gw (bs ++ (be ls.length 4 ++ ls))).rd0 HR11.out (by omega)).mono ?_
    rintro e w12 ⟨rfl, p12, rfl⟩
    have C12 := hid (C11.out.drewN p12)
    clear C11 HR11
    generalize w11.drewN p12 = w12 at *
    go_wp2_with fail
    refine (same_at _ _ _ _ (bs.length + (4 + ls.length)) _ (bs ++ (be ls.length 4 ++ ls)) w12 (by simp [be_length]) (by simp [be_length]) (C12.out.row.get (by simp) : Row w12 gv (bs ++ (be ls.length 4 ++ ls))).rd0 (C12.out.row.get (by simp) : Row w12 gw (bs ++ (be ls.length 4 ++ ls))).rd0 (by omega)).mono ?_
    rintro e w13 ⟨rfl, p13, rfl⟩
    have C13 := hid (C12.out.drewN p13)
    clear C12
    generalize w12.drewN p13 = w13 at *
    go_wp2_with fail
    refine (left_any A gt c bs w13 (C13.out.row.get (by simp)) (ha.below C13.out.bel (Nat.le_refl _)) (by omega)).mono ?_
    rintro e w14 ⟨rfl, p14, rfl⟩
    have C14 := hid (C13.out.drewN p14)
    clear C13
    generalize w13.drewN p14 = w14 at *
    go_wp2_with fail
    refine (left_any B gu d ls w14 (C14.out.row.get (by simp)) (hb.below C14.out.bel (Nat.le_refl _)) (by omega)).mono ?_
    rintro e w15 ⟨rfl, p15, rfl⟩
    have C15 := hid (C14.out.drewN p15)
    clear C14
    generalize w14.drewN p15 = w15 at *
    go_wp2_with fail
    change Calls _ _ _ (w15.alloc (.cells (bookCells 0 nl) 50)) _
    have hgb : gv < w15.heap.size := (C15.out.row.get (by simp) : Row w15 gv (bs ++ (be ls.length 4 ++ ls))).lt
    have B0 := hid (Bks.new w _ w15 C15.out.bel C15.out.row)
    clear C15
    generalize w15.alloc (.cells (bookCells 0 nl) 50) = u0 at *
    generalize w15.heap.size = gb at *
    refine (bytes_any (some ⟨gt, 0, none⟩) bs.length (bs.length + 1) gb 0 _ _ w u0 B0.out (by omega)).mono ?_
    rintro e u1 ⟨rfl, hB⟩
    have B1 := hid hB
    clear hB B0
    go_wp2_with fail
    refine (bytes_any (some ⟨gu, 0, none⟩) ls.length (ls.length + 1) gb 1 _ _ w u1 B1.out (by omega)).mono ?_
    rintro e u2 ⟨rfl, hB⟩
    have B2 := hid hB
    clear hB B1
    go_wp2_with fail
    refine (bytes_any (some ⟨gx, 0, none⟩) (bs.length + K) (bs.length + K) gb 2 _ _ w u2 B2.out (by omega)).mono ?_
    rintro e u3 ⟨rfl, hB⟩
    have B3 := hid hB
    clear hB B2
    go_wp2_with fail
    refine (bytes_any (some ⟨gy, 0, none⟩) (bs.length + 32) (bs.length + 32) gb 3 _ _ w u3 B3.out (by omega)).mono ?_
    rintro e u4 ⟨rfl, hB⟩
    have B4 := hid hB
    clear hB B3
    go_wp2_with fail
    refine (bytes_any (some ⟨gw, 0, none⟩) (bs.length + (4 + ls.length)) (bs.length + (4 + ls.length)) gb 4 _ _ w u4 B4.out (by omega)).mono ?_
    rintro e u5 ⟨rfl, hB⟩
    have B5 := hid hB
    clear hB B4
    go_wp2_with fail
    refine (bytes_any (some ⟨gv, 0, none⟩) (bs.length + (4 + ls.length)) (bs.length + (4 + ls.length)) gb 5 _ _ w u5 B5.out (by omega)).mono ?_
    rintro e u6 ⟨rfl, hB⟩
    have B6 := hid hB
    clear hB B5
    go_wp2_with fail
    have BF := hid (p := Bks w gb ([⟨some gt, bs.length, (bs.length + 1)⟩, ⟨some gu, ls.length, (ls.length + 1)⟩, ⟨some gx, (bs.length + K), (bs.length + K)⟩, ⟨some gy, (bs.length + 32), (bs.length + 32)⟩, ⟨some gw, (bs.length + (4 + ls.length)), (bs.length + (4 + ls.length))⟩, ⟨some gv, (bs.length + (4 + ls.length)), (bs.length + (4 + ls.length))⟩] : List It).length (flat [⟨some gt, bs.length, (bs.length + 1)⟩, ⟨some gu, ls.length, (ls.length + 1)⟩, ⟨some gx, (bs.length + K), (bs.length + K)⟩, ⟨some gy, (bs.length + 32), (bs.length + 32)⟩, ⟨some gw, (bs.length + (4 + ls.length)), (bs.length + (4 + ls.length))⟩, ⟨some gv, (bs.length + (4 + ls.length)), (bs.length + (4 + ls.length))⟩] fun _ => (none, 0, 0)) [(gv, bs ++ (be ls.length 4 ++ ls)), (gw, bs ++ (be ls.length 4 ++ ls)), (gy, bs ++ be (wnum [n0, n1, n2, n3]) 32), (gx, bs ++ be N K), (gu, ls ++ [77]), (gt, bs ++ [77])] u6) (by
      have := B6.out
      exact this)
    clear B6
    refine (apart_end w u6 gb [⟨some gt, bs.length, (bs.length + 1)⟩, ⟨some gu, ls.length, (ls.length + 1)⟩, ⟨some gx, (bs.length + K), (bs.length + K)⟩, ⟨some gy, (bs.length + 32), (bs.length + 32)⟩, ⟨some gw, (bs.length + (4 + ls.length)), (bs.length + (4 + ls.length))⟩, ⟨some gv, (bs.length + (4 + ls.length)), (bs.length + (4 + ls.length))⟩] [(gv, bs ++ (be ls.length 4 ++ ls)), (gw, bs ++ (be ls.length 4 ++ ls)), (gy, bs ++ be (wnum [n0, n1, n2, n3]) 32), (gx, bs ++ be N K), (gu, ls ++ [77]), (gt, bs ++ [77])] (by simp) (by simp) BF.out ?_ ?_).mono ?_
    · intro i g n c hi
      match i, hi with
      | 0, hi => simp at hi; obtain ⟨rfl, rfl, rfl⟩ := hi; exact ⟨bs ++ [77], by simp, by simp, by omega, by omega, by omega⟩
      | 1, hi => simp at hi; obtain ⟨rfl, rfl, rfl⟩ := hi; exact ⟨ls ++ [77], by simp, by simp, by omega, by omega, by omega⟩
      | 2, hi => simp at hi; obtain ⟨rfl, rfl, rfl⟩ := hi; exact ⟨bs ++ be N K, by simp, by simp [be_length], by omega, by omega, by omega⟩
      | 3, hi => simp at hi; obtain ⟨rfl, rfl, rfl⟩ := hi; exact ⟨bs ++ be (wnum [n0, n1, n2, n3]) 32, by simp, by simp [be_length], by omega, by omega, by omega⟩
      | 4, hi => simp at hi; obtain ⟨rfl, rfl, rfl⟩ := hi; exact ⟨bs ++ (be ls.length 4 ++ ls), by simp, by simp [be_length], by omega, by omega, by omega⟩
      | 5, hi => simp at hi; obtain ⟨rfl, rfl, rfl⟩ := hi; exact ⟨bs ++ (be ls.length 4 ++ ls), by simp, by simp [be_length], by omega, by omega, by omega⟩
      | i + 6, hi => simp at hi
    · intro i j g n c n' c' hi hj
      have key : ∀ (i g n c : Nat), ([⟨some gt, bs.length, (bs.length + 1)⟩, ⟨some gu, ls.length, (ls.length + 1)⟩, ⟨some gx, (bs.length + K), (bs.length + K)⟩, ⟨some gy, (bs.length + 32), (bs.length + 32)⟩, ⟨some gw, (bs.length + (4 + ls.length)), (bs.length + (4 + ls.length))⟩, ⟨some gv, (bs.length + (4 + ls.length)), (bs.length + (4 + ls.length))⟩] : List It)[i]? = some (It.mk (some g) n c) → (i = 0 ∧ g = gt) ∨ (i = 1 ∧ g = gu) ∨ (i = 2 ∧ g = gx) ∨ (i = 3 ∧ g = gy) ∨ (i = 4 ∧ g = gw) ∨ (i = 5 ∧ g = gv) := by
        intro i g n c hi
        match i, hi with
        | 0, hi => simp at hi; simp [hi.1]
        | 1, hi => simp at hi; simp [hi.1]
        | 2, hi => simp at hi; simp [hi.1]
        | 3, hi => simp at hi; simp [hi.1]
        | 4, hi => simp at hi; simp [hi.1]
        | 5, hi => simp at hi; simp [hi.1]
        | i + 6, hi => simp at hi
      have h1 := key i g n c hi
      have h2 := key j g n' c' hj
      clear key hi hj
      omega
    rintro e u7 ⟨rfl, hb7⟩
    have HB7 := hid hb7
    clear hb7 BF
    go_wp2
    go_ret
    exact ⟨rfl, HB7.out⟩
end Go.Proofs.YtgpbadekahpcmaaGreatDoor

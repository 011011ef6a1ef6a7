/-
  burrowlaw01.NumsRead, walked: it answers true at every bytes and every count. Condition: the slice is within the form's own reach.
-/
import Derived.Test.YtgpbadekahpcmaaGreatDoorBoth
import Derived.Test.YtgpbadekahpcmaaGreatDoorWritten
namespace Go.Proofs.YtgpbadekahpcmaaGreatDoor
open Go.RowKit
set_option linter.unusedVariables false

theorem Rc.four {w : World} {bx : List (Nat × Array Value)} {L : List (Nat × List UInt8)} {wk : World} (h : Rc w bx L wk) (g : Nat) (a b c d : Int) (hm : (g, #[Value.int .u64 a, .int .u64 b, .int .u64 c, .int .u64 d]) ∈ bx) :
    wk.cell? ⟨g, 0, none⟩ = some (.int .u64 a) ∧ wk.cell? ⟨g, 1, none⟩ = some (.int .u64 b) ∧ wk.cell? ⟨g, 2, none⟩ = some (.int .u64 c) ∧ wk.cell? ⟨g, 3, none⟩ = some (.int .u64 d) :=
  ⟨h.cell g _ hm 0 _ rfl, h.cell g _ hm 1 _ rfl, h.cell g _ hm 2 _ rfl, h.cell g _ hm 3 _ rfl⟩

set_option maxRecDepth 100000 in
set_option maxHeartbeats 6400000 in
theorem read_any (A : Option Addr) (c : Nat) (k : Int) (bs : List UInt8) (w : World) (ha : Rd w A bs) (hc : bs.length ≤ c) (hc2 : c ≤ 140737488355328) (hAn : A = none → c = 0) (hk1 : -9223372036854775808 ≤ k) (hk2 : k ≤ 9223372036854775807) :
    Calls Tryz.prog 4 #[.slice A bs.length c, .int .i64 k] w fun e w' => e = .returned (.bool true) ∧ Below w.heap.size w w' := by
  obtain ⟨x, y, hG⟩ := get_both bs k
  obtain ⟨l0, l1, l2, l3, l4, hLo⟩ := long_both bs
  have HG := hid hG
  have HLo := hid hLo
  clear hG hLo
  go_enter Tryz.func4, Tryz.ntmps4
  go_wp2_with fail
  have hc0 : (w.alloc (.cells #[.int .i64 (bs.length : Int)] 3)).cell? ⟨w.heap.size, 0, none⟩ = some (.int .i64 (bs.length : Int)) := by
    simp
  have C0 := hid (p := Rc w [] [] (w.alloc (.cells #[.int .i64 (bs.length : Int)] 3))) ⟨(Below.refl _ _).alloc (Nat.le_refl _) _, fun p h => (by cases h), Rws.nil _⟩
  generalize w.alloc (.cells #[.int .i64 (bs.length : Int)] 3) = w0 at *
  rcases Nat.lt_or_ge 1048576 bs.length with hs | hs
  · refine (beyond1_yes w.heap.size bs.length w0 hc0 hs (by omega)).mono ?_
    rintro e w' ⟨rfl, rfl⟩
    clear hc0
    go_wp2
    go_ret
    exact ⟨rfl, C0.out.bel⟩
  · refine (beyond1_no w.heap.size bs.length w0 hc0 hs).mono ?_
    rintro e w' ⟨rfl, rfl⟩
    clear hc0
    go_wp2_with fail
    refine (twin_any A c bs w0 (ha.below C0.out.bel (Nat.le_refl _)) (by omega)).mono ?_
    rintro e w1 ⟨rfl, HR, hb1⟩
    have C1 := hid ((C0.out.below hb1).add HR)
    have z1 : w.heap.size ≤ w0.heap.size := C0.out.bel.size
    have g1 := HR.lt
    clear C0 HR hb1
    generalize w0.heap.size = gt at *
    go_wp2_with fail
    refine (HG.out.own _ _ w1 (C1.out.row.get (by simp) : Row w1 gt (bs ++ [77])).head (by omega) (by omega)).mono ?_
    rintro e w' ⟨rfl, rfl⟩
    go_wp2_with fail
    refine (HG.out.ref A c w1 (ha.below C1.out.bel (Nat.le_refl _)) hc (by omega)).mono ?_
    rintro e w2 ⟨rfl, p2, rfl⟩
    have C2 := hid (C1.out.drewN p2)
    clear C1
    have g2 : gt < (w1.drewN p2).heap.size := g1
    generalize w1.drewN p2 = w2 at *
    go_wp2_with fail
    refine (HLo.out.own _ _ w2 (C2.out.row.get (by simp) : Row w2 gt (bs ++ [77])).head (by omega) (by omega)).mono ?_
    rintro e w3 ⟨rfl, hb3⟩
    have C3 := hid (C2.out.below hb3)
    have g3 : gt < w3.heap.size := Nat.lt_of_lt_of_le g2 hb3.size
    clear C2 hb3
    go_wp2_with fail
    have C3' := hid (C3.out.num #[.int .u64 l0, .int .u64 l1, .int .u64 l2, .int .u64 l3])
    have g3' : w3.heap.size < (w3.alloc (.cells #[.int .u64 l0, .int .u64 l1, .int .u64 l2, .int .u64 l3] 25)).heap.size := by simp
    clear C3
    generalize w3.alloc (.cells #[.int .u64 l0, .int .u64 l1, .int .u64 l2, .int .u64 l3] 25) = w4 at *
    generalize w3.heap.size = gp at *
    refine (HLo.out.ref A c w4 (ha.below C3'.out.bel (Nat.le_refl _)) hc (by omega)).mono ?_
    rintro e w5 ⟨rfl, hb5⟩
    have C5 := hid (C3'.out.below hb5)
    have g5 : gp < w5.heap.size := Nat.lt_of_lt_of_le g3' hb5.size
    clear C3' hb5
    go_wp2_with fail
    have C6 := hid (C5.out.num #[.int .u64 l0, .int .u64 l1, .int .u64 l2, .int .u64 l3])
    have g6 : w5.heap.size < (w5.alloc (.cells #[.int .u64 l0, .int .u64 l1, .int .u64 l2, .int .u64 l3] 25)).heap.size := by simp
    clear C5
    generalize w5.alloc (.cells #[.int .u64 l0, .int .u64 l1, .int .u64 l2, .int .u64 l3] 25) = w6 at *
    generalize w5.heap.size = gq at *
    rcases bytes_both bs (by omega) with hno | ⟨ls, hll, hgot⟩
    · have HN := hid hno
      clear hno
      refine (HN.out.own _ _ w6 (C6.out.row.get (by simp) : Row w6 gt (bs ++ [77])).head (by omega) (by omega)).mono ?_
      rintro e w' ⟨rfl, rfl⟩
      go_wp2_with fail
      refine (HN.out.own _ _ w6 (C6.out.row.get (by simp) : Row w6 gt (bs ++ [77])).head (by omega) (by omega)).mono ?_
      rintro e w' ⟨rfl, rfl⟩
      go_wp2_with fail
      refine (HN.out.ref A c w6 (ha.below C6.out.bel (Nat.le_refl _)) hc (by omega)).mono ?_
      rintro e w7 ⟨rfl, p7, rfl⟩
      have C7 := hid (C6.out.drewN p7)
      clear C6
      generalize w6.drewN p7 = w7 at *
      obtain ⟨c0, c1, c2, c3⟩ := C7.out.four gp l0 l1 l2 l3 (by simp)
      obtain ⟨d0, d1, d2, d3⟩ := C7.out.four gq l0 l1 l2 l3 (by simp)
      have heq := eq_num l0 l1 l2 l3 l0 l1 l2 l3 w7
      simp only [beq_self_eq_true, Bool.and_self] at heq
      go_wp2_with fail
      clear c0 c1 c2 c3 d0 d1 d2 d3 heq
      refine (same_at none none 0 0 0 0 [] w7 rfl rfl (Rd.nil _ _) (Rd.nil _ _) (by omega)).mono ?_
      rintro e w8 ⟨rfl, p8, rfl⟩
      have C8 := hid (C7.out.drewN p8)
      clear C7
      generalize w7.drewN p8 = w8 at *
      go_wp2_with fail
      refine (same_at none none 0 0 0 0 [] w8 rfl rfl (Rd.nil _ _) (Rd.nil _ _) (by omega)).mono ?_
      rintro e w9 ⟨rfl, p9, rfl⟩
      have C9 := hid (C8.out.drewN p9)
      clear C8
      generalize w8.drewN p9 = w9 at *
      go_wp2_with fail
      refine (left_any A gt c bs w9 (C9.out.row.get (by simp)) (ha.below C9.out.bel (Nat.le_refl _)) (by omega)).mono ?_
      rintro e w10 ⟨rfl, p10, rfl⟩
      have C10 := hid (C9.out.drewN p10)
      clear C9
      generalize w9.drewN p10 = w10 at *
      go_wp2_with fail
      change Calls _ _ _ (w10.alloc (.cells (bookCells 0 nl) 50)) _
      have hgb : gt < w10.heap.size := (C10.out.row.get (by simp) : Row w10 gt (bs ++ [77])).lt
      have B0 := hid (Bks.new w _ w10 C10.out.bel C10.out.row)
      clear C10
      generalize w10.alloc (.cells (bookCells 0 nl) 50) = u0 at *
      generalize w10.heap.size = gb at *
      refine (bytes_any (some ⟨gt, 0, none⟩) bs.length (bs.length + 1) gb 0 _ _ w u0 B0.out (by omega)).mono ?_
      rintro e u1 ⟨rfl, hB⟩
      have B1 := hid hB
      clear hB B0
      go_wp2_with fail
      refine (bytes_any none 0 0 gb 1 _ _ w u1 B1.out (by omega)).mono ?_
      rintro e u2 ⟨rfl, hB⟩
      have B2 := hid hB
      clear hB B1
      go_wp2_with fail
      refine (bytes_any none 0 0 gb 2 _ _ w u2 B2.out (by omega)).mono ?_
      rintro e u3 ⟨rfl, hB⟩
      have B3 := hid hB
      clear hB B2
      go_wp2_with fail
      have BF := hid (p := Bks w gb ([⟨some gt, bs.length, (bs.length + 1)⟩, ⟨none, 0, 0⟩, ⟨none, 0, 0⟩] : List It).length (flat [⟨some gt, bs.length, (bs.length + 1)⟩, ⟨none, 0, 0⟩, ⟨none, 0, 0⟩] fun _ => (none, 0, 0)) [(gt, bs ++ [77])] u3) (by
        have := B3.out
        exact this)
      clear B3
      refine (apart_end w u3 gb [⟨some gt, bs.length, (bs.length + 1)⟩, ⟨none, 0, 0⟩, ⟨none, 0, 0⟩] [(gt, bs ++ [77])] (by simp) (by simp) BF.out ?_ ?_).mono ?_
      · intro i g n c hi
        match i, hi with
        | 0, hi => simp at hi; obtain ⟨rfl, rfl, rfl⟩ := hi; exact ⟨bs ++ [77], by simp, by simp, by omega, by omega, by omega⟩
        | 1, hi => simp at hi
        | 2, hi => simp at hi
        | i + 3, hi => simp at hi
      · intro i j g n c n' c' hi hj
        have key : ∀ (i g n c : Nat), ([⟨some gt, bs.length, (bs.length + 1)⟩, ⟨none, 0, 0⟩, ⟨none, 0, 0⟩] : List It)[i]? = some (It.mk (some g) n c) → (i = 0 ∧ g = gt) := by
          intro i g n c hi
          match i, hi with
          | 0, hi => simp at hi; simp [hi.1]
          | 1, hi => simp at hi
          | 2, hi => simp at hi
          | i + 3, hi => simp at hi
        have h1 := key i g n c hi
        have h2 := key j g n' c' hj
        clear key hi hj
        omega
      rintro e u7 ⟨rfl, hb7⟩
      have HB7 := hid hb7
      clear hb7 BF
      go_wp2
      go_ret
      exact ⟨rfl, HB7.out⟩
    · have HN := hid hgot
      clear hgot
      refine (HN.out.own _ _ w6 (C6.out.row.get (by simp) : Row w6 gt (bs ++ [77])).head (by omega) (by omega)).mono ?_
      rintro e v1 ⟨rfl, HR, hb⟩
      have D1 := hid ((C6.out.below hb).add HR)
      have x1 : gt < w6.heap.size := (C6.out.row.get (by simp) : Row w6 gt (bs ++ [77])).lt
      have x2 := HR.lt
      clear C6 hb HR
      generalize w6.heap.size = gx at *
      go_wp2_with fail
      refine (HN.out.own _ _ v1 (D1.out.row.get (by simp) : Row v1 gt (bs ++ [77])).head (by omega) (by omega)).mono ?_
      rintro e v2 ⟨rfl, HR, hb⟩
      have D2 := hid ((D1.out.below hb).add HR)
      have x3 := HR.lt
      clear D1 hb HR
      generalize v1.heap.size = gy at *
      go_wp2_with fail
      refine (HN.out.ref A c v2 (ha.below D2.out.bel (Nat.le_refl _)) hc (by omega)).mono ?_
      rintro e w7 ⟨R, q, rfl, hR, hb⟩
      have C7 := hid (D2.out.below hb)
      have HR := hid hR
      clear D2 hb hR
      obtain ⟨c0, c1, c2, c3⟩ := C7.out.four gp l0 l1 l2 l3 (by simp)
      obtain ⟨d0, d1, d2, d3⟩ := C7.out.four gq l0 l1 l2 l3 (by simp)
      have heq := eq_num l0 l1 l2 l3 l0 l1 l2 l3 w7
      simp only [beq_self_eq_true, Bool.and_self] at heq
      go_wp2_with fail
      clear c0 c1 c2 c3 d0 d1 d2 d3 heq
      refine (same_at _ R _ q ls.length ls.length ls w7 rfl rfl (C7.out.row.get (by simp) : Row w7 gx ls).rd0 HR.out (by omega)).mono ?_
      rintro e w8 ⟨rfl, p8, rfl⟩
      have C8 := hid (C7.out.drewN p8)
      have HR8 := hid (HR.out.drewN p8)
      clear C7 HR
      generalize w7.drewN p8 = w8 at *
      go_wp2_with fail
      refine (same_at _ R _ q ls.length ls.length ls w8 rfl rfl (C8.out.row.get (by simp) : Row w8 gy ls).rd0 HR8.out (by omega)).mono ?_
      rintro e w9 ⟨rfl, p9, rfl⟩
      have C9 := hid (C8.out.drewN p9)
      clear C8 HR8
      generalize w8.drewN p9 = w9 at *
      go_wp2_with fail
      refine (left_any A gt c bs w9 (C9.out.row.get (by simp)) (ha.below C9.out.bel (Nat.le_refl _)) (by omega)).mono ?_
      rintro e w10 ⟨rfl, p10, rfl⟩
      have C10 := hid (C9.out.drewN p10)
      clear C9
      generalize w9.drewN p10 = w10 at *
      go_wp2_with fail
      change Calls _ _ _ (w10.alloc (.cells (bookCells 0 nl) 50)) _
      have hgb : gt < w10.heap.size := (C10.out.row.get (by simp) : Row w10 gt (bs ++ [77])).lt
      have B0 := hid (Bks.new w _ w10 C10.out.bel C10.out.row)
      clear C10
      generalize w10.alloc (.cells (bookCells 0 nl) 50) = u0 at *
      generalize w10.heap.size = gb at *
      refine (bytes_any (some ⟨gt, 0, none⟩) bs.length (bs.length + 1) gb 0 _ _ w u0 B0.out (by omega)).mono ?_
      rintro e u1 ⟨rfl, hB⟩
      have B1 := hid hB
      clear hB B0
      go_wp2_with fail
      refine (bytes_any (some ⟨gx, 0, none⟩) ls.length ls.length gb 1 _ _ w u1 B1.out (by omega)).mono ?_
      rintro e u2 ⟨rfl, hB⟩
      have B2 := hid hB
      clear hB B1
      go_wp2_with fail
      refine (bytes_any (some ⟨gy, 0, none⟩) ls.length ls.length gb 2 _ _ w u2 B2.out (by omega)).mono ?_
      rintro e u3 ⟨rfl, hB⟩
      have B3 := hid hB
      clear hB B2
      go_wp2_with fail
      have BF := hid (p := Bks w gb ([⟨some gt, bs.length, (bs.length + 1)⟩, ⟨some gx, ls.length, ls.length⟩, ⟨some gy, ls.length, ls.length⟩] : List It).length (flat [⟨some gt, bs.length, (bs.length + 1)⟩, ⟨some gx, ls.length, ls.length⟩, ⟨some gy, ls.length, ls.length⟩] fun _ => (none, 0, 0)) [(gy, ls), (gx, ls), (gt, bs ++ [77])] u3) (by
        have := B3.out
        exact this)
      clear B3
      refine (apart_end w u3 gb [⟨some gt, bs.length, (bs.length + 1)⟩, ⟨some gx, ls.length, ls.length⟩, ⟨some gy, ls.length, ls.length⟩] [(gy, ls), (gx, ls), (gt, bs ++ [77])] (by simp) (by simp) BF.out ?_ ?_).mono ?_
      · intro i g n c hi
        match i, hi with
        | 0, hi => simp at hi; obtain ⟨rfl, rfl, rfl⟩ := hi; exact ⟨bs ++ [77], by simp, by simp, by omega, by omega, by omega⟩
        | 1, hi => simp at hi; obtain ⟨rfl, rfl, rfl⟩ := hi; exact ⟨ls, by simp, by simp, by omega, by omega, by omega⟩
        | 2, hi => simp at hi; obtain ⟨rfl, rfl, rfl⟩ := hi; exact ⟨ls, by simp, by simp, by omega, by omega, by omega⟩
        | i + 3, hi => simp at hi
      · intro i j g n c n' c' hi hj
        have key : ∀ (i g n c : Nat), ([⟨some gt, bs.length, (bs.length + 1)⟩, ⟨some gx, ls.length, ls.length⟩, ⟨some gy, ls.length, ls.length⟩] : List It)[i]? = some (It.mk (some g) n c) → (i = 0 ∧ g = gt) ∨ (i = 1 ∧ g = gx) ∨ (i = 2 ∧ g = gy) := by
          intro i g n c hi
          match i, hi with
          | 0, hi => simp at hi; simp [hi.1]
          | 1, hi => simp at hi; simp [hi.1]
          | 2, hi => simp at hi; simp [hi.1]
          | i + 3, hi => simp at hi
        have h1 := key i g n c hi
        have h2 := key j g n' c' hj
        clear key hi hj
        omega
      rintro e u7 ⟨rfl, hb7⟩
      have HB7 := hid hb7
      clear hb7 BF
      go_wp2
      go_ret
      exact ⟨rfl, HB7.out⟩
end Go.Proofs.YtgpbadekahpcmaaGreatDoor

/-
  burrowlaw01.NumsTold, walked: it answers true at every bytes. Condition: the slices are within the form's own reach.
-/
import Derived.Test.YtgpbadekahpcmaaAlive
import Derived.Test.YtgpbadekahpcmaaSame
import Derived.Test.YtgpbadekahpcmaaAppend
namespace Go.Proofs.Ytgpbadekahpcmaa
open Go.RowKit
set_option linter.unusedVariables false

theorem or4 (x0 x1 x2 x3 : Nat) (h0 : x0 < 256) (h1 : x1 < 256) (h2 : x2 < 256) (h3 : x3 < 256) :
    bits .or .u64 (bits .or .u64 (bits .or .u64 (IntKind.u64.wrap (IntKind.u64.wrap (x0 : Int) * 16777216)) (IntKind.u64.wrap (IntKind.u64.wrap (x1 : Int) * 65536))) (IntKind.u64.wrap (IntKind.u64.wrap (x2 : Int) * 256))) (IntKind.u64.wrap (x3 : Int)) =
      ((x0 * 16777216 + x1 * 65536 + x2 * 256 + x3 : Nat) : Int) := by
  have e0 : IntKind.u64.wrap (x0 : Int) = (x0 : Int) := IntWalk.u64_in _ (by omega)
  have e1 : IntKind.u64.wrap (x1 : Int) = (x1 : Int) := IntWalk.u64_in _ (by omega)
  have e2 : IntKind.u64.wrap (x2 : Int) = (x2 : Int) := IntWalk.u64_in _ (by omega)
  have e3 : IntKind.u64.wrap (x3 : Int) = (x3 : Int) := IntWalk.u64_in _ (by omega)
  rw [e0, e1, e2, e3, IntWalk.u64_in _ (by omega), IntWalk.u64_in _ (by omega), IntWalk.u64_in _ (by omega)]
  have f0 : (x0 : Int) * 16777216 = ((x0 * 16777216 : Nat) : Int) := by omega
  have f1 : (x1 : Int) * 65536 = ((x1 * 65536 : Nat) : Int) := by omega
  have f2 : (x2 : Int) * 256 = ((x2 * 256 : Nat) : Int) := by omega
  have p24 : (2 : Nat) ^ 24 = 16777216 := by decide
  have p16 : (2 : Nat) ^ 16 = 65536 := by decide
  have p8 : (2 : Nat) ^ 8 = 256 := by decide
  have s1 : bits .or .u64 ((x0 : Int) * 16777216) ((x1 : Int) * 65536) = ((x0 * 16777216 + x1 * 65536 : Nat) : Int) := by
    have a1 := Nat.shiftLeft_add_eq_or_of_lt (b := x1 * 65536) (i := 24) (by omega) x0
    rw [Nat.shiftLeft_eq, p24] at a1
    rw [f0, f1, u64_or_nat _ _ (by omega) (by omega), a1]
  have s2 : bits .or .u64 ((x0 * 16777216 + x1 * 65536 : Nat) : Int) ((x2 : Int) * 256) = ((x0 * 16777216 + x1 * 65536 + x2 * 256 : Nat) : Int) := by
    have a2 := Nat.shiftLeft_add_eq_or_of_lt (b := x2 * 256) (i := 16) (by omega) (x0 * 256 + x1)
    have e : (x0 * 256 + x1) * 65536 = x0 * 16777216 + x1 * 65536 := by omega
    rw [Nat.shiftLeft_eq, p16, e] at a2
    rw [f2, u64_or_nat _ _ (by omega) (by omega), a2]
  have s3 : bits .or .u64 ((x0 * 16777216 + x1 * 65536 + x2 * 256 : Nat) : Int) (x3 : Int) = ((x0 * 16777216 + x1 * 65536 + x2 * 256 + x3 : Nat) : Int) := by
    have a3 := Nat.shiftLeft_add_eq_or_of_lt (b := x3) (i := 8) (by omega) (x0 * 65536 + x1 * 256 + x2)
    have e : (x0 * 65536 + x1 * 256 + x2) * 256 = x0 * 16777216 + x1 * 65536 + x2 * 256 := by omega
    rw [Nat.shiftLeft_eq, p8, e] at a3
    rw [u64_or_nat _ _ (by omega) (by omega), a3]
  rw [s1, s2, s3]

theorem tell4 (bs : List UInt8) (h : 4 ≤ bs.length) : tell (bs.take 4) = bs[0].toNat * 16777216 + bs[1].toNat * 65536 + bs[2].toNat * 256 + bs[3].toNat := by
  match bs, h with
  | a :: b :: c :: d :: r, _ => simp [tell]; omega

theorem told_own (bs ms : List UInt8) (h : bs.length ≤ 1048576) : tell (((be bs.length 4 ++ bs) ++ ms).take 4) = bs.length := by
  have e : ((be bs.length 4 ++ bs) ++ ms).take 4 = be bs.length 4 := by
    rw [List.append_assoc]
    have := List.take_left (l₁ := be bs.length 4) (l₂ := bs ++ ms)
    rw [be_length] at this
    exact this
  rw [e, tell_be]
  exact Nat.mod_eq_of_lt (Nat.lt_of_le_of_lt h (by decide))

theorem rest_own (bs ms : List UInt8) : ((((be bs.length 4 ++ bs) ++ ms).drop 4).take bs.length) = bs := by
  have e : ((be bs.length 4 ++ bs) ++ ms).drop 4 = bs ++ ms := by
    rw [List.append_assoc]
    have := List.drop_left (l₁ := be bs.length 4) (l₂ := bs ++ ms)
    rw [be_length] at this
    exact this
  rw [e, List.take_left]

theorem getBytes_at (A : Option Addr) (n c t : Nat) (bs rs : List UInt8) (w : World) (hl : bs.length = n) (ht : tell (bs.take 4) = t) (hrs : (bs.drop 4).take t = rs) (hr : Rd w A bs) (hc : n ≤ c) (hc2 : c ≤ 9223372036854775807) (h4 : 4 ≤ n) (hs : t ≤ n - 4) (hn : n ≤ 140737488355328) :
    Calls Try.prog 14 #[.slice A n c] w fun e w' => e = .returned (.tuple #[.slice (some ⟨w.heap.size, 0, none⟩) t t, .int .i64 (4 + (t : Int)), .int .i64 0]) ∧
      Row w' w.heap.size rs ∧ Below w.heap.size w w' := by
  subst hl; subst ht; subst hrs; exact getBytes_ok A c bs w hr hc hc2 h4 hs hn

theorem getBytes_less (A : Option Addr) (n c : Nat) (bs : List UInt8) (w : World) (hl : bs.length = n) (hr : Rd w A bs) (hc : n ≤ c) (hc2 : c ≤ 9223372036854775807) (hs : n < 4 ∨ (4 ≤ n ∧ n - 4 < tell (bs.take 4))) (hn : n ≤ 140737488355328) :
    Calls Try.prog 14 #[.slice A n c] w fun e w' => e = .returned (.tuple #[.slice none 0 0, .int .i64 0, .int .i64 5]) ∧ w = w' := by
  subst hl
  rcases hs with h | ⟨h4, h⟩
  · exact getBytes_head A bs.length c w h
  · exact getBytes_short A c bs w hr hc hc2 h4 h hn

theorem short_own (bs : List UInt8) (h : bs.length ≤ 1048576) : 3 + bs.length < 4 ∨ (4 ≤ 3 + bs.length ∧ 3 + bs.length - 4 < tell (((be bs.length 4 ++ bs).take (3 + bs.length)).take 4)) := by
  rcases Nat.eq_zero_or_pos bs.length with h0 | h0
  · left; omega
  · right
    refine ⟨by omega, ?_⟩
    have := told_own bs [] h
    rw [List.append_nil] at this
    rw [List.take_take, Nat.min_eq_left (by omega), this]
    omega

set_option maxRecDepth 100000 in
set_option maxHeartbeats 1600000 in
theorem toldlaw_any (A B : Option Addr) (c d : Nat) (bs ms : List UInt8) (w : World) (ha : Rd w A bs) (hb : Rd w B ms) (hc : bs.length ≤ c) (hc2 : c ≤ 140737488355328) (hd : ms.length ≤ d) (hd2 : d ≤ 140737488355328) (hBn : B = none → d = 0) :
    Calls Try.prog 6 #[.slice A bs.length c, .slice B ms.length d] w fun e w' => e = .returned (.bool true) ∧ Below w.heap.size w w' := by
  go_enter Try.func6, Try.ntmps6
  go_wp2_with fail
  refine (alive_any _).mono ?_
  rintro e w1 ⟨rfl, hb1⟩
  have HB1 := hid hb1
  clear hb1
  go_wp2_with fail
  have HB2 := hid (HB1.out.alloc HB1.out.size (.cells #[.int .i64 (bs.length : Int), .int .i64 (ms.length : Int)] 3))
  have hc0 : (w1.alloc (.cells #[.int .i64 (bs.length : Int), .int .i64 (ms.length : Int)] 3)).cell? ⟨w1.heap.size, 0, none⟩ = some (.int .i64 (bs.length : Int)) := by
    rw [cell_of_row _ _ _ _ 3 (0, 0) (heap_alloc_new w1 _)]; rfl
  have hc1 : (w1.alloc (.cells #[.int .i64 (bs.length : Int), .int .i64 (ms.length : Int)] 3)).cell? ⟨w1.heap.size, 1, none⟩ = some (.int .i64 (ms.length : Int)) := by
    rw [cell_of_row _ _ _ _ 3 (0, 0) (heap_alloc_new w1 _)]; rfl
  generalize w1.alloc (.cells #[.int .i64 (bs.length : Int), .int .i64 (ms.length : Int)] 3) = w2 at *
  generalize w1.heap.size = g2 at *
  have HA2 := hid (ha.below HB2.out (Nat.le_refl _))
  have HM2 := hid (hb.below HB2.out (Nat.le_refl _))
  clear HB1 ha hb
  rcases Nat.lt_or_ge 1048576 (bs.length + ms.length) with hs | hs
  · refine (beyond_yes g2 bs.length ms.length w2 hc0 hc1 hs (by omega) (by omega)).mono ?_
    rintro e w' ⟨rfl, rfl⟩
    clear hc0 hc1
    go_wp2_with fail
    refine (alive_any _).mono ?_
    rintro e w3 ⟨rfl, hb3⟩
    have HB3 := hid (HB2.out.trans (hb3.mono HB2.out.size))
    clear hb3
    go_wp2
    go_ret
    exact ⟨rfl, HB3.out⟩
  · refine (beyond_no g2 bs.length ms.length w2 hc0 hc1 hs).mono ?_
    rintro e w' ⟨rfl, rfl⟩
    clear hc0 hc1
    go_wp2_with fail
    rcases Nat.lt_or_ge bs.length 4 with h4 | h4
    · refine (getBytes_head A bs.length c w2 h4).mono ?_
      rintro e w' ⟨rfl, rfl⟩
      have hd4 : decide ((4 : Int) ≤ (bs.length : Int)) = false := by simp; omega
      go_wp2_with fail
      go_quiet (fail)
      have HA3 := hid (p := Rd (w2.drewN nq) A bs) HA2.out
      have HM3 := hid (p := Rd (w2.drewN nq) B ms) HM2.out
      have HB3 := hid (p := Below w.heap.size w (w2.drewN nq)) (below_drewN HB2.out nq)
      clear HA2 HM2 HB2
      go_wp2_with fail
      refine (putBytes_any none A 0 c [] bs _ (Rd.nil _ _) HA3.out (by simp) (by omega)).mono ?_
      rintro e w4 ⟨rfl, HR, hb⟩
      rw [show ([] : List UInt8).length + (4 + bs.length) = 4 + bs.length from by simp]
      have HX := hid (p := (be bs.length 4 ++ bs).length = 4 + bs.length) (by simp [be_length])
      have HR4 := hid (p := Row w4 _ (be bs.length 4 ++ bs)) HR
      have HA4 := hid (HA3.out.below hb (Nat.le_refl _))
      have HM4 := hid (HM3.out.below hb (Nat.le_refl _))
      have HB4 := hid (HB3.out.trans (hb.mono HB3.out.size))
      clear HR hb HA3 HM3 HB3
      generalize (w2.drewN nq).heap.size = gx at HR4 ⊢
      obtain ⟨v1, w5, hrun1, how1, hg1, hat1⟩ := append_bytes w4 w4.heap.size (.slice none 0 0) [] (be bs.length 4 ++ bs) (some ⟨gx, 0, none⟩) (4 + bs.length) (4 + bs.length) (Ow.nil _ _) HR4.out.rd0 HX.out (fun h => by cases h) (by simp; omega) (Nat.le_refl _)
      have hb5 : Below w4.heap.size w4 w5 := (Below.refl _ _).grown hg1 (Nat.le_refl _) (by simp [Value.ownBlock])
      have hB1 : ∀ k, v1.ownBlock = some k → w4.heap.size ≤ k := fun k hk => (World.ownsRow.lt how1 k hk).1
      obtain ⟨v2, w6, hrun2, how2, hg2, hat2⟩ := append_bytes w5 w4.heap.size v1 ([] ++ (be bs.length 4 ++ bs)) ms B ms.length d how1 (HM4.out.below hb5 (Nat.le_refl _)) rfl hBn (by simp [be_length]; omega) hb5.size
      have hb6 : Below w4.heap.size w4 w6 := hb5.grown hg2 hb5.size hB1
      obtain ⟨A6, c6, rfl, hc6, hc6', hr6⟩ := how2.form
      rw [List.nil_append] at hr6 hc6
      have HL6 := hid (p := ([] ++ (be bs.length 4 ++ bs) ++ ms).length = 4 + bs.length + ms.length) (by simp [be_length]; omega)
      rw [HL6.out] at hrun2
      rw [show (be bs.length 4 ++ bs ++ ms).length = 4 + bs.length + ms.length from by simp [be_length]; omega] at hc6
      have HN1 := hid hrun1
      have HN2 := hid hrun2
      clear hrun1 hrun2
      have HR6 := hid (HR4.out.below hb6 HR4.out.lt)
      have HA6 := hid (HA4.out.below hb6 (Nat.le_refl _))
      have HB6 := hid (HB4.out.trans (hb6.mono HB4.out.size))
      have HC6 := hid hc6
      have HD6 := hid hr6
      clear how1 hg1 hat1 hb5 hB1 how2 hg2 hat2 hb6 HA4 HM4 HB4 HR4 hr6 hc6
      have hne : ((4 + (bs.length : Int)) != (bs.length : Int) + 4) = false := by simp; omega
      go_wp2_with (first | (at_builtin; refine step_append rfl (.const (.slice none 0 0)) (.tmp 83) rfl rfl _ _ rfl rfl v1 w5 HN1.out ?_) | (at_builtin; refine step_append rfl (.tmp 84) (.tmp 85) rfl rfl _ _ rfl rfl _ w6 HN2.out ?_))
      clear hne
      refine (getBytes_at A6 (4 + bs.length + ms.length) c6 bs.length _ bs w6 (by simp [be_length]; omega) (told_own bs ms (by omega)) (rest_own bs ms) HD6.out HC6.out hc6' (by omega) (by omega) (by omega)).mono ?_
      rintro e w7 ⟨rfl, HR, hb⟩
      have HR7 := hid HR
      have HX7 := hid (HR6.out.below hb HR6.out.lt)
      have HA7 := hid (HA6.out.below hb (Nat.le_refl _))
      have HB7 := hid (HB6.out.trans (hb.mono HB6.out.size))
      clear HR hb HR6 HA6 HB6 HD6 HC6 HN1 HN2
      generalize w6.heap.size = g7 at *
      go_wp2_with fail
      have HT7 := hid ((HX7.out.rd0).take (3 + bs.length))
      refine (getBytes_less _ (3 + bs.length) (4 + bs.length) ((be bs.length 4 ++ bs).take (3 + bs.length)) w7 (by rw [List.length_take, HX.out]; omega) HT7.out (by omega) (by omega) (short_own bs (by omega)) (by omega)).mono ?_
      rintro e w' ⟨rfl, rfl⟩
      clear HX7 HT7
      go_wp2_with fail
      refine (same_true _ _ _ _ bs w7 HR7.out.rd0 HA7.out (by omega)).mono ?_
      rintro e w8 ⟨rfl, nq2, rfl⟩
      go_wp2
      go_ret
      exact ⟨rfl, below_drewN HB7.out nq2⟩
    · rcases Nat.lt_or_ge (bs.length - 4) (tell (bs.take 4)) with ht | ht
      · refine (getBytes_short A c bs w2 HA2.out hc (by omega) h4 ht (by omega)).mono ?_
        rintro e w' ⟨rfl, rfl⟩
        have hd4 : decide ((4 : Int) ≤ (bs.length : Int)) = true := by simp; omega
        obtain ⟨g, o, rfl, hg, hcell⟩ := HA2.out (by omega)
        have k0 := hcell 0 (by omega)
        rw [Nat.add_zero] at k0
        have k1 := hcell 1 (by omega)
        have k2 := hcell 2 (by omega)
        have k3 := hcell 3 (by omega)
        clear hcell
        have i0 : (0 : Int) < (bs.length : Int) := by omega
        have i1 : (1 : Int) < (bs.length : Int) := by omega
        have i2 : (2 : Int) < (bs.length : Int) := by omega
        have i3 : (3 : Int) < (bs.length : Int) := by omega
        have j0 : 0 < bs.length := by omega
        have j1 : 1 < bs.length := by omega
        have j2 : 2 < bs.length := by omega
        have j3 : 3 < bs.length := by omega
        rw [tell4 bs h4] at ht
        have x0 := bs[0].toNat_lt
        have x1 := bs[1].toNat_lt
        have x2 := bs[2].toNat_lt
        have x3 := bs[3].toNat_lt
        have HO := hid (or4 _ _ _ _ x0 x1 x2 x3)
        have HT := hid ht
        clear x0 x1 x2 x3 ht
        generalize bs[0].toNat = y0 at *
        generalize bs[1].toNat = y1 at *
        generalize bs[2].toNat = y2 at *
        generalize bs[3].toNat = y3 at *
        go_wp2_with fail
        go_quiet (fail)
        rw [HO.out]
        have hdf : decide (((y0 * 16777216 + y1 * 65536 + y2 * 256 + y3 : Nat) : Int) ≤ (bs.length : Int) - 4) = false := by
          have := HT.out
          simp only [decide_eq_false_iff_not]
          omega
        have HA3 := hid (p := Rd (w2.drewN nq) (some ⟨g, o, none⟩) bs) HA2.out
        have HM3 := hid (p := Rd (w2.drewN nq) B ms) HM2.out
        have HB3 := hid (p := Below w.heap.size w (w2.drewN nq)) (below_drewN HB2.out nq)
        clear HA2 HM2 HB2 k0 k1 k2 k3 i0 i1 i2 i3 j0 j1 j2 j3 hd4
        rw [hdf]
        clear hdf
        go_wp2_with fail
        refine (putBytes_any none (some ⟨g, o, none⟩) 0 c [] bs _ (Rd.nil _ _) HA3.out (by simp) (by omega)).mono ?_
        rintro e w4 ⟨rfl, HR, hb⟩
        rw [show ([] : List UInt8).length + (4 + bs.length) = 4 + bs.length from by simp]
        have HX := hid (p := (be bs.length 4 ++ bs).length = 4 + bs.length) (by simp [be_length])
        have HR4 := hid (p := Row w4 _ (be bs.length 4 ++ bs)) HR
        have HA4 := hid (HA3.out.below hb (Nat.le_refl _))
        have HM4 := hid (HM3.out.below hb (Nat.le_refl _))
        have HB4 := hid (HB3.out.trans (hb.mono HB3.out.size))
        clear HR hb HA3 HM3 HB3
        generalize (w2.drewN nq).heap.size = gx at HR4 ⊢
        obtain ⟨v1, w5, hrun1, how1, hg1, hat1⟩ := append_bytes w4 w4.heap.size (.slice none 0 0) [] (be bs.length 4 ++ bs) (some ⟨gx, 0, none⟩) (4 + bs.length) (4 + bs.length) (Ow.nil _ _) HR4.out.rd0 HX.out (fun h => by cases h) (by simp; omega) (Nat.le_refl _)
        have hb5 : Below w4.heap.size w4 w5 := (Below.refl _ _).grown hg1 (Nat.le_refl _) (by simp [Value.ownBlock])
        have hB1 : ∀ k, v1.ownBlock = some k → w4.heap.size ≤ k := fun k hk => (World.ownsRow.lt how1 k hk).1
        obtain ⟨v2, w6, hrun2, how2, hg2, hat2⟩ := append_bytes w5 w4.heap.size v1 ([] ++ (be bs.length 4 ++ bs)) ms B ms.length d how1 (HM4.out.below hb5 (Nat.le_refl _)) rfl hBn (by simp [be_length]; omega) hb5.size
        have hb6 : Below w4.heap.size w4 w6 := hb5.grown hg2 hb5.size hB1
        obtain ⟨A6, c6, rfl, hc6, hc6', hr6⟩ := how2.form
        rw [List.nil_append] at hr6 hc6
        have HL6 := hid (p := ([] ++ (be bs.length 4 ++ bs) ++ ms).length = 4 + bs.length + ms.length) (by simp [be_length]; omega)
        rw [HL6.out] at hrun2
        rw [show (be bs.length 4 ++ bs ++ ms).length = 4 + bs.length + ms.length from by simp [be_length]; omega] at hc6
        have HN1 := hid hrun1
        have HN2 := hid hrun2
        clear hrun1 hrun2
        have HR6 := hid (HR4.out.below hb6 HR4.out.lt)
        have HA6 := hid (HA4.out.below hb6 (Nat.le_refl _))
        have HB6 := hid (HB4.out.trans (hb6.mono HB4.out.size))
        have HC6 := hid hc6
        have HD6 := hid hr6
        clear how1 hg1 hat1 hb5 hB1 how2 hg2 hat2 hb6 HA4 HM4 HB4 HR4 hr6 hc6
        have hne : ((4 + (bs.length : Int)) != (bs.length : Int) + 4) = false := by simp; omega
        go_wp2_with (first | (at_builtin; refine step_append rfl (.const (.slice none 0 0)) (.tmp 83) rfl rfl _ _ rfl rfl v1 w5 HN1.out ?_) | (at_builtin; refine step_append rfl (.tmp 84) (.tmp 85) rfl rfl _ _ rfl rfl _ w6 HN2.out ?_))
        clear hne
        refine (getBytes_at A6 (4 + bs.length + ms.length) c6 bs.length _ bs w6 (by simp [be_length]; omega) (told_own bs ms (by omega)) (rest_own bs ms) HD6.out HC6.out hc6' (by omega) (by omega) (by omega)).mono ?_
        rintro e w7 ⟨rfl, HR, hb⟩
        have HR7 := hid HR
        have HX7 := hid (HR6.out.below hb HR6.out.lt)
        have HA7 := hid (HA6.out.below hb (Nat.le_refl _))
        have HB7 := hid (HB6.out.trans (hb.mono HB6.out.size))
        clear HR hb HR6 HA6 HB6 HD6 HC6 HN1 HN2
        generalize w6.heap.size = g7 at *
        go_wp2_with fail
        have HT7 := hid ((HX7.out.rd0).take (3 + bs.length))
        refine (getBytes_less _ (3 + bs.length) (4 + bs.length) ((be bs.length 4 ++ bs).take (3 + bs.length)) w7 (by rw [List.length_take, HX.out]; omega) HT7.out (by omega) (by omega) (short_own bs (by omega)) (by omega)).mono ?_
        rintro e w' ⟨rfl, rfl⟩
        clear HX7 HT7
        go_wp2_with fail
        refine (same_true _ _ _ _ bs w7 HR7.out.rd0 HA7.out (by omega)).mono ?_
        rintro e w8 ⟨rfl, nq2, rfl⟩
        go_wp2
        go_ret
        exact ⟨rfl, below_drewN HB7.out nq2⟩
      · refine (getBytes_ok A c bs w2 HA2.out hc (by omega) h4 ht (by omega)).mono ?_
        rintro e w3 ⟨rfl, HR, hb3⟩
        have HA2' := hid (HA2.out.below hb3 (Nat.le_refl _))
        have HM2' := hid (HM2.out.below hb3 (Nat.le_refl _))
        have HB2' := hid (HB2.out.trans (hb3.mono HB2.out.size))
        clear HA2 HM2 HB2 HR hb3 ht
        go_wp2_with fail
        go_quiet (fail)
        have HA3 := hid (p := Rd (w3.drewN nq) A bs) HA2'.out
        have HM3 := hid (p := Rd (w3.drewN nq) B ms) HM2'.out
        have HB3 := hid (p := Below w.heap.size w (w3.drewN nq)) (below_drewN HB2'.out nq)
        clear HA2' HM2' HB2'
        go_wp2_with fail
        refine (putBytes_any none A 0 c [] bs _ (Rd.nil _ _) HA3.out (by simp) (by omega)).mono ?_
        rintro e w4 ⟨rfl, HR, hb⟩
        rw [show ([] : List UInt8).length + (4 + bs.length) = 4 + bs.length from by simp]
        have HX := hid (p := (be bs.length 4 ++ bs).length = 4 + bs.length) (by simp [be_length])
        have HR4 := hid (p := Row w4 _ (be bs.length 4 ++ bs)) HR
        have HA4 := hid (HA3.out.below hb (Nat.le_refl _))
        have HM4 := hid (HM3.out.below hb (Nat.le_refl _))
        have HB4 := hid (HB3.out.trans (hb.mono HB3.out.size))
        clear HR hb HA3 HM3 HB3
        generalize (w3.drewN nq).heap.size = gx at HR4 ⊢
        obtain ⟨v1, w5, hrun1, how1, hg1, hat1⟩ := append_bytes w4 w4.heap.size (.slice none 0 0) [] (be bs.length 4 ++ bs) (some ⟨gx, 0, none⟩) (4 + bs.length) (4 + bs.length) (Ow.nil _ _) HR4.out.rd0 HX.out (fun h => by cases h) (by simp; omega) (Nat.le_refl _)
        have hb5 : Below w4.heap.size w4 w5 := (Below.refl _ _).grown hg1 (Nat.le_refl _) (by simp [Value.ownBlock])
        have hB1 : ∀ k, v1.ownBlock = some k → w4.heap.size ≤ k := fun k hk => (World.ownsRow.lt how1 k hk).1
        obtain ⟨v2, w6, hrun2, how2, hg2, hat2⟩ := append_bytes w5 w4.heap.size v1 ([] ++ (be bs.length 4 ++ bs)) ms B ms.length d how1 (HM4.out.below hb5 (Nat.le_refl _)) rfl hBn (by simp [be_length]; omega) hb5.size
        have hb6 : Below w4.heap.size w4 w6 := hb5.grown hg2 hb5.size hB1
        obtain ⟨A6, c6, rfl, hc6, hc6', hr6⟩ := how2.form
        rw [List.nil_append] at hr6 hc6
        have HL6 := hid (p := ([] ++ (be bs.length 4 ++ bs) ++ ms).length = 4 + bs.length + ms.length) (by simp [be_length]; omega)
        rw [HL6.out] at hrun2
        rw [show (be bs.length 4 ++ bs ++ ms).length = 4 + bs.length + ms.length from by simp [be_length]; omega] at hc6
        have HN1 := hid hrun1
        have HN2 := hid hrun2
        clear hrun1 hrun2
        have HR6 := hid (HR4.out.below hb6 HR4.out.lt)
        have HA6 := hid (HA4.out.below hb6 (Nat.le_refl _))
        have HB6 := hid (HB4.out.trans (hb6.mono HB4.out.size))
        have HC6 := hid hc6
        have HD6 := hid hr6
        clear how1 hg1 hat1 hb5 hB1 how2 hg2 hat2 hb6 HA4 HM4 HB4 HR4 hr6 hc6
        have hne : ((4 + (bs.length : Int)) != (bs.length : Int) + 4) = false := by simp; omega
        go_wp2_with (first | (at_builtin; refine step_append rfl (.const (.slice none 0 0)) (.tmp 83) rfl rfl _ _ rfl rfl v1 w5 HN1.out ?_) | (at_builtin; refine step_append rfl (.tmp 84) (.tmp 85) rfl rfl _ _ rfl rfl _ w6 HN2.out ?_))
        clear hne
        refine (getBytes_at A6 (4 + bs.length + ms.length) c6 bs.length _ bs w6 (by simp [be_length]; omega) (told_own bs ms (by omega)) (rest_own bs ms) HD6.out HC6.out hc6' (by omega) (by omega) (by omega)).mono ?_
        rintro e w7 ⟨rfl, HR, hb⟩
        have HR7 := hid HR
        have HX7 := hid (HR6.out.below hb HR6.out.lt)
        have HA7 := hid (HA6.out.below hb (Nat.le_refl _))
        have HB7 := hid (HB6.out.trans (hb.mono HB6.out.size))
        clear HR hb HR6 HA6 HB6 HD6 HC6 HN1 HN2
        generalize w6.heap.size = g7 at *
        go_wp2_with fail
        have HT7 := hid ((HX7.out.rd0).take (3 + bs.length))
        refine (getBytes_less _ (3 + bs.length) (4 + bs.length) ((be bs.length 4 ++ bs).take (3 + bs.length)) w7 (by rw [List.length_take, HX.out]; omega) HT7.out (by omega) (by omega) (short_own bs (by omega)) (by omega)).mono ?_
        rintro e w' ⟨rfl, rfl⟩
        clear HX7 HT7
        go_wp2_with fail
        refine (same_true _ _ _ _ bs w7 HR7.out.rd0 HA7.out (by omega)).mono ?_
        rintro e w8 ⟨rfl, nq2, rfl⟩
        go_wp2
        go_ret
        exact ⟨rfl, below_drewN HB7.out nq2⟩
end Go.Proofs.Ytgpbadekahpcmaa

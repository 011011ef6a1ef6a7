/-
  divides.Common, walked: what two have in common. Conditions: the library's table holds what its text lays.
-/
import Derived.Test.YtaggegknnnembaaDoorOdd
import Derived.Test.YtaggegknnnembaaDoorDiv
import Derived.Deep.LoopGhost
namespace Go.Proofs.YtaggegknnnembaaDoor
open Go.RowKit
set_option linter.unusedVariables false

theorem shf_up (a c : Nat) : shf a (c : Int) = a * 2 ^ c % 2 ^ 256 := by
  unfold shf
  rw [if_pos (by omega), Int.toNat_natCast]

set_option maxRecDepth 100000 in
set_option maxHeartbeats 3200000 in
theorem common_left (b : Nat) (w : World) (hb : b < 2 ^ 256) : Calls Tryd.prog 12 #[num 0, num b] w fun e w' => e = .returned (num b) ∧ Below w.heap.size w w' := by
  have q0 := eq_none_yes
  clear hb
  go_enter Tryd.func12, Tryd.ntmps12
  go_wp2
  go_step3
  go_wp2
  rw [Exit.noGoto_ret]
  change bodyPost _ _ _ _ _ (((w.alloc (.cells (cls 0) 24)).alloc (.cells (cls b) 24)).alloc (.cells (cls b) 24))
  have HZ := hid (((((Env.refl w).new 0).new b).new b).perm (l' := [(w.heap.size + 1 + 1, b)]) (by simp))
  generalize ((w.alloc (.cells (cls 0) 24)).alloc (.cells (cls b) 24)).alloc (.cells (cls b) 24) = wz at *
  generalize w.heap.size + 1 + 1 = g4 at *
  obtain ⟨k0, k1, k2, k3⟩ := HZ.out.cell g4 b (by simp)
  exact bodyPost_ret (v := num b) (by simp [results, Tryd.results12, go_sem, k0, k1, k2, k3]) rfl ⟨rfl, HZ.out.1⟩

set_option maxRecDepth 100000 in
set_option maxHeartbeats 3200000 in
theorem common_right (a : Nat) (w : World) (ha : a < 2 ^ 256) (ha0 : a ≠ 0) : Calls Tryd.prog 12 #[num a, num 0] w fun e w' => e = .returned (num a) ∧ Below w.heap.size w w' := by
  have qa := eq_none a ha ha0
  have q0 := eq_none_yes
  clear ha ha0
  go_enter Tryd.func12, Tryd.ntmps12
  go_wp2
  go_step3
  go_wp2
  rw [Exit.noGoto_ret]
  change bodyPost _ _ _ _ _ (((w.alloc (.cells (cls a) 24)).alloc (.cells (cls 0) 24)).alloc (.cells (cls a) 24))
  have HZ := hid (((((Env.refl w).new a).new 0).new a).perm (l' := [(w.heap.size + 1 + 1, a)]) (by simp))
  generalize ((w.alloc (.cells (cls a) 24)).alloc (.cells (cls 0) 24)).alloc (.cells (cls a) 24) = wz at *
  generalize w.heap.size + 1 + 1 = g4 at *
  obtain ⟨k0, k1, k2, k3⟩ := HZ.out.cell g4 a (by simp)
  exact bodyPost_ret (v := num a) (by simp [results, Tryd.results12, go_sem, k0, k1, k2, k3]) rfl ⟨rfl, HZ.out.1⟩

set_option maxRecDepth 100000 in
set_option maxHeartbeats 3200000 in
theorem common_some (a b : Nat) (w : World) (ha : a < 2 ^ 256) (hb : b < 2 ^ 256) (ha0 : a ≠ 0) (hb0 : b ≠ 0) (hT : Tab w) : Calls Tryd.prog 12 #[num a, num b] w fun e w' => e = .returned (num (Nat.gcd a b)) ∧ Below w.heap.size w w' := by
  have qa := eq_none a ha ha0
  have qb := eq_none b hb hb0
  have oa := (od_spec ha0 ha).2.1
  have la := (od_spec ha0 ha).2.2.2.1
  have ta256 := (od_spec ha0 ha).2.2.2.2
  have ob := (od_spec hb0 hb).2.1
  have lb := (od_spec hb0 hb).2.2.2.1
  have tb256 := (od_spec hb0 hb).2.2.2.2
  have hg := gcd_od ha0 ha hb0 hb
  have hgl : Nat.gcd a b < 2 ^ 256 := gcd_le ha hb (by decide)
  generalize Nat.gcd a b = G at *
  obtain ⟨ta, ea⟩ : ∃ t, tw a = t := ⟨_, rfl⟩
  obtain ⟨tb, eb⟩ : ∃ t, tw b = t := ⟨_, rfl⟩
  obtain ⟨xa, exa⟩ : ∃ x, od a = x := ⟨_, rfl⟩
  obtain ⟨xb, exb⟩ : ∃ x, od b = x := ⟨_, rfl⟩
  have TA := hid (p := (tw a : Int) = (ta : Int)) (by rw [ea])
  have TB := hid (p := (tw b : Int) = (tb : Int)) (by rw [eb])
  have XA := hid exa
  have XB := hid exb
  rw [ea, eb, exa, exb] at hg
  rw [ea] at ta256
  rw [eb] at tb256
  rw [exa] at oa la
  rw [exb] at ob lb
  obtain ⟨t, et⟩ : ∃ t, min ta tb = t := ⟨_, rfl⟩
  rw [et] at hg
  have W3 : min (ta : Int) (tb : Int) = (t : Int) := by omega
  have HT2 := hid (show t < 256 by omega)
  have HG := hid hg
  have HGL := hid hgl
  have P := hid (show xa % 2 = 1 ∧ xb % 2 = 1 ∧ xa < 2 ^ 256 ∧ xb < 2 ^ 256 from ⟨oa, ob, la, lb⟩)
  have HA := hid ha
  have HB := hid hb
  have HA0 := hid ha0
  have HB0 := hid hb0
  have HT := hid hT
  clear hg hgl ea eb exa exb et oa ob la lb ta256 tb256 ha hb ha0 hb0 hT
  have HE := hid (((((Env.refl w).new a).new b).zero).perm (l' := [(w.heap.size, a), (w.heap.size + 1, b), (w.heap.size + 1 + 1, 0)]) (by simp))
  have D := hid (show w.heap.size ≠ w.heap.size + 1 ∧ w.heap.size ≠ w.heap.size + 1 + 1 ∧ w.heap.size + 1 ≠ w.heap.size + 1 + 1 ∧ w.heap.size ≤ w.heap.size + 1 ∧ w.heap.size ≤ w.heap.size + 1 + 1 ∧ w.heap.size ≤ w.heap.size by omega)
  go_enter Tryd.func12, Tryd.ntmps12
  go_wp2
  go_step3
  go_upto_region 5 with fail
  generalize ((w.alloc (.cells (cls a) 24)).alloc (.cells (cls b) 24)).alloc (.cells #[.int .u64 0, .int .u64 0, .int .u64 0, .int .u64 0] 24) = w0 at *
  generalize w.heap.size + 1 + 1 = g4 at *
  generalize w.heap.size + 1 = g3 at *
  generalize hg2 : w.heap.size = g2 at *
  obtain ⟨cg2a, cg2b, cg2c, cg2d⟩ := HE.out.cell g2 (a) (by simp)
  have lg2 := HE.out.lt g2 (a) (by simp)
  obtain ⟨cg3a, cg3b, cg3c, cg3d⟩ := HE.out.cell g3 (b) (by simp)
  have lg3 := HE.out.lt g3 (b) (by simp)
  go_cut [5] (fun s5 wx => s5 = .int .i64 (t : Int) ∧ Hid (Env w [(g2, a), (g3, b), (g4, 0)] wx))
  case first =>
    have hs := HE.out.drew
    go_region_with (first | ((go_at_call 31); (with_reducible refine (twos_at a (ta : Int) (by assumption) HA0.out HA.out HT.out TA.out).mono ?_); rintro e wn ⟨rfl, hs⟩; obtain ⟨cg2a, cg2b, cg2c, cg2d⟩ := hs.cell g2 (a) (by simp); have lg2 := hs.lt g2 (a) (by simp); obtain ⟨cg3a, cg3b, cg3c, cg3d⟩ := hs.cell g3 (b) (by simp); have lg3 := hs.lt g3 (b) (by simp)) | ((go_at_call 31); (with_reducible refine (twos_at b (tb : Int) (by assumption) HB0.out HB.out HT.out TB.out).mono ?_); rintro e wn ⟨rfl, hs⟩; obtain ⟨cg2a, cg2b, cg2c, cg2d⟩ := hs.cell g2 (a) (by simp); have lg2 := hs.lt g2 (a) (by simp); obtain ⟨cg3a, cg3b, cg3c, cg3d⟩ := hs.cell g3 (b) (by simp); have lg3 := hs.lt g3 (b) (by simp)))
    all_goals
      go_wp2_with fail
      go_meet
      exact ⟨rfl, hid hs⟩
  case rest =>
    obtain ⟨rfl, H1⟩ := hcut
    clear cg2a cg2b cg2c cg2d lg2 cg3a cg3b cg3c cg3d lg3 HE
    go_upto_region 6 with fail
    obtain ⟨cg2a, cg2b, cg2c, cg2d⟩ := H1.out.cell g2 (a) (by simp)
    have lg2 := H1.out.lt g2 (a) (by simp)
    have fg2 := H1.out.frozen g2 (a) (by simp)
    obtain ⟨cg3a, cg3b, cg3c, cg3d⟩ := H1.out.cell g3 (b) (by simp)
    have lg3 := H1.out.lt g3 (b) (by simp)
    have fg3 := H1.out.frozen g3 (b) (by simp)
    go_cut [5] (fun s5 wx => s5 = .int .i64 (t : Int) ∧ Hid (Env w [(g3, xb), (g2, xa), (g4, 0)] wx))
    case first =>
      have hs := H1.out.drew
      obtain ⟨d1, d2, d3, d4, d5, d6⟩ := D.out
      go_region_with (first | ((go_at_call 32); (with_reducible refine (odd_at a xa (by assumption) HA0.out HA.out HT.out XA.out).mono ?_); rintro e wn ⟨rfl, hs⟩; obtain ⟨cg2a, cg2b, cg2c, cg2d⟩ := hs.cell g2 (a) (by simp); have lg2 := hs.lt g2 (a) (by simp); have fg2 := hs.frozen g2 (a) (by simp); obtain ⟨cg3a, cg3b, cg3c, cg3d⟩ := hs.cell g3 (b) (by simp); have lg3 := hs.lt g3 (b) (by simp); have fg3 := hs.frozen g3 (b) (by simp)) | ((go_at_call 32); (with_reducible refine (odd_at b xb (by assumption) HB0.out HB.out HT.out XB.out).mono ?_); rintro e wn ⟨rfl, hs⟩; obtain ⟨cg2a, cg2b, cg2c, cg2d⟩ := hs.cell g2 (a) (by simp); have lg2 := hs.lt g2 (a) (by simp); have fg2 := hs.frozen g2 (a) (by simp); obtain ⟨cg3a, cg3b, cg3c, cg3d⟩ := hs.cell g3 (b) (by simp); have lg3 := hs.lt g3 (b) (by simp); have fg3 := hs.frozen g3 (b) (by simp)))
      all_goals
        go_wp2_with fail
        go_meet
        exact ⟨rfl, hid ((hs.set g2 a xa [(g3, b), (g4, 0)] (by simp) (by omega) (by simp; exact ⟨Ne.symm d1, Ne.symm d2⟩)).set g3 b xb [(g2, xa), (g4, 0)] (by simp) (by omega) (by simp; exact ⟨d1, Ne.symm d3⟩))⟩
    case rest =>
      obtain ⟨rfl, H2⟩ := hcut
      clear cg2a cg2b cg2c cg2d lg2 fg2 cg3a cg3b cg3c cg3d lg3 fg3 H1
      go_wp2
      go_step3
      go_wp2
      go_loopg [] (xa + xb) (fun n wr => ∃ x y : Nat, x + y = n ∧ Hid (x % 2 = 1 ∧ y % 2 = 1 ∧ x < 2 ^ 256 ∧ y < 2 ^ 256 ∧ Nat.gcd x y = Nat.gcd xa xb) ∧ Hid (Env w [(g2, x), (g3, y), (g4, 0)] wr))
      case atStart => exact ⟨xa, xb, rfl, hid (by have := P.out; exact ⟨this.1, this.2.1, this.2.2.1, this.2.2.2, rfl⟩), hid (H2.out.perm (by simp))⟩
      case round =>
        obtain ⟨x, y, hn, PX, H⟩ := hrel
        clear H2
        rcases Nat.lt_trichotomy x y with hlt | rfl | hlt
        · skip
          have hc : Hid (cmpN x y = (-1)) := hid (by unfold cmpN; rw [if_pos hlt])
          obtain ⟨d, ed⟩ : ∃ d, dif y x = d := ⟨_, rfl⟩
          have ed2 : dif y x = y - x := by unfold dif; rw [if_neg (by omega)]
          have EL : Hid (((lent y x : Nat) : Int) = 0) := hid (by unfold lent; rw [if_neg (by omega)]; rfl)
          obtain ⟨z, ez⟩ : ∃ z, od d = z := ⟨_, rfl⟩
          have hd0 : d ≠ 0 := by omega
          have hdl : d < 2 ^ 256 := by have := PX.out; omega
          have hz := (od_spec hd0 hdl).2.2.1
          have hzo := (od_spec hd0 hdl).2.1
          have hzl := (od_spec hd0 hdl).2.2.2.1
          rw [ez] at hz hzo hzl
          have hgz : Nat.gcd x z = Nat.gcd xa xb := by rw [← ez, ← ed, ed2, Nat.gcd_comm, gcd_take PX.out.2.2.2.1 PX.out.1 hlt, Nat.gcd_comm]; exact PX.out.2.2.2.2
          have PZ := hid (show x + z < gk ∧ x % 2 = 1 ∧ z % 2 = 1 ∧ x < 2 ^ 256 ∧ z < 2 ^ 256 ∧ Nat.gcd x z = Nat.gcd xa xb from ⟨by have := PX.out.1; omega, PX.out.1, hzo, PX.out.2.2.1, hzl, hgz⟩)
          have ED := hid ed
          have EZ := hid ez
          have D0 := hid hd0
          have DL := hid hdl
          clear ed ed2 ez hd0 hdl hz hzo hzl hgz hlt hn
          obtain ⟨a0, a1, a2, a3⟩ := H.out.cell g2 x (by simp)
          have l2 := H.out.lt g2 x (by simp)
          obtain ⟨b0, b1, b2, b3⟩ := H.out.cell g3 y (by simp)
          have l3 := H.out.lt g3 y (by simp)
          go_wp2_with fail
          refine (cmp_at x y (-1) H.out PX.out.2.2.1 PX.out.2.2.2.1 hc.out).mono ?_
          rintro e w1 ⟨rfl, h⟩
          have H1 := hid h
          clear h H
          clear a0 a1 a2 a3 l2 b0 b1 b2 b3 l3
          obtain ⟨a0, a1, a2, a3⟩ := H1.out.cell g2 x (by simp)
          have l2 := H1.out.lt g2 x (by simp)
          obtain ⟨b0, b1, b2, b3⟩ := H1.out.cell g3 y (by simp)
          have l3 := H1.out.lt g3 y (by simp)
          go_wp2_with fail
          refine (sub_at y x d 0 H1.out PX.out.2.2.2.1 PX.out.2.2.1 ED.out EL.out).mono ?_
          rintro e w2 ⟨rfl, h⟩
          have H2 := hid h
          clear h H1
          clear a0 a1 a2 a3 l2 b0 b1 b2 b3 l3
          obtain ⟨a0, a1, a2, a3⟩ := H2.out.cell g2 x (by simp)
          have l2 := H2.out.lt g2 x (by simp)
          obtain ⟨b0, b1, b2, b3⟩ := H2.out.cell g3 y (by simp)
          have l3 := H2.out.lt g3 y (by simp)
          go_wp2_with fail
          clear a0 a1 a2 a3 l2 b0 b1 b2 b3 l3
          change Calls _ _ _ (w2.alloc (.cells (cls d) 24)) _
          refine (odd_at d z (H2.out.new d) D0.out DL.out HT.out EZ.out).mono ?_
          rintro e w3 ⟨rfl, h⟩
          have H3 := hid (h.perm (l' := [(g2, x), (g3, y), (g4, 0)]) (by simp))
          clear h H2
          obtain ⟨a0, a1, a2, a3⟩ := H3.out.cell g2 x (by simp)
          have l2 := H3.out.lt g2 x (by simp)
          obtain ⟨b0, b1, b2, b3⟩ := H3.out.cell g3 y (by simp)
          have l3 := H3.out.lt g3 y (by simp)
          have fg := H3.out.frozen g3 y (by simp)
          have HZ := hid (H3.out.set g3 y z [(g2, x), (g4, 0)] (by simp) (by obtain ⟨d1, d2, d3, d4, d5, d6⟩ := D.out; omega) (by obtain ⟨d1, d2, d3, d4, d5, d6⟩ := D.out; simp; exact ⟨d1, Ne.symm d3⟩))
          go_wp2
          clear a0 a1 a2 a3 l2 b0 b1 b2 b3 l3
          go_roundg (x + z)
          case measure => exact PZ.out.1
          case rel => exact ⟨x, z, rfl, hid PZ.out.2, hid (HZ.out.perm (by simp))⟩
        · skip
          have hc : Hid (cmpN x x = 0) := hid (by unfold cmpN; simp)
          have hx : Hid (shf x (t : Int) = G) := hid (by
            rw [shf_up, HG.out, ← PX.out.2.2.2.2, Nat.gcd_self, Nat.mul_comm]
            refine Nat.mod_eq_of_lt ?_
            have := HGL.out
            rw [HG.out, ← PX.out.2.2.2.2, Nat.gcd_self] at this
            exact this)
          obtain ⟨a0, a1, a2, a3⟩ := H.out.cell g2 x (by simp)
          have l2 := H.out.lt g2 x (by simp)
          obtain ⟨b0, b1, b2, b3⟩ := H.out.cell g3 x (by simp)
          have l3 := H.out.lt g3 x (by simp)
          go_wp2_with fail
          refine (cmp_at x x 0 H.out PX.out.2.2.1 PX.out.2.2.1 hc.out).mono ?_
          rintro e w1 ⟨rfl, h⟩
          have H1 := hid h
          clear h H
          clear a0 a1 a2 a3 l2 b0 b1 b2 b3 l3
          obtain ⟨a0, a1, a2, a3⟩ := H1.out.cell g2 x (by simp)
          have l2 := H1.out.lt g2 x (by simp)
          obtain ⟨b0, b1, b2, b3⟩ := H1.out.cell g3 x (by simp)
          have l3 := H1.out.lt g3 x (by simp)
          go_wp2_with fail
          clear a0 a1 a2 a3 l2 b0 b1 b2 b3 l3
          refine (shift_at x G (t : Int) H1.out PX.out.2.2.1 (by have := HT2.out; omega) (by have := HT2.out; omega) hx.out).mono ?_
          rintro e w2 ⟨rfl, h⟩
          have H2 := hid h
          clear h H1
          obtain ⟨a0, a1, a2, a3⟩ := H2.out.cell g4 0 (by simp)
          have l4 := H2.out.lt g4 0 (by simp)
          have f4 := H2.out.frozen g4 0 (by simp)
          have HZ := hid (H2.out.set g4 0 G [] (by simp) (by obtain ⟨d1, d2, d3, d4, d5, d6⟩ := D.out; omega) (by simp))
          go_wp2
          clear a0 a1 a2 a3 l4 f4
          try rw [Exit.noGoto_ret]
          change bodyPost _ _ _ _ _ (fil w2 g4 G)
          generalize fil w2 g4 G = wz at *
          obtain ⟨k0, k1, k2, k3⟩ := HZ.out.cell g4 G (by simp)
          exact bodyPost_ret (v := num G) (by simp [results, Tryd.results12, go_sem, k0, k1, k2, k3]) rfl ⟨rfl, HZ.out.1⟩
        · skip
          have hc : Hid (cmpN x y = 1) := hid (by unfold cmpN; rw [if_neg (by omega), if_pos hlt])
          obtain ⟨d, ed⟩ : ∃ d, dif x y = d := ⟨_, rfl⟩
          have ed2 : dif x y = x - y := by unfold dif; rw [if_neg (by omega)]
          have EL : Hid (((lent x y : Nat) : Int) = 0) := hid (by unfold lent; rw [if_neg (by omega)]; rfl)
          obtain ⟨z, ez⟩ : ∃ z, od d = z := ⟨_, rfl⟩
          have hd0 : d ≠ 0 := by omega
          have hdl : d < 2 ^ 256 := by have := PX.out; omega
          have hz := (od_spec hd0 hdl).2.2.1
          have hzo := (od_spec hd0 hdl).2.1
          have hzl := (od_spec hd0 hdl).2.2.2.1
          rw [ez] at hz hzo hzl
          have hgz : Nat.gcd z y = Nat.gcd xa xb := by rw [← ez, ← ed, ed2, gcd_take PX.out.2.2.1 PX.out.2.1 hlt]; exact PX.out.2.2.2.2
          have PZ := hid (show z + y < gk ∧ z % 2 = 1 ∧ y % 2 = 1 ∧ z < 2 ^ 256 ∧ y < 2 ^ 256 ∧ Nat.gcd z y = Nat.gcd xa xb from ⟨by have := PX.out.2.1; omega, hzo, PX.out.2.1, hzl, PX.out.2.2.2.1, hgz⟩)
          have ED := hid ed
          have EZ := hid ez
          have D0 := hid hd0
          have DL := hid hdl
          clear ed ed2 ez hd0 hdl hz hzo hzl hgz hlt hn
          obtain ⟨a0, a1, a2, a3⟩ := H.out.cell g2 x (by simp)
          have l2 := H.out.lt g2 x (by simp)
          obtain ⟨b0, b1, b2, b3⟩ := H.out.cell g3 y (by simp)
          have l3 := H.out.lt g3 y (by simp)
          go_wp2_with fail
          refine (cmp_at x y 1 H.out PX.out.2.2.1 PX.out.2.2.2.1 hc.out).mono ?_
          rintro e w1 ⟨rfl, h⟩
          have H1 := hid h
          clear h H
          clear a0 a1 a2 a3 l2 b0 b1 b2 b3 l3
          obtain ⟨a0, a1, a2, a3⟩ := H1.out.cell g2 x (by simp)
          have l2 := H1.out.lt g2 x (by simp)
          obtain ⟨b0, b1, b2, b3⟩ := H1.out.cell g3 y (by simp)
          have l3 := H1.out.lt g3 y (by simp)
          go_wp2_with fail
          refine (sub_at x y d 0 H1.out PX.out.2.2.1 PX.out.2.2.2.1 ED.out EL.out).mono ?_
          rintro e w2 ⟨rfl, h⟩
          have H2 := hid h
          clear h H1
          clear a0 a1 a2 a3 l2 b0 b1 b2 b3 l3
          obtain ⟨a0, a1, a2, a3⟩ := H2.out.cell g2 x (by simp)
          have l2 := H2.out.lt g2 x (by simp)
          obtain ⟨b0, b1, b2, b3⟩ := H2.out.cell g3 y (by simp)
          have l3 := H2.out.lt g3 y (by simp)
          go_wp2_with fail
          clear a0 a1 a2 a3 l2 b0 b1 b2 b3 l3
          change Calls _ _ _ (w2.alloc (.cells (cls d) 24)) _
          refine (odd_at d z (H2.out.new d) D0.out DL.out HT.out EZ.out).mono ?_
          rintro e w3 ⟨rfl, h⟩
          have H3 := hid (h.perm (l' := [(g2, x), (g3, y), (g4, 0)]) (by simp))
          clear h H2
          obtain ⟨a0, a1, a2, a3⟩ := H3.out.cell g2 x (by simp)
          have l2 := H3.out.lt g2 x (by simp)
          obtain ⟨b0, b1, b2, b3⟩ := H3.out.cell g3 y (by simp)
          have l3 := H3.out.lt g3 y (by simp)
          have fg := H3.out.frozen g2 x (by simp)
          have HZ := hid (H3.out.set g2 x z [(g3, y), (g4, 0)] (by simp) (by obtain ⟨d1, d2, d3, d4, d5, d6⟩ := D.out; omega) (by obtain ⟨d1, d2, d3, d4, d5, d6⟩ := D.out; simp; exact ⟨Ne.symm d1, Ne.symm d2⟩))
          go_wp2
          clear a0 a1 a2 a3 l2 b0 b1 b2 b3 l3
          go_roundg (z + y)
          case measure => exact PZ.out.1
          case rel => exact ⟨z, y, rfl, hid PZ.out.2, hid (HZ.out.perm (by simp))⟩

theorem common_any (a b : Nat) (w : World) (ha : a < 2 ^ 256) (hb : b < 2 ^ 256) (hT : Tab w) : Calls Tryd.prog 12 #[num a, num b] w fun e w' => e = .returned (num (Nat.gcd a b)) ∧ Below w.heap.size w w' := by
  by_cases ha0 : a = 0
  · subst ha0; rw [Nat.gcd_zero_left]; exact common_left b w hb
  · by_cases hb0 : b = 0
    · subst hb0; rw [Nat.gcd_zero_right]; exact common_right a w ha ha0
    · exact common_some a b w ha hb ha0 hb0 hT
theorem common_b (a b c : Nat) (w : World) (ha : a < 2 ^ 256) (hb : b < 2 ^ 256) (hT : Tab w) (hc : Nat.gcd a b = c) : Calls Tryd.prog 12 #[num a, num b] w fun e w' => e = .returned (num c) ∧ Below w.heap.size w w' := by
  subst hc; exact common_any a b w ha hb hT
theorem common_at (a b c : Nat) {w w' : World} {l : List (Nat × Nat)} (h : Env w l w') (ha : a < 2 ^ 256) (hb : b < 2 ^ 256) (hT : Tab w) (hc : Nat.gcd a b = c) : Calls Tryd.prog 12 #[num a, num b] w' fun e w2 => e = .returned (num c) ∧ Env w l w2 :=
  env_of (common_b a b c w' ha hb (hT.on h.1) hc) h
end Go.Proofs.YtaggegknnnembaaDoor

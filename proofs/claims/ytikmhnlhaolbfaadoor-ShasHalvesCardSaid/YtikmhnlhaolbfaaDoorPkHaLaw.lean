/-
  burrowlaw05.ShasHalves, walked: it answers true. Conditions: the library's table K lies there; fewer than 256 bits.
-/
import Derived.Test.YtikmhnlhaolbfaaDoorPkL
import Derived.Test.YtikmhnlhaolbfaaDoorPkJ
namespace Go.Proofs.YtikmhnlhaolbfaaDoor
open Go.RowKit
set_option linter.unusedVariables false
set_option linter.unusedSimpArgs false

theorem halves_low (lo hi b : Nat) (hb : b ≤ 256) : (lo + 2 ^ 256 * hi) % 2 ^ b = lo * 2 ^ (256 - b) % 2 ^ 256 / 2 ^ (256 - b) := by
  have h : (2 : Nat) ^ 256 = 2 ^ b * 2 ^ (256 - b) := by rw [← Nat.pow_add]; congr 1; omega
  have hq : 0 < 2 ^ (256 - b) := Nat.two_pow_pos _
  rw [h]
  generalize 2 ^ (256 - b) = q at *
  generalize 2 ^ b = p at *
  rw [Nat.mul_assoc, Nat.add_mul_mod_self_left, Nat.mul_mod_mul_right, Nat.mul_div_cancel _ hq]
theorem halves_shf (lo hi b : Nat) (h0 : 0 < b) (hb : b < 256) : wid lo hi (2 ^ b) = shf (shf lo (256 - (b : Int))) ((b : Int) - 256) := by
  have e1 : (256 - (b : Int)).toNat = 256 - b := by omega
  have e2 : (-((b : Int) - 256)).toNat = 256 - b := by omega
  have e3 : shf lo (256 - (b : Int)) = lo * 2 ^ (256 - b) % 2 ^ 256 := by
    unfold shf
    rw [if_pos (by omega), e1]
  have e4 : ∀ x, shf x ((b : Int) - 256) = x / 2 ^ (256 - b) := by
    intro x
    unfold shf
    rw [if_neg (by omega), e2]
  rw [e3, e4, ← halves_low lo hi b (by omega)]
  unfold wid
  first | rfl | rw [Nat.add_comm]
theorem shf_pow (b : Nat) (hb : b < 256) : shf 1 (b : Int) = 2 ^ b := by
  unfold shf
  rw [if_pos (by omega), Int.toNat_natCast, Nat.one_mul, Nat.mod_eq_of_lt (Nat.pow_lt_pow_right (by decide) hb)]
set_option maxRecDepth 100000 in
set_option maxHeartbeats 4000000 in
theorem halves_law (st : ByteArray) (a0 : Option Addr) (n0 c0 : Nat) (A : Nat → Option Addr) (L C : Nat → Nat) (xs : Nat → List UInt8) (b : Nat) (w : World) (hb : b < 256) (hR : Rws w a0 n0 A L C xs) (hK : Kt w) (hc : n0 ≤ c0) (h0 : a0 = none → c0 = 0) :
    Calls Tryd.prog 14 #[.string st, .slice a0 n0 c0, .int .u8 (b : Int)] w fun e w' => e = .returned (.bool true) ∧ Below w.heap.size w w' := by
  have HR := hid hR
  have HK := hid hK
  have HC := hid hc
  have H0A := hid h0
  have HBB := hid hb
  clear hR hK hc h0
  obtain ⟨r, hr⟩ : ∃ z, sha (spelt st.data.toList (n0 + 1) (nx n0 xs [1]) (n0 + 1)) = z := ⟨_, rfl⟩
  obtain ⟨lo, hlo⟩ : ∃ z, tell r = z := ⟨_, rfl⟩
  have hhalf : half st.data.toList n0 xs 1 = lo := by rw [← hlo, ← hr]; rfl
  have HLO := hid (hhalf ▸ half_lt _ _ _ _ : lo < 2 ^ 256)
  have HR1 := hid hr
  have HT1 := hid hlo
  have HQ := hid (show r.length = 32 by rw [← hr]; exact sha_length _)
  obtain ⟨m, em⟩ : ∃ z, 2 ^ b = z := ⟨_, rfl⟩
  have HM := hid (show m < 2 ^ 256 by rw [← em]; exact Nat.pow_lt_pow_right (by decide) hb)
  have HM0 := hid (show m ≠ 0 by rw [← em]; exact Nat.ne_of_gt (Nat.two_pow_pos b))
  have HSH := hid (show shf 1 (b : Int) = m by rw [← em]; exact shf_pow b hb)
  obtain ⟨x1, hx1⟩ : ∃ z, shf lo (256 - (b : Int)) = z := ⟨_, rfl⟩
  have HX1 := hid hx1
  have HX1L := hid (hx1 ▸ shf_lt lo _ HLO.out : x1 < 2 ^ 256)
  obtain ⟨s, hs2⟩ : ∃ z, shf x1 ((b : Int) - 256) = z := ⟨_, rfl⟩
  have HS2 := hid hs2
  have HEN := hid (show 0 < b → nof st.data.toList n0 xs m = s from fun hb0 => by unfold nof; rw [hhalf, ← em, halves_shf lo _ b hb0 hb, hx1, hs2])
  clear hr hlo hhalf em hx1 hs2 hb
  have H0 := hid (Env.refl w)
  go_enter Tryd.func14, Tryd.ntmps14
  go_wp2_with fail
  refine (env_of (fixed_any w HK.out) H0.out).mono ?_
  rintro e w1 ⟨rfl, h⟩
  have H1 := hid h
  clear h H0
  go_wp2_with fail
  refine (great_any st a0 n0 c0 A L C xs _ ((on_rws HR.out) _ H1.out.1)).mono ?_
  rintro e w2 ⟨g, rfl, hg, rfl⟩
  cases g with
  | true =>
    go_wp2_with fail
    refine (env_of (fixed_any _ ((on_kt HK.out) _ H1.out.1)) H1.out).mono ?_
    rintro e w3 ⟨rfl, h3⟩
    go_wp2
    go_ret
    exact ⟨rfl, h3.1⟩
  | false =>
    obtain ⟨hs, hn, hL⟩ := hg rfl
    have HS := hid (show st.size ≤ 1000000 by omega)
    have HN := hid (show n0 + 1 ≤ 1000 by omega)
    have HL := hid hL
    have HL1 := hid (nx_le n0 L hL)
    clear hg hs hn hL
    by_cases hz : b = 0
    · subst hz
      go_wp2_with fail
      refine (env_of (fixed_any _ ((on_kt HK.out) _ H1.out.1)) H1.out).mono ?_
      rintro e w3 ⟨rfl, h3⟩
      go_wp2
      go_ret
      exact ⟨rfl, h3.1⟩
    have hbz : ((b : Int) == 0) = false := by simp; omega
    have HEN := hid (HEN.out (by omega))
    have HB0 := hid hz
    clear hz
    go_upto_region 3 with fail
    clear hbz
    have HRW := hid ((on_rws HR.out) _ H1.out.1)
    have N0 := hid (show Ns w [] [] w1 from ⟨H1.out, fun p hp => by cases hp⟩)
    obtain ⟨v, wa, g, k, wb, R1, R2, HBE, HCB, HRB⟩ := rows_one 1 w1 a0 n0 c0 A L C xs HRW.out HN.out HC.out H0A.out
    go_wp2_with (at_builtin; first | (refine step_append_rows rfl (.const (.slice none 0 0)) (.tmp 26) rfl rfl _ _ rfl rfl _ _ R1.out ?_) | (refine step_append_rows rfl (.tmp 27) (.tmp 29) rfl rfl _ _ rfl rfl _ _ R2.out ?_))
    have NA := hid (N0.out.on HBE.out)
    clear R1 R2 N0 H1
    refine (ns_of (as_r st _ (n0 + 1) k _ _ _ _ r wb HRB.out ((on_kt HK.out) _ NA.out.old) HN.out HL1.out HS.out HR1.out) NA.out).mono ?_
    rintro e wc ⟨rfl, h⟩
    have NB := hid h
    clear h NA HRB HCB HBE HRW
    obtain ⟨wd, hw, N1⟩ := NB.out.setx r
    have hbx := hi44 r HQ.out
    have hox := ho32 r HQ.out
    go_wp2_with (first | (refine wpList_store_row rfl 44 (.tmp 8) (.tmp 33) rfl wc.heap.size (bvs r).toArray rfl rfl 44 _ (heap_alloc_new _ _) hbx.out hox.out (bvs_all _) ?_; rw [hw]))
    clear hw hbx hox NB
    generalize wc.heap.size = b8 at *
    refine (gl_at r b8 lo HQ.out (N1.out.bt b8 r (by simp)) HT1.out N1.out.1).mono ?_
    rintro e w4 ⟨rfl, h4⟩
    have H4 := hid h4
    clear h4 N1
    go_upto_region 6 with fail
    have H4b := hid (H4.out.new lo)
    clear H4
    generalize w4.alloc (.cells (cls lo) 24) = w4b at *
    generalize w4.heap.size = g9 at *
    go_wp2_with fail
    refine (lof_at 1 1 H4b.out (by decide) rfl).mono ?_
    rintro e w5 ⟨rfl, h⟩
    have H5 := hid h
    clear h H4b
    have hwb : IntKind.i64.wrap (b : Int) = (b : Int) := by have := HBB.out; rw [IntKind.wrap_i64]; omega
    go_wp2_with fail
    refine (shift_at 1 m (b : Int) H5.out (by decide) (by have := HBB.out; omega) (by have := HBB.out; omega) HSH.out).mono ?_
    rintro e w6 ⟨rfl, h⟩
    have H6 := hid h
    clear h H5
    go_wp2_with fail
    refine (env_of (number_any st a0 n0 c0 A L C xs m s 0 _ HM.out ((on_rws HR.out) _ H6.out.1) ((on_kt HK.out) _ H6.out.1) HN.out HL.out HS.out HC.out H0A.out (by rw [if_neg HM0.out]; exact HEN.out) (by rw [if_neg HM0.out])) H6.out).mono ?_
    rintro e w7 ⟨rfl, h⟩
    have H7 := hid h
    clear h H6
    go_upto_region 7 with fail
    have H7b := hid (H7.out.new s)
    clear H7
    generalize w7.alloc (.cells (cls s) 24) = w7b at *
    generalize w7.heap.size = g11 at *
    have hw1 : IntKind.i64.wrap (256 - (b : Int)) = 256 - (b : Int) := by have := HBB.out; rw [IntKind.wrap_i64]; omega
    have hw2 : IntKind.i64.wrap ((b : Int) - 256) = (b : Int) - 256 := by have := HBB.out; rw [IntKind.wrap_i64]; omega
    obtain ⟨c0x7a, c0x7b, c0x7c, c0x7d⟩ := H7b.out.cell (g9) (lo) (by simp)
    have c0x7l := H7b.out.lt (g9) (lo) (by simp)
    have c0x7m := Nat.le_of_lt c0x7l
    go_wp2_with fail
    clear c0x7a c0x7b c0x7c c0x7d c0x7l c0x7m
    refine (shift_at lo x1 (256 - (b : Int)) H7b.out HLO.out (by have := HBB.out; omega) (by have := HBB.out; omega) HX1.out).mono ?_
    rintro e w8 ⟨rfl, h⟩
    have H8 := hid h
    clear h H7b
    go_wp2_with fail
    refine (shift_at x1 s ((b : Int) - 256) H8.out HX1L.out (by have := HBB.out; omega) (by have := HBB.out; omega) HS2.out).mono ?_
    rintro e w9 ⟨rfl, h⟩
    have H9 := hid h
    clear h H8
    go_upto_region 8 with fail
    have H9b := hid (H9.out.new s)
    clear H9
    generalize w9.alloc (.cells (cls s) 24) = w9b at *
    generalize w9.heap.size = g13 at *
    have qs := fun W : World => eq_yes s s rfl W
    obtain ⟨c0x9a, c0x9b, c0x9c, c0x9d⟩ := H9b.out.cell (g11) (s) (by simp)
    have c0x9l := H9b.out.lt (g11) (s) (by simp)
    have c0x9m := Nat.le_of_lt c0x9l
    obtain ⟨c6x9a, c6x9b, c6x9c, c6x9d⟩ := H9b.out.cell (g13) (s) (by simp)
    have c6x9l := H9b.out.lt (g13) (s) (by simp)
    have c6x9m := Nat.le_of_lt c6x9l
    go_wp2
    go_ret
    exact ⟨rfl, H9b.out.1⟩
end Go.Proofs.YtikmhnlhaolbfaaDoor

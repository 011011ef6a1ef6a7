/-
  burrowlaw05.ShasAs, walked: it answers true. Conditions: the library's table K lies there; m below 2^256.
-/
import Derived.Test.YtikmhnlhaolbfaaDoorPkJ
namespace Go.Proofs.YtikmhnlhaolbfaaDoor
open Go.RowKit
set_option linter.unusedVariables false
set_option linter.unusedSimpArgs false

set_option maxRecDepth 100000 in
set_option maxHeartbeats 4000000 in
theorem as_law (st : ByteArray) (a0 : Option Addr) (n0 c0 : Nat) (A : Nat → Option Addr) (L C : Nat → Nat) (xs : Nat → List UInt8) (m : Nat) (w : World) (hm : m < 2 ^ 256) (hR : Rws w a0 n0 A L C xs) (hK : Kt w) (hc : n0 ≤ c0) (h0 : a0 = none → c0 = 0) :
    Calls Tryd.prog 9 #[.string st, .slice a0 n0 c0, num m] w fun e w' => e = .returned (.bool true) ∧ Below w.heap.size w w' := by
  have HM := hid hm
  have HR := hid hR
  have HK := hid hK
  have HC := hid hc
  have H0A := hid h0
  clear hm hR hK hc h0
  obtain ⟨s, hv⟩ : ∃ z, (if m = 0 then 0 else nof st.data.toList n0 xs m) = z := ⟨_, rfl⟩
  obtain ⟨er, he⟩ : ∃ z : Int, (if m = 0 then 1 else 0 : Int) = z := ⟨_, rfl⟩
  obtain ⟨rs, hrs⟩ : ∃ z, sha (spelt st.data.toList n0 xs n0) = z := ⟨_, rfl⟩
  have HV := hid hv
  have HE := hid he
  have HRS := hid hrs
  have HQ := hid (show rs.length = 32 by rw [← hrs]; exact sha_length _)
  clear hv he hrs
  have H0 := hid (((Env.refl w).new m).perm (l' := [(w.heap.size, m)]) (by simp))
  go_enter Tryd.func9, Tryd.ntmps9
  go_wp2_with fail
  generalize w.alloc (.cells (cls m) 24) = w0 at *
  generalize hzg_a : w.heap.size = g_a at *
  refine (great_any st a0 n0 c0 A L C xs w0 ((on_rws HR.out) _ H0.out.1)).mono ?_
  rintro e w1 ⟨b, rfl, hb, rfl⟩
  cases b with
  | true =>
    go_wp2
    go_ret
    exact ⟨rfl, H0.out.1⟩
  | false =>
    obtain ⟨hs, hn, hL⟩ := hb rfl
    have HS := hid (show st.size ≤ 1000000 by omega)
    have HN := hid hn
    have HL := hid hL
    have HLL := hid (show ∀ r, r < n0 → (xs r).length = L r ∧ L r ≤ 1048576 from fun r hr => ⟨(HR.out r hr).2.1, HL.out r hr⟩)
    clear hb hs hn hL
    go_wp2_with fail
    refine (twinrec_any a0 n0 c0 A L C xs w0 ((on_rws HR.out) _ H0.out.1) HN.out HL.out).mono ?_
    rintro e w2 ⟨g, cap, tb, rfl, HT, HB⟩
    have HW2 := hid (H0.out.1.trans (HB.out.mono H0.out.1.size))
    have E0 := hid (show Env w2 [(g_a, m)] w2 from ⟨Below.refl _ _, (H0.out.on HB.out).2⟩)
    have HR2 := hid ((on_rws HR.out) _ HW2.out)
    have HK2 := hid ((on_kt HK.out) _ HW2.out)
    have HTR := hid (HT.out.rws HLL.out)
    have HCP := hid HT.out.2.1
    clear H0 HB HR HK
    obtain ⟨c0x2a, c0x2b, c0x2c, c0x2d⟩ := E0.out.cell (g_a) (m) (by simp)
    have c0x2l := E0.out.lt (g_a) (m) (by simp)
    have c0x2m := Nat.le_of_lt c0x2l
    go_wp2_with fail
    clear c0x2a c0x2b c0x2c c0x2d c0x2l c0x2m
    refine (env_of (number_any st (some ⟨g, 0, none⟩) n0 cap (fun r => some ⟨tb r, 0, none⟩) L (fun r => L r + 1) xs m s er w2 HM.out HTR.out HK2.out (by have := HN.out; omega) HL.out HS.out (by have := HCP.out; omega) (fun h => by cases h) HV.out HE.out) E0.out).mono ?_
    rintro e w3 ⟨rfl, h⟩
    have H3 := hid h
    clear h E0
    go_upto_region 5 with fail
    have H3b := hid (H3.out.new s)
    clear H3
    generalize w3.alloc (.cells (cls s) 24) = w3b at *
    generalize w3.heap.size = g8 at *
    obtain ⟨c0x3a, c0x3b, c0x3c, c0x3d⟩ := H3b.out.cell (g_a) (m) (by simp)
    have c0x3l := H3b.out.lt (g_a) (m) (by simp)
    have c0x3m := Nat.le_of_lt c0x3l
    go_wp2_with fail
    clear c0x3a c0x3b c0x3c c0x3d c0x3l c0x3m
    refine (env_of (rnumber_any st a0 n0 c0 A L C xs m s er _ HM.out ((on_rws HR2.out) _ H3b.out.1) (by have := HN.out; omega) HL.out HS.out HC.out H0A.out HV.out HE.out) H3b.out).mono ?_
    rintro e w4 ⟨rfl, h⟩
    have H4 := hid h
    clear h H3b
    go_upto_region 6 with fail
    have H4b := hid (H4.out.new s)
    clear H4
    generalize w4.alloc (.cells (cls s) 24) = w4b at *
    generalize w4.heap.size = g10 at *
    go_wp2_with fail
    refine (env_of (as_r st (some ⟨g, 0, none⟩) n0 cap (fun r => some ⟨tb r, 0, none⟩) L (fun r => L r + 1) xs rs _ ((on_rws HTR.out) _ H4b.out.1) ((on_kt HK2.out) _ H4b.out.1) (by have := HN.out; omega) HL.out HS.out HRS.out) H4b.out).mono ?_
    rintro e w5 ⟨rfl, h⟩
    have H5 := hid h
    clear h H4b
    go_wp2_with fail
    refine (env_of (refas_r st a0 n0 c0 A L C xs rs _ ((on_rws HR2.out) _ H5.out.1) (by have := HN.out; omega) HL.out HS.out HRS.out) H5.out).mono ?_
    rintro e w6 ⟨rfl, h⟩
    have H6 := hid h
    clear h H5
    have heq := fun W : World => eq_sum rs rs HQ.out HQ.out W
    simp only [decide_true] at heq
    have qs := fun W : World => eq_yes s s rfl W
    obtain ⟨c0x6a, c0x6b, c0x6c, c0x6d⟩ := H6.out.cell (g8) (s) (by simp)
    have c0x6l := H6.out.lt (g8) (s) (by simp)
    have c0x6m := Nat.le_of_lt c0x6l
    obtain ⟨c6x6a, c6x6b, c6x6c, c6x6d⟩ := H6.out.cell (g10) (s) (by simp)
    have c6x6l := H6.out.lt (g10) (s) (by simp)
    have c6x6m := Nat.le_of_lt c6x6l
    have HLE := leftrec_any g cap n0 tb L xs a0 c0 A C _ (HT.out.on H6.out.1) ((on_rws HR2.out) _ H6.out.1) HN.out HL.out
    have HLE := hid HLE
    go_wp2_with fail
    refine HLE.out.mono ?_
    rintro e w9 ⟨rfl, k, rfl⟩
    go_wp2
    go_ret
    exact ⟨rfl, below_drewN (HW2.out.trans (H6.out.1.mono HW2.out.size)) k⟩
end Go.Proofs.YtikmhnlhaolbfaaDoor

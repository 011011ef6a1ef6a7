/-
  burrowref05.Bytes, As, walked: the document's own. Conditions: a thousand parts at most, each of 2^20 bytes at most.
-/
import Derived.Deep.Onto
import Derived.Test.YtgmnpkgnedngjaaDoorPkJ
import Derived.Test.YtgmnpkgnedngjaaDoorPkN
import Derived.Test.YtgmnpkgnedngjaaDoorPkO
namespace Go.Proofs.YtgmnpkgnedngjaaDoor
open Go.RowKit
set_option linter.unusedVariables false
set_option linter.unusedSimpArgs false

/-- a slice of the call's own; what came in as it was -/
def Bf (w : World) (X : List UInt8) (v : Value) (w' : World) : Prop := Below w.heap.size w w' ∧ Ow w' w.heap.size v X
theorem Bf.old {w wr : World} {X : List UInt8} {v : Value} (h : Bf w X v wr) : Below w.heap.size w wr := h.1
theorem Bf.form {w wr : World} {X : List UInt8} {A : Option Addr} {m c : Nat} (h : Bf w X (.slice A m c) wr) : m = X.length ∧ X.length ≤ c ∧ Rd wr A X ∧ (A = none → c = 0) := by
  obtain ⟨A2, c2, hv, h1, _, h2, h3⟩ := h.2.form
  injection hv with e1 e2 e3
  subst e1; subst e3
  exact ⟨e2, h1, h2, h3⟩
theorem Bf.out {w wr w2 : World} {X : List UInt8} {v : Value} {e : Ending} {bs : List UInt8} (h : Below w.heap.size w wr) (ho : OutO wr bs e w2) : ∃ A m c, e = .returned (.slice A m c) ∧ Hid (Bf w bs (.slice A m c) w2) := by
  obtain ⟨v2, rfl, how, hb⟩ := ho
  obtain ⟨A, c, rfl, _, _, _, _⟩ := how.form
  exact ⟨A, _, c, rfl, hid ⟨h.trans (hb.mono h.size), World.ownsRow.mono how h.size⟩⟩
theorem rb_at {w wr : World} {X : List UInt8} {A : Option Addr} {m c : Nat} (H : Hid (Bf w X (.slice A m c) wr)) (B : Option Addr) (d n : Nat) (ls : List UInt8) (hl : ls.length = n) (hr : Rd wr B ls) (hB : B = none → d = 0) (hX : X.length ≤ 35184372088832) (hn : n ≤ 35184372088832) :
    Calls Tryd.prog 42 #[.slice A m c, .slice B n d] wr fun e w' => ∃ A2 m2 c2, e = .returned (.slice A2 m2 c2) ∧ Hid (Bf w (X ++ (be n 4 ++ ls)) (.slice A2 m2 c2) w') := by
  obtain ⟨hm, _, h2, h3⟩ := H.out.form
  subst hm; subst hl
  refine (rputBytes_any A B c d X ls wr h2 hr h3 hB hX hn).mono ?_
  exact fun e w1 h => Bf.out (X := X) (v := .slice A X.length c) H.out.old h
theorem rp_at {w wr : World} {X : List UInt8} {A : Option Addr} {m c : Nat} (H : Hid (Bf w X (.slice A m c) wr)) (n : Nat) (hX : X.length ≤ 35184372088832) (hn : n < 18446744073709551616) :
    Calls Tryd.prog 43 #[.slice A m c, .int .u64 (n : Int), .int .i64 4] wr fun e w' => ∃ A2 m2 c2, e = .returned (.slice A2 m2 c2) ∧ Hid (Bf w (X ++ be n 4) (.slice A2 m2 c2) w') := by
  obtain ⟨hm, _, h2, h3⟩ := H.out.form
  subst hm
  refine (rput_any A c n 4 4 X wr h2 h3 (by omega) hn (by decide) (by decide)).mono ?_
  exact fun e w1 h => Bf.out (X := X) (v := .slice A X.length c) H.out.old h
set_option maxRecDepth 100000 in
set_option maxHeartbeats 4000000 in
theorem refBytes_any (st : ByteArray) (a0 : Option Addr) (n0 c0 : Nat) (A : Nat → Option Addr) (L C : Nat → Nat) (xs : Nat → List UInt8) (w : World) (hR : Rws w a0 n0 A L C xs) (hn : n0 ≤ 1000) (hL : ∀ r, r < n0 → L r ≤ 1048576) (hs : st.size ≤ 1000000) :
    Calls Tryd.prog 31 #[.string st, .slice a0 n0 c0] w fun e w' => ∃ A2 m2 c2, e = .returned (.slice A2 m2 c2) ∧ Hid (Bf w (spelt st.data.toList n0 xs n0) (.slice A2 m2 c2) w') := by
  have HR := hid hR
  have HL := hid hL
  have HS := hid hs
  have HSL := hid (show st.data.toList.length = st.size by rw [Array.length_toList]; rfl)
  clear hR hL hs
  obtain ⟨cap, w1, RC, HRD, HB1⟩ := conv_str st w
  have hcv := RC.out
  have H1 := hid (p := Bf w [] (.slice none 0 0) w1) ⟨HB1.out, Ow.nil _ _⟩
  go_enter Tryd.func31, Tryd.ntmps31
  go_wp2_with fail
  clear hcv RC
  refine (rb_at H1 (some ⟨w.heap.size, 0, none⟩) cap st.size st.data.toList HSL.out HRD.out (fun h => by cases h) (by decide) (by have := HS.out; omega)).mono ?_
  rintro e w2 ⟨A2, m2, c2, rfl, H2⟩
  clear H1 HRD HB1
  have hw : IntKind.u64.wrap (n0 : Int) = (n0 : Int) := by rw [IntKind.wrap_u64]; omega
  go_wp2_with fail
  refine (rp_at H2 n0 (by have := HS.out; simp [be_length, HSL.out]; omega) (by omega)).mono ?_
  rintro e w3 ⟨A3, m3, c3, rfl, H3⟩
  have H4 := hid (p := Bf w (spelt st.data.toList n0 xs 0) (.slice A3 m3 c3) w3) (by have := H3.out; simpa [spelt, flat, HSL.out] using this)
  clear H2 H3 hw
  go_wp2_with fail
  go_loopw [5, 6] (fun s i wr => ∃ (k m c : Nat) (A' : Option Addr), k ≤ n0 ∧ i = .int .i64 k ∧ s = .slice A' m c ∧ Hid (Bf w (spelt st.data.toList n0 xs k) (.slice A' m c) wr)) (fun _ i _ => n0 - (intOf i).toNat)
  case atStart => exact ⟨0, m3, c3, A3, Nat.zero_le _, rfl, rfl, H4⟩
  case round =>
    clear H4
    obtain ⟨k, m, c, A', hk, rfl, rfl, HF⟩ := hrel
    by_cases hlt : k < n0
    · obtain ⟨⟨go, o, rfl, hgo, hcell⟩, hl1, hrd1, hlc, hcb, hac⟩ := HR.out k hlt
      have hcell2 := (HF.out.old.cell (p := ⟨go, o + k, none⟩) hgo).trans hcell
      have HL1 := hid hl1
      have HRD := hid (hrd1.below HF.out.old (Nat.le_refl _))
      have HAC := hid hac
      have HLk := hid (HL.out k hlt)
      have HLT := hid hlt
      have HSP := hid (spelt_length st.data.toList n0 xs k (fun r hr => by rw [(HR.out r (by omega)).2.1]; exact HL.out r (by omega)))
      clear hcell hl1 hrd1 hlc hcb hac hgo
      go_wp2_with fail
      refine (rb_at HF (A k) (C k) (L k) (xs k) HL1.out HRD.out HAC.out (by have h1 := HSP.out; have h2 := HSL.out; have h3 := HS.out; have h5 := HLT.out; rw [h2] at h1; omega) (by have := HLk.out; omega)).mono ?_
      rintro e w4 ⟨A4, m4, c4, rfl, H4⟩
      have H5 := hid (p := Bf w (spelt st.data.toList n0 xs (k + 1)) (.slice A4 m4 c4) w4) (by have := H4.out; rw [← HL1.out] at this; simpa [spelt, flat] using this)
      clear H4 hcell2
      go_wp2
      exact ⟨⟨k + 1, m4, c4, A4, HLT.out, by go_num, rfl, H5⟩, by have := HLT.out; simp [intOf]; omega⟩
    · obtain rfl : k = n0 := by omega
      go_wp2
      go_ret
      exact ⟨A', m, c, rfl, HF⟩
set_option maxRecDepth 100000 in
set_option maxHeartbeats 4000000 in
theorem refAs_any (st : ByteArray) (a0 : Option Addr) (n0 c0 : Nat) (A : Nat → Option Addr) (L C : Nat → Nat) (xs : Nat → List UInt8) (w : World) (hR : Rws w a0 n0 A L C xs) (hn : n0 ≤ 1000) (hL : ∀ r, r < n0 → L r ≤ 1048576) (hs : st.size ≤ 1000000) :
    Calls Tryd.prog 20 #[.string st, .slice a0 n0 c0] w fun e w' => e = .returned (.agg (bvs (sha (spelt st.data.toList n0 xs n0))).toArray) ∧ Below w.heap.size w w' := by
  have HR := hid hR
  have HL := hid hL
  have HS := hid hs
  have HSL := hid (show st.data.toList.length = st.size by rw [Array.length_toList]; rfl)
  clear hR hL hs
  have HZ1 : Hid (Bt (w.alloc (.cells #[.int .u8 0, .int .u8 0, .int .u8 0, .int .u8 0, .int .u8 0, .int .u8 0, .int .u8 0, .int .u8 0, .int .u8 0, .int .u8 0, .int .u8 0, .int .u8 0, .int .u8 0, .int .u8 0, .int .u8 0, .int .u8 0, .int .u8 0, .int .u8 0, .int .u8 0, .int .u8 0, .int .u8 0, .int .u8 0, .int .u8 0, .int .u8 0, .int .u8 0, .int .u8 0, .int .u8 0, .int .u8 0, .int .u8 0, .int .u8 0, .int .u8 0, .int .u8 0] 40)) w.heap.size 40 (List.replicate 32 0)) := hid (heap_alloc_new w _)
  have HB1 : Hid (Below w.heap.size w (w.alloc (.cells #[.int .u8 0, .int .u8 0, .int .u8 0, .int .u8 0, .int .u8 0, .int .u8 0, .int .u8 0, .int .u8 0, .int .u8 0, .int .u8 0, .int .u8 0, .int .u8 0, .int .u8 0, .int .u8 0, .int .u8 0, .int .u8 0, .int .u8 0, .int .u8 0, .int .u8 0, .int .u8 0, .int .u8 0, .int .u8 0, .int .u8 0, .int .u8 0, .int .u8 0, .int .u8 0, .int .u8 0, .int .u8 0, .int .u8 0, .int .u8 0, .int .u8 0, .int .u8 0] 40))) := hid ((Below.refl _ _).alloc (Nat.le_refl _) _)
  have HR1 := hid (p := Rws (w.alloc (.cells #[.int .u8 0, .int .u8 0, .int .u8 0, .int .u8 0, .int .u8 0, .int .u8 0, .int .u8 0, .int .u8 0, .int .u8 0, .int .u8 0, .int .u8 0, .int .u8 0, .int .u8 0, .int .u8 0, .int .u8 0, .int .u8 0, .int .u8 0, .int .u8 0, .int .u8 0, .int .u8 0, .int .u8 0, .int .u8 0, .int .u8 0, .int .u8 0, .int .u8 0, .int .u8 0, .int .u8 0, .int .u8 0, .int .u8 0, .int .u8 0, .int .u8 0, .int .u8 0] 40)) a0 n0 A L C xs) (fun r hr => by
    obtain ⟨⟨go, o, h1, h2, h3⟩, h4, h5, h6, h7, h8⟩ := HR.out r hr
    exact ⟨⟨go, o, h1, Nat.lt_of_lt_of_le h2 HB1.out.size, (HB1.out.cell (p := ⟨go, o + r, none⟩) h2).trans h3⟩, h4, h5.below HB1.out (Nat.le_refl _), h6, h7, h8⟩)
  go_enter Tryd.func20, Tryd.ntmps20
  go_wp2_with fail
  generalize w.alloc (.cells #[.int .u8 0, .int .u8 0, .int .u8 0, .int .u8 0, .int .u8 0, .int .u8 0, .int .u8 0, .int .u8 0, .int .u8 0, .int .u8 0, .int .u8 0, .int .u8 0, .int .u8 0, .int .u8 0, .int .u8 0, .int .u8 0, .int .u8 0, .int .u8 0, .int .u8 0, .int .u8 0, .int .u8 0, .int .u8 0, .int .u8 0, .int .u8 0, .int .u8 0, .int .u8 0, .int .u8 0, .int .u8 0, .int .u8 0, .int .u8 0, .int .u8 0, .int .u8 0] 40) = w1 at *
  refine (refBytes_any st a0 n0 c0 A L C xs w1 HR1.out hn HL.out HS.out).mono ?_
  rintro e w2 ⟨A2, m2, c2, rfl, H2⟩
  go_wp2_with fail
  obtain ⟨hm, h1, h2, h3⟩ := H2.out.form
  have HM := hid hm
  have H1 := hid h1
  have H2r := hid h2
  have H3 := hid h3
  have HZ2 := hid (HZ1.out.on H2.out.old)
  have HB2 := hid (HB1.out.trans (H2.out.old.mono HB1.out.size))
  have HSP := hid (spelt_length st.data.toList n0 xs n0 (fun r hr => by rw [(HR.out r hr).2.1]; exact HL.out r hr))
  clear hm h1 h2 h3
  refine (refof_any A2 c2 (spelt st.data.toList n0 xs n0) m2 w2 HM.out.symm H2r.out (by rw [HM.out]; exact H1.out) H3.out (by rw [HM.out]; have h1 := HSP.out; have h2 := HSL.out; have h3 := HS.out; rw [h2] at h1; omega)).mono ?_
  rintro e w3 ⟨rfl, hb3⟩
  have HZ3 := hid (HZ2.out.on hb3)
  have HB3 := hid (HB2.out.trans (hb3.mono HB2.out.size))
  have HQ := hid (sha_length (spelt st.data.toList n0 xs n0))
  clear hb3
  generalize hr : sha (spelt st.data.toList n0 xs n0) = r at *
  have HRR := hid hr
  clear hr
  have HI44 := hi44 r HQ.out
  have HO8 : Hid ((bvs (List.replicate 32 0)).toArray.size = (bvs r).toArray.size) := hid (by rw [bvs_size, bvs_size, HQ.out, List.length_replicate])
  have HZR := hid (HZ3.out.row (m := r))
  have HBR := hid (p := Below w.heap.size w (w3.setRow w.heap.size (bvs r).toArray)) (below_setRow HB3.out (Nat.le_refl _) _)
  have HDA := bvs_all r
  have HZZ := HZ3.out
  unfold Bt at HZZ
  have HZZ := hid HZZ
  go_wp2_with (refine wpList_store_row rfl 40 (.tmp 4) (.tmp 8) rfl w.heap.size (bvs r).toArray rfl rfl 40 _ HZZ.out HI44.out HO8.out HDA ?_)
  exact bodyPost_ret (v := .agg (bvs r).toArray) (results_cell_row (p := 4) (ty := 40) Tryd.results20 _ _ w.heap.size 40 (bvs r).toArray (0, 0) _ rfl HZR.out Tryd.underlying40 rfl HI44.out) rfl ⟨by rw [HRR.out], HBR.out⟩
end Go.Proofs.YtgmnpkgnedngjaaDoor

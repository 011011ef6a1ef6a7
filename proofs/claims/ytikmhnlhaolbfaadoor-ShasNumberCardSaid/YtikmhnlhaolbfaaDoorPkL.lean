/-
  burrowlaw05.fixed, walked: it answers true. Condition: the library's table K lies there.
  burrowlaw05.bytes and burrowlaw01.SameRecords, walked; what is spelt tells what it was spelt of. Conditions: 1000 parts at most, each of 2^20 bytes at most; a text of 1000000 bytes at most.
-/
import Derived.Test.YtikmhnlhaolbfaaDoorPkK
import Derived.Test.YtikmhnlhaolbfaaDoorPkJ
import Derived.Test.YtikmhnlhaolbfaaDoorPkC
namespace Go.Proofs.YtikmhnlhaolbfaaDoor
open Go.RowKit
set_option linter.unusedVariables false
set_option linter.unusedSimpArgs false

set_option maxRecDepth 100000 in
theorem fxr_ok {w0 : World} {g1 : Nat} {r : List UInt8} {Q : Exit → Act → World → Prop} (HK : Hid (Kt w0)) (H1 : Hid (Nm w0 g1 0)) (HR : Hid (sha abc20 = r)) (HQ : Hid (∀ (c3 c5 c6 c7 c8 c9 c10 c11 c12 c13 c14 d15 d16 d17 d18 d19 d20 d21 d22 d23 d24 d25 d26 d27 d28 d29 d30 d31 d32 d33 d34 d35 d36 d37 : Value) (u : World), Below w0.heap.size w0 u → Q .normal ⟨#[.bool true, .pointer (some ⟨g1, 0, none⟩), .int .i64 0, c3, .int .i64 1, c5, c6, c7, c8, c9, c10, c11, c12, c13, c14, d15, d16, d17, d18, d19, d20, d21, d22, d23, d24, d25, d26, d27, d28, d29, d30, d31, d32, d33, d34, d35, d36, d37], []⟩ u)) (c0 c3 c5 c6 c7 c8 c9 c10 c11 c12 c13 c14 c15 c16 c17 c18 c19 c20 c21 c22 c23 c24 c25 c26 c27 c28 c29 c30 c31 c32 c33 c34 c35 c36 c37 : Value) :
    Code.wp Tryd.prog fxr Q ⟨#[c0, .pointer (some ⟨g1, 0, none⟩), .int .i64 0, c3, .int .i64 1, c5, c6, c7, c8, c9, c10, c11, c12, c13, c14, c15, c16, c17, c18, c19, c20, c21, c22, c23, c24, c25, c26, c27, c28, c29, c30, c31, c32, c33, c34, c35, c36, c37], []⟩ w0 := by
  conv => arg 2; whnf
  refine wp_region_noPanic ?_
  refine Goes.region (FxS g1) (by kernel_rfl) ?_
  exact fx_000000000 HK H1 HR HQ _ (hid (Below.refl w0.heap.size w0).drew) _ _ _ _ _ _ _ _ _ _ _ _ _ _ _ _ _ _ _ _ _ _ _ _ _ _ _ _ _ _ _ _ _ _ _
theorem nof_one (s : List UInt8) (n : Nat) (xs : Nat → List UInt8) : nof s n xs 1 = 0 := by
  unfold nof wid
  exact Nat.mod_one _
theorem rws_nil (w : World) : Rws w none 0 (fun _ => none) (fun _ => 0) (fun _ => 0) (fun _ => []) := fun r hr => absurd hr (Nat.not_lt_zero _)
set_option maxRecDepth 100000 in
set_option maxHeartbeats 4000000 in
theorem fixed_any (w : World) (hK : Kt w) : Calls Tryd.prog 49 #[] w fun e w' => e = .returned (.bool true) ∧ Below w.heap.size w w' := by
  have HK := hid hK
  clear hK
  obtain ⟨s, hv⟩ : ∃ z, (if 1 = 0 then 0 else nof (⟨#[120]⟩ : ByteArray).data.toList 0 (fun _ => []) 1) = z := ⟨_, rfl⟩
  have HS := hid (show s = 0 by rw [← hv, if_neg (by decide)]; exact nof_one _ _ _)
  have HV := hid hv
  clear hv
  obtain ⟨r, hr⟩ : ∃ z, sha abc20 = z := ⟨_, rfl⟩
  have HR := hid hr
  clear hr
  have H0 := hid (Env.refl w)
  go_enter Tryd.func49, Tryd.ntmps49
  go_wp2_with fail
  refine (lof_at 1 1 H0.out (by decide) rfl).mono ?_
  rintro e w1 ⟨rfl, h⟩
  have H1 := hid h
  clear h H0
  go_wp2_with fail
  refine (env_of (number_any ⟨#[120]⟩ none 0 0 _ _ _ _ 1 s 0 _ (by decide) (rws_nil _) ((on_kt HK.out) _ H1.out.1) (by decide) (fun r hr => absurd hr (Nat.not_lt_zero _)) (by decide) (Nat.le_refl _) (fun _ => rfl) HV.out rfl) H1.out).mono ?_
  rintro e w2 ⟨rfl, h⟩
  have H2 := hid h
  clear h H1
  go_upto_region 2 with fail
  have H2b := hid (H2.out.new s)
  clear H2
  generalize w2.alloc (.cells (cls s) 24) = w2b at *
  generalize w2.heap.size = g1 at *
  go_wp2_with fail
  refine (lof_at 0 0 H2b.out (by decide) rfl).mono ?_
  rintro e w3 ⟨rfl, h⟩
  have H3 := hid h
  clear h H2b
  go_wp2_with fail
  refine (env_of (number_any ⟨#[120]⟩ none 0 0 _ _ _ _ 0 0 1 _ (by decide) (rws_nil _) ((on_kt HK.out) _ H3.out.1) (by decide) (fun r hr => absurd hr (Nat.not_lt_zero _)) (by decide) (Nat.le_refl _) (fun _ => rfl) rfl rfl) H3.out).mono ?_
  rintro e w4 ⟨rfl, h⟩
  have H4 := hid h
  clear h H3
  go_upto_region 3 with fail
  have H4b := hid (H4.out.new 0)
  clear H4
  generalize w4.alloc (.cells (cls 0) 24) = w4b at *
  generalize w4.heap.size = g3 at *
  obtain rfl := HS.out
  have HN1 := hid (H4b.out.nm g1 0 (by simp))
  have HKB := hid ((on_kt HK.out) _ H4b.out.1)
  have HBW := hid H4b.out.1
  refine fxr_ok HKB HN1 HR (hid ?_) _ _ _ _ _ _ _ _ _ _ _ _ _ _ _ _ _ _ _ _ _ _ _ _ _ _ _ _ _ _ _ _ _ _ _
  intro c3 c5 c6 c7 c8 c9 c10 c11 c12 c13 c14 d15 d16 d17 d18 d19 d20 d21 d22 d23 d24 d25 d26 d27 d28 d29 d30 d31 d32 d33 d34 d35 d36 d37 u hu
  have HU := hid (HBW.out.trans (hu.mono HBW.out.size))
  clear hu
  go_wp2
  go_ret
  exact ⟨rfl, HU.out⟩
end Go.Proofs.YtikmhnlhaolbfaaDoor
namespace Go.Proofs.YtikmhnlhaolbfaaDoor
open Go.RowKit
set_option linter.unusedVariables false
set_option linter.unusedSimpArgs false

theorem be_inj {n m k : Nat} (h : be n k = be m k) (hn : n < 256 ^ k) (hm : m < 256 ^ k) : n = m := by
  have := congrArg tell h
  rwa [tell_be, tell_be, Nat.mod_eq_of_lt hn, Nat.mod_eq_of_lt hm] at this
theorem flat_front (xs : Nat → List UInt8) (k : Nat) : flat xs (k + 1) = (be (xs 0).length 4 ++ xs 0) ++ flat (fun r => xs (r + 1)) k := by
  induction k with
  | zero => simp [flat]
  | succ k ih =>
    show flat xs (k + 1) ++ _ = _
    rw [ih, List.append_assoc]
    rfl
theorem head_inj {a b : List UInt8} {x y : List UInt8} (ha : a.length < 4294967296) (hb : b.length < 4294967296) (h : (be a.length 4 ++ a) ++ x = (be b.length 4 ++ b) ++ y) : a = b ∧ x = y := by
  rw [List.append_assoc, List.append_assoc] at h
  obtain ⟨h1, h2⟩ := List.append_inj h (by rw [be_length, be_length])
  have hl := be_inj h1 ha hb
  exact List.append_inj h2 hl
theorem flat_inj : ∀ (n : Nat) (xs ys : Nat → List UInt8), (∀ r, r < n → (xs r).length < 4294967296 ∧ (ys r).length < 4294967296) → flat xs n = flat ys n → ∀ r, r < n → xs r = ys r
  | 0, _, _, _, _, r, hr => absurd hr (Nat.not_lt_zero _)
  | n + 1, xs, ys, hl, h, r, hr => by
    rw [flat_front, flat_front] at h
    obtain ⟨h1, h2⟩ := head_inj (hl 0 (Nat.succ_pos _)).1 (hl 0 (Nat.succ_pos _)).2 h
    rcases r with _ | r
    · exact h1
    · exact flat_inj n (fun r => xs (r + 1)) (fun r => ys (r + 1)) (fun r hr => hl (r + 1) (by omega)) h2 r (by omega)
theorem flat_same {n : Nat} {xs ys : Nat → List UInt8} (h : ∀ r, r < n → xs r = ys r) : flat xs n = flat ys n := by
  induction n with
  | zero => rfl
  | succ n ih =>
    show flat xs n ++ _ = flat ys n ++ _
    rw [ih (fun r hr => h r (by omega)), h n (by omega)]
theorem spelt_iff (s t : List UInt8) (n m : Nat) (xs ys : Nat → List UInt8) (hs : s.length < 4294967296) (ht : t.length < 4294967296) (hn : n < 4294967296) (hm : m < 4294967296) (hx : ∀ r, r < n → (xs r).length < 4294967296) (hy : ∀ r, r < m → (ys r).length < 4294967296) :
    spelt s n xs n = spelt t m ys m ↔ s = t ∧ n = m ∧ ∀ r, r < n → xs r = ys r := by
  constructor
  · intro h
    unfold spelt at h
    rw [List.append_assoc, List.append_assoc (be t.length 4 ++ t)] at h
    obtain ⟨h1, h2⟩ := head_inj hs ht h
    obtain ⟨h3, h4⟩ := List.append_inj h2 (by rw [be_length, be_length])
    have e := be_inj h3 hn hm
    subst e
    exact ⟨h1, rfl, flat_inj n xs ys (fun r hr => ⟨hx r hr, hy r hr⟩) h4⟩
  · rintro ⟨rfl, rfl, h⟩
    unfold spelt
    rw [flat_same h]
/-- bytes so far, in a slice -/
def Bq (w : World) (X : List UInt8) (A : Option Addr) (m c : Nat) (w' : World) : Prop := Below w.heap.size w w' ∧ X.length = m ∧ Rd w' A X ∧ m ≤ c ∧ (A = none → c = 0)
theorem bq_of {w wr w' : World} {X : List UInt8} {g n : Nat} (hb : Below w.heap.size w wr) (hrow : Row w' g X) (hn : X.length = n) (hb2 : Below wr.heap.size wr w') : Bq w X (some ⟨g, 0, none⟩) n n w' :=
  ⟨hb.trans (hb2.mono hb.size), hn, hrow.rd0, Nat.le_refl _, fun e => by cases e⟩
theorem bq_bytes {w wr : World} {X : List UInt8} {A : Option Addr} {m c : Nat} (H : Hid (Bq w X A m c wr)) (B : Option Addr) (d n : Nat) (ls : List UInt8) (hl : ls.length = n) (hr : Rd wr B ls) (hX : m ≤ 140737488351232) (hn : n ≤ 140737488351232) :
    Calls Tryd.prog 89 #[.slice A m c, .slice B n d] wr fun e w' => ∃ A2 m2 c2, e = .returned (.slice A2 m2 c2) ∧ Hid (Bq w (X ++ (be n 4 ++ ls)) A2 m2 c2 w') := by
  obtain ⟨hb, hm, hR, _, _⟩ := H.out
  subst hm
  subst hl
  refine (putBytes_any A B c d X ls wr hR hr hX hn).mono ?_
  rintro e w1 ⟨rfl, h1, h2⟩
  exact ⟨_, _, _, rfl, hid (bq_of hb h1 (by simp [be_length]) h2)⟩
theorem bq_put {w wr : World} {X : List UInt8} {A : Option Addr} {m c : Nat} (H : Hid (Bq w X A m c wr)) (n : Nat) (hX : m ≤ 140737488355328) (hn : n < 18446744073709551616) :
    Calls Tryd.prog 90 #[.slice A m c, .int .u64 (n : Int), .int .i64 4] wr fun e w' => ∃ A2 m2 c2, e = .returned (.slice A2 m2 c2) ∧ Hid (Bq w (X ++ be n 4) A2 m2 c2 w') := by
  obtain ⟨hb, hm, hR, _, _⟩ := H.out
  subst hm
  refine (put_any A c n 4 4 X wr hR hX hn (by decide)).mono ?_
  rintro e w1 ⟨rfl, h1, h2⟩
  exact ⟨_, _, _, rfl, hid (bq_of hb h1 (by simp [be_length]) h2)⟩
set_option maxRecDepth 100000 in
set_option maxHeartbeats 4000000 in
theorem bytes_any (st : ByteArray) (a0 : Option Addr) (n0 c0 : Nat) (A : Nat → Option Addr) (L C : Nat → Nat) (xs : Nat → List UInt8) (w : World) (hR : Rws w a0 n0 A L C xs) (hn : n0 ≤ 1000) (hL : ∀ r, r < n0 → L r ≤ 1048576) (hs : st.size ≤ 1000000) :
    Calls Tryd.prog 50 #[.string st, .slice a0 n0 c0] w fun e w' => ∃ A2 m2 c2, e = .returned (.slice A2 m2 c2) ∧ Hid (Bq w (spelt st.data.toList n0 xs n0) A2 m2 c2 w') := by
  have HR := hid hR
  have HL := hid hL
  have HS := hid hs
  have HSL := hid (show st.data.toList.length = st.size by rw [Array.length_toList]; rfl)
  clear hR hL hs
  obtain ⟨cap, w1, RC, HRD, HB1⟩ := conv_str st w
  have hcv := RC.out
  have H1 := hid (p := Bq w [] none 0 0 w1) ⟨HB1.out, rfl, Rd.nil _ _, Nat.le_refl _, fun _ => rfl⟩
  go_enter Tryd.func50, Tryd.ntmps50
  go_wp2_with fail
  clear hcv RC
  refine (bq_bytes H1 (some ⟨w.heap.size, 0, none⟩) cap st.size st.data.toList HSL.out HRD.out (by decide) (by have := HS.out; omega)).mono ?_
  rintro e w2 ⟨A2, m2, c2, rfl, H2⟩
  clear H1 HRD HB1
  have hw : IntKind.u64.wrap (n0 : Int) = (n0 : Int) := by rw [IntKind.wrap_u64]; omega
  go_wp2_with fail
  refine (bq_put H2 n0 (by have h1 := H2.out.2.1; have := HS.out; simp [be_length, HSL.out] at h1; omega) (by omega)).mono ?_
  rintro e w3 ⟨A3, m3, c3, rfl, H3⟩
  have H4 := hid (p := Bq w (spelt st.data.toList n0 xs 0) A3 m3 c3 w3) (by have := H3.out; simpa [spelt, flat, HSL.out] using this)
  clear H2 H3 hw
  go_wp2_with fail
  go_loopw [5, 6] (fun s i wr => ∃ (k m c : Nat) (A' : Option Addr), k ≤ n0 ∧ i = .int .i64 k ∧ s = .slice A' m c ∧ Hid (Bq w (spelt st.data.toList n0 xs k) A' m c wr)) (fun _ i _ => n0 - (intOf i).toNat)
  case atStart => exact ⟨0, m3, c3, A3, Nat.zero_le _, rfl, rfl, H4⟩
  case round =>
    clear H4
    obtain ⟨k, m, c, A', hk, rfl, rfl, HF⟩ := hrel
    by_cases hlt : k < n0
    · obtain ⟨⟨go, o, rfl, hgo, hcell⟩, hl1, hrd1, hlc, hcb, hac⟩ := HR.out k hlt
      have hcell2 := (HF.out.1.cell (p := ⟨go, o + k, none⟩) hgo).trans hcell
      have HL1 := hid hl1
      have HRD := hid (hrd1.below HF.out.1 (Nat.le_refl _))
      have HLk := hid (HL.out k hlt)
      have HLT := hid hlt
      have HSP := hid (spelt_length st.data.toList n0 xs k (fun r hr => by rw [(HR.out r (by omega)).2.1]; exact HL.out r (by omega)))
      clear hcell hl1 hrd1 hlc hcb hac hgo
      go_wp2_with fail
      refine (bq_bytes HF (A k) (C k) (L k) (xs k) HL1.out HRD.out (by have h0 := HF.out.2.1; have h1 := HSP.out; have h2 := HSL.out; have h3 := HS.out; have h5 := HLT.out; rw [h2] at h1; omega) (by have := HLk.out; omega)).mono ?_
      rintro e w4 ⟨A4, m4, c4, rfl, H4⟩
      have H5 := hid (p := Bq w (spelt st.data.toList n0 xs (k + 1)) A4 m4 c4 w4) (by have := H4.out; rw [← HL1.out] at this; simpa [spelt, flat] using this)
      clear H4 hcell2
      go_wp2
      exact ⟨⟨k + 1, m4, c4, A4, HLT.out, by go_num, rfl, H5⟩, by have := HLT.out; simp [intOf]; omega⟩
    · obtain rfl : k = n0 := by omega
      go_wp2
      go_ret
      exact ⟨A', m, c, rfl, HF⟩
set_option maxRecDepth 100000 in
set_option maxHeartbeats 2000000 in
theorem samerec_any (a0 b0 : Option Addr) (n0 c0 k0 d0 : Nat) (A B : Nat → Option Addr) (L C M D : Nat → Nat) (xs ys : Nat → List UInt8) (w : World) (hR : Rws w a0 n0 A L C xs) (hS : Rws w b0 k0 B M D ys) (hn : n0 ≤ 1000) (hL : ∀ r, r < n0 → L r ≤ 1048576) :
    Calls Tryd.prog 51 #[.slice a0 n0 c0, .slice b0 k0 d0] w fun e w' => ∃ b : Bool, e = .returned (.bool b) ∧ (b = true ↔ n0 = k0 ∧ ∀ r, r < n0 → xs r = ys r) ∧ ∃ k, w' = w.drewN k := by
  have HR := hid hR
  have HS := hid hS
  have HL := hid hL
  clear hR hS hL
  by_cases hne : n0 = k0
  · subst hne
    go_enter Tryd.func51, Tryd.ntmps51
    go_wp2
    go_loopw [5] (fun i wr => ∃ k n : Nat, k ≤ n0 ∧ i = .int .i64 k ∧ Hid (∀ r, r < k → xs r = ys r) ∧ Hid (wr = w.drewN n)) (fun i _ => n0 - (intOf i).toNat)
    case atStart => exact ⟨0, 0, Nat.zero_le _, rfl, hid (fun r hr => absurd hr (Nat.not_lt_zero _)), hid rfl⟩
    case round =>
      obtain ⟨k, n, hk, rfl, HE, HW⟩ := hrel
      by_cases hlt : k < n0
      · have HLT := hid hlt
        have HR2 := hid (p := Rws wr a0 n0 A L C xs) (by rw [HW.out]; exact HR.out)
        have HS2 := hid (p := Rws wr b0 n0 B M D ys) (by rw [HW.out]; exact HS.out)
        obtain ⟨⟨g1, o1, rfl, hg1, hc1⟩, hl1, hrd1, hlc1, hcb1, hac1⟩ := HR2.out k hlt
        obtain ⟨⟨g2, o2, rfl, hg2, hc2⟩, hl2, hrd2, hlc2, hcb2, hac2⟩ := HS2.out k hlt
        have HSB : Hid (∀ m, Calls Tryd.prog 52 #[.slice (A k) (L k) (C k), .slice (B k) (M k) (D k)] (wr.drewN m) fun e w' => e = .returned (.bool (decide (xs k = ys k))) ∧ ∃ j, w' = (wr.drewN m).drewN j) := hid fun m => samebytes_any (A k) (B k) (L k) (M k) (C k) (D k) (xs k) (ys k) (wr.drewN m) hrd1 hrd2 hl1 hl2 (by have := HL.out k hlt; omega)
        clear hl1 hrd1 hlc1 hcb1 hac1 hl2 hrd2 hlc2 hcb2 hac2 hg1 hg2
        by_cases he : xs k = ys k
        · have HE2 := hid (p := ∀ r, r < k + 1 → xs r = ys r) (fun r hr => by
            rcases Nat.lt_or_ge r k with h | h
            · exact HE.out r h
            · obtain rfl : r = k := by omega
              exact he)
          have HSB2 := hid (fun m => by have := HSB.out m; rw [decide_eq_true he] at this; exact this)
          clear HSB he HE
          go_wp2
          go_quiet ((go_at_call 52; exact Calls.quiet_of (HSB2.out _)))
          go_wp2
          go_roundw
          case rel => exact ⟨k + 1, n + nq, HLT.out, by go_num, HE2, by rw [HW.out]; exact hid (World.drewN_drewN ..)⟩
          case measure => have := HLT.out; simp [intOf]; omega
        · have HSB2 := hid (fun m => by have := HSB.out m; rw [decide_eq_false he] at this; exact this)
          have HNE := hid he
          clear HSB he
          go_wp2
          go_quiet ((go_at_call 52; exact Calls.quiet_of (HSB2.out _)))
          go_wp2
          go_ret
          exact ⟨false, rfl, ⟨fun h => (by cases h), fun h => absurd (h.2 k HLT.out) HNE.out⟩, n + nq, by rw [HW.out]; exact World.drewN_drewN ..⟩
      · obtain rfl : k = n0 := by omega
        go_wp2
        go_ret
        exact ⟨true, rfl, ⟨fun _ => ⟨by trivial, HE.out⟩, fun _ => rfl⟩, n, HW.out⟩
  · have h1 : ((n0 : Int) != (k0 : Int)) = true := by simp; omega
    have HNE := hid hne
    clear hne
    go_enter Tryd.func51, Tryd.ntmps51
    go_wp2
    go_ret
    exact ⟨false, rfl, ⟨fun h => (by cases h), fun h => absurd h.1 HNE.out⟩, 0, rfl⟩
end Go.Proofs.YtikmhnlhaolbfaaDoor

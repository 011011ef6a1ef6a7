/-
  (*burrowref09.Box).Back, walked: the document's block back. Conditions: none.
-/
import Derived.Test.YtbccnkjfjlmflaaCre
import Derived.Test.YtbccnkjfjlmflaaCij
import Derived.Deep.Cut
namespace Go.Proofs.Ytbccnkjfjlmflaa
open Go.RowKit
set_option linter.unusedVariables false
set_option linter.unusedSimpArgs false

/-- a byte mixed back -/
def nx (a b c d : UInt8) : UInt8 := tm a 14 ^^^ tm b 11 ^^^ tm c 13 ^^^ tm d 9
def nxc (b : List UInt8) (c : Nat) : List UInt8 := tab 16 fun i => if i / 4 < c then nx (cb b i 0) (cb b i 1) (cb b i 2) (cb b i 3) else gb b i
theorem nxc_length (b : List UInt8) (c : Nat) : (nxc b c).length = 16 := tab_length _ _
theorem nxc_none (b : List UInt8) (h : b.length = 16) : nxc b 0 = b := tab_eq 16 _ b h fun i hi => by rw [if_neg (by omega)]
theorem nxc_all (b : List UInt8) : nxc b 4 = imix b := tab_congr _ _ _ fun i hi => by rw [if_pos (by omega), nx]
theorem nxc_step (b : List UInt8) (c : Nat) (hc : c < 4) (p q r t : UInt8) (hp : gb b (4 * c) = p) (hq : gb b (4 * c + 1) = q) (hr : gb b (4 * c + 2) = r) (ht : gb b (4 * c + 3) = t) :
    ((((nxc b c).set (4 * c) (nx p q r t)).set (4 * c + 1) (nx q r t p)).set (4 * c + 2) (nx r t p q)).set (4 * c + 3) (nx t p q r) = nxc b (c + 1) := by
  unfold nxc
  rw [tab_set, tab_set, tab_set, tab_set]
  refine tab_congr _ _ _ fun i hi => ?_
  subst hp; subst hq; subst hr; subst ht
  unfold cb
  rcases Nat.lt_trichotomy (i / 4) c with h | h | h
  · rw [if_neg (by omega), if_neg (by omega), if_neg (by omega), if_neg (by omega), if_pos h, if_pos (by omega)]
  · have e : i = 4 * c + i % 4 := by omega
    have hm : i % 4 < 4 := Nat.mod_lt _ (by decide)
    rw [show (if i / 4 < c + 1 then nx (gb b (4 * (i / 4) + (i + 0) % 4)) (gb b (4 * (i / 4) + (i + 1) % 4)) (gb b (4 * (i / 4) + (i + 2) % 4)) (gb b (4 * (i / 4) + (i + 3) % 4)) else gb b i) = nx (gb b (4 * (i / 4) + (i + 0) % 4)) (gb b (4 * (i / 4) + (i + 1) % 4)) (gb b (4 * (i / 4) + (i + 2) % 4)) (gb b (4 * (i / 4) + (i + 3) % 4)) from if_pos (by omega), h]
    generalize i % 4 = m at *
    match m, hm with
    | 0, _ => subst e; rw [if_neg (by omega), if_neg (by omega), if_neg (by omega), if_pos (by omega)]; congr 2 <;> omega
    | 1, _ => subst e; rw [if_neg (by omega), if_neg (by omega), if_pos (by omega)]; congr 2 <;> omega
    | 2, _ => subst e; rw [if_neg (by omega), if_pos (by omega)]; congr 2 <;> omega
    | 3, _ => subst e; rw [if_pos (by omega)]; congr 2 <;> omega
  · rw [if_neg (by omega), if_neg (by omega), if_neg (by omega), if_neg (by omega), if_neg (by omega), if_neg (by omega)]
theorem nxc_at (b : List UInt8) (c i : Nat) (hi : i < 16) (h : c ≤ i / 4) : gb (nxc b c) i = gb b i := by rw [nxc, gb_tab _ _ _ hi, if_neg (by omega)]
theorem nxd0 (p q r t : UInt8) : tm p 14 ^^^ tm q 11 ^^^ tm r 13 ^^^ tm t 9 = nx p q r t := rfl
theorem nxd1 (p q r t : UInt8) : tm p 9 ^^^ tm q 14 ^^^ tm r 11 ^^^ tm t 13 = nx q r t p := by unfold nx; ac_rfl
theorem nxd2 (p q r t : UInt8) : tm p 13 ^^^ tm q 9 ^^^ tm r 14 ^^^ tm t 11 = nx r t p q := by unfold nx; ac_rfl
theorem nxd3 (p q r t : UInt8) : tm p 11 ^^^ tm q 13 ^^^ tm r 9 ^^^ tm t 14 = nx t p q r := by unfold nx; ac_rfl
theorem oub_mid (w b : List UInt8) (n : Nat) (h : 1 ≤ n) (h10 : n < 10) : hss (imix (ark w n (oub w b (10 - n)))) = oub w b (10 - n + 1) := by
  rw [oub, if_neg (by omega), show 10 - (10 - n) = n by omega]
theorem SI_back (x : UInt8) : gb SI (256 + x.toNat) = ib x := by
  rw [SI, gb_app2 _ _ _ (by rw [SB_len]; omega), SB_len, Nat.add_sub_cancel_left, ib_at]
/-- the bytes set back, i of them -/
def sct (b : List UInt8) (i : Nat) : List UInt8 := tab 16 fun j => if (j + 12 * (j % 4)) % 16 < i then ib (gb b ((j + 12 * (j % 4)) % 16)) else 0
theorem sct_length (b : List UInt8) (i : Nat) : (sct b i).length = 16 := tab_length _ _
theorem sct_none (b : List UInt8) : sct b 0 = List.replicate 16 0 := tab_eq 16 _ _ (by simp) fun i hi => by rw [if_neg (by omega), gb, List.getD_eq_getElem?_getD, List.getElem?_replicate]; simp [hi]
theorem sct_all (b : List UInt8) : sct b 16 = hss b := tab_congr _ _ _ fun i hi => by rw [if_pos (Nat.mod_lt _ (by decide))]
theorem sct_step (b : List UInt8) (i : Nat) (hi : i < 16) : (sct b i).set ((i + 4 * (i % 4)) % 16) (ib (gb b i)) = sct b (i + 1) := by
  rw [sct, tab_set]
  refine tab_congr _ _ _ fun j hj => ?_
  by_cases h : j = (i + 4 * (i % 4)) % 16
  · have e : (j + 12 * (j % 4)) % 16 = i := by omega
    rw [if_pos h, e, if_pos (by omega)]
  · have e : ¬ (j + 12 * (j % 4)) % 16 = i := by omega
    rw [if_neg h]
    by_cases h2 : (j + 12 * (j % 4)) % 16 < i
    · rw [if_pos h2, if_pos (by omega)]
    · rw [if_neg h2, if_neg (by omega)]
set_option maxRecDepth 100000 in
set_option maxHeartbeats 4000000 in
theorem rback_any (gx : Nat) (key b : List UInt8) (w : World) (hx : Bt w gx 43 SI) (hk : key.length = 16) (hb : b.length = 16) :
    Calls Try.prog 12 #[.pointer (some ⟨gx, 0, none⟩), .agg (bvs key).toArray, .agg (bvs b).toArray] w fun e w' => e = .returned (.agg (bvs (dec key b)).toArray) ∧ Below w.heap.size w w' := by
  have HX := hid hx
  have HK := hid hk
  have HB := hid hb
  clear hx hk hb
  have hzT := zvWr
  have hnT := z176r_ne
  have hsT := z176r_size
  have HWD := hid (fun W => words_any key W HK.out)
  have HKL := hid (kwords_length key 44)
  have HEN := hid (p := decw (kwords key 44) b = dec key b) rfl
  generalize kwords key 44 = kw at *
  have B3 := hid (bx3 w 22 22 22 key b (List.replicate 16 0))
  go_enter Try.func12, Try.ntmps12
  go_upto_region 1 with fail
  rw [← z16]
  generalize ((w.alloc (.cells (bvs key).toArray 22)).alloc (.cells (bvs b).toArray 22)).alloc (.cells (bvs (List.replicate 16 0)).toArray 22) = w1 at *
  go_cut [7] (fun s7 wx => ∃ g7, s7 = .pointer (some ⟨g7, 0, none⟩) ∧ Hid (Bx w [(g7, 53, kw), (w.heap.size + 1 + 1, 22, List.replicate 16 0), (w.heap.size + 1, 22, b), (w.heap.size, 22, key)] wx))
  case first =>
    refine wp_region_noPanic ?_
    refine Goes.region (SBx w [(w.heap.size + 1 + 1, 22, List.replicate 16 0), (w.heap.size + 1, 22, b), (w.heap.size, 22, key)] [5]) (by as_aux_lemma => kernel_rfl) ?_
    have BJ := hid (B3.out.drew)
    refine Goes.take (i := 0) (o := ⟨some 18, _, _, _, _, _⟩) [5] rfl (by as_aux_lemma => kernel_rfl) (by as_aux_lemma => kernel_rfl) (by as_aux_lemma => kernel_rfl) (fun _ _ _ h => h) (by as_aux_lemma => kernel_rfl) (fun L u h => SBx.quiet (by decide) h) (Or.inl ⟨by rfl, fun u hY => y_ld _ _ rfl _ _ rfl (have hX := SBx.yet hY (by decide); ld_all (hX.bt 2 rfl) 22 _ Try.underlying22 rfl 16 HK.out row16)⟩) (SBx.of BJ.out) ?_
    try simp only [putz]
    refine Goes.take (i := 1) (o := ⟨some 19, _, _, _, _, _⟩) (v := ?_) [] rfl (by as_aux_lemma => kernel_rfl) (by as_aux_lemma => kernel_rfl) (by as_aux_lemma => kernel_rfl) (fun _ _ _ h => h) (by as_aux_lemma => kernel_rfl) (fun L u h => SBx.quiet (by decide) h) (Or.inl ⟨by rfl, ?_⟩) (SBx.of BJ.out) ?_
    rotate_left
    · intro u hY; go_simp; try with_reducible rfl
    try simp only [putz]
    refine Goes.take (i := 2) (o := ⟨some 20, _, _, _, _, _⟩) (v := ?_) [] rfl (by as_aux_lemma => kernel_rfl) (by as_aux_lemma => kernel_rfl) (by as_aux_lemma => kernel_rfl) (fun _ _ _ h => h) (by as_aux_lemma => kernel_rfl) (fun L u h => SBx.quiet (by decide) h) (Or.inl ⟨by rfl, ?_⟩) (SBx.of BJ.out) ?_
    rotate_left
    · intro u hY; go_simp; try with_reducible rfl
    try simp only [putz]
    refine Goes.take (i := 3) (o := ⟨some 21, _, _, _, _, _⟩) (v := ?_) [] rfl (by as_aux_lemma => kernel_rfl) (by as_aux_lemma => kernel_rfl) (by as_aux_lemma => kernel_rfl) (fun _ _ _ h => h) (by as_aux_lemma => kernel_rfl) (fun L u h => SBx.quiet (by decide) h) (Or.inl ⟨by rfl, ?_⟩) (SBx.of BJ.out) ?_
    rotate_left
    · intro u hY; go_simp; try with_reducible rfl
    try simp only [putz]
    refine Goes.take (i := 4) (o := ⟨some 22, _, _, _, _, _⟩) [5] rfl (by as_aux_lemma => kernel_rfl) (by as_aux_lemma => kernel_rfl) (by as_aux_lemma => kernel_rfl) (fun _ _ _ h => h) (by as_aux_lemma => kernel_rfl) (fun L u h => SBx.quiet (by decide) h) (Or.inl ⟨by rfl, fun u hY => y_ld _ _ rfl _ _ rfl (have hX := SBx.yet hY (by decide); (SI_s ▸ ld_mid (HX.out.on hX.below) 40 _ Try.underlying40 rfl 0 256 (by rw [SI_length]; decide) ra256))⟩) (SBx.of BJ.out) ?_
    try simp only [putz]
    refine Goes.two (i := 5) (j := 6) (o := ⟨some 23, _, _, _, _, _⟩) (p := ⟨some 7, _, _, _, _, _⟩) (by as_aux_lemma => kernel_rfl) rfl rfl (fun K hK => ?_) (fun K hK => ?_)
    · go_simp
      with_reducible refine (HWD.out _).mono ?_
      rintro e v1 ⟨rfl, hba⟩
      have BJ := hid (BJ.out.on hba)
      clear hba
      go_wp2_with fail

      refine hK.out _ _ (SBx.of BJ.out) ?_
      clear hK K
      try simp only [putz]
      refine Goes.one (i := 6) (o := ⟨some 7, _, _, _, _, _⟩) (by as_aux_lemma => kernel_rfl) rfl (fun K hK => ?_)
      go_simp
      have BJ := hid (BJ.out.add 53 (List.replicate 176 0))
      rw [← z176rE] at BJ

      refine hK.out _ _ (SBx.off (by decide)) ?_
      clear hK K
      try simp only [putz]
      have hst := st_all (BJ.out.bt 0 rfl) 53 (kw) 176 HKL.out (by simp) wr176
      have BN := hid (BJ.out.row 0 rfl (kw))
      refine Goes.one (i := 7) (o := ⟨none, _, _, _, _, _⟩) (by as_aux_lemma => kernel_rfl) rfl (fun K hK => ?_)
      refine step_st (by kernel_rfl) 53 (.tmp 7) (.tmp 23) rfl _ _ rfl rfl hst ?_
      refine hK.out _ _ (SBx.off (by decide)) ?_
      clear hK K hst
      try simp only [putz]
      refine Goes.done (by as_aux_lemma => kernel_rfl) ?_ _
      refine NoPanic.normal ?_
      go_wp2_with fail
      go_meet
      exact ⟨_, rfl, BN⟩

    · go_simp
      have BJ := hid (BJ.out.add 53 (List.replicate 176 0))
      rw [← z176rE] at BJ

      refine hK.out _ _ (SBx.of BJ.out.tail) ?_
      clear hK K
      try simp only [putz]
      refine Goes.one (i := 5) (o := ⟨some 23, _, _, _, _, _⟩) (by as_aux_lemma => kernel_rfl) rfl (fun K hK => ?_)
      go_simp
      with_reducible refine (HWD.out _).mono ?_
      rintro e v1 ⟨rfl, hba⟩
      have BJ := hid (BJ.out.on hba)
      clear hba
      go_wp2_with fail

      refine hK.out _ _ (SBx.off (by decide)) ?_
      clear hK K
      try simp only [putz]
      have hst := st_all (BJ.out.bt 0 rfl) 53 (kw) 176 HKL.out (by simp) wr176
      have BN := hid (BJ.out.row 0 rfl (kw))
      refine Goes.one (i := 7) (o := ⟨none, _, _, _, _, _⟩) (by as_aux_lemma => kernel_rfl) rfl (fun K hK => ?_)
      refine step_st (by kernel_rfl) 53 (.tmp 7) (.tmp 23) rfl _ _ rfl rfl hst ?_
      refine hK.out _ _ (SBx.off (by decide)) ?_
      clear hK K hst
      try simp only [putz]
      refine Goes.done (by as_aux_lemma => kernel_rfl) ?_ _
      refine NoPanic.normal ?_
      go_wp2_with fail
      go_meet
      exact ⟨_, rfl, BN⟩

  case rest =>
    obtain ⟨g7, rfl, B4⟩ := hcut
    clear B3
    have B5 := hid (p := Bx w [(g7, 53, kw), (w.heap.size + 1 + 1, 22, List.replicate 16 0), (w.heap.size + 1, 22, oub kw b (10 - 10)), (w.heap.size, 22, key)] wc) (by rw [show oub kw b (10 - 10) = b from rfl]; exact B4.out)
    clear B4
    go_wp2_with fail
    go_loopw [8] (fun nn wr => ∃ n : Nat, n ≤ 10 ∧ nn = .int .i64 (n : Int) ∧ Hid (Bx w [(g7, 53, kw), (w.heap.size + 1 + 1, 22, List.replicate 16 0), (w.heap.size + 1, 22, oub kw b (10 - n)), (w.heap.size, 22, key)] wr)) (fun nn _ => (intOf nn).toNat)
    case atStart => exact ⟨10, Nat.le_refl _, rfl, B5⟩
    case round =>
      clear B5
      obtain ⟨n, hn, rfl, BJ⟩ := hrel
      by_cases hn1 : 1 ≤ n
      · obtain ⟨j, hj⟩ : ∃ j, n = j + 1 := ⟨n - 1, by omega⟩
        have HNM := hid hj
        have HM := hid hn
        have hnl : (1 : Int) ≤ (n : Int) := by omega
        have HRA := hid (p := n = 10 → hss (ark kw n (oub kw b (10 - n))) = oub kw b (10 - j)) (fun e => by rw [show 10 - j = 1 by omega, e]; rfl)
        have HRB := hid (p := n < 10 → hss (imix (ark kw n (oub kw b (10 - n)))) = oub kw b (10 - j)) (fun e => by rw [oub_mid kw b n hn1 e, show 10 - n + 1 = 10 - j by omega])
        have HOL := hid (oub_length kw b (10 - n) HB.out)
        generalize oub kw b (10 - n) = o at *
        clear hj hn hn1
        go_upto_region 5 with fail
        clear hnl
        have BT := hid (p := Bx w [(g7, 53, kw), (w.heap.size + 1 + 1, 22, List.replicate 16 0), (w.heap.size + 1, 22, upto 16 (fun i => gb o i ^^^ gb kw (16 * n + i)) o 0), (w.heap.size, 22, key)] wr) (by rw [upto_none _ _ _ HOL.out]; exact BJ.out)
        clear BJ
        go_wp2_with fail
        go_loopw [9] (fun ii wr => ∃ i : Nat, i ≤ 16 ∧ ii = .int .i64 i ∧ Hid (Bx w [(g7, 53, kw), (w.heap.size + 1 + 1, 22, List.replicate 16 0), (w.heap.size + 1, 22, upto 16 (fun i => gb o i ^^^ gb kw (16 * n + i)) o i), (w.heap.size, 22, key)] wr)) (fun ii _ => 16 - (intOf ii).toNat)
        case atStart => exact ⟨0, Nat.zero_le _, rfl, BT⟩
        case round =>
          clear BT
          obtain ⟨i, hi, rfl, BJ⟩ := hrel
          by_cases hlt : i < 16
          · have HI := hid hlt
            obtain ⟨q, hq⟩ : ∃ q, q = i / 4 := ⟨_, rfl⟩
            obtain ⟨r, hr⟩ : ∃ r, r = i % 4 := ⟨_, rfl⟩
            have qd : (i : Int) / 4 = (q : Int) := by omega
            have qt : Int.tdiv (i : Int) 4 = (q : Int) := by rw [Int.tdiv_eq_ediv_of_nonneg (by omega)]; exact qd
            have re : (i : Int) % 4 = (r : Int) := by omega
            have rt : Int.tmod (i : Int) 4 = (r : Int) := by rw [Int.tmod_eq_emod_of_nonneg (by omega)]; exact re
            have qw : IntKind.i64.wrap (q : Int) = (q : Int) := by rw [IntKind.wrap_i64]; omega
            have qi : (q : Int) < 44 := by omega
            have qz : (0 : Int) ≤ (q : Int) := by omega
            have ri : (r : Int) < 4 := by omega
            have rz : (0 : Int) ≤ (r : Int) := by omega
            have ii : (i : Int) < 16 := by omega
            have iz : (0 : Int) ≤ (i : Int) := by omega

            obtain ⟨g, hg⟩ : ∃ g, g = 4 * n := ⟨_, rfl⟩
            obtain ⟨v, hv⟩ : ∃ v, v = g + q := ⟨_, rfl⟩
            have hn11 : n < 11 := by have := HM.out; omega
            have gw : IntKind.i64.wrap (4 * (n : Int)) = (g : Int) := by rw [IntKind.wrap_i64]; omega
            have vw : IntKind.i64.wrap ((g : Int) + (q : Int)) = (v : Int) := by rw [IntKind.wrap_i64]; omega
            have vi : (v : Int) < 44 := by omega
            have vz : (0 : Int) ≤ (v : Int) := by omega
            have HWB := hid (show v * 4 + r < 4 * 44 by omega)
            have HWE := hid (p := gb kw (v * 4 + r) = gb kw (16 * n + i)) (by rw [show v * 4 + r = 16 * n + i by omega])
            have BN := hid (BJ.out.drew.set 2 rfl i (gb o i ^^^ gb kw (16 * n + i)))
            rw [upto_set 16 (fun i => gb o i ^^^ gb kw (16 * n + i))] at BN
            have BN2 := hid (p := Bx w [(g7, 53, kw), (w.heap.size + 1 + 1, 22, List.replicate 16 0), (w.heap.size + 1, 22, upto 16 (fun i => gb o i ^^^ gb kw (16 * n + i)) o (i + 1)), (w.heap.size, 22, key)] _) BN.out
            clear BN hq hr hg hv hn11
            have hx := xor_u8 (gb o i) (gb kw (16 * n + i))
            generalize gb o i ^^^ gb kw (16 * n + i) = z at *
            go_upto_region 8 with fail
            refine wp_region_noPanic ?_
            refine Goes.region (SBx w [(g7, 53, kw), (w.heap.size + 1 + 1, 22, List.replicate 16 0), (w.heap.size + 1, 22, upto 16 (fun i => gb o i ^^^ gb kw (16 * n + i)) o i), (w.heap.size, 22, key)] [15]) (by as_aux_lemma => kernel_rfl) ?_
            have BJ := hid (BJ.out.drew)
            refine Goes.take (i := 0) (o := ⟨some 32, _, _, _, _, _⟩) (v := ?_) [] rfl (by as_aux_lemma => kernel_rfl) (by as_aux_lemma => kernel_rfl) (by as_aux_lemma => kernel_rfl) (fun _ _ _ h => h) (by as_aux_lemma => kernel_rfl) (fun L u h => SBx.quiet (by decide) h) (Or.inl ⟨by rfl, ?_⟩) (SBx.of BJ.out) ?_
            rotate_left
            · intro u hY; go_simp; try with_reducible rfl
            try simp only [putz]
            refine Goes.take (i := 1) (o := ⟨some 33, _, _, _, _, _⟩) (v := ?_) [] rfl (by as_aux_lemma => kernel_rfl) (by as_aux_lemma => kernel_rfl) (by as_aux_lemma => kernel_rfl) (fun _ _ _ h => h) (by as_aux_lemma => kernel_rfl) (fun L u h => SBx.quiet (by decide) h) (Or.inl ⟨by rfl, ?_⟩) (SBx.of BJ.out) ?_
            rotate_left
            · intro u hY; go_simp; try with_reducible rfl
            try simp only [putz]
            refine Goes.take (i := 2) (o := ⟨some 34, _, _, _, _, _⟩) (v := ?_) [15] rfl (by as_aux_lemma => kernel_rfl) (by as_aux_lemma => kernel_rfl) (by as_aux_lemma => kernel_rfl) (fun _ _ _ h => h) (by as_aux_lemma => kernel_rfl) (fun L u h => SBx.quiet (by decide) h) (Or.inl ⟨by rfl, ?_⟩) (SBx.of BJ.out) ?_
            rotate_left
            · intro u hY; have hX := SBx.yet hY (by decide); have hc := hX.cell 2 rfl i (by rw [upto_length]; exact HI.out); rw [upto_at _ _ _ _ _ HI.out (Nat.le_refl _)] at hc; clear hY hX; go_simp; try with_reducible rfl
            try simp only [putz]
            refine Goes.take (i := 3) (o := ⟨some 35, _, _, _, _, _⟩) (v := ?_) [] rfl (by as_aux_lemma => kernel_rfl) (by as_aux_lemma => kernel_rfl) (by as_aux_lemma => kernel_rfl) (fun _ _ _ h => h) (by as_aux_lemma => kernel_rfl) (fun L u h => SBx.quiet (by decide) h) (Or.inl ⟨by rfl, ?_⟩) (SBx.of BJ.out) ?_
            rotate_left
            · intro u hY; go_simp; try with_reducible rfl
            try simp only [putz]
            refine Goes.take (i := 4) (o := ⟨some 36, _, _, _, _, _⟩) (v := ?_) [] rfl (by as_aux_lemma => kernel_rfl) (by as_aux_lemma => kernel_rfl) (by as_aux_lemma => kernel_rfl) (fun _ _ _ h => h) (by as_aux_lemma => kernel_rfl) (fun L u h => SBx.quiet (by decide) h) (Or.inl ⟨by rfl, ?_⟩) (SBx.of BJ.out) ?_
            rotate_left
            · intro u hY; go_simp; try with_reducible rfl
            try simp only [putz]
            refine Goes.take (i := 5) (o := ⟨some 37, _, _, _, _, _⟩) (v := ?_) [] rfl (by as_aux_lemma => kernel_rfl) (by as_aux_lemma => kernel_rfl) (by as_aux_lemma => kernel_rfl) (fun _ _ _ h => h) (by as_aux_lemma => kernel_rfl) (fun L u h => SBx.quiet (by decide) h) (Or.inl ⟨by rfl, ?_⟩) (SBx.of BJ.out) ?_
            rotate_left
            · intro u hY; go_simp; try with_reducible rfl
            try simp only [putz]
            refine Goes.take (i := 6) (o := ⟨some 38, _, _, _, _, _⟩) (v := ?_) [] rfl (by as_aux_lemma => kernel_rfl) (by as_aux_lemma => kernel_rfl) (by as_aux_lemma => kernel_rfl) (fun _ _ _ h => h) (by as_aux_lemma => kernel_rfl) (fun L u h => SBx.quiet (by decide) h) (Or.inl ⟨by rfl, ?_⟩) (SBx.of BJ.out) ?_
            rotate_left
            · intro u hY; go_simp; try with_reducible rfl
            try simp only [putz]
            refine Goes.take (i := 7) (o := ⟨some 39, _, _, _, _, _⟩) (v := ?_) [] rfl (by as_aux_lemma => kernel_rfl) (by as_aux_lemma => kernel_rfl) (by as_aux_lemma => kernel_rfl) (fun _ _ _ h => h) (by as_aux_lemma => kernel_rfl) (fun L u h => SBx.quiet (by decide) h) (Or.inl ⟨by rfl, ?_⟩) (SBx.of BJ.out) ?_
            rotate_left
            · intro u hY; go_simp; try with_reducible rfl
            try simp only [putz]
            refine Goes.take (i := 8) (o := ⟨some 40, _, _, _, _, _⟩) (v := ?_) [] rfl (by as_aux_lemma => kernel_rfl) (by as_aux_lemma => kernel_rfl) (by as_aux_lemma => kernel_rfl) (fun _ _ _ h => h) (by as_aux_lemma => kernel_rfl) (fun L u h => SBx.quiet (by decide) h) (Or.inl ⟨by rfl, ?_⟩) (SBx.of BJ.out) ?_
            rotate_left
            · intro u hY; go_simp; try with_reducible rfl
            try simp only [putz]
            refine Goes.take (i := 9) (o := ⟨some 41, _, _, _, _, _⟩) (v := ?_) [] rfl (by as_aux_lemma => kernel_rfl) (by as_aux_lemma => kernel_rfl) (by as_aux_lemma => kernel_rfl) (fun _ _ _ h => h) (by as_aux_lemma => kernel_rfl) (fun L u h => SBx.quiet (by decide) h) (Or.inl ⟨by rfl, ?_⟩) (SBx.of BJ.out) ?_
            rotate_left
            · intro u hY; go_simp; try with_reducible rfl
            try simp only [putz]
            refine Goes.take (i := 10) (o := ⟨some 42, _, _, _, _, _⟩) (v := ?_) [] rfl (by as_aux_lemma => kernel_rfl) (by as_aux_lemma => kernel_rfl) (by as_aux_lemma => kernel_rfl) (fun _ _ _ h => h) (by as_aux_lemma => kernel_rfl) (fun L u h => SBx.quiet (by decide) h) (Or.inl ⟨by rfl, ?_⟩) (SBx.of BJ.out) ?_
            rotate_left
            · intro u hY; go_simp; try with_reducible rfl
            try simp only [putz]
            refine Goes.take (i := 11) (o := ⟨some 43, _, _, _, _, _⟩) (v := ?_) [] rfl (by as_aux_lemma => kernel_rfl) (by as_aux_lemma => kernel_rfl) (by as_aux_lemma => kernel_rfl) (fun _ _ _ h => h) (by as_aux_lemma => kernel_rfl) (fun L u h => SBx.quiet (by decide) h) (Or.inl ⟨by rfl, ?_⟩) (SBx.of BJ.out) ?_
            rotate_left
            · intro u hY; go_simp; try with_reducible rfl
            try simp only [putz]
            refine Goes.take (i := 12) (o := ⟨some 44, _, _, _, _, _⟩) (v := ?_) [15] rfl (by as_aux_lemma => kernel_rfl) (by as_aux_lemma => kernel_rfl) (by as_aux_lemma => kernel_rfl) (fun _ _ _ h => h) (by as_aux_lemma => kernel_rfl) (fun L u h => SBx.quiet (by decide) h) (Or.inl ⟨by rfl, ?_⟩) (SBx.of BJ.out) ?_
            rotate_left
            · intro u hY; have hX := SBx.yet hY (by decide); have hc := hX.cell 0 rfl (v * 4 + r) (by rw [HKL.out]; exact HWB.out); rw [HWE.out] at hc; clear hY hX; go_simp; try with_reducible rfl
            try simp only [putz]
            refine Goes.take (i := 13) (o := ⟨some 45, _, _, _, _, _⟩) (v := ?_) [] rfl (by as_aux_lemma => kernel_rfl) (by as_aux_lemma => kernel_rfl) (by as_aux_lemma => kernel_rfl) (fun _ _ _ h => h) (by as_aux_lemma => kernel_rfl) (fun L u h => SBx.quiet (by decide) h) (Or.inl ⟨by rfl, ?_⟩) (SBx.of BJ.out) ?_
            rotate_left
            · intro u hY; go_simp; try with_reducible rfl
            try simp only [putz]
            refine Goes.take (i := 14) (o := ⟨some 46, _, _, _, _, _⟩) (v := ?_) [] rfl (by as_aux_lemma => kernel_rfl) (by as_aux_lemma => kernel_rfl) (by as_aux_lemma => kernel_rfl) (fun _ _ _ h => h) (by as_aux_lemma => kernel_rfl) (fun L u h => SBx.quiet (by decide) h) (Or.inl ⟨by rfl, ?_⟩) (SBx.of BJ.out) ?_
            rotate_left
            · intro u hY; go_simp; try with_reducible rfl
            try simp only [putz]
            refine Goes.one (i := 15) (o := ⟨none, _, _, _, _, _⟩) (by as_aux_lemma => kernel_rfl) rfl (fun K hK => ?_)
            have hc0 := BJ.out.cell 2 rfl i (by rw [upto_length]; exact HI.out)
            have hf := BJ.out.frozen 2 rfl i
            go_simp
            go_wp2_with fail
            refine hK.out _ _ (SBx.off (by decide)) ?_
            clear hK K
            try simp only [putz]
            refine Goes.done (by as_aux_lemma => kernel_rfl) ?_ _
            refine NoPanic.normal ?_
            clear hx qd qt qw re rt qi qz ri rz ii iz gw vw vi vz
            go_wp2
            go_roundw
            case rel => exact ⟨i + 1, HI.out, by go_num, BN2⟩
            case measure => have := HI.out; simp [intOf]; omega
          · have h16 : i = 16 := by omega
            have hge : ¬ (i : Int) < 16 := by omega
            rw [h16] at BJ
            clear h16 hlt hi
            have HE := hid (p := upto 16 (fun i => gb o i ^^^ gb kw (16 * n + i)) o 16 = ark kw n o) (by rw [upto_all]; rfl)
            rw [HE.out] at BJ
            clear HE HOL
            have HAL := hid (ark_length kw n o)
            by_cases hl : n = 10
            · have hnn : ¬ (n : Int) < 10 := by omega
              have HRN := hid (HRA.out hl)
              generalize ark kw n o = cc at *
              have HCL := hid HAL.out
              clear hl HRA HRB HAL
              go_upto_region 9 with fail
              go_wp2_with fail
              go_loopw [10] (fun kk wr => kk = .int .i64 0 ∧ Hid (Bx w [(g7, 53, kw), (w.heap.size + 1 + 1, 22, List.replicate 16 0), (w.heap.size + 1, 22, cc), (w.heap.size, 22, key)] wr)) (fun kk _ => 0)
              case atStart => exact ⟨rfl, BJ⟩
              case round =>
                clear BJ
                obtain ⟨rfl, BK⟩ := hrel
                go_upto_region 17 with fail
                have BC := hid (p := Bx w ((wr.heap.size, 22, List.replicate 16 0) :: [(g7, 53, kw), (w.heap.size + 1 + 1, 22, List.replicate 16 0), (w.heap.size + 1, 22, cc), (w.heap.size, 22, key)]) (wr.alloc (.cells (bvs (List.replicate 16 0)).toArray 22))) (BK.out.add 22 (List.replicate 16 0))
                clear BK
                go_upto_region 18 with fail
                rw [← z16]
                generalize wr.alloc (.cells (bvs (List.replicate 16 0)).toArray 22) = wd at *
                generalize hg : wr.heap.size = gc at *
                clear hg
                have BD := hid (p := Bx w [(gc, 22, sct cc 0), (g7, 53, kw), (w.heap.size + 1 + 1, 22, List.replicate 16 0), (w.heap.size + 1, 22, cc), (w.heap.size, 22, key)] wd) (by rw [sct_none]; exact BC.out)
                clear BC
                go_wp2_with fail
                go_loopw [16] (fun ii wr => ∃ i : Nat, i ≤ 16 ∧ ii = .int .i64 i ∧ Hid (Bx w [(gc, 22, sct cc i), (g7, 53, kw), (w.heap.size + 1 + 1, 22, List.replicate 16 0), (w.heap.size + 1, 22, cc), (w.heap.size, 22, key)] wr)) (fun ii _ => 16 - (intOf ii).toNat)
                case atStart => exact ⟨0, Nat.zero_le _, rfl, BD⟩
                case round =>
                  clear BD
                  obtain ⟨i, hi, rfl, BJ⟩ := hrel
                  by_cases hlt : i < 16
                  · have HI := hid hlt
                    obtain ⟨r, hr⟩ : ∃ r, r = i % 4 := ⟨_, rfl⟩
                    obtain ⟨g, hg⟩ : ∃ g, g = 4 * r := ⟨_, rfl⟩
                    obtain ⟨v, hv⟩ : ∃ v, v = i + g := ⟨_, rfl⟩
                    obtain ⟨s, hs⟩ : ∃ s, s = v % 16 := ⟨_, rfl⟩
                    have re : (i : Int) % 4 = (r : Int) := by omega
                    have rt : Int.tmod (i : Int) 4 = (r : Int) := by rw [Int.tmod_eq_emod_of_nonneg (by omega)]; exact re
                    have gw : IntKind.i64.wrap (4 * (r : Int)) = (g : Int) := by rw [IntKind.wrap_i64]; omega
                    have vw : IntKind.i64.wrap ((i : Int) + (g : Int)) = (v : Int) := by rw [IntKind.wrap_i64]; omega
                    have se : (v : Int) % 16 = (s : Int) := by omega
                    have st : Int.tmod (v : Int) 16 = (s : Int) := by rw [Int.tmod_eq_emod_of_nonneg (by omega)]; exact se
                    have si : (s : Int) < 16 := by omega
                    have sz : (0 : Int) ≤ (s : Int) := by omega
                    have ii : (i : Int) < 16 := by omega
                    have iz : (0 : Int) ≤ (i : Int) := by omega
                    have HS := hid (show s < 16 by omega)

                    have BN := hid (BJ.out.drew.set 0 rfl s (ib (gb cc i)))
                    have BN2 := hid (p := Bx w [(gc, 22, sct cc (i + 1)), (g7, 53, kw), (w.heap.size + 1 + 1, 22, List.replicate 16 0), (w.heap.size + 1, 22, cc), (w.heap.size, 22, key)] ((wr.drew).setCell _ _)) (by rw [← sct_step cc i hlt, show (i + 4 * (i % 4)) % 16 = s by omega]; exact BN.out)
                    clear BN hr hg hv hs
                    generalize hx : gb cc i = x at *
                    have XS := hid hx
                    clear hx
                    have xg := iv_ge x
                    have xl := iv_lt x
                    go_upto_region 21 with fail
                    refine wp_region_noPanic ?_
                    refine Goes.region (SBx w [(gc, 22, sct cc i), (g7, 53, kw), (w.heap.size + 1 + 1, 22, List.replicate 16 0), (w.heap.size + 1, 22, cc), (w.heap.size, 22, key)] [15]) (by as_aux_lemma => kernel_rfl) ?_
                    have BJ := hid (BJ.out.drew)
                    refine Goes.take (i := 0) (o := ⟨some 137, _, _, _, _, _⟩) (v := ?_) [] rfl (by as_aux_lemma => kernel_rfl) (by as_aux_lemma => kernel_rfl) (by as_aux_lemma => kernel_rfl) (fun _ _ _ h => h) (by as_aux_lemma => kernel_rfl) (fun L u h => SBx.quiet (by decide) h) (Or.inl ⟨by rfl, ?_⟩) (SBx.of BJ.out) ?_
                    rotate_left
                    · intro u hY; go_simp; try with_reducible rfl
                    try simp only [putz]
                    refine Goes.take (i := 1) (o := ⟨some 138, _, _, _, _, _⟩) (v := ?_) [] rfl (by as_aux_lemma => kernel_rfl) (by as_aux_lemma => kernel_rfl) (by as_aux_lemma => kernel_rfl) (fun _ _ _ h => h) (by as_aux_lemma => kernel_rfl) (fun L u h => SBx.quiet (by decide) h) (Or.inl ⟨by rfl, ?_⟩) (SBx.of BJ.out) ?_
                    rotate_left
                    · intro u hY; go_simp; try with_reducible rfl
                    try simp only [putz]
                    refine Goes.take (i := 2) (o := ⟨some 139, _, _, _, _, _⟩) (v := ?_) [] rfl (by as_aux_lemma => kernel_rfl) (by as_aux_lemma => kernel_rfl) (by as_aux_lemma => kernel_rfl) (fun _ _ _ h => h) (by as_aux_lemma => kernel_rfl) (fun L u h => SBx.quiet (by decide) h) (Or.inl ⟨by rfl, ?_⟩) (SBx.of BJ.out) ?_
                    rotate_left
                    · intro u hY; go_simp; try with_reducible rfl
                    try simp only [putz]
                    refine Goes.take (i := 3) (o := ⟨some 140, _, _, _, _, _⟩) (v := ?_) [] rfl (by as_aux_lemma => kernel_rfl) (by as_aux_lemma => kernel_rfl) (by as_aux_lemma => kernel_rfl) (fun _ _ _ h => h) (by as_aux_lemma => kernel_rfl) (fun L u h => SBx.quiet (by decide) h) (Or.inl ⟨by rfl, ?_⟩) (SBx.of BJ.out) ?_
                    rotate_left
                    · intro u hY; go_simp; try with_reducible rfl
                    try simp only [putz]
                    refine Goes.take (i := 4) (o := ⟨some 141, _, _, _, _, _⟩) (v := ?_) [] rfl (by as_aux_lemma => kernel_rfl) (by as_aux_lemma => kernel_rfl) (by as_aux_lemma => kernel_rfl) (fun _ _ _ h => h) (by as_aux_lemma => kernel_rfl) (fun L u h => SBx.quiet (by decide) h) (Or.inl ⟨by rfl, ?_⟩) (SBx.of BJ.out) ?_
                    rotate_left
                    · intro u hY; go_simp; try with_reducible rfl
                    try simp only [putz]
                    refine Goes.take (i := 5) (o := ⟨some 142, _, _, _, _, _⟩) (v := ?_) [] rfl (by as_aux_lemma => kernel_rfl) (by as_aux_lemma => kernel_rfl) (by as_aux_lemma => kernel_rfl) (fun _ _ _ h => h) (by as_aux_lemma => kernel_rfl) (fun L u h => SBx.quiet (by decide) h) (Or.inl ⟨by rfl, ?_⟩) (SBx.of BJ.out) ?_
                    rotate_left
                    · intro u hY; go_simp; try with_reducible rfl
                    try simp only [putz]
                    refine Goes.take (i := 6) (o := ⟨some 143, _, _, _, _, _⟩) (v := ?_) [] rfl (by as_aux_lemma => kernel_rfl) (by as_aux_lemma => kernel_rfl) (by as_aux_lemma => kernel_rfl) (fun _ _ _ h => h) (by as_aux_lemma => kernel_rfl) (fun L u h => SBx.quiet (by decide) h) (Or.inl ⟨by rfl, ?_⟩) (SBx.of BJ.out) ?_
                    rotate_left
                    · intro u hY; go_simp; try with_reducible rfl
                    try simp only [putz]
                    refine Goes.take (i := 7) (o := ⟨some 144, _, _, _, _, _⟩) (v := ?_) [] rfl (by as_aux_lemma => kernel_rfl) (by as_aux_lemma => kernel_rfl) (by as_aux_lemma => kernel_rfl) (fun _ _ _ h => h) (by as_aux_lemma => kernel_rfl) (fun L u h => SBx.quiet (by decide) h) (Or.inl ⟨by rfl, ?_⟩) (SBx.of BJ.out) ?_
                    rotate_left
                    · intro u hY; go_simp; try with_reducible rfl
                    try simp only [putz]
                    refine Goes.take (i := 8) (o := ⟨some 145, _, _, _, _, _⟩) (v := ?_) [] rfl (by as_aux_lemma => kernel_rfl) (by as_aux_lemma => kernel_rfl) (by as_aux_lemma => kernel_rfl) (fun _ _ _ h => h) (by as_aux_lemma => kernel_rfl) (fun L u h => SBx.quiet (by decide) h) (Or.inl ⟨by rfl, ?_⟩) (SBx.of BJ.out) ?_
                    rotate_left
                    · intro u hY; go_simp; try with_reducible rfl
                    try simp only [putz]
                    refine Goes.take (i := 9) (o := ⟨some 146, _, _, _, _, _⟩) (v := ?_) [15] rfl (by as_aux_lemma => kernel_rfl) (by as_aux_lemma => kernel_rfl) (by as_aux_lemma => kernel_rfl) (fun _ _ _ h => h) (by as_aux_lemma => kernel_rfl) (fun L u h => SBx.quiet (by decide) h) (Or.inl ⟨by rfl, ?_⟩) (SBx.of BJ.out) ?_
                    rotate_left
                    · intro u hY; have hX := SBx.yet hY (by decide); have hc := hX.cell 3 rfl i (by rw [HCL.out]; exact HI.out); rw [XS.out] at hc; clear hY hX; go_simp; try with_reducible rfl
                    try simp only [putz]
                    refine Goes.take (i := 10) (o := ⟨some 147, _, _, _, _, _⟩) (v := ?_) [] rfl (by as_aux_lemma => kernel_rfl) (by as_aux_lemma => kernel_rfl) (by as_aux_lemma => kernel_rfl) (fun _ _ _ h => h) (by as_aux_lemma => kernel_rfl) (fun L u h => SBx.quiet (by decide) h) (Or.inl ⟨by rfl, ?_⟩) (SBx.of BJ.out) ?_
                    rotate_left
                    · intro u hY; go_simp; try with_reducible rfl
                    try simp only [putz]
                    refine Goes.take (i := 11) (o := ⟨some 148, _, _, _, _, _⟩) (v := ?_) [] rfl (by as_aux_lemma => kernel_rfl) (by as_aux_lemma => kernel_rfl) (by as_aux_lemma => kernel_rfl) (fun _ _ _ h => h) (by as_aux_lemma => kernel_rfl) (fun L u h => SBx.quiet (by decide) h) (Or.inl ⟨by rfl, ?_⟩) (SBx.of BJ.out) ?_
                    rotate_left
                    · intro u hY; go_simp; try with_reducible rfl
                    try simp only [putz]
                    refine Goes.take (i := 12) (o := ⟨some 149, _, _, _, _, _⟩) (v := ?_) [] rfl (by as_aux_lemma => kernel_rfl) (by as_aux_lemma => kernel_rfl) (by as_aux_lemma => kernel_rfl) (fun _ _ _ h => h) (by as_aux_lemma => kernel_rfl) (fun L u h => SBx.quiet (by decide) h) (Or.inl ⟨by rfl, ?_⟩) (SBx.of BJ.out) ?_
                    rotate_left
                    · intro u hY; go_simp; try with_reducible rfl
                    try simp only [putz]
                    refine Goes.take (i := 13) (o := ⟨some 150, _, _, _, _, _⟩) (v := ?_) [15] rfl (by as_aux_lemma => kernel_rfl) (by as_aux_lemma => kernel_rfl) (by as_aux_lemma => kernel_rfl) (fun _ _ _ h => h) (by as_aux_lemma => kernel_rfl) (fun L u h => SBx.quiet (by decide) h) (Or.inl ⟨by rfl, ?_⟩) (SBx.of BJ.out) ?_
                    rotate_left
                    · intro u hY; have hX := SBx.yet hY (by decide); have hc : u.cell? ⟨gx, 256 + (iv x).toNat, none⟩ = some (bv (gb SI (256 + x.toNat))) := (HX.out.on hX.below).at_ (256 + x.toNat) (by rw [SI_length]; have := x.toNat_lt; omega); rw [SI_back] at hc; clear hY hX; go_simp; try with_reducible rfl
                    try simp only [putz]
                    refine Goes.take (i := 14) (o := ⟨some 151, _, _, _, _, _⟩) (v := ?_) [] rfl (by as_aux_lemma => kernel_rfl) (by as_aux_lemma => kernel_rfl) (by as_aux_lemma => kernel_rfl) (fun _ _ _ h => h) (by as_aux_lemma => kernel_rfl) (fun L u h => SBx.quiet (by decide) h) (Or.inl ⟨by rfl, ?_⟩) (SBx.of BJ.out) ?_
                    rotate_left
                    · intro u hY; go_simp; try with_reducible rfl
                    try simp only [putz]
                    refine Goes.one (i := 15) (o := ⟨none, _, _, _, _, _⟩) (by as_aux_lemma => kernel_rfl) rfl (fun K hK => ?_)
                    have hc0 := BJ.out.cell 0 rfl s (by rw [sct_length]; exact HS.out)
                    have hf := BJ.out.frozen 0 rfl s
                    go_simp
                    go_wp2_with fail
                    refine hK.out _ _ (SBx.off (by decide)) ?_
                    clear hK K
                    try simp only [putz]
                    refine Goes.done (by as_aux_lemma => kernel_rfl) ?_ _
                    refine NoPanic.normal ?_
                    clear re rt gw vw se st si sz ii iz xg xl
                    go_wp2
                    go_roundw
                    case rel => exact ⟨i + 1, HI.out, by go_num, BN2⟩
                    case measure => have := HI.out; simp [intOf]; omega
                  · have h16 : i = 16 := by omega
                    have hge : ¬ (i : Int) < 16 := by omega
                    rw [h16, sct_all, HRN.out] at BJ
                    clear h16 hlt hi HRN
                    have hl3 := ld_all (BJ.out.bt 0 rfl) 22 _ Try.underlying22 rfl 16 (oub_length kw b _ HB.out) row16
                    have hs3 := st_all (BJ.out.bt 3 rfl) 22 (oub kw b (10 - j)) 16 (oub_length kw b _ HB.out) HCL.out row16
                    have BN := hid (BJ.out.row 3 rfl (oub kw b (10 - j)))
                    have BN2 := hid (p := Bx w [(g7, 53, kw), (w.heap.size + 1 + 1, 22, List.replicate 16 0), (w.heap.size + 1, 22, oub kw b (10 - j)), (w.heap.size, 22, key)] _) BN.out.tail
                    clear BN BJ
                    go_upto_region 22 with fail
                    go_wp2_with (first | ((with_reducible refine isD 152 rfl ?_); refine wp_ld (by kernel_rfl) 22 (.tmp 15) rfl _ rfl _ hl3 ?_) | ((with_reducible refine isS 22 (.tmp 5) (.tmp 152) rfl ?_); refine wp_st (by kernel_rfl) 22 (.tmp 5) (.tmp 152) rfl _ _ rfl rfl hs3 ?_))
                    clear hl3 hs3
                    have hnu : (n : Int) < 11 := by have := HM.out; omega
                    go_wp2
                    go_roundw
                    case rel => exact ⟨j, by have := HM.out; have := HNM.out; omega, by have := HNM.out; have := HM.out; first | (refine congrArg _ ?_; omega) | (refine congrArg _ ?_; rw [IntWalk.wrap64_in _ ⟨by omega, by omega⟩]; omega), BN2⟩
                    case measure => have := HM.out; have := HNM.out; simp [intOf]; first | omega | (rw [IntWalk.wrap64_in _ ⟨by omega, by omega⟩]; omega)
            · have hnn : (n : Int) < 10 := by have := HM.out; omega
              have HRN := hid (HRB.out (by have := HM.out; omega))
              generalize ark kw n o = sh at *
              have BD := hid (p := Bx w [(g7, 53, kw), (w.heap.size + 1 + 1, 22, List.replicate 16 0), (w.heap.size + 1, 22, nxc sh 0), (w.heap.size, 22, key)] wr) (by rw [nxc_none _ HAL.out]; exact BJ.out)
              clear BJ hl HRA HRB
              go_upto_region 9 with fail
              go_wp2_with fail
              go_loopw [10] (fun kk wr => ∃ k : Nat, k ≤ 4 ∧ kk = .int .i64 k ∧ Hid (Bx w [(g7, 53, kw), (w.heap.size + 1 + 1, 22, List.replicate 16 0), (w.heap.size + 1, 22, nxc sh k), (w.heap.size, 22, key)] wr)) (fun kk _ => 4 - (intOf kk).toNat)
              case atStart => exact ⟨0, Nat.zero_le _, rfl, BD⟩
              case round =>
                clear BD
                obtain ⟨k, hk, rfl, BJ⟩ := hrel
                by_cases hk4 : k < 4
                · have HK4 := hid hk4
                  have HSP := hid (nxc_step sh k hk4 _ _ _ _ rfl rfl rfl rfl)
                  have c0 := BJ.out.cell 2 rfl (4 * k) (by rw [nxc_length]; omega)
                  have c1 := BJ.out.cell 2 rfl (4 * k + 1) (by rw [nxc_length]; omega)
                  have c2 := BJ.out.cell 2 rfl (4 * k + 2) (by rw [nxc_length]; omega)
                  have c3 := BJ.out.cell 2 rfl (4 * k + 3) (by rw [nxc_length]; omega)
                  rw [nxc_at sh k _ (by omega) (by omega)] at c0 c1 c2 c3
                  generalize gb sh (4 * k) = p0 at *
                  generalize gb sh (4 * k + 1) = p1 at *
                  generalize gb sh (4 * k + 2) = p2 at *
                  generalize gb sh (4 * k + 3) = p3 at *
                  obtain ⟨mm, hmm⟩ : ∃ mm, mm = 4 * k := ⟨_, rfl⟩
                  rw [← hmm] at HSP c0 c1 c2 c3
                  have MM := hid (show mm + 3 < 16 by omega)
                  have h13 : mm < 13 := by omega
                  have mmw : IntKind.i64.wrap (4 * (k : Int)) = (mm : Int) := by rw [IntKind.wrap_i64]; omega
                  have mmi : (mm : Int) < 16 := by omega
                  have mmz : (0 : Int) ≤ (mm : Int) := by omega
                  have mmw1 : IntKind.i64.wrap ((mm : Int) + 1) = ((mm + 1 : Nat) : Int) := by rw [IntKind.wrap_i64]; omega
                  have mmi1 : (mm : Int) + 1 < 16 := by omega
                  have mmz1 : (0 : Int) ≤ (mm : Int) + 1 := by omega
                  have mmt1 : ((mm : Int) + 1).toNat = mm + 1 := by omega
                  have mmw2 : IntKind.i64.wrap ((mm : Int) + 2) = ((mm + 2 : Nat) : Int) := by rw [IntKind.wrap_i64]; omega
                  have mmi2 : (mm : Int) + 2 < 16 := by omega
                  have mmz2 : (0 : Int) ≤ (mm : Int) + 2 := by omega
                  have mmt2 : ((mm : Int) + 2).toNat = mm + 2 := by omega
                  have mmw3 : IntKind.i64.wrap ((mm : Int) + 3) = ((mm + 3 : Nat) : Int) := by rw [IntKind.wrap_i64]; omega
                  have mmi3 : (mm : Int) + 3 < 16 := by omega
                  have mmz3 : (0 : Int) ≤ (mm : Int) + 3 := by omega
                  have mmt3 : ((mm : Int) + 3).toNat = mm + 3 := by omega
                  have ki : (k : Int) < 4 := by omega
                  clear hmm hk4 hk
                  go_upto_region 12 with fail
                  go_quiet (fail)
                  have BQ := hid (BJ.out.drewN nq)
                  clear BJ c0 c1 c2 c3
                  generalize wr.drewN nq = wq at *
                  have hc := BQ.out.cell 2 rfl mm (by rw [nxc_length]; have := MM.out; omega)
                  have hf := BQ.out.frozen 2 rfl mm
                  have C1 := hid (BQ.out.set 2 rfl mm (nx p0 p1 p2 p3))
                  have y0 := xor_u8 (tm p0 14) (tm p1 11)
                  have y1 := xor_u8 (tm p0 14 ^^^ tm p1 11) (tm p2 13)
                  have y2 := xor_u8 (tm p0 14 ^^^ tm p1 11 ^^^ tm p2 13) (tm p3 9)
                  rw [nxd0] at y2
                  go_upto_region 13 with fail
                  go_wp2_with fail
                  refine (times_at p0 14 (iv p0) 14 rfl rfl _).mono ?_
                  rintro e v0 ⟨rfl, rfl⟩
                  go_wp2_with fail
                  refine (times_at p1 11 (iv p1) 11 rfl rfl _).mono ?_
                  rintro e v0 ⟨rfl, rfl⟩
                  go_wp2_with fail
                  refine (times_at p2 13 (iv p2) 13 rfl rfl _).mono ?_
                  rintro e v0 ⟨rfl, rfl⟩
                  go_wp2_with fail
                  refine (times_at p3 9 (iv p3) 9 rfl rfl _).mono ?_
                  rintro e v0 ⟨rfl, rfl⟩
                  go_upto_region 14 with fail
                  clear hc hf y0 y1 y2 BQ
                  generalize World.setCell _ _ _ = c1w at *
                  have hc := C1.out.cell 2 rfl (mm + 1) (by rw [List.length_set, nxc_length]; have := MM.out; omega)
                  have hf := C1.out.frozen 2 rfl (mm + 1)
                  have C2 := hid (C1.out.set 2 rfl (mm + 1) (nx p1 p2 p3 p0))
                  have y0 := xor_u8 (tm p0 9) (tm p1 14)
                  have y1 := xor_u8 (tm p0 9 ^^^ tm p1 14) (tm p2 11)
                  have y2 := xor_u8 (tm p0 9 ^^^ tm p1 14 ^^^ tm p2 11) (tm p3 13)
                  rw [nxd1] at y2
                  go_upto_region 14 with fail
                  go_wp2_with fail
                  refine (times_at p0 9 (iv p0) 9 rfl rfl _).mono ?_
                  rintro e v0 ⟨rfl, rfl⟩
                  go_wp2_with fail
                  refine (times_at p1 14 (iv p1) 14 rfl rfl _).mono ?_
                  rintro e v0 ⟨rfl, rfl⟩
                  go_wp2_with fail
                  refine (times_at p2 11 (iv p2) 11 rfl rfl _).mono ?_
                  rintro e v0 ⟨rfl, rfl⟩
                  go_wp2_with fail
                  refine (times_at p3 13 (iv p3) 13 rfl rfl _).mono ?_
                  rintro e v0 ⟨rfl, rfl⟩
                  go_upto_region 15 with fail
                  clear hc hf y0 y1 y2 C1
                  generalize World.setCell _ _ _ = c2w at *
                  have hc := C2.out.cell 2 rfl (mm + 2) (by rw [List.length_set, List.length_set, nxc_length]; have := MM.out; omega)
                  have hf := C2.out.frozen 2 rfl (mm + 2)
                  have C3 := hid (C2.out.set 2 rfl (mm + 2) (nx p2 p3 p0 p1))
                  have y0 := xor_u8 (tm p0 13) (tm p1 9)
                  have y1 := xor_u8 (tm p0 13 ^^^ tm p1 9) (tm p2 14)
                  have y2 := xor_u8 (tm p0 13 ^^^ tm p1 9 ^^^ tm p2 14) (tm p3 11)
                  rw [nxd2] at y2
                  go_upto_region 15 with fail
                  go_wp2_with fail
                  refine (times_at p0 13 (iv p0) 13 rfl rfl _).mono ?_
                  rintro e v0 ⟨rfl, rfl⟩
                  go_wp2_with fail
                  refine (times_at p1 9 (iv p1) 9 rfl rfl _).mono ?_
                  rintro e v0 ⟨rfl, rfl⟩
                  go_wp2_with fail
                  refine (times_at p2 14 (iv p2) 14 rfl rfl _).mono ?_
                  rintro e v0 ⟨rfl, rfl⟩
                  go_wp2_with fail
                  refine (times_at p3 11 (iv p3) 11 rfl rfl _).mono ?_
                  rintro e v0 ⟨rfl, rfl⟩
                  go_upto_region 16 with fail
                  clear hc hf y0 y1 y2 C2
                  generalize World.setCell _ _ _ = c3w at *
                  have hc := C3.out.cell 2 rfl (mm + 3) (by rw [List.length_set, List.length_set, List.length_set, nxc_length]; have := MM.out; omega)
                  have hf := C3.out.frozen 2 rfl (mm + 3)
                  have C4 := hid (C3.out.set 2 rfl (mm + 3) (nx p3 p0 p1 p2))
                  have y0 := xor_u8 (tm p0 11) (tm p1 13)
                  have y1 := xor_u8 (tm p0 11 ^^^ tm p1 13) (tm p2 9)
                  have y2 := xor_u8 (tm p0 11 ^^^ tm p1 13 ^^^ tm p2 9) (tm p3 14)
                  rw [nxd3] at y2
                  go_upto_region 16 with fail
                  go_wp2_with fail
                  refine (times_at p0 11 (iv p0) 11 rfl rfl _).mono ?_
                  rintro e v0 ⟨rfl, rfl⟩
                  go_wp2_with fail
                  refine (times_at p1 13 (iv p1) 13 rfl rfl _).mono ?_
                  rintro e v0 ⟨rfl, rfl⟩
                  go_wp2_with fail
                  refine (times_at p2 9 (iv p2) 9 rfl rfl _).mono ?_
                  rintro e v0 ⟨rfl, rfl⟩
                  go_wp2_with fail
                  refine (times_at p3 14 (iv p3) 14 rfl rfl _).mono ?_
                  rintro e v0 ⟨rfl, rfl⟩
                  go_upto_region 11 with fail
                  clear hc hf y0 y1 y2 C3
                  generalize World.setCell _ _ _ = c4w at *

                  have BN := hid (p := Bx w [(g7, 53, kw), (w.heap.size + 1 + 1, 22, List.replicate 16 0), (w.heap.size + 1, 22, nxc sh (k + 1)), (w.heap.size, 22, key)] _) (by rw [← HSP.out]; exact C4.out)
                  clear HSP C4
                  go_wp2
                  go_roundw
                  case rel => exact ⟨k + 1, HK4.out, by go_num, BN⟩
                  case measure => have := HK4.out; simp [intOf]; omega
                · have h4 : k = 4 := by omega
                  have hgk : ¬ (k : Int) < 4 := by omega
                  rw [h4, nxc_all] at BJ
                  clear h4 hk4 hk HAL
                  have HCL := hid (p := (imix sh).length = 16) (imix_length _)
                  generalize imix sh = cc at *
                  have BK := hid BJ.out
                  clear BJ
                  go_upto_region 17 with fail
                  have BC := hid (p := Bx w ((wr.heap.size, 22, List.replicate 16 0) :: [(g7, 53, kw), (w.heap.size + 1 + 1, 22, List.replicate 16 0), (w.heap.size + 1, 22, cc), (w.heap.size, 22, key)]) (wr.alloc (.cells (bvs (List.replicate 16 0)).toArray 22))) (BK.out.add 22 (List.replicate 16 0))
                  clear BK
                  go_upto_region 18 with fail
                  rw [← z16]
                  generalize wr.alloc (.cells (bvs (List.replicate 16 0)).toArray 22) = wd at *
                  generalize hg : wr.heap.size = gc at *
                  clear hg
                  have BD := hid (p := Bx w [(gc, 22, sct cc 0), (g7, 53, kw), (w.heap.size + 1 + 1, 22, List.replicate 16 0), (w.heap.size + 1, 22, cc), (w.heap.size, 22, key)] wd) (by rw [sct_none]; exact BC.out)
                  clear BC
                  go_wp2_with fail
                  go_loopw [16] (fun ii wr => ∃ i : Nat, i ≤ 16 ∧ ii = .int .i64 i ∧ Hid (Bx w [(gc, 22, sct cc i), (g7, 53, kw), (w.heap.size + 1 + 1, 22, List.replicate 16 0), (w.heap.size + 1, 22, cc), (w.heap.size, 22, key)] wr)) (fun ii _ => 16 - (intOf ii).toNat)
                  case atStart => exact ⟨0, Nat.zero_le _, rfl, BD⟩
                  case round =>
                    clear BD
                    obtain ⟨i, hi, rfl, BJ⟩ := hrel
                    by_cases hlt : i < 16
                    · have HI := hid hlt
                      obtain ⟨r, hr⟩ : ∃ r, r = i % 4 := ⟨_, rfl⟩
                      obtain ⟨g, hg⟩ : ∃ g, g = 4 * r := ⟨_, rfl⟩
                      obtain ⟨v, hv⟩ : ∃ v, v = i + g := ⟨_, rfl⟩
                      obtain ⟨s, hs⟩ : ∃ s, s = v % 16 := ⟨_, rfl⟩
                      have re : (i : Int) % 4 = (r : Int) := by omega
                      have rt : Int.tmod (i : Int) 4 = (r : Int) := by rw [Int.tmod_eq_emod_of_nonneg (by omega)]; exact re
                      have gw : IntKind.i64.wrap (4 * (r : Int)) = (g : Int) := by rw [IntKind.wrap_i64]; omega
                      have vw : IntKind.i64.wrap ((i : Int) + (g : Int)) = (v : Int) := by rw [IntKind.wrap_i64]; omega
                      have se : (v : Int) % 16 = (s : Int) := by omega
                      have st : Int.tmod (v : Int) 16 = (s : Int) := by rw [Int.tmod_eq_emod_of_nonneg (by omega)]; exact se
                      have si : (s : Int) < 16 := by omega
                      have sz : (0 : Int) ≤ (s : Int) := by omega
                      have ii : (i : Int) < 16 := by omega
                      have iz : (0 : Int) ≤ (i : Int) := by omega
                      have HS := hid (show s < 16 by omega)

                      have BN := hid (BJ.out.drew.set 0 rfl s (ib (gb cc i)))
                      have BN2 := hid (p := Bx w [(gc, 22, sct cc (i + 1)), (g7, 53, kw), (w.heap.size + 1 + 1, 22, List.replicate 16 0), (w.heap.size + 1, 22, cc), (w.heap.size, 22, key)] ((wr.drew).setCell _ _)) (by rw [← sct_step cc i hlt, show (i + 4 * (i % 4)) % 16 = s by omega]; exact BN.out)
                      clear BN hr hg hv hs
                      generalize hx : gb cc i = x at *
                      have XS := hid hx
                      clear hx
                      have xg := iv_ge x
                      have xl := iv_lt x
                      go_upto_region 21 with fail
                      refine wp_region_noPanic ?_
                      refine Goes.region (SBx w [(gc, 22, sct cc i), (g7, 53, kw), (w.heap.size + 1 + 1, 22, List.replicate 16 0), (w.heap.size + 1, 22, cc), (w.heap.size, 22, key)] [15]) (by as_aux_lemma => kernel_rfl) ?_
                      have BJ := hid (BJ.out.drew)
                      refine Goes.take (i := 0) (o := ⟨some 137, _, _, _, _, _⟩) (v := ?_) [] rfl (by as_aux_lemma => kernel_rfl) (by as_aux_lemma => kernel_rfl) (by as_aux_lemma => kernel_rfl) (fun _ _ _ h => h) (by as_aux_lemma => kernel_rfl) (fun L u h => SBx.quiet (by decide) h) (Or.inl ⟨by rfl, ?_⟩) (SBx.of BJ.out) ?_
                      rotate_left
                      · intro u hY; go_simp; try with_reducible rfl
                      try simp only [putz]
                      refine Goes.take (i := 1) (o := ⟨some 138, _, _, _, _, _⟩) (v := ?_) [] rfl (by as_aux_lemma => kernel_rfl) (by as_aux_lemma => kernel_rfl) (by as_aux_lemma => kernel_rfl) (fun _ _ _ h => h) (by as_aux_lemma => kernel_rfl) (fun L u h => SBx.quiet (by decide) h) (Or.inl ⟨by rfl, ?_⟩) (SBx.of BJ.out) ?_
                      rotate_left
                      · intro u hY; go_simp; try with_reducible rfl
                      try simp only [putz]
                      refine Goes.take (i := 2) (o := ⟨some 139, _, _, _, _, _⟩) (v := ?_) [] rfl (by as_aux_lemma => kernel_rfl) (by as_aux_lemma => kernel_rfl) (by as_aux_lemma => kernel_rfl) (fun _ _ _ h => h) (by as_aux_lemma => kernel_rfl) (fun L u h => SBx.quiet (by decide) h) (Or.inl ⟨by rfl, ?_⟩) (SBx.of BJ.out) ?_
                      rotate_left
                      · intro u hY; go_simp; try with_reducible rfl
                      try simp only [putz]
                      refine Goes.take (i := 3) (o := ⟨some 140, _, _, _, _, _⟩) (v := ?_) [] rfl (by as_aux_lemma => kernel_rfl) (by as_aux_lemma => kernel_rfl) (by as_aux_lemma => kernel_rfl) (fun _ _ _ h => h) (by as_aux_lemma => kernel_rfl) (fun L u h => SBx.quiet (by decide) h) (Or.inl ⟨by rfl, ?_⟩) (SBx.of BJ.out) ?_
                      rotate_left
                      · intro u hY; go_simp; try with_reducible rfl
                      try simp only [putz]
                      refine Goes.take (i := 4) (o := ⟨some 141, _, _, _, _, _⟩) (v := ?_) [] rfl (by as_aux_lemma => kernel_rfl) (by as_aux_lemma => kernel_rfl) (by as_aux_lemma => kernel_rfl) (fun _ _ _ h => h) (by as_aux_lemma => kernel_rfl) (fun L u h => SBx.quiet (by decide) h) (Or.inl ⟨by rfl, ?_⟩) (SBx.of BJ.out) ?_
                      rotate_left
                      · intro u hY; go_simp; try with_reducible rfl
                      try simp only [putz]
                      refine Goes.take (i := 5) (o := ⟨some 142, _, _, _, _, _⟩) (v := ?_) [] rfl (by as_aux_lemma => kernel_rfl) (by as_aux_lemma => kernel_rfl) (by as_aux_lemma => kernel_rfl) (fun _ _ _ h => h) (by as_aux_lemma => kernel_rfl) (fun L u h => SBx.quiet (by decide) h) (Or.inl ⟨by rfl, ?_⟩) (SBx.of BJ.out) ?_
                      rotate_left
                      · intro u hY; go_simp; try with_reducible rfl
                      try simp only [putz]
                      refine Goes.take (i := 6) (o := ⟨some 143, _, _, _, _, _⟩) (v := ?_) [] rfl (by as_aux_lemma => kernel_rfl) (by as_aux_lemma => kernel_rfl) (by as_aux_lemma => kernel_rfl) (fun _ _ _ h => h) (by as_aux_lemma => kernel_rfl) (fun L u h => SBx.quiet (by decide) h) (Or.inl ⟨by rfl, ?_⟩) (SBx.of BJ.out) ?_
                      rotate_left
                      · intro u hY; go_simp; try with_reducible rfl
                      try simp only [putz]
                      refine Goes.take (i := 7) (o := ⟨some 144, _, _, _, _, _⟩) (v := ?_) [] rfl (by as_aux_lemma => kernel_rfl) (by as_aux_lemma => kernel_rfl) (by as_aux_lemma => kernel_rfl) (fun _ _ _ h => h) (by as_aux_lemma => kernel_rfl) (fun L u h => SBx.quiet (by decide) h) (Or.inl ⟨by rfl, ?_⟩) (SBx.of BJ.out) ?_
                      rotate_left
                      · intro u hY; go_simp; try with_reducible rfl
                      try simp only [putz]
                      refine Goes.take (i := 8) (o := ⟨some 145, _, _, _, _, _⟩) (v := ?_) [] rfl (by as_aux_lemma => kernel_rfl) (by as_aux_lemma => kernel_rfl) (by as_aux_lemma => kernel_rfl) (fun _ _ _ h => h) (by as_aux_lemma => kernel_rfl) (fun L u h => SBx.quiet (by decide) h) (Or.inl ⟨by rfl, ?_⟩) (SBx.of BJ.out) ?_
                      rotate_left
                      · intro u hY; go_simp; try with_reducible rfl
                      try simp only [putz]
                      refine Goes.take (i := 9) (o := ⟨some 146, _, _, _, _, _⟩) (v := ?_) [15] rfl (by as_aux_lemma => kernel_rfl) (by as_aux_lemma => kernel_rfl) (by as_aux_lemma => kernel_rfl) (fun _ _ _ h => h) (by as_aux_lemma => kernel_rfl) (fun L u h => SBx.quiet (by decide) h) (Or.inl ⟨by rfl, ?_⟩) (SBx.of BJ.out) ?_
                      rotate_left
                      · intro u hY; have hX := SBx.yet hY (by decide); have hc := hX.cell 3 rfl i (by rw [HCL.out]; exact HI.out); rw [XS.out] at hc; clear hY hX; go_simp; try with_reducible rfl
                      try simp only [putz]
                      refine Goes.take (i := 10) (o := ⟨some 147, _, _, _, _, _⟩) (v := ?_) [] rfl (by as_aux_lemma => kernel_rfl) (by as_aux_lemma => kernel_rfl) (by as_aux_lemma => kernel_rfl) (fun _ _ _ h => h) (by as_aux_lemma => kernel_rfl) (fun L u h => SBx.quiet (by decide) h) (Or.inl ⟨by rfl, ?_⟩) (SBx.of BJ.out) ?_
                      rotate_left
                      · intro u hY; go_simp; try with_reducible rfl
                      try simp only [putz]
                      refine Goes.take (i := 11) (o := ⟨some 148, _, _, _, _, _⟩) (v := ?_) [] rfl (by as_aux_lemma => kernel_rfl) (by as_aux_lemma => kernel_rfl) (by as_aux_lemma => kernel_rfl) (fun _ _ _ h => h) (by as_aux_lemma => kernel_rfl) (fun L u h => SBx.quiet (by decide) h) (Or.inl ⟨by rfl, ?_⟩) (SBx.of BJ.out) ?_
                      rotate_left
                      · intro u hY; go_simp; try with_reducible rfl
                      try simp only [putz]
                      refine Goes.take (i := 12) (o := ⟨some 149, _, _, _, _, _⟩) (v := ?_) [] rfl (by as_aux_lemma => kernel_rfl) (by as_aux_lemma => kernel_rfl) (by as_aux_lemma => kernel_rfl) (fun _ _ _ h => h) (by as_aux_lemma => kernel_rfl) (fun L u h => SBx.quiet (by decide) h) (Or.inl ⟨by rfl, ?_⟩) (SBx.of BJ.out) ?_
                      rotate_left
                      · intro u hY; go_simp; try with_reducible rfl
                      try simp only [putz]
                      refine Goes.take (i := 13) (o := ⟨some 150, _, _, _, _, _⟩) (v := ?_) [15] rfl (by as_aux_lemma => kernel_rfl) (by as_aux_lemma => kernel_rfl) (by as_aux_lemma => kernel_rfl) (fun _ _ _ h => h) (by as_aux_lemma => kernel_rfl) (fun L u h => SBx.quiet (by decide) h) (Or.inl ⟨by rfl, ?_⟩) (SBx.of BJ.out) ?_
                      rotate_left
                      · intro u hY; have hX := SBx.yet hY (by decide); have hc : u.cell? ⟨gx, 256 + (iv x).toNat, none⟩ = some (bv (gb SI (256 + x.toNat))) := (HX.out.on hX.below).at_ (256 + x.toNat) (by rw [SI_length]; have := x.toNat_lt; omega); rw [SI_back] at hc; clear hY hX; go_simp; try with_reducible rfl
                      try simp only [putz]
                      refine Goes.take (i := 14) (o := ⟨some 151, _, _, _, _, _⟩) (v := ?_) [] rfl (by as_aux_lemma => kernel_rfl) (by as_aux_lemma => kernel_rfl) (by as_aux_lemma => kernel_rfl) (fun _ _ _ h => h) (by as_aux_lemma => kernel_rfl) (fun L u h => SBx.quiet (by decide) h) (Or.inl ⟨by rfl, ?_⟩) (SBx.of BJ.out) ?_
                      rotate_left
                      · intro u hY; go_simp; try with_reducible rfl
                      try simp only [putz]
                      refine Goes.one (i := 15) (o := ⟨none, _, _, _, _, _⟩) (by as_aux_lemma => kernel_rfl) rfl (fun K hK => ?_)
                      have hc0 := BJ.out.cell 0 rfl s (by rw [sct_length]; exact HS.out)
                      have hf := BJ.out.frozen 0 rfl s
                      go_simp
                      go_wp2_with fail
                      refine hK.out _ _ (SBx.off (by decide)) ?_
                      clear hK K
                      try simp only [putz]
                      refine Goes.done (by as_aux_lemma => kernel_rfl) ?_ _
                      refine NoPanic.normal ?_
                      clear re rt gw vw se st si sz ii iz xg xl
                      go_wp2
                      go_roundw
                      case rel => exact ⟨i + 1, HI.out, by go_num, BN2⟩
                      case measure => have := HI.out; simp [intOf]; omega
                    · have h16 : i = 16 := by omega
                      have hge : ¬ (i : Int) < 16 := by omega
                      rw [h16, sct_all, HRN.out] at BJ
                      clear h16 hlt hi HRN
                      have hl3 := ld_all (BJ.out.bt 0 rfl) 22 _ Try.underlying22 rfl 16 (oub_length kw b _ HB.out) row16
                      have hs3 := st_all (BJ.out.bt 3 rfl) 22 (oub kw b (10 - j)) 16 (oub_length kw b _ HB.out) HCL.out row16
                      have BN := hid (BJ.out.row 3 rfl (oub kw b (10 - j)))
                      have BN2 := hid (p := Bx w [(g7, 53, kw), (w.heap.size + 1 + 1, 22, List.replicate 16 0), (w.heap.size + 1, 22, oub kw b (10 - j)), (w.heap.size, 22, key)] _) BN.out.tail
                      clear BN BJ
                      go_upto_region 22 with fail
                      go_wp2_with (first | ((with_reducible refine isD 152 rfl ?_); refine wp_ld (by kernel_rfl) 22 (.tmp 15) rfl _ rfl _ hl3 ?_) | ((with_reducible refine isS 22 (.tmp 5) (.tmp 152) rfl ?_); refine wp_st (by kernel_rfl) 22 (.tmp 5) (.tmp 152) rfl _ _ rfl rfl hs3 ?_))
                      clear hl3 hs3
                      have hnu : (n : Int) < 11 := by have := HM.out; omega
                      go_wp2
                      go_roundw
                      case rel => exact ⟨j, by have := HM.out; have := HNM.out; omega, by have := HNM.out; have := HM.out; first | (refine congrArg _ ?_; omega) | (refine congrArg _ ?_; rw [IntWalk.wrap64_in _ ⟨by omega, by omega⟩]; omega), BN2⟩
                      case measure => have := HM.out; have := HNM.out; simp [intOf]; first | omega | (rw [IntWalk.wrap64_in _ ⟨by omega, by omega⟩]; omega)
      · have hn0 : n = 0 := by omega
        have hnl : ¬ (1 : Int) ≤ (n : Int) := by omega
        rw [hn0] at BJ
        clear hn0 hn hn1
        have HOE := hid (p := ark kw 0 (oub kw b (10 - 0)) = dec key b) ((oub_end kw b).trans HEN.out)
        have HOL := hid (oub_length kw b (10 - 0) HB.out)
        generalize oub kw b (10 - 0) = o at *
        have BT := hid (p := Bx w [(g7, 53, kw), (w.heap.size + 1 + 1, 22, List.replicate 16 0), (w.heap.size + 1, 22, upto 16 (fun i => gb o i ^^^ gb kw i) o 0), (w.heap.size, 22, key)] wr) (by rw [upto_none _ _ _ HOL.out]; exact BJ.out)
        clear BJ
        go_upto_region 23 with fail
        go_wp2_with fail
        go_loopw [17] (fun n wr => ∃ i : Nat, i ≤ 16 ∧ n = .int .i64 i ∧ Hid (Bx w [(g7, 53, kw), (w.heap.size + 1 + 1, 22, List.replicate 16 0), (w.heap.size + 1, 22, upto 16 (fun i => gb o i ^^^ gb kw i) o i), (w.heap.size, 22, key)] wr)) (fun n _ => 16 - (intOf n).toNat)
        case atStart => exact ⟨0, Nat.zero_le _, rfl, BT⟩
        case round =>
          clear BT
          obtain ⟨i, hi, rfl, BJ⟩ := hrel
          by_cases hlt : i < 16
          · have HI := hid hlt
            obtain ⟨q, hq⟩ : ∃ q, q = i / 4 := ⟨_, rfl⟩
            obtain ⟨r, hr⟩ : ∃ r, r = i % 4 := ⟨_, rfl⟩
            have qd : (i : Int) / 4 = (q : Int) := by omega
            have qt : Int.tdiv (i : Int) 4 = (q : Int) := by rw [Int.tdiv_eq_ediv_of_nonneg (by omega)]; exact qd
            have re : (i : Int) % 4 = (r : Int) := by omega
            have rt : Int.tmod (i : Int) 4 = (r : Int) := by rw [Int.tmod_eq_emod_of_nonneg (by omega)]; exact re
            have qw : IntKind.i64.wrap (q : Int) = (q : Int) := by rw [IntKind.wrap_i64]; omega
            have qi : (q : Int) < 44 := by omega
            have qz : (0 : Int) ≤ (q : Int) := by omega
            have ri : (r : Int) < 4 := by omega
            have rz : (0 : Int) ≤ (r : Int) := by omega
            have ii : (i : Int) < 16 := by omega
            have iz : (0 : Int) ≤ (i : Int) := by omega

            have HWB := hid (show q * 4 + r < 4 * 44 by omega)
            have HWE := hid (p := gb kw (q * 4 + r) = gb kw i) (by rw [show q * 4 + r = i by omega])
            have BN := hid (BJ.out.drew.set 2 rfl i (gb o i ^^^ gb kw i))
            rw [upto_set 16 (fun i => gb o i ^^^ gb kw i)] at BN
            have BN2 := hid (p := Bx w [(g7, 53, kw), (w.heap.size + 1 + 1, 22, List.replicate 16 0), (w.heap.size + 1, 22, upto 16 (fun i => gb o i ^^^ gb kw i) o (i + 1)), (w.heap.size, 22, key)] _) BN.out
            clear BN hq hr
            have hx := xor_u8 (gb o i) (gb kw i)
            generalize gb o i ^^^ gb kw i = z at *
            go_upto_region 26 with fail
            refine wp_region_noPanic ?_
            refine Goes.region (SBx w [(g7, 53, kw), (w.heap.size + 1 + 1, 22, List.replicate 16 0), (w.heap.size + 1, 22, upto 16 (fun i => gb o i ^^^ gb kw i) o i), (w.heap.size, 22, key)] [12]) (by as_aux_lemma => kernel_rfl) ?_
            have BJ := hid (BJ.out.drew)
            refine Goes.take (i := 0) (o := ⟨some 157, _, _, _, _, _⟩) (v := ?_) [] rfl (by as_aux_lemma => kernel_rfl) (by as_aux_lemma => kernel_rfl) (by as_aux_lemma => kernel_rfl) (fun _ _ _ h => h) (by as_aux_lemma => kernel_rfl) (fun L u h => SBx.quiet (by decide) h) (Or.inl ⟨by rfl, ?_⟩) (SBx.of BJ.out) ?_
            rotate_left
            · intro u hY; go_simp; try with_reducible rfl
            try simp only [putz]
            refine Goes.take (i := 1) (o := ⟨some 158, _, _, _, _, _⟩) (v := ?_) [] rfl (by as_aux_lemma => kernel_rfl) (by as_aux_lemma => kernel_rfl) (by as_aux_lemma => kernel_rfl) (fun _ _ _ h => h) (by as_aux_lemma => kernel_rfl) (fun L u h => SBx.quiet (by decide) h) (Or.inl ⟨by rfl, ?_⟩) (SBx.of BJ.out) ?_
            rotate_left
            · intro u hY; go_simp; try with_reducible rfl
            try simp only [putz]
            refine Goes.take (i := 2) (o := ⟨some 159, _, _, _, _, _⟩) (v := ?_) [12] rfl (by as_aux_lemma => kernel_rfl) (by as_aux_lemma => kernel_rfl) (by as_aux_lemma => kernel_rfl) (fun _ _ _ h => h) (by as_aux_lemma => kernel_rfl) (fun L u h => SBx.quiet (by decide) h) (Or.inl ⟨by rfl, ?_⟩) (SBx.of BJ.out) ?_
            rotate_left
            · intro u hY; have hX := SBx.yet hY (by decide); have hc := hX.cell 2 rfl i (by rw [upto_length]; exact HI.out); rw [upto_at _ _ _ _ _ HI.out (Nat.le_refl _)] at hc; clear hY hX; go_simp; try with_reducible rfl
            try simp only [putz]
            refine Goes.take (i := 3) (o := ⟨some 160, _, _, _, _, _⟩) (v := ?_) [] rfl (by as_aux_lemma => kernel_rfl) (by as_aux_lemma => kernel_rfl) (by as_aux_lemma => kernel_rfl) (fun _ _ _ h => h) (by as_aux_lemma => kernel_rfl) (fun L u h => SBx.quiet (by decide) h) (Or.inl ⟨by rfl, ?_⟩) (SBx.of BJ.out) ?_
            rotate_left
            · intro u hY; go_simp; try with_reducible rfl
            try simp only [putz]
            refine Goes.take (i := 4) (o := ⟨some 161, _, _, _, _, _⟩) (v := ?_) [] rfl (by as_aux_lemma => kernel_rfl) (by as_aux_lemma => kernel_rfl) (by as_aux_lemma => kernel_rfl) (fun _ _ _ h => h) (by as_aux_lemma => kernel_rfl) (fun L u h => SBx.quiet (by decide) h) (Or.inl ⟨by rfl, ?_⟩) (SBx.of BJ.out) ?_
            rotate_left
            · intro u hY; go_simp; try with_reducible rfl
            try simp only [putz]
            refine Goes.take (i := 5) (o := ⟨some 162, _, _, _, _, _⟩) (v := ?_) [] rfl (by as_aux_lemma => kernel_rfl) (by as_aux_lemma => kernel_rfl) (by as_aux_lemma => kernel_rfl) (fun _ _ _ h => h) (by as_aux_lemma => kernel_rfl) (fun L u h => SBx.quiet (by decide) h) (Or.inl ⟨by rfl, ?_⟩) (SBx.of BJ.out) ?_
            rotate_left
            · intro u hY; go_simp; try with_reducible rfl
            try simp only [putz]
            refine Goes.take (i := 6) (o := ⟨some 163, _, _, _, _, _⟩) (v := ?_) [] rfl (by as_aux_lemma => kernel_rfl) (by as_aux_lemma => kernel_rfl) (by as_aux_lemma => kernel_rfl) (fun _ _ _ h => h) (by as_aux_lemma => kernel_rfl) (fun L u h => SBx.quiet (by decide) h) (Or.inl ⟨by rfl, ?_⟩) (SBx.of BJ.out) ?_
            rotate_left
            · intro u hY; go_simp; try with_reducible rfl
            try simp only [putz]
            refine Goes.take (i := 7) (o := ⟨some 164, _, _, _, _, _⟩) (v := ?_) [] rfl (by as_aux_lemma => kernel_rfl) (by as_aux_lemma => kernel_rfl) (by as_aux_lemma => kernel_rfl) (fun _ _ _ h => h) (by as_aux_lemma => kernel_rfl) (fun L u h => SBx.quiet (by decide) h) (Or.inl ⟨by rfl, ?_⟩) (SBx.of BJ.out) ?_
            rotate_left
            · intro u hY; go_simp; try with_reducible rfl
            try simp only [putz]
            refine Goes.take (i := 8) (o := ⟨some 165, _, _, _, _, _⟩) (v := ?_) [] rfl (by as_aux_lemma => kernel_rfl) (by as_aux_lemma => kernel_rfl) (by as_aux_lemma => kernel_rfl) (fun _ _ _ h => h) (by as_aux_lemma => kernel_rfl) (fun L u h => SBx.quiet (by decide) h) (Or.inl ⟨by rfl, ?_⟩) (SBx.of BJ.out) ?_
            rotate_left
            · intro u hY; go_simp; try with_reducible rfl
            try simp only [putz]
            refine Goes.take (i := 9) (o := ⟨some 166, _, _, _, _, _⟩) (v := ?_) [12] rfl (by as_aux_lemma => kernel_rfl) (by as_aux_lemma => kernel_rfl) (by as_aux_lemma => kernel_rfl) (fun _ _ _ h => h) (by as_aux_lemma => kernel_rfl) (fun L u h => SBx.quiet (by decide) h) (Or.inl ⟨by rfl, ?_⟩) (SBx.of BJ.out) ?_
            rotate_left
            · intro u hY; have hX := SBx.yet hY (by decide); have hc := hX.cell 0 rfl (q * 4 + r) (by rw [HKL.out]; exact HWB.out); rw [HWE.out] at hc; clear hY hX; go_simp; try with_reducible rfl
            try simp only [putz]
            refine Goes.take (i := 10) (o := ⟨some 167, _, _, _, _, _⟩) (v := ?_) [] rfl (by as_aux_lemma => kernel_rfl) (by as_aux_lemma => kernel_rfl) (by as_aux_lemma => kernel_rfl) (fun _ _ _ h => h) (by as_aux_lemma => kernel_rfl) (fun L u h => SBx.quiet (by decide) h) (Or.inl ⟨by rfl, ?_⟩) (SBx.of BJ.out) ?_
            rotate_left
            · intro u hY; go_simp; try with_reducible rfl
            try simp only [putz]
            refine Goes.take (i := 11) (o := ⟨some 168, _, _, _, _, _⟩) (v := ?_) [] rfl (by as_aux_lemma => kernel_rfl) (by as_aux_lemma => kernel_rfl) (by as_aux_lemma => kernel_rfl) (fun _ _ _ h => h) (by as_aux_lemma => kernel_rfl) (fun L u h => SBx.quiet (by decide) h) (Or.inl ⟨by rfl, ?_⟩) (SBx.of BJ.out) ?_
            rotate_left
            · intro u hY; go_simp; try with_reducible rfl
            try simp only [putz]
            refine Goes.one (i := 12) (o := ⟨none, _, _, _, _, _⟩) (by as_aux_lemma => kernel_rfl) rfl (fun K hK => ?_)
            have hc0 := BJ.out.cell 2 rfl i (by rw [upto_length]; exact HI.out)
            have hf := BJ.out.frozen 2 rfl i
            go_simp
            go_wp2_with fail
            refine hK.out _ _ (SBx.off (by decide)) ?_
            clear hK K
            try simp only [putz]
            refine Goes.done (by as_aux_lemma => kernel_rfl) ?_ _
            refine NoPanic.normal ?_
            clear hx qd qt qw re rt qi qz ri rz ii iz
            go_wp2
            go_roundw
            case rel => exact ⟨i + 1, HI.out, by go_num, BN2⟩
            case measure => have := HI.out; simp [intOf]; omega
          · obtain rfl : i = 16 := by omega
            have HE := hid (p := upto 16 (fun i => gb o i ^^^ gb kw i) o 16 = dec key b) (by rw [← HOE.out, upto_all, ark]; exact tab_congr _ _ _ fun i hi => by rw [Nat.mul_zero, Nat.zero_add])
            rw [HE.out] at BJ
            clear HE
            go_upto_region 27 with fail
            have hl2 := ld_all (l := dec key b) (BJ.out.bt 2 rfl) 22 _ Try.underlying22 rfl 16 (dec_length key b) row16
            have hs2 := st_all (BJ.out.bt 1 rfl) 22 (dec key b) 16 (dec_length key b) (by simp) row16
            have hrow := BJ.out.row 1 rfl (dec key b)
            have HZ2 := hid (hrow.bt 1 rfl)
            have HB2 := hid hrow.below
            clear hrow
            unfold Bt at HZ2
            generalize hz : (bvs (dec key b)).toArray = z at *
            have HZ := hid hz
            have HI := hid (p := (Try.prog.info? 22).map (·.size) = some z.size) (by rw [← hz, bsz, (show (dec key b).length = 16 from dec_length key b)]; exact row16)
            clear hz
            go_wp2_with (first | ((with_reducible refine isD 169 rfl ?_); refine wp_ld (by kernel_rfl) 22 (.tmp 5) rfl _ rfl _ hl2 ?_) | ((with_reducible refine isS 22 (.tmp 6) (.tmp 169) rfl ?_); refine wp_st (by kernel_rfl) 22 (.tmp 6) (.tmp 169) rfl _ _ rfl rfl hs2 ?_))
            exact bodyPost_ret (v := .agg z) (results_cell_row (p := 6) (ty := 22) Try.results12 _ _ _ 22 z (0, 0) _ rfl HZ2.out Try.underlying22 rfl HI.out) rfl ⟨by rw [HZ.out], HB2.out⟩
end Go.Proofs.Ytbccnkjfjlmflaa

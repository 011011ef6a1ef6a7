/-
  burrowref09.words, walked: the words of all rounds. Conditions: none.
-/
import Derived.Test.YtbccnkjfjlmflaaGreatDoorCrc
import Derived.Test.YtbccnkjfjlmflaaGreatDoorCik
namespace Go.Proofs.YtbccnkjfjlmflaaGreatDoor
open Go.RowKit
set_option linter.unusedVariables false
set_option linter.unusedSimpArgs false

theorem z176rE : Tryz.zeroCells72 = (bvs (List.replicate 176 0)).toArray := by kernel_rfl
theorem wr176 : (Tryz.prog.info? 72).map (·.size) = some 176 := by kernel_rfl
theorem a4_4 : (Tryz.prog.info? 71).map (·.size) = some 4 := by kernel_rfl
theorem z4 : (bvs (List.replicate 4 0)).toArray = #[.int .u8 0, .int .u8 0, .int .u8 0, .int .u8 0] := rfl
/-- the first i words, noughts behind them -/
def kwx (key : List UInt8) (i : Nat) : List UInt8 := kwords key i ++ List.replicate (176 - 4 * i) 0
theorem kwx_length (key : List UInt8) (i : Nat) (h : i ≤ 44) : (kwx key i).length = 176 := by rw [kwx, List.length_append, kwords_length, List.length_replicate]; omega
theorem kwx_zero (key : List UInt8) : List.replicate 176 0 = kwx key 0 := rfl
theorem kwx_all (key : List UInt8) : kwx key 44 = kwords key 44 := by rw [kwx]; exact List.append_nil _
theorem kwx_at (key : List UInt8) (i m : Nat) (h : m < 4 * i) : gb (kwx key i) m = gb (kwords key i) m := gb_app _ _ _ (by rw [kwords_length]; exact h)
theorem kwx_next (key l : List UInt8) (i : Nat) (hi : i < 44) (hl : l.length = 176) (h1 : ∀ m, m < 4 * i → gb l m = gb (kwx key i) m) (h2 : ∀ k, k < 4 → gb l (4 * i + k) = gb (kword key (kwords key i) i) k) (h3 : ∀ m, 4 * i + 4 ≤ m → m < 176 → gb l m = 0) : l = kwx key (i + 1) := by
  refine list_gb _ _ (by rw [hl, kwx_length _ _ (by omega)]) fun m hm => ?_
  rw [hl] at hm
  have hkl : (kword key (kwords key i) i).length = 4 := tab_length _ _
  rcases Nat.lt_or_ge m (4 * i) with a | a
  · rw [h1 m a, kwx_at _ _ _ a, kwx_at _ _ _ (by omega), kwords, gb_app _ _ _ (by rw [kwords_length]; exact a)]
  · rcases Nat.lt_or_ge m (4 * i + 4) with b | b
    · obtain ⟨k, rfl⟩ : ∃ k, m = 4 * i + k := ⟨m - 4 * i, by omega⟩
      rw [h2 k (by omega), kwx_at _ _ _ (by omega), kwords, gb_app2 _ _ _ (by rw [kwords_length]; omega), kwords_length, Nat.add_sub_cancel_left]
    · rw [h3 m b hm, kwx, gb_app2 _ _ _ (by rw [kwords_length]; omega), gb_lt (by rw [List.length_replicate, kwords_length]; omega), List.getElem_replicate]
theorem kwx_rest (key : List UInt8) (i m : Nat) (h : 4 * i ≤ m) (hm : m < 176) : gb (kwx key i) m = 0 := by
  rw [kwx, gb_app2 _ _ _ (by rw [kwords_length]; omega), gb_lt (by rw [List.length_replicate, kwords_length]; omega), List.getElem_replicate]
/-- the first words are the key's -/
theorem kwx_key (key : List UInt8) (i : Nat) (hi : i < 4) : mid (kwx key i) (i * 4) [gb key (4 * i), gb key (4 * i + 1), gb key (4 * i + 2), gb key (4 * i + 3)] = kwx key (i + 1) := by
  have hl := kwx_length key i (by omega)
  refine kwx_next key _ i (by omega) (by rw [mid_length _ _ _ (by rw [hl]; simp; omega), hl]) (fun m hm => ?_) (fun k hk => ?_) (fun m h1 h2 => ?_)
  · rw [gb_mid _ _ _ (by rw [hl]; simp; omega), if_neg (by omega)]
  · rw [gb_mid _ _ _ (by rw [hl]; simp; omega), if_pos (by simp; omega), show 4 * i + k - i * 4 = k by omega, kword, gb_tab _ _ _ hk, if_pos hi]
    match k, hk with
    | 0, _ => rfl
    | 1, _ => rfl
    | 2, _ => rfl
    | 3, _ => rfl
  · rw [gb_mid _ _ _ (by rw [hl]; simp; omega), if_neg (by simp; omega), kwx_rest _ _ _ (by omega) h2]
/-- the word ahead, turned or not -/
def xw (key : List UInt8) (j : Nat) : List UInt8 := ((kwx key (j + 1)).drop (j * 4)).take 4
theorem xw_length (key : List UInt8) (j : Nat) (h : j < 43) : (xw key j).length = 4 := by have := kwx_length key (j + 1) (by omega); simp [xw]; omega
theorem xw_at (key : List UInt8) (j k : Nat) (hk : k < 4) : gb (xw key j) k = gb (kwx key (j + 1)) (4 * j + k) := by rw [xw, gb_take _ _ _ hk, gb_drop, Nat.mul_comm]
def xt4 (x : List UInt8) (y : UInt8) : List UInt8 := [sbb (gb x 1) ^^^ y, sbb (gb x 2), sbb (gb x 3), sbb (gb x 0)]
/-- k bytes of word i against x -/
def kwu (key x : List UInt8) (i k : Nat) : List UInt8 := tab 176 fun m => if 4 * i ≤ m ∧ m < 4 * i + k then gb (kwx key i) (m - 16) ^^^ gb x (m - 4 * i) else gb (kwx key i) m
theorem kwu_length (key x : List UInt8) (i k : Nat) : (kwu key x i k).length = 176 := tab_length _ _
theorem kwu_zero (key x : List UInt8) (i : Nat) (h : i ≤ 44) : kwx key i = kwu key x i 0 := (tab_eq 176 _ _ (kwx_length key i h) fun m hm => if_neg (by omega)).symm
theorem kwu_set (key x : List UInt8) (q k : Nat) (hq : q < 40) (hk : k < 4) : (kwu key x (q + 4) k).set ((q + 4) * 4 + k) (gb (kwx key (q + 4)) (q * 4 + k) ^^^ gb x k) = kwu key x (q + 4) (k + 1) := by
  unfold kwu
  rw [tab_set]
  refine tab_congr _ _ _ fun m hm => ?_
  by_cases h : m = (q + 4) * 4 + k
  · subst h
    rw [if_pos rfl, if_pos (by omega), show (q + 4) * 4 + k - 16 = q * 4 + k by omega, show (q + 4) * 4 + k - 4 * (q + 4) = k by omega]
  · rw [if_neg h]
    by_cases h2 : 4 * (q + 4) ≤ m ∧ m < 4 * (q + 4) + k
    · rw [if_pos h2, if_pos (by omega)]
    · rw [if_neg h2, if_neg (by omega)]
theorem kwu_at (key x : List UInt8) (q k m : Nat) (hm : m < 4 * (q + 4) ∨ 4 * (q + 4) + k ≤ m) (hm2 : m < 176) : gb (kwu key x (q + 4) k) m = gb (kwx key (q + 4)) m := by rw [kwu, gb_tab _ _ _ hm2, if_neg (by omega)]
theorem kwu_all (key x : List UInt8) (q : Nat) (hq : q < 40) (hx : ∀ k, k < 4 → gb x k = if (q + 4) % 4 = 0 then sbb (gb (xw key (q + 3)) ((k + 1) % 4)) ^^^ (if k = 0 then xts 1 ((q + 4) / 4 - 1) else 0) else gb (xw key (q + 3)) k) : kwu key x (q + 4) 4 = kwx key (q + 4 + 1) := by
  refine kwx_next key _ (q + 4) (by omega) (kwu_length _ _ _ _) (fun m hm => ?_) (fun k hk => ?_) (fun m h1 h2 => ?_)
  · rw [kwu, gb_tab _ _ _ (by omega), if_neg (by omega)]
  · rw [kwu, gb_tab _ _ _ (by omega), if_pos (by omega), show 4 * (q + 4) + k - 4 * (q + 4) = k by omega, hx k hk, kword, gb_tab _ _ _ hk, if_neg (show ¬ q + 4 < 4 by omega), kwx_at _ _ _ (by omega), show 4 * (q + 4) + k - 16 = 4 * (q + 4 - 4) + k by omega]
    rw [xw_at _ _ _ (Nat.mod_lt _ (by decide)), xw_at _ _ _ hk, kwx_at _ _ _ (by omega), kwx_at _ _ _ (by omega)]
    rfl
  · rw [kwu, gb_tab _ _ _ h2, if_neg (by omega), kwx_rest _ _ _ (by omega) h2]
/-- what the next such word's first byte is taken against, at word i -/
def bys (i : Nat) : UInt8 := xts 1 ((i + 3) / 4 - 1)
theorem bys_on (i : Nat) (h : ¬ i % 4 = 0) : bys i = bys (i + 1) := by unfold bys; rw [show (i + 1 + 3) / 4 = (i + 3) / 4 by omega]
theorem bys_low (i : Nat) (h : i < 4) : bys i = bys (i + 1) := by unfold bys; rw [show (i + 1 + 3) / 4 - 1 = (i + 3) / 4 - 1 by omega]
theorem bys_next (i : Nat) (h4 : 4 ≤ i) (h : i % 4 = 0) : tm (bys i) 2 = bys (i + 1) := by
  unfold bys
  rw [tm_two, show (i + 1 + 3) / 4 - 1 = ((i + 3) / 4 - 1) + 1 by omega]; rfl
theorem bys_at (i : Nat) (h4 : 4 ≤ i) (h : i % 4 = 0) : bys i = xts 1 (i / 4 - 1) := by unfold bys; rw [show (i + 3) / 4 = i / 4 by omega]
theorem xt4_at (x : List UInt8) (y : UInt8) (k : Nat) (hk : k < 4) : gb (xt4 x y) k = sbb (gb x ((k + 1) % 4)) ^^^ (if k = 0 then y else 0) := by
  match k, hk with
  | 0, _ => rfl
  | 1, _ => rw [if_neg (by decide), UInt8.xor_zero]; rfl
  | 2, _ => rw [if_neg (by decide), UInt8.xor_zero]; rfl
  | 3, _ => rw [if_neg (by decide), UInt8.xor_zero]; rfl
set_option maxRecDepth 100000 in
set_option maxHeartbeats 4000000 in
theorem words_any (key : List UInt8) (w : World) (hk : key.length = 16) : Calls Tryz.prog 76 #[.agg (bvs key).toArray, .agg (bvs SB).toArray] w fun e w' => e = .returned (.agg (bvs (kwords key 44)).toArray) ∧ Below w.heap.size w w' := by
  have HK := hid hk
  clear hk
  have B4 := hid (p := Bx w [(w.heap.size + 1 + 1 + 1, 72, kwx key 0), (w.heap.size + 1 + 1, 72, List.replicate 176 0), (w.heap.size + 1, 48, SB), (w.heap.size, 22, key)] ((((w.alloc (.cells (bvs key).toArray 22)).alloc (.cells (bvs SB).toArray 48)).alloc (.cells Tryz.zeroCells72 72)).alloc (.cells Tryz.zeroCells72 72))) (by
    rw [← kwx_zero, z176rE]
    exact (bx3 w 22 48 72 key SB (List.replicate 176 0)).put 72 (List.replicate 176 0) _ (by rw [al_size, al_size, al_size]))
  go_enter Tryz.func76, Tryz.ntmps76
  go_upto_region 2 with fail
  generalize (((w.alloc (.cells (bvs key).toArray 22)).alloc (.cells (bvs SB).toArray 48)).alloc (.cells Tryz.zeroCells72 72)).alloc (.cells Tryz.zeroCells72 72) = w1 at *
  go_wp2_with fail
  go_loopw [6, 7] (fun y n wr => ∃ i : Nat, i ≤ 44 ∧ n = .int .i64 i ∧ y = bv (bys i) ∧ Hid (Bx w [(w.heap.size + 1 + 1 + 1, 72, kwx key i), (w.heap.size + 1 + 1, 72, List.replicate 176 0), (w.heap.size + 1, 48, SB), (w.heap.size, 22, key)] wr)) (fun _ n _ => 44 - (intOf n).toNat)
  case atStart => exact ⟨0, Nat.zero_le _, rfl, rfl, B4⟩
  case round =>
    clear B4
    obtain ⟨i, hi, rfl, rfl, BJ⟩ := hrel
    by_cases hlt : i < 44
    · have HI := hid hlt
      have HWL := hid (kwx_length key i hi)
      by_cases h4 : i < 4
      · have HE := hid (kwx_key key i h4)
        have HY := hid (bys_low i h4)
        obtain ⟨m, hm⟩ : ∃ m, m = 4 * i := ⟨_, rfl⟩
        have hm12 : m < 13 := by omega
        have mw : IntKind.i64.wrap (4 * (i : Int)) = (m : Int) := by rw [IntKind.wrap_i64]; omega
        have mi : (m : Int) < 16 := by omega
        have mz : (0 : Int) ≤ (m : Int) := by omega
        have mw1 : IntKind.i64.wrap ((m : Int) + 1) = ((m + 1 : Nat) : Int) := by rw [IntKind.wrap_i64]; omega
        have mi1 : (m : Int) + 1 < 16 := by omega
        have mz1 : (0 : Int) ≤ (m : Int) + 1 := by omega
        have mt1 : ((m : Int) + 1).toNat = m + 1 := by omega
        have mw2 : IntKind.i64.wrap ((m : Int) + 2) = ((m + 2 : Nat) : Int) := by rw [IntKind.wrap_i64]; omega
        have mi2 : (m : Int) + 2 < 16 := by omega
        have mz2 : (0 : Int) ≤ (m : Int) + 2 := by omega
        have mt2 : ((m : Int) + 2).toNat = m + 2 := by omega
        have mw3 : IntKind.i64.wrap ((m : Int) + 3) = ((m + 3 : Nat) : Int) := by rw [IntKind.wrap_i64]; omega
        have mi3 : (m : Int) + 3 < 16 := by omega
        have mz3 : (0 : Int) ≤ (m : Int) + 3 := by omega
        have mt3 : ((m : Int) + 3).toNat = m + 3 := by omega
        have i5 : (i : Int) < 44 := by omega
        have i6 : (0 : Int) ≤ (i : Int) := by omega
        rw [← hm] at HE
        clear hm
        go_upto_region 7 with fail
        refine wp_region_noPanic ?_
        refine Goes.region (SBx w [(w.heap.size + 1 + 1 + 1, 72, kwx key i), (w.heap.size + 1 + 1, 72, List.replicate 176 0), (w.heap.size + 1, 48, SB), (w.heap.size, 22, key)] [22]) (by as_aux_lemma => kernel_rfl) ?_
        have BJ := hid (BJ.out.drew)
        refine Goes.take (i := 0) (o := ⟨some 16, _, _, _, _, _⟩) (v := ?_) [] rfl (by as_aux_lemma => kernel_rfl) (by as_aux_lemma => kernel_rfl) (by as_aux_lemma => kernel_rfl) (fun _ _ _ h => h) (by as_aux_lemma => kernel_rfl) (fun L u h => SBx.quiet (by decide) h) (Or.inl ⟨by rfl, ?_⟩) (SBx.of BJ.out) ?_
        rotate_left
        · intro u hY; go_simp; try with_reducible rfl
        try simp only [putz]
        refine Goes.take (i := 1) (o := ⟨some 17, _, _, _, _, _⟩) (v := ?_) [] rfl (by as_aux_lemma => kernel_rfl) (by as_aux_lemma => kernel_rfl) (by as_aux_lemma => kernel_rfl) (fun _ _ _ h => h) (by as_aux_lemma => kernel_rfl) (fun L u h => SBx.quiet (by decide) h) (Or.inl ⟨by rfl, ?_⟩) (SBx.of BJ.out) ?_
        rotate_left
        · intro u hY; go_simp; try with_reducible rfl
        try simp only [putz]
        refine Goes.take (i := 2) (o := ⟨some 18, _, _, _, _, _⟩) (v := ?_) [] rfl (by as_aux_lemma => kernel_rfl) (by as_aux_lemma => kernel_rfl) (by as_aux_lemma => kernel_rfl) (fun _ _ _ h => h) (by as_aux_lemma => kernel_rfl) (fun L u h => SBx.quiet (by decide) h) (Or.inl ⟨by rfl, ?_⟩) (SBx.of BJ.out) ?_
        rotate_left
        · intro u hY; go_simp; try with_reducible rfl
        try simp only [putz]
        refine Goes.take (i := 3) (o := ⟨some 19, _, _, _, _, _⟩) (v := ?_) [] rfl (by as_aux_lemma => kernel_rfl) (by as_aux_lemma => kernel_rfl) (by as_aux_lemma => kernel_rfl) (fun _ _ _ h => h) (by as_aux_lemma => kernel_rfl) (fun L u h => SBx.quiet (by decide) h) (Or.inl ⟨by rfl, ?_⟩) (SBx.of BJ.out) ?_
        rotate_left
        · intro u hY; go_simp; try with_reducible rfl
        try simp only [putz]
        refine Goes.take (i := 4) (o := ⟨some 20, _, _, _, _, _⟩) (v := ?_) [22] rfl (by as_aux_lemma => kernel_rfl) (by as_aux_lemma => kernel_rfl) (by as_aux_lemma => kernel_rfl) (fun _ _ _ h => h) (by as_aux_lemma => kernel_rfl) (fun L u h => SBx.quiet (by decide) h) (Or.inl ⟨by rfl, ?_⟩) (SBx.of BJ.out) ?_
        rotate_left
        · intro u hY; have hX := SBx.yet hY (by decide); have hc := hX.cell 3 rfl m (by rw [HK.out]; omega); clear hY hX; go_simp; try with_reducible rfl
        try simp only [putz]
        refine Goes.take (i := 5) (o := ⟨some 21, _, _, _, _, _⟩) (v := ?_) [] rfl (by as_aux_lemma => kernel_rfl) (by as_aux_lemma => kernel_rfl) (by as_aux_lemma => kernel_rfl) (fun _ _ _ h => h) (by as_aux_lemma => kernel_rfl) (fun L u h => SBx.quiet (by decide) h) (Or.inl ⟨by rfl, ?_⟩) (SBx.of BJ.out) ?_
        rotate_left
        · intro u hY; go_simp; try with_reducible rfl
        try simp only [putz]
        refine Goes.take (i := 6) (o := ⟨some 22, _, _, _, _, _⟩) (v := ?_) [] rfl (by as_aux_lemma => kernel_rfl) (by as_aux_lemma => kernel_rfl) (by as_aux_lemma => kernel_rfl) (fun _ _ _ h => h) (by as_aux_lemma => kernel_rfl) (fun L u h => SBx.quiet (by decide) h) (Or.inl ⟨by rfl, ?_⟩) (SBx.of BJ.out) ?_
        rotate_left
        · intro u hY; go_simp; try with_reducible rfl
        try simp only [putz]
        refine Goes.take (i := 7) (o := ⟨some 23, _, _, _, _, _⟩) (v := ?_) [] rfl (by as_aux_lemma => kernel_rfl) (by as_aux_lemma => kernel_rfl) (by as_aux_lemma => kernel_rfl) (fun _ _ _ h => h) (by as_aux_lemma => kernel_rfl) (fun L u h => SBx.quiet (by decide) h) (Or.inl ⟨by rfl, ?_⟩) (SBx.of BJ.out) ?_
        rotate_left
        · intro u hY; go_simp; try with_reducible rfl
        try simp only [putz]
        refine Goes.take (i := 8) (o := ⟨some 24, _, _, _, _, _⟩) (v := ?_) [] rfl (by as_aux_lemma => kernel_rfl) (by as_aux_lemma => kernel_rfl) (by as_aux_lemma => kernel_rfl) (fun _ _ _ h => h) (by as_aux_lemma => kernel_rfl) (fun L u h => SBx.quiet (by decide) h) (Or.inl ⟨by rfl, ?_⟩) (SBx.of BJ.out) ?_
        rotate_left
        · intro u hY; go_simp; try with_reducible rfl
        try simp only [putz]
        refine Goes.take (i := 9) (o := ⟨some 25, _, _, _, _, _⟩) (v := ?_) [22] rfl (by as_aux_lemma => kernel_rfl) (by as_aux_lemma => kernel_rfl) (by as_aux_lemma => kernel_rfl) (fun _ _ _ h => h) (by as_aux_lemma => kernel_rfl) (fun L u h => SBx.quiet (by decide) h) (Or.inl ⟨by rfl, ?_⟩) (SBx.of BJ.out) ?_
        rotate_left
        · intro u hY; have hX := SBx.yet hY (by decide); have hc := hX.cell 3 rfl (m + 1) (by rw [HK.out]; omega); clear hY hX; go_simp; try with_reducible rfl
        try simp only [putz]
        refine Goes.take (i := 10) (o := ⟨some 26, _, _, _, _, _⟩) (v := ?_) [] rfl (by as_aux_lemma => kernel_rfl) (by as_aux_lemma => kernel_rfl) (by as_aux_lemma => kernel_rfl) (fun _ _ _ h => h) (by as_aux_lemma => kernel_rfl) (fun L u h => SBx.quiet (by decide) h) (Or.inl ⟨by rfl, ?_⟩) (SBx.of BJ.out) ?_
        rotate_left
        · intro u hY; go_simp; try with_reducible rfl
        try simp only [putz]
        refine Goes.take (i := 11) (o := ⟨some 27, _, _, _, _, _⟩) (v := ?_) [] rfl (by as_aux_lemma => kernel_rfl) (by as_aux_lemma => kernel_rfl) (by as_aux_lemma => kernel_rfl) (fun _ _ _ h => h) (by as_aux_lemma => kernel_rfl) (fun L u h => SBx.quiet (by decide) h) (Or.inl ⟨by rfl, ?_⟩) (SBx.of BJ.out) ?_
        rotate_left
        · intro u hY; go_simp; try with_reducible rfl
        try simp only [putz]
        refine Goes.take (i := 12) (o := ⟨some 28, _, _, _, _, _⟩) (v := ?_) [] rfl (by as_aux_lemma => kernel_rfl) (by as_aux_lemma => kernel_rfl) (by as_aux_lemma => kernel_rfl) (fun _ _ _ h => h) (by as_aux_lemma => kernel_rfl) (fun L u h => SBx.quiet (by decide) h) (Or.inl ⟨by rfl, ?_⟩) (SBx.of BJ.out) ?_
        rotate_left
        · intro u hY; go_simp; try with_reducible rfl
        try simp only [putz]
        refine Goes.take (i := 13) (o := ⟨some 29, _, _, _, _, _⟩) (v := ?_) [] rfl (by as_aux_lemma => kernel_rfl) (by as_aux_lemma => kernel_rfl) (by as_aux_lemma => kernel_rfl) (fun _ _ _ h => h) (by as_aux_lemma => kernel_rfl) (fun L u h => SBx.quiet (by decide) h) (Or.inl ⟨by rfl, ?_⟩) (SBx.of BJ.out) ?_
        rotate_left
        · intro u hY; go_simp; try with_reducible rfl
        try simp only [putz]
        refine Goes.take (i := 14) (o := ⟨some 30, _, _, _, _, _⟩) (v := ?_) [22] rfl (by as_aux_lemma => kernel_rfl) (by as_aux_lemma => kernel_rfl) (by as_aux_lemma => kernel_rfl) (fun _ _ _ h => h) (by as_aux_lemma => kernel_rfl) (fun L u h => SBx.quiet (by decide) h) (Or.inl ⟨by rfl, ?_⟩) (SBx.of BJ.out) ?_
        rotate_left
        · intro u hY; have hX := SBx.yet hY (by decide); have hc := hX.cell 3 rfl (m + 2) (by rw [HK.out]; omega); clear hY hX; go_simp; try with_reducible rfl
        try simp only [putz]
        refine Goes.take (i := 15) (o := ⟨some 31, _, _, _, _, _⟩) (v := ?_) [] rfl (by as_aux_lemma => kernel_rfl) (by as_aux_lemma => kernel_rfl) (by as_aux_lemma => kernel_rfl) (fun _ _ _ h => h) (by as_aux_lemma => kernel_rfl) (fun L u h => SBx.quiet (by decide) h) (Or.inl ⟨by rfl, ?_⟩) (SBx.of BJ.out) ?_
        rotate_left
        · intro u hY; go_simp; try with_reducible rfl
        try simp only [putz]
        refine Goes.take (i := 16) (o := ⟨some 32, _, _, _, _, _⟩) (v := ?_) [] rfl (by as_aux_lemma => kernel_rfl) (by as_aux_lemma => kernel_rfl) (by as_aux_lemma => kernel_rfl) (fun _ _ _ h => h) (by as_aux_lemma => kernel_rfl) (fun L u h => SBx.quiet (by decide) h) (Or.inl ⟨by rfl, ?_⟩) (SBx.of BJ.out) ?_
        rotate_left
        · intro u hY; go_simp; try with_reducible rfl
        try simp only [putz]
        refine Goes.take (i := 17) (o := ⟨some 33, _, _, _, _, _⟩) (v := ?_) [] rfl (by as_aux_lemma => kernel_rfl) (by as_aux_lemma => kernel_rfl) (by as_aux_lemma => kernel_rfl) (fun _ _ _ h => h) (by as_aux_lemma => kernel_rfl) (fun L u h => SBx.quiet (by decide) h) (Or.inl ⟨by rfl, ?_⟩) (SBx.of BJ.out) ?_
        rotate_left
        · intro u hY; go_simp; try with_reducible rfl
        try simp only [putz]
        refine Goes.take (i := 18) (o := ⟨some 34, _, _, _, _, _⟩) (v := ?_) [] rfl (by as_aux_lemma => kernel_rfl) (by as_aux_lemma => kernel_rfl) (by as_aux_lemma => kernel_rfl) (fun _ _ _ h => h) (by as_aux_lemma => kernel_rfl) (fun L u h => SBx.quiet (by decide) h) (Or.inl ⟨by rfl, ?_⟩) (SBx.of BJ.out) ?_
        rotate_left
        · intro u hY; go_simp; try with_reducible rfl
        try simp only [putz]
        refine Goes.take (i := 19) (o := ⟨some 35, _, _, _, _, _⟩) (v := ?_) [22] rfl (by as_aux_lemma => kernel_rfl) (by as_aux_lemma => kernel_rfl) (by as_aux_lemma => kernel_rfl) (fun _ _ _ h => h) (by as_aux_lemma => kernel_rfl) (fun L u h => SBx.quiet (by decide) h) (Or.inl ⟨by rfl, ?_⟩) (SBx.of BJ.out) ?_
        rotate_left
        · intro u hY; have hX := SBx.yet hY (by decide); have hc := hX.cell 3 rfl (m + 3) (by rw [HK.out]; omega); clear hY hX; go_simp; try with_reducible rfl
        try simp only [putz]
        refine Goes.take (i := 20) (o := ⟨some 36, _, _, _, _, _⟩) (v := ?_) [] rfl (by as_aux_lemma => kernel_rfl) (by as_aux_lemma => kernel_rfl) (by as_aux_lemma => kernel_rfl) (fun _ _ _ h => h) (by as_aux_lemma => kernel_rfl) (fun L u h => SBx.quiet (by decide) h) (Or.inl ⟨by rfl, ?_⟩) (SBx.of BJ.out) ?_
        rotate_left
        · intro u hY; go_simp; try with_reducible rfl
        try simp only [putz]
        refine Goes.take (i := 21) (o := ⟨some 37, _, _, _, _, _⟩) (v := ?_) [] rfl (by as_aux_lemma => kernel_rfl) (by as_aux_lemma => kernel_rfl) (by as_aux_lemma => kernel_rfl) (fun _ _ _ h => h) (by as_aux_lemma => kernel_rfl) (fun L u h => SBx.quiet (by decide) h) (Or.inl ⟨by rfl, ?_⟩) (SBx.of BJ.out) ?_
        rotate_left
        · intro u hY; go_simp; try with_reducible rfl
        try simp only [putz]
        refine Goes.one (i := 22) (o := ⟨none, _, _, _, _, _⟩) (by as_aux_lemma => kernel_rfl) rfl (fun K hK => ?_)
        have hst := st_mid (BJ.out.bt 0 rfl) 71 (i * 4) [gb key m, gb key (m + 1), gb key (m + 2), gb key (m + 3)] 4 rfl (by rw [HWL.out]; omega) a4_4
        rw [HE.out] at hst
        have BN := hid (p := Bx w [(w.heap.size + 1 + 1 + 1, 72, kwx key (i + 1)), (w.heap.size + 1 + 1, 72, List.replicate 176 0), (w.heap.size + 1, 48, SB), (w.heap.size, 22, key)] _) (BJ.out.row 0 rfl (kwx key (i + 1)))
        refine step_st (by kernel_rfl) 71 (.tmp 37) (.tmp 36) rfl _ _ rfl rfl hst ?_
        clear hst BJ
        refine hK.out _ _ (SBx.off (by decide)) ?_
        clear hK K
        try simp only [putz]
        refine Goes.done (by as_aux_lemma => kernel_rfl) ?_ _
        refine NoPanic.normal ?_
        generalize World.setRow _ _ _ = w4 at *
        clear mi mz mw mw1 mi1 mz1 mt1 mw2 mi2 mz2 mt2 mw3 mi3 mz3 mt3 i5 i6 hm12
        go_wp2
        go_roundw
        case rel => exact ⟨i + 1, HI.out, by go_num, by rw [← HY.out], BN⟩
        case measure => have := HI.out; simp [intOf]; omega
      · obtain ⟨q, rfl⟩ : ∃ q, i = q + 4 := ⟨i - 4, by omega⟩
        have HQ := hid (show q < 40 by omega)
        obtain ⟨i, hi4⟩ : ∃ i, i = q + 4 := ⟨_, rfl⟩
        obtain ⟨j, hj⟩ : ∃ j, j = q + 3 := ⟨_, rfl⟩
        have HIQ := hid hi4
        have HJQ := hid hj
        rw [← hi4] at BJ HWL HI ⊢
        have jw : IntKind.i64.wrap ((i : Int) - 1) = (j : Int) := by rw [IntKind.wrap_i64]; omega
        have qw : IntKind.i64.wrap ((i : Int) - 4) = (q : Int) := by rw [IntKind.wrap_i64]; omega
        have ji : (j : Int) < 44 := by omega
        have jz : (0 : Int) ≤ (j : Int) := by omega
        have qi : (q : Int) < 44 := by omega
        have qz : (0 : Int) ≤ (q : Int) := by omega
        have ii : (i : Int) < 44 := by omega
        have iz : (0 : Int) ≤ (i : Int) := by omega
        have n4 : ¬ (i : Int) < 4 := by omega
        have hld := ld_mid (BJ.out.bt 0 rfl) 71 _ Tryz.underlying71 rfl (j * 4) 4 (by rw [HWL.out]; omega) a4_4
        rw [show ((kwx key i).drop (j * 4)).take 4 = xw key j by rw [xw, show j + 1 = i by omega]] at hld
        have HXL := hid (xw_length key j (by omega))
        clear hi4 hj h4 hlt hi
        go_upto_region 8 with fail
        have B5 := hid (p := Bx w ((wr.heap.size, 71, List.replicate 4 0) :: [(w.heap.size + 1 + 1 + 1, 72, kwx key i), (w.heap.size + 1 + 1, 72, List.replicate 176 0), (w.heap.size + 1, 48, SB), (w.heap.size, 22, key)]) (wr.alloc (.cells (bvs (List.replicate 4 0)).toArray 71))) (BJ.out.add 71 (List.replicate 4 0))
        have hst := st_all (B5.out.bt 0 rfl) 71 (xw key j) 4 HXL.out (by simp) a4_4
        have B6 := hid (p := Bx w ((wr.heap.size, 71, xw key j) :: [(w.heap.size + 1 + 1 + 1, 72, kwx key i), (w.heap.size + 1 + 1, 72, List.replicate 176 0), (w.heap.size + 1, 48, SB), (w.heap.size, 22, key)]) ((wr.alloc (.cells (bvs (List.replicate 4 0)).toArray 71)).setRow wr.heap.size (bvs (xw key j)).toArray)) (B5.out.row 0 rfl (xw key j))
        rw [z4] at hst
        rw [z4] at B6
        clear B5 BJ
        go_upto_region 9 with (first | ((with_reducible refine isD 41 rfl ?_); refine wp_ld (by kernel_rfl) 71 (.tmp 40) rfl _ rfl _ hld ?_) | ((with_reducible refine isS 71 (.tmp 8) (.tmp 41) rfl ?_); refine wp_st (by kernel_rfl) 71 (.tmp 8) (.tmp 41) rfl _ _ rfl rfl hst ?_))
        clear hld hst
        generalize hg : wr.heap.size = gx at *
        clear hg
        generalize (wr.alloc _).setRow gx _ = w2 at *
        obtain ⟨xv, hxv⟩ : ∃ xv, xv = xw key j := ⟨_, rfl⟩
        rw [← hxv] at B6 HXL ⊢
        have HXV := hid hxv
        clear hxv
        by_cases hi0 : i % 4 = 0
        · have hi0i : (i : Int) % 4 = 0 := by omega
          go_upto_region 10 with fail
          clear hi0i
          have BJ := hid B6.out
          clear B6
          generalize hx0 : gb xv 0 = x0 at *
          generalize hx1 : gb xv 1 = x1 at *
          generalize hx2 : gb xv 2 = x2 at *
          generalize hx3 : gb xv 3 = x3 at *
          have X0 := hid hx0
          have X1 := hid hx1
          have X2 := hid hx2
          have X3 := hid hx3
          clear hx0 hx1 hx2 hx3
          have g0 := iv_ge x0
          have g1 := iv_ge x1
          have g2 := iv_ge x2
          have g3 := iv_ge x3
          have l0 := iv_lt x0
          have l1 := iv_lt x1
          have l2 := iv_lt x2
          have l3 := iv_lt x3
          have xo := xor_u8 (sbb x1) (bys i)
          refine wp_region_noPanic ?_
          refine Goes.region (SBx w [(gx, 71, xv), (w.heap.size + 1 + 1 + 1, 72, kwx key i), (w.heap.size + 1 + 1, 72, List.replicate 176 0), (w.heap.size + 1, 48, SB), (w.heap.size, 22, key)] [19]) (by as_aux_lemma => kernel_rfl) ?_
          have BJ := hid (BJ.out.drew)
          refine Goes.take (i := 0) (o := ⟨some 45, _, _, _, _, _⟩) (v := ?_) [] rfl (by as_aux_lemma => kernel_rfl) (by as_aux_lemma => kernel_rfl) (by as_aux_lemma => kernel_rfl) (fun _ _ _ h => h) (by as_aux_lemma => kernel_rfl) (fun L u h => SBx.quiet (by decide) h) (Or.inl ⟨by rfl, ?_⟩) (SBx.of BJ.out) ?_
          rotate_left
          · intro u hY; go_simp; try with_reducible rfl
          try simp only [putz]
          refine Goes.take (i := 1) (o := ⟨some 46, _, _, _, _, _⟩) (v := ?_) [19] rfl (by as_aux_lemma => kernel_rfl) (by as_aux_lemma => kernel_rfl) (by as_aux_lemma => kernel_rfl) (fun _ _ _ h => h) (by as_aux_lemma => kernel_rfl) (fun L u h => SBx.quiet (by decide) h) (Or.inl ⟨by rfl, ?_⟩) (SBx.of BJ.out) ?_
          rotate_left
          · intro u hY; have hX := SBx.yet hY (by decide); have hc := hX.cell 0 rfl 1 (by rw [HXL.out]; decide); rw [X1.out] at hc; clear hY hX; go_simp; try with_reducible rfl
          try simp only [putz]
          refine Goes.take (i := 2) (o := ⟨some 47, _, _, _, _, _⟩) (v := ?_) [] rfl (by as_aux_lemma => kernel_rfl) (by as_aux_lemma => kernel_rfl) (by as_aux_lemma => kernel_rfl) (fun _ _ _ h => h) (by as_aux_lemma => kernel_rfl) (fun L u h => SBx.quiet (by decide) h) (Or.inl ⟨by rfl, ?_⟩) (SBx.of BJ.out) ?_
          rotate_left
          · intro u hY; go_simp; try with_reducible rfl
          try simp only [putz]
          refine Goes.take (i := 3) (o := ⟨some 48, _, _, _, _, _⟩) (v := ?_) [19] rfl (by as_aux_lemma => kernel_rfl) (by as_aux_lemma => kernel_rfl) (by as_aux_lemma => kernel_rfl) (fun _ _ _ h => h) (by as_aux_lemma => kernel_rfl) (fun L u h => SBx.quiet (by decide) h) (Or.inl ⟨by rfl, ?_⟩) (SBx.of BJ.out) ?_
          rotate_left
          · intro u hY; have hX := SBx.yet hY (by decide); have hc : u.cell? ⟨w.heap.size + 1, (iv x1).toNat, none⟩ = some (bv (sbb x1)) := hX.cell 3 rfl x1.toNat (by rw [SB_len]; exact x1.toNat_lt); clear hY hX; go_simp; try with_reducible rfl
          try simp only [putz]
          refine Goes.take (i := 4) (o := ⟨some 49, _, _, _, _, _⟩) (v := ?_) [] rfl (by as_aux_lemma => kernel_rfl) (by as_aux_lemma => kernel_rfl) (by as_aux_lemma => kernel_rfl) (fun _ _ _ h => h) (by as_aux_lemma => kernel_rfl) (fun L u h => SBx.quiet (by decide) h) (Or.inl ⟨by rfl, ?_⟩) (SBx.of BJ.out) ?_
          rotate_left
          · intro u hY; go_simp; try with_reducible rfl
          try simp only [putz]
          refine Goes.take (i := 5) (o := ⟨some 50, _, _, _, _, _⟩) (v := ?_) [] rfl (by as_aux_lemma => kernel_rfl) (by as_aux_lemma => kernel_rfl) (by as_aux_lemma => kernel_rfl) (fun _ _ _ h => h) (by as_aux_lemma => kernel_rfl) (fun L u h => SBx.quiet (by decide) h) (Or.inl ⟨by rfl, ?_⟩) (SBx.of BJ.out) ?_
          rotate_left
          · intro u hY; go_simp; try with_reducible rfl
          try simp only [putz]
          refine Goes.take (i := 6) (o := ⟨some 51, _, _, _, _, _⟩) (v := ?_) [] rfl (by as_aux_lemma => kernel_rfl) (by as_aux_lemma => kernel_rfl) (by as_aux_lemma => kernel_rfl) (fun _ _ _ h => h) (by as_aux_lemma => kernel_rfl) (fun L u h => SBx.quiet (by decide) h) (Or.inl ⟨by rfl, ?_⟩) (SBx.of BJ.out) ?_
          rotate_left
          · intro u hY; go_simp; try with_reducible rfl
          try simp only [putz]
          refine Goes.take (i := 7) (o := ⟨some 52, _, _, _, _, _⟩) (v := ?_) [19] rfl (by as_aux_lemma => kernel_rfl) (by as_aux_lemma => kernel_rfl) (by as_aux_lemma => kernel_rfl) (fun _ _ _ h => h) (by as_aux_lemma => kernel_rfl) (fun L u h => SBx.quiet (by decide) h) (Or.inl ⟨by rfl, ?_⟩) (SBx.of BJ.out) ?_
          rotate_left
          · intro u hY; have hX := SBx.yet hY (by decide); have hc := hX.cell 0 rfl 2 (by rw [HXL.out]; decide); rw [X2.out] at hc; clear hY hX; go_simp; try with_reducible rfl
          try simp only [putz]
          refine Goes.take (i := 8) (o := ⟨some 53, _, _, _, _, _⟩) (v := ?_) [] rfl (by as_aux_lemma => kernel_rfl) (by as_aux_lemma => kernel_rfl) (by as_aux_lemma => kernel_rfl) (fun _ _ _ h => h) (by as_aux_lemma => kernel_rfl) (fun L u h => SBx.quiet (by decide) h) (Or.inl ⟨by rfl, ?_⟩) (SBx.of BJ.out) ?_
          rotate_left
          · intro u hY; go_simp; try with_reducible rfl
          try simp only [putz]
          refine Goes.take (i := 9) (o := ⟨some 54, _, _, _, _, _⟩) (v := ?_) [19] rfl (by as_aux_lemma => kernel_rfl) (by as_aux_lemma => kernel_rfl) (by as_aux_lemma => kernel_rfl) (fun _ _ _ h => h) (by as_aux_lemma => kernel_rfl) (fun L u h => SBx.quiet (by decide) h) (Or.inl ⟨by rfl, ?_⟩) (SBx.of BJ.out) ?_
          rotate_left
          · intro u hY; have hX := SBx.yet hY (by decide); have hc : u.cell? ⟨w.heap.size + 1, (iv x2).toNat, none⟩ = some (bv (sbb x2)) := hX.cell 3 rfl x2.toNat (by rw [SB_len]; exact x2.toNat_lt); clear hY hX; go_simp; try with_reducible rfl
          try simp only [putz]
          refine Goes.take (i := 10) (o := ⟨some 55, _, _, _, _, _⟩) (v := ?_) [] rfl (by as_aux_lemma => kernel_rfl) (by as_aux_lemma => kernel_rfl) (by as_aux_lemma => kernel_rfl) (fun _ _ _ h => h) (by as_aux_lemma => kernel_rfl) (fun L u h => SBx.quiet (by decide) h) (Or.inl ⟨by rfl, ?_⟩) (SBx.of BJ.out) ?_
          rotate_left
          · intro u hY; go_simp; try with_reducible rfl
          try simp only [putz]
          refine Goes.take (i := 11) (o := ⟨some 56, _, _, _, _, _⟩) (v := ?_) [19] rfl (by as_aux_lemma => kernel_rfl) (by as_aux_lemma => kernel_rfl) (by as_aux_lemma => kernel_rfl) (fun _ _ _ h => h) (by as_aux_lemma => kernel_rfl) (fun L u h => SBx.quiet (by decide) h) (Or.inl ⟨by rfl, ?_⟩) (SBx.of BJ.out) ?_
          rotate_left
          · intro u hY; have hX := SBx.yet hY (by decide); have hc := hX.cell 0 rfl 3 (by rw [HXL.out]; decide); rw [X3.out] at hc; clear hY hX; go_simp; try with_reducible rfl
          try simp only [putz]
          refine Goes.take (i := 12) (o := ⟨some 57, _, _, _, _, _⟩) (v := ?_) [] rfl (by as_aux_lemma => kernel_rfl) (by as_aux_lemma => kernel_rfl) (by as_aux_lemma => kernel_rfl) (fun _ _ _ h => h) (by as_aux_lemma => kernel_rfl) (fun L u h => SBx.quiet (by decide) h) (Or.inl ⟨by rfl, ?_⟩) (SBx.of BJ.out) ?_
          rotate_left
          · intro u hY; go_simp; try with_reducible rfl
          try simp only [putz]
          refine Goes.take (i := 13) (o := ⟨some 58, _, _, _, _, _⟩) (v := ?_) [19] rfl (by as_aux_lemma => kernel_rfl) (by as_aux_lemma => kernel_rfl) (by as_aux_lemma => kernel_rfl) (fun _ _ _ h => h) (by as_aux_lemma => kernel_rfl) (fun L u h => SBx.quiet (by decide) h) (Or.inl ⟨by rfl, ?_⟩) (SBx.of BJ.out) ?_
          rotate_left
          · intro u hY; have hX := SBx.yet hY (by decide); have hc : u.cell? ⟨w.heap.size + 1, (iv x3).toNat, none⟩ = some (bv (sbb x3)) := hX.cell 3 rfl x3.toNat (by rw [SB_len]; exact x3.toNat_lt); clear hY hX; go_simp; try with_reducible rfl
          try simp only [putz]
          refine Goes.take (i := 14) (o := ⟨some 59, _, _, _, _, _⟩) (v := ?_) [] rfl (by as_aux_lemma => kernel_rfl) (by as_aux_lemma => kernel_rfl) (by as_aux_lemma => kernel_rfl) (fun _ _ _ h => h) (by as_aux_lemma => kernel_rfl) (fun L u h => SBx.quiet (by decide) h) (Or.inl ⟨by rfl, ?_⟩) (SBx.of BJ.out) ?_
          rotate_left
          · intro u hY; go_simp; try with_reducible rfl
          try simp only [putz]
          refine Goes.take (i := 15) (o := ⟨some 60, _, _, _, _, _⟩) (v := ?_) [19] rfl (by as_aux_lemma => kernel_rfl) (by as_aux_lemma => kernel_rfl) (by as_aux_lemma => kernel_rfl) (fun _ _ _ h => h) (by as_aux_lemma => kernel_rfl) (fun L u h => SBx.quiet (by decide) h) (Or.inl ⟨by rfl, ?_⟩) (SBx.of BJ.out) ?_
          rotate_left
          · intro u hY; have hX := SBx.yet hY (by decide); have hc := hX.cell 0 rfl 0 (by rw [HXL.out]; decide); rw [X0.out] at hc; clear hY hX; go_simp; try with_reducible rfl
          try simp only [putz]
          refine Goes.take (i := 16) (o := ⟨some 61, _, _, _, _, _⟩) (v := ?_) [] rfl (by as_aux_lemma => kernel_rfl) (by as_aux_lemma => kernel_rfl) (by as_aux_lemma => kernel_rfl) (fun _ _ _ h => h) (by as_aux_lemma => kernel_rfl) (fun L u h => SBx.quiet (by decide) h) (Or.inl ⟨by rfl, ?_⟩) (SBx.of BJ.out) ?_
          rotate_left
          · intro u hY; go_simp; try with_reducible rfl
          try simp only [putz]
          refine Goes.take (i := 17) (o := ⟨some 62, _, _, _, _, _⟩) (v := ?_) [19] rfl (by as_aux_lemma => kernel_rfl) (by as_aux_lemma => kernel_rfl) (by as_aux_lemma => kernel_rfl) (fun _ _ _ h => h) (by as_aux_lemma => kernel_rfl) (fun L u h => SBx.quiet (by decide) h) (Or.inl ⟨by rfl, ?_⟩) (SBx.of BJ.out) ?_
          rotate_left
          · intro u hY; have hX := SBx.yet hY (by decide); have hc : u.cell? ⟨w.heap.size + 1, (iv x0).toNat, none⟩ = some (bv (sbb x0)) := hX.cell 3 rfl x0.toNat (by rw [SB_len]; exact x0.toNat_lt); clear hY hX; go_simp; try with_reducible rfl
          try simp only [putz]
          refine Goes.take (i := 18) (o := ⟨some 63, _, _, _, _, _⟩) (v := ?_) [] rfl (by as_aux_lemma => kernel_rfl) (by as_aux_lemma => kernel_rfl) (by as_aux_lemma => kernel_rfl) (fun _ _ _ h => h) (by as_aux_lemma => kernel_rfl) (fun L u h => SBx.quiet (by decide) h) (Or.inl ⟨by rfl, ?_⟩) (SBx.of BJ.out) ?_
          rotate_left
          · intro u hY; go_simp; try with_reducible rfl
          try simp only [putz]
          refine Goes.one (i := 19) (o := ⟨none, _, _, _, _, _⟩) (by as_aux_lemma => kernel_rfl) rfl (fun K hK => ?_)
          have hst := st_all (BJ.out.bt 0 rfl) 71 [sbb x1 ^^^ bys i, sbb x2, sbb x3, sbb x0] 4 rfl HXL.out a4_4
          have BN := hid (p := Bx w [(gx, 71, [sbb x1 ^^^ bys i, sbb x2, sbb x3, sbb x0]), (w.heap.size + 1 + 1 + 1, 72, kwx key i), (w.heap.size + 1 + 1, 72, List.replicate 176 0), (w.heap.size + 1, 48, SB), (w.heap.size, 22, key)] _) (BJ.out.row 0 rfl [sbb x1 ^^^ bys i, sbb x2, sbb x3, sbb x0])
          refine step_st (by kernel_rfl) 71 (.tmp 8) (.tmp 63) rfl _ _ rfl rfl hst ?_
          clear hst BJ
          refine hK.out _ _ (SBx.off (by decide)) ?_
          clear hK K
          try simp only [putz]
          refine Goes.done (by as_aux_lemma => kernel_rfl) ?_ _
          refine NoPanic.normal ?_
          generalize World.setRow _ _ _ = w4 at *
          have HT := hid (times_at (bys i) 2 (iv (bys i)) 2 rfl rfl w4)
          have HYN := hid (bys_next i (by have := HIQ.out; omega) hi0)
          rw [HYN.out] at HT
          have HXT := hid (p := [sbb x1 ^^^ bys i, sbb x2, sbb x3, sbb x0] = xt4 xv (bys i)) (by rw [xt4, X0.out, X1.out, X2.out, X3.out])
          rw [HXT.out] at BN
          have HXA := hid (p := ∀ k, k < 4 → gb (xt4 xv (bys i)) k = if (q + 4) % 4 = 0 then sbb (gb (xw key (q + 3)) ((k + 1) % 4)) ^^^ (if k = 0 then xts 1 ((q + 4) / 4 - 1) else 0) else gb (xw key (q + 3)) k) (fun k hk => by
            rw [xt4_at _ _ _ hk, HXV.out, HJQ.out, ← HIQ.out, if_pos hi0, bys_at i (by have := HIQ.out; omega) hi0])
          have HXE := hid (p := (xt4 xv (bys i)).length = 4) rfl
          generalize xt4 xv (bys i) = xe at *
          clear g0 g1 g2 g3 l0 l1 l2 l3 xo hi0 HYN HXT X0 X1 X2 X3 HXV HXL
          go_wp2_with fail
          refine HT.out.mono ?_
          rintro e w5 ⟨rfl, rfl⟩
          clear HT
          have BL := hid BN.out
          clear BN
          generalize hy : bys (i + 1) = y at *
          have HY := hid hy
          clear hy
          have BL2 := hid (p := Bx w [(gx, 71, xe), (w.heap.size + 1 + 1 + 1, 72, kwu key xe i 0), (w.heap.size + 1 + 1, 72, List.replicate 176 0), (w.heap.size + 1, 48, SB), (w.heap.size, 22, key)] _) (by rw [← kwu_zero key xe i (by have := HI.out; omega)]; exact BL.out)
          clear BL
          go_upto_region 13 with fail
          go_wp2_with fail
          go_loopw [9] (fun kk wr => ∃ k : Nat, k ≤ 4 ∧ kk = .int .i64 k ∧ Hid (Bx w [(gx, 71, xe), (w.heap.size + 1 + 1 + 1, 72, kwu key xe i k), (w.heap.size + 1 + 1, 72, List.replicate 176 0), (w.heap.size + 1, 48, SB), (w.heap.size, 22, key)] wr)) (fun kk _ => 4 - (intOf kk).toNat)
          case atStart => exact ⟨0, Nat.zero_le _, rfl, BL2⟩
          case round =>
            clear BL2
            obtain ⟨k, hk, rfl, BJ⟩ := hrel
            by_cases hk4 : k < 4
            · have HK4 := hid hk4
              have HW4 := hid (p := gb (kwu key xe i k) (q * 4 + k) = gb (kwx key i) (q * 4 + k)) (by rw [HIQ.out]; exact kwu_at key xe q k _ (by omega) (by have := HQ.out; omega))
              have BN := hid (BJ.out.drew.set 1 rfl (i * 4 + k) (gb (kwx key i) (q * 4 + k) ^^^ gb xe k))
              have HS := hid (p := (kwu key xe i k).set (i * 4 + k) (gb (kwx key i) (q * 4 + k) ^^^ gb xe k) = kwu key xe i (k + 1)) (by rw [HIQ.out]; exact kwu_set key xe q k HQ.out hk4)
              rw [HS.out] at BN
              have BN2 := hid (p := Bx w [(gx, 71, xe), (w.heap.size + 1 + 1 + 1, 72, kwu key xe i (k + 1)), (w.heap.size + 1 + 1, 72, List.replicate 176 0), (w.heap.size + 1, 48, SB), (w.heap.size, 22, key)] _) BN.out
              clear BN HS
              have hx := xor_u8 (gb (kwx key i) (q * 4 + k)) (gb xe k)
              have ki : (k : Int) < 4 := by omega
              have kz : (0 : Int) ≤ (k : Int) := by omega
              generalize gb (kwx key i) (q * 4 + k) ^^^ gb xe k = z at *
              go_upto_region 15 with fail
              refine wp_region_noPanic ?_
              refine Goes.region (SBx w [(gx, 71, xe), (w.heap.size + 1 + 1 + 1, 72, kwu key xe i k), (w.heap.size + 1 + 1, 72, List.replicate 176 0), (w.heap.size + 1, 48, SB), (w.heap.size, 22, key)] [14]) (by as_aux_lemma => kernel_rfl) ?_
              have BJ := hid (BJ.out.drew)
              refine Goes.take (i := 0) (o := ⟨some 70, _, _, _, _, _⟩) (v := ?_) [] rfl (by as_aux_lemma => kernel_rfl) (by as_aux_lemma => kernel_rfl) (by as_aux_lemma => kernel_rfl) (fun _ _ _ h => h) (by as_aux_lemma => kernel_rfl) (fun L u h => SBx.quiet (by decide) h) (Or.inl ⟨by rfl, ?_⟩) (SBx.of BJ.out) ?_
              rotate_left
              · intro u hY; go_simp; try with_reducible rfl
              try simp only [putz]
              refine Goes.take (i := 1) (o := ⟨some 71, _, _, _, _, _⟩) (v := ?_) [] rfl (by as_aux_lemma => kernel_rfl) (by as_aux_lemma => kernel_rfl) (by as_aux_lemma => kernel_rfl) (fun _ _ _ h => h) (by as_aux_lemma => kernel_rfl) (fun L u h => SBx.quiet (by decide) h) (Or.inl ⟨by rfl, ?_⟩) (SBx.of BJ.out) ?_
              rotate_left
              · intro u hY; go_simp; try with_reducible rfl
              try simp only [putz]
              refine Goes.take (i := 2) (o := ⟨some 72, _, _, _, _, _⟩) (v := ?_) [] rfl (by as_aux_lemma => kernel_rfl) (by as_aux_lemma => kernel_rfl) (by as_aux_lemma => kernel_rfl) (fun _ _ _ h => h) (by as_aux_lemma => kernel_rfl) (fun L u h => SBx.quiet (by decide) h) (Or.inl ⟨by rfl, ?_⟩) (SBx.of BJ.out) ?_
              rotate_left
              · intro u hY; go_simp; try with_reducible rfl
              try simp only [putz]
              refine Goes.take (i := 3) (o := ⟨some 73, _, _, _, _, _⟩) (v := ?_) [] rfl (by as_aux_lemma => kernel_rfl) (by as_aux_lemma => kernel_rfl) (by as_aux_lemma => kernel_rfl) (fun _ _ _ h => h) (by as_aux_lemma => kernel_rfl) (fun L u h => SBx.quiet (by decide) h) (Or.inl ⟨by rfl, ?_⟩) (SBx.of BJ.out) ?_
              rotate_left
              · intro u hY; go_simp; try with_reducible rfl
              try simp only [putz]
              refine Goes.take (i := 4) (o := ⟨some 74, _, _, _, _, _⟩) (v := ?_) [] rfl (by as_aux_lemma => kernel_rfl) (by as_aux_lemma => kernel_rfl) (by as_aux_lemma => kernel_rfl) (fun _ _ _ h => h) (by as_aux_lemma => kernel_rfl) (fun L u h => SBx.quiet (by decide) h) (Or.inl ⟨by rfl, ?_⟩) (SBx.of BJ.out) ?_
              rotate_left
              · intro u hY; go_simp; try with_reducible rfl
              try simp only [putz]
              refine Goes.take (i := 5) (o := ⟨some 75, _, _, _, _, _⟩) (v := ?_) [] rfl (by as_aux_lemma => kernel_rfl) (by as_aux_lemma => kernel_rfl) (by as_aux_lemma => kernel_rfl) (fun _ _ _ h => h) (by as_aux_lemma => kernel_rfl) (fun L u h => SBx.quiet (by decide) h) (Or.inl ⟨by rfl, ?_⟩) (SBx.of BJ.out) ?_
              rotate_left
              · intro u hY; go_simp; try with_reducible rfl
              try simp only [putz]
              refine Goes.take (i := 6) (o := ⟨some 76, _, _, _, _, _⟩) (v := ?_) [] rfl (by as_aux_lemma => kernel_rfl) (by as_aux_lemma => kernel_rfl) (by as_aux_lemma => kernel_rfl) (fun _ _ _ h => h) (by as_aux_lemma => kernel_rfl) (fun L u h => SBx.quiet (by decide) h) (Or.inl ⟨by rfl, ?_⟩) (SBx.of BJ.out) ?_
              rotate_left
              · intro u hY; go_simp; try with_reducible rfl
              try simp only [putz]
              refine Goes.take (i := 7) (o := ⟨some 77, _, _, _, _, _⟩) (v := ?_) [14] rfl (by as_aux_lemma => kernel_rfl) (by as_aux_lemma => kernel_rfl) (by as_aux_lemma => kernel_rfl) (fun _ _ _ h => h) (by as_aux_lemma => kernel_rfl) (fun L u h => SBx.quiet (by decide) h) (Or.inl ⟨by rfl, ?_⟩) (SBx.of BJ.out) ?_
              rotate_left
              · intro u hY; have hX := SBx.yet hY (by decide); have hc := hX.cell 1 rfl (q * 4 + k) (by rw [kwu_length]; have := HQ.out; have := HK4.out; omega); rw [HW4.out] at hc; clear hY hX; go_simp; try with_reducible rfl
              try simp only [putz]
              refine Goes.take (i := 8) (o := ⟨some 78, _, _, _, _, _⟩) (v := ?_) [] rfl (by as_aux_lemma => kernel_rfl) (by as_aux_lemma => kernel_rfl) (by as_aux_lemma => kernel_rfl) (fun _ _ _ h => h) (by as_aux_lemma => kernel_rfl) (fun L u h => SBx.quiet (by decide) h) (Or.inl ⟨by rfl, ?_⟩) (SBx.of BJ.out) ?_
              rotate_left
              · intro u hY; go_simp; try with_reducible rfl
              try simp only [putz]
              refine Goes.take (i := 9) (o := ⟨some 79, _, _, _, _, _⟩) (v := ?_) [] rfl (by as_aux_lemma => kernel_rfl) (by as_aux_lemma => kernel_rfl) (by as_aux_lemma => kernel_rfl) (fun _ _ _ h => h) (by as_aux_lemma => kernel_rfl) (fun L u h => SBx.quiet (by decide) h) (Or.inl ⟨by rfl, ?_⟩) (SBx.of BJ.out) ?_
              rotate_left
              · intro u hY; go_simp; try with_reducible rfl
              try simp only [putz]
              refine Goes.take (i := 10) (o := ⟨some 80, _, _, _, _, _⟩) (v := ?_) [14] rfl (by as_aux_lemma => kernel_rfl) (by as_aux_lemma => kernel_rfl) (by as_aux_lemma => kernel_rfl) (fun _ _ _ h => h) (by as_aux_lemma => kernel_rfl) (fun L u h => SBx.quiet (by decide) h) (Or.inl ⟨by rfl, ?_⟩) (SBx.of BJ.out) ?_
              rotate_left
              · intro u hY; have hX := SBx.yet hY (by decide); have hc := hX.cell 0 rfl k (by rw [HXE.out]; exact HK4.out); clear hY hX; go_simp; try with_reducible rfl
              try simp only [putz]
              refine Goes.take (i := 11) (o := ⟨some 81, _, _, _, _, _⟩) (v := ?_) [] rfl (by as_aux_lemma => kernel_rfl) (by as_aux_lemma => kernel_rfl) (by as_aux_lemma => kernel_rfl) (fun _ _ _ h => h) (by as_aux_lemma => kernel_rfl) (fun L u h => SBx.quiet (by decide) h) (Or.inl ⟨by rfl, ?_⟩) (SBx.of BJ.out) ?_
              rotate_left
              · intro u hY; go_simp; try with_reducible rfl
              try simp only [putz]
              refine Goes.take (i := 12) (o := ⟨some 82, _, _, _, _, _⟩) (v := ?_) [] rfl (by as_aux_lemma => kernel_rfl) (by as_aux_lemma => kernel_rfl) (by as_aux_lemma => kernel_rfl) (fun _ _ _ h => h) (by as_aux_lemma => kernel_rfl) (fun L u h => SBx.quiet (by decide) h) (Or.inl ⟨by rfl, ?_⟩) (SBx.of BJ.out) ?_
              rotate_left
              · intro u hY; go_simp; try with_reducible rfl
              try simp only [putz]
              refine Goes.take (i := 13) (o := ⟨some 83, _, _, _, _, _⟩) (v := ?_) [] rfl (by as_aux_lemma => kernel_rfl) (by as_aux_lemma => kernel_rfl) (by as_aux_lemma => kernel_rfl) (fun _ _ _ h => h) (by as_aux_lemma => kernel_rfl) (fun L u h => SBx.quiet (by decide) h) (Or.inl ⟨by rfl, ?_⟩) (SBx.of BJ.out) ?_
              rotate_left
              · intro u hY; go_simp; try with_reducible rfl
              try simp only [putz]
              refine Goes.one (i := 14) (o := ⟨none, _, _, _, _, _⟩) (by as_aux_lemma => kernel_rfl) rfl (fun K hK => ?_)
              have hc0 := BJ.out.cell 1 rfl (i * 4 + k) (by rw [kwu_length]; have := HI.out; have := HK4.out; omega)
              have hf := BJ.out.frozen 1 rfl (i * 4 + k)
              go_simp
              go_wp2_with fail
              refine hK.out _ _ (SBx.off (by decide)) ?_
              clear hK K
              try simp only [putz]
              refine Goes.done (by as_aux_lemma => kernel_rfl) ?_ _
              refine NoPanic.normal ?_
              clear hx ki kz
              go_wp2
              go_roundw
              case rel => exact ⟨k + 1, HK4.out, by go_num, BN2⟩
              case measure => have := HK4.out; simp [intOf]; omega
            · obtain rfl : k = 4 := by omega
              have HA := hid (p := kwu key xe i 4 = kwx key (i + 1)) (by rw [HIQ.out]; exact kwu_all key xe q HQ.out HXA.out)
              rw [HA.out] at BJ
              have BT := hid (p := Bx w [(w.heap.size + 1 + 1 + 1, 72, kwx key (i + 1)), (w.heap.size + 1 + 1, 72, List.replicate 176 0), (w.heap.size + 1, 48, SB), (w.heap.size, 22, key)] wr) BJ.out.tail
              clear BJ HA
              go_wp2
              go_roundw
              case rel => exact ⟨i + 1, HI.out, by go_num, by rw [HY.out], BT⟩
              case measure => have := HI.out; simp [intOf]; omega
        · have hi0i : ¬ (i : Int) % 4 = 0 := by omega
          have HY := hid (bys_on i hi0)
          have HXA := hid (p := ∀ k, k < 4 → gb xv k = if (q + 4) % 4 = 0 then sbb (gb (xw key (q + 3)) ((k + 1) % 4)) ^^^ (if k = 0 then xts 1 ((q + 4) / 4 - 1) else 0) else gb (xw key (q + 3)) k) (fun k hk => by
            rw [HXV.out, HJQ.out, if_neg (by rw [← HIQ.out]; exact hi0)])
          have HXE := hid HXL.out
          clear HXV HXL
          generalize xv = xe at *
          obtain ⟨r, hr⟩ : ∃ r, r = i % 4 := ⟨_, rfl⟩
          have hri : (i : Int) % 4 = (r : Int) := by omega
          have hrt : Int.tmod (i : Int) 4 = (r : Int) := by rw [Int.tmod_eq_emod_of_nonneg (by omega)]; exact hri
          have hrn : ((r : Int) == 0) = false := by rw [beq_eq_false_iff_ne]; omega
          have hrd : decide ((r : Int) = 0) = false := decide_eq_false (by omega)
          have hrz : ¬ (r : Int) = 0 := by omega
          clear hi0 hi0i hr
          go_upto_region 12 with fail
          clear hri hrt hrn hrd hrz
          have BL := hid B6.out
          clear B6
          rw [HY.out]
          generalize hy : bys (i + 1) = y at *
          clear HY
          have HY := hid hy
          clear hy
          have BL2 := hid (p := Bx w [(gx, 71, xe), (w.heap.size + 1 + 1 + 1, 72, kwu key xe i 0), (w.heap.size + 1 + 1, 72, List.replicate 176 0), (w.heap.size + 1, 48, SB), (w.heap.size, 22, key)] _) (by rw [← kwu_zero key xe i (by have := HI.out; omega)]; exact BL.out)
          clear BL
          go_upto_region 13 with fail
          go_wp2_with fail
          go_loopw [9] (fun kk wr => ∃ k : Nat, k ≤ 4 ∧ kk = .int .i64 k ∧ Hid (Bx w [(gx, 71, xe), (w.heap.size + 1 + 1 + 1, 72, kwu key xe i k), (w.heap.size + 1 + 1, 72, List.replicate 176 0), (w.heap.size + 1, 48, SB), (w.heap.size, 22, key)] wr)) (fun kk _ => 4 - (intOf kk).toNat)
          case atStart => exact ⟨0, Nat.zero_le _, rfl, BL2⟩
          case round =>
            clear BL2
            obtain ⟨k, hk, rfl, BJ⟩ := hrel
            by_cases hk4 : k < 4
            · have HK4 := hid hk4
              have HW4 := hid (p := gb (kwu key xe i k) (q * 4 + k) = gb (kwx key i) (q * 4 + k)) (by rw [HIQ.out]; exact kwu_at key xe q k _ (by omega) (by have := HQ.out; omega))
              have BN := hid (BJ.out.drew.set 1 rfl (i * 4 + k) (gb (kwx key i) (q * 4 + k) ^^^ gb xe k))
              have HS := hid (p := (kwu key xe i k).set (i * 4 + k) (gb (kwx key i) (q * 4 + k) ^^^ gb xe k) = kwu key xe i (k + 1)) (by rw [HIQ.out]; exact kwu_set key xe q k HQ.out hk4)
              rw [HS.out] at BN
              have BN2 := hid (p := Bx w [(gx, 71, xe), (w.heap.size + 1 + 1 + 1, 72, kwu key xe i (k + 1)), (w.heap.size + 1 + 1, 72, List.replicate 176 0), (w.heap.size + 1, 48, SB), (w.heap.size, 22, key)] _) BN.out
              clear BN HS
              have hx := xor_u8 (gb (kwx key i) (q * 4 + k)) (gb xe k)
              have ki : (k : Int) < 4 := by omega
              have kz : (0 : Int) ≤ (k : Int) := by omega
              generalize gb (kwx key i) (q * 4 + k) ^^^ gb xe k = z at *
              go_upto_region 15 with fail
              refine wp_region_noPanic ?_
              refine Goes.region (SBx w [(gx, 71, xe), (w.heap.size + 1 + 1 + 1, 72, kwu key xe i k), (w.heap.size + 1 + 1, 72, List.replicate 176 0), (w.heap.size + 1, 48, SB), (w.heap.size, 22, key)] [14]) (by as_aux_lemma => kernel_rfl) ?_
              have BJ := hid (BJ.out.drew)
              refine Goes.take (i := 0) (o := ⟨some 70, _, _, _, _, _⟩) (v := ?_) [] rfl (by as_aux_lemma => kernel_rfl) (by as_aux_lemma => kernel_rfl) (by as_aux_lemma => kernel_rfl) (fun _ _ _ h => h) (by as_aux_lemma => kernel_rfl) (fun L u h => SBx.quiet (by decide) h) (Or.inl ⟨by rfl, ?_⟩) (SBx.of BJ.out) ?_
              rotate_left
              · intro u hY; go_simp; try with_reducible rfl
              try simp only [putz]
              refine Goes.take (i := 1) (o := ⟨some 71, _, _, _, _, _⟩) (v := ?_) [] rfl (by as_aux_lemma => kernel_rfl) (by as_aux_lemma => kernel_rfl) (by as_aux_lemma => kernel_rfl) (fun _ _ _ h => h) (by as_aux_lemma => kernel_rfl) (fun L u h => SBx.quiet (by decide) h) (Or.inl ⟨by rfl, ?_⟩) (SBx.of BJ.out) ?_
              rotate_left
              · intro u hY; go_simp; try with_reducible rfl
              try simp only [putz]
              refine Goes.take (i := 2) (o := ⟨some 72, _, _, _, _, _⟩) (v := ?_) [] rfl (by as_aux_lemma => kernel_rfl) (by as_aux_lemma => kernel_rfl) (by as_aux_lemma => kernel_rfl) (fun _ _ _ h => h) (by as_aux_lemma => kernel_rfl) (fun L u h => SBx.quiet (by decide) h) (Or.inl ⟨by rfl, ?_⟩) (SBx.of BJ.out) ?_
              rotate_left
              · intro u hY; go_simp; try with_reducible rfl
              try simp only [putz]
              refine Goes.take (i := 3) (o := ⟨some 73, _, _, _, _, _⟩) (v := ?_) [] rfl (by as_aux_lemma => kernel_rfl) (by as_aux_lemma => kernel_rfl) (by as_aux_lemma => kernel_rfl) (fun _ _ _ h => h) (by as_aux_lemma => kernel_rfl) (fun L u h => SBx.quiet (by decide) h) (Or.inl ⟨by rfl, ?_⟩) (SBx.of BJ.out) ?_
              rotate_left
              · intro u hY; go_simp; try with_reducible rfl
              try simp only [putz]
              refine Goes.take (i := 4) (o := ⟨some 74, _, _, _, _, _⟩) (v := ?_) [] rfl (by as_aux_lemma => kernel_rfl) (by as_aux_lemma => kernel_rfl) (by as_aux_lemma => kernel_rfl) (fun _ _ _ h => h) (by as_aux_lemma => kernel_rfl) (fun L u h => SBx.quiet (by decide) h) (Or.inl ⟨by rfl, ?_⟩) (SBx.of BJ.out) ?_
              rotate_left
              · intro u hY; go_simp; try with_reducible rfl
              try simp only [putz]
              refine Goes.take (i := 5) (o := ⟨some 75, _, _, _, _, _⟩) (v := ?_) [] rfl (by as_aux_lemma => kernel_rfl) (by as_aux_lemma => kernel_rfl) (by as_aux_lemma => kernel_rfl) (fun _ _ _ h => h) (by as_aux_lemma => kernel_rfl) (fun L u h => SBx.quiet (by decide) h) (Or.inl ⟨by rfl, ?_⟩) (SBx.of BJ.out) ?_
              rotate_left
              · intro u hY; go_simp; try with_reducible rfl
              try simp only [putz]
              refine Goes.take (i := 6) (o := ⟨some 76, _, _, _, _, _⟩) (v := ?_) [] rfl (by as_aux_lemma => kernel_rfl) (by as_aux_lemma => kernel_rfl) (by as_aux_lemma => kernel_rfl) (fun _ _ _ h => h) (by as_aux_lemma => kernel_rfl) (fun L u h => SBx.quiet (by decide) h) (Or.inl ⟨by rfl, ?_⟩) (SBx.of BJ.out) ?_
              rotate_left
              · intro u hY; go_simp; try with_reducible rfl
              try simp only [putz]
              refine Goes.take (i := 7) (o := ⟨some 77, _, _, _, _, _⟩) (v := ?_) [14] rfl (by as_aux_lemma => kernel_rfl) (by as_aux_lemma => kernel_rfl) (by as_aux_lemma => kernel_rfl) (fun _ _ _ h => h) (by as_aux_lemma => kernel_rfl) (fun L u h => SBx.quiet (by decide) h) (Or.inl ⟨by rfl, ?_⟩) (SBx.of BJ.out) ?_
              rotate_left
              · intro u hY; have hX := SBx.yet hY (by decide); have hc := hX.cell 1 rfl (q * 4 + k) (by rw [kwu_length]; have := HQ.out; have := HK4.out; omega); rw [HW4.out] at hc; clear hY hX; go_simp; try with_reducible rfl
              try simp only [putz]
              refine Goes.take (i := 8) (o := ⟨some 78, _, _, _, _, _⟩) (v := ?_) [] rfl (by as_aux_lemma => kernel_rfl) (by as_aux_lemma => kernel_rfl) (by as_aux_lemma => kernel_rfl) (fun _ _ _ h => h) (by as_aux_lemma => kernel_rfl) (fun L u h => SBx.quiet (by decide) h) (Or.inl ⟨by rfl, ?_⟩) (SBx.of BJ.out) ?_
              rotate_left
              · intro u hY; go_simp; try with_reducible rfl
              try simp only [putz]
              refine Goes.take (i := 9) (o := ⟨some 79, _, _, _, _, _⟩) (v := ?_) [] rfl (by as_aux_lemma => kernel_rfl) (by as_aux_lemma => kernel_rfl) (by as_aux_lemma => kernel_rfl) (fun _ _ _ h => h) (by as_aux_lemma => kernel_rfl) (fun L u h => SBx.quiet (by decide) h) (Or.inl ⟨by rfl, ?_⟩) (SBx.of BJ.out) ?_
              rotate_left
              · intro u hY; go_simp; try with_reducible rfl
              try simp only [putz]
              refine Goes.take (i := 10) (o := ⟨some 80, _, _, _, _, _⟩) (v := ?_) [14] rfl (by as_aux_lemma => kernel_rfl) (by as_aux_lemma => kernel_rfl) (by as_aux_lemma => kernel_rfl) (fun _ _ _ h => h) (by as_aux_lemma => kernel_rfl) (fun L u h => SBx.quiet (by decide) h) (Or.inl ⟨by rfl, ?_⟩) (SBx.of BJ.out) ?_
              rotate_left
              · intro u hY; have hX := SBx.yet hY (by decide); have hc := hX.cell 0 rfl k (by rw [HXE.out]; exact HK4.out); clear hY hX; go_simp; try with_reducible rfl
              try simp only [putz]
              refine Goes.take (i := 11) (o := ⟨some 81, _, _, _, _, _⟩) (v := ?_) [] rfl (by as_aux_lemma => kernel_rfl) (by as_aux_lemma => kernel_rfl) (by as_aux_lemma => kernel_rfl) (fun _ _ _ h => h) (by as_aux_lemma => kernel_rfl) (fun L u h => SBx.quiet (by decide) h) (Or.inl ⟨by rfl, ?_⟩) (SBx.of BJ.out) ?_
              rotate_left
              · intro u hY; go_simp; try with_reducible rfl
              try simp only [putz]
              refine Goes.take (i := 12) (o := ⟨some 82, _, _, _, _, _⟩) (v := ?_) [] rfl (by as_aux_lemma => kernel_rfl) (by as_aux_lemma => kernel_rfl) (by as_aux_lemma => kernel_rfl) (fun _ _ _ h => h) (by as_aux_lemma => kernel_rfl) (fun L u h => SBx.quiet (by decide) h) (Or.inl ⟨by rfl, ?_⟩) (SBx.of BJ.out) ?_
              rotate_left
              · intro u hY; go_simp; try with_reducible rfl
              try simp only [putz]
              refine Goes.take (i := 13) (o := ⟨some 83, _, _, _, _, _⟩) (v := ?_) [] rfl (by as_aux_lemma => kernel_rfl) (by as_aux_lemma => kernel_rfl) (by as_aux_lemma => kernel_rfl) (fun _ _ _ h => h) (by as_aux_lemma => kernel_rfl) (fun L u h => SBx.quiet (by decide) h) (Or.inl ⟨by rfl, ?_⟩) (SBx.of BJ.out) ?_
              rotate_left
              · intro u hY; go_simp; try with_reducible rfl
              try simp only [putz]
              refine Goes.one (i := 14) (o := ⟨none, _, _, _, _, _⟩) (by as_aux_lemma => kernel_rfl) rfl (fun K hK => ?_)
              have hc0 := BJ.out.cell 1 rfl (i * 4 + k) (by rw [kwu_length]; have := HI.out; have := HK4.out; omega)
              have hf := BJ.out.frozen 1 rfl (i * 4 + k)
              go_simp
              go_wp2_with fail
              refine hK.out _ _ (SBx.off (by decide)) ?_
              clear hK K
              try simp only [putz]
              refine Goes.done (by as_aux_lemma => kernel_rfl) ?_ _
              refine NoPanic.normal ?_
              clear hx ki kz
              go_wp2
              go_roundw
              case rel => exact ⟨k + 1, HK4.out, by go_num, BN2⟩
              case measure => have := HK4.out; simp [intOf]; omega
            · obtain rfl : k = 4 := by omega
              have HA := hid (p := kwu key xe i 4 = kwx key (i + 1)) (by rw [HIQ.out]; exact kwu_all key xe q HQ.out HXA.out)
              rw [HA.out] at BJ
              have BT := hid (p := Bx w [(w.heap.size + 1 + 1 + 1, 72, kwx key (i + 1)), (w.heap.size + 1 + 1, 72, List.replicate 176 0), (w.heap.size + 1, 48, SB), (w.heap.size, 22, key)] wr) BJ.out.tail
              clear BJ HA
              go_wp2
              go_roundw
              case rel => exact ⟨i + 1, HI.out, by go_num, by rw [HY.out], BT⟩
              case measure => have := HI.out; simp [intOf]; omega
    · obtain rfl : i = 44 := by omega
      rw [kwx_all] at BJ
      have hl2 := ld_all (l := kwords key 44) (BJ.out.bt 0 rfl) 72 _ Tryz.underlying72 rfl 176 (kwords_length key 44) wr176
      have hs2 := st_all (BJ.out.bt 1 rfl) 72 (kwords key 44) 176 (kwords_length key 44) (by simp) wr176
      have hrow := BJ.out.row 1 rfl (kwords key 44)
      have HZ2 := hid (hrow.bt 1 rfl)
      have HB2 := hid hrow.below
      clear hrow
      unfold Bt at HZ2
      generalize hz : (bvs (kwords key 44)).toArray = z at *
      have HZ := hid hz
      have HI := hid (p := (Tryz.prog.info? 72).map (·.size) = some z.size) (by rw [← hz, bsz, (show (kwords key 44).length = 176 from kwords_length key 44)]; exact wr176)
      clear hz
      go_wp2_with (first | ((with_reducible refine isD 84 rfl ?_); refine wp_ld (by kernel_rfl) 72 (.tmp 5) rfl _ rfl _ hl2 ?_) | ((with_reducible refine isS 72 (.tmp 4) (.tmp 84) rfl ?_); refine wp_st (by kernel_rfl) 72 (.tmp 4) (.tmp 84) rfl _ _ rfl rfl hs2 ?_))
      exact bodyPost_ret (v := .agg z) (results_cell_row (p := 4) (ty := 72) Tryz.results76 _ _ _ 72 z (0, 0) _ rfl HZ2.out Tryz.underlying72 rfl HI.out) rfl ⟨by rw [HZ.out], HB2.out⟩
end Go.Proofs.YtbccnkjfjlmflaaGreatDoor

/-
  burrowlaw05.ShasNumber, walked: it answers true. Conditions: the library's table K lies there; m below 2^256, fewer than 65536 times.
-/
import Derived.Test.YtikmhnlhaolbfaaDoorPkL
import Derived.Test.YtikmhnlhaolbfaaDoorPkD
import Derived.Test.YtikmhnlhaolbfaaDoorPkJ
import Derived.Test.YtikmhnlhaolbfaaDoorPkH
namespace Go.Proofs.YtikmhnlhaolbfaaDoor
open Go.RowKit
set_option linter.unusedVariables false
set_option linter.unusedSimpArgs false

theorem number_of (s : List UInt8) (n : Nat) (xs : Nat → List UInt8) (m t : Nat) : nof s n xs (m * t) % m = nof s n xs m := by
  unfold nof wid
  exact Nat.mod_mul_right_mod _ _ _
theorem nu_less (a b : Nat) (h : a < b) : cmpN a b = -1 := by unfold cmpN; rw [if_pos h]
theorem nof_below (s : List UInt8) (n : Nat) (xs : Nat → List UInt8) (m : Nat) (h : m ≠ 0) : nof s n xs m < m := by
  unfold nof wid
  exact Nat.mod_lt _ (Nat.pos_of_ne_zero h)
theorem nof_lt2 (s : List UInt8) (n : Nat) (xs : Nat → List UInt8) (m : Nat) (hm : m < 2 ^ 256) (h : m ≠ 0) : nof s n xs m < 2 ^ 256 := Nat.lt_trans (nof_below s n xs m h) hm
/-- the box of a number and how many times -/
def Tms (g5 m k : Nat) (u : World) : Prop := u.cell? ⟨g5, 0, none⟩ = some (.int .u64 (wd m 0 : Int)) ∧ u.cell? ⟨g5, 1, none⟩ = some (.int .u64 (wd m 1 : Int)) ∧ u.cell? ⟨g5, 2, none⟩ = some (.int .u64 (wd m 2 : Int)) ∧ u.cell? ⟨g5, 3, none⟩ = some (.int .u64 (wd m 3 : Int)) ∧ u.cell? ⟨g5, 4, none⟩ = some (.int .u16 (k : Int))
theorem tms_new (w : World) (m k : Nat) : Tms w.heap.size m k (w.alloc (.cells #[.int .u64 (wd m 0 : Int), .int .u64 (wd m 1 : Int), .int .u64 (wd m 2 : Int), .int .u64 (wd m 3 : Int), .int .u16 (k : Int)] 76)) := by
  have h := fun j => cell_of_row _ w.heap.size j _ 76 (0, 0) (heap_alloc_new w (.cells #[.int .u64 (wd m 0 : Int), .int .u64 (wd m 1 : Int), .int .u64 (wd m 2 : Int), .int .u64 (wd m 3 : Int), .int .u16 (k : Int)] 76))
  exact ⟨h 0, h 1, h 2, h 3, h 4⟩
theorem on_tms {w : World} {g5 m k : Nat} (h : Tms g5 m k w) : On w (Tms g5 m k) := by
  intro u hu
  obtain ⟨h0, h1, h2, h3, h4⟩ := h
  have hl := World.block_lt_of_cell? _ _ h0
  exact ⟨(on_cell hl h0) _ hu, (on_cell hl h1) _ hu, (on_cell hl h2) _ hu, (on_cell hl h3) _ hu, (on_cell hl h4) _ hu⟩
theorem On.at {w w2 : World} {P : World → Prop} (h : On w P) (hb : Below w.heap.size w w2) : P w2 := h _ hb
set_option maxRecDepth 100000 in
set_option maxHeartbeats 8000000 in
theorem number_law (st : ByteArray) (a0 : Option Addr) (n0 c0 : Nat) (A : Nat → Option Addr) (L C : Nat → Nat) (xs : Nat → List UInt8) (m k : Nat) (w : World) (hm : m < 2 ^ 256) (hk : k < 65536) (hR : Rws w a0 n0 A L C xs) (hK : Kt w) (hc : n0 ≤ c0) (h0 : a0 = none → c0 = 0) :
    Calls Tryd.prog 13 #[.string st, .slice a0 n0 c0, .agg #[.int .u64 (wd m 0 : Int), .int .u64 (wd m 1 : Int), .int .u64 (wd m 2 : Int), .int .u64 (wd m 3 : Int), .int .u16 (k : Int)]] w fun e w' => e = .returned (.bool true) ∧ Below w.heap.size w w' := by
  have HR := hid hR
  have HK := hid hK
  have HC := hid hc
  have H0A := hid h0
  have HM := hid hm
  have HKK := hid hk
  clear hR hK hc h0 hm
  obtain ⟨s, hs1⟩ : ∃ z, nof st.data.toList n0 xs m = z := ⟨_, rfl⟩
  have HS1 := hid hs1
  have HSL := hid (show m ≠ 0 → s < m from fun h => hs1 ▸ nof_below _ _ _ m h)
  obtain ⟨lo, elo⟩ : ∃ z, m * (1 + k) % 2 ^ 256 = z := ⟨_, rfl⟩
  obtain ⟨hi, ehi⟩ : ∃ z, m * (1 + k) / 2 ^ 256 = z := ⟨_, rfl⟩
  have HELO := hid elo
  have HEHI := hid ehi
  have HLO := hid (show lo < 2 ^ 256 by rw [← elo]; exact Nat.mod_lt _ (Nat.two_pow_pos 256))
  have HHI := hid (show hi < 2 ^ 256 by rw [← ehi]; exact Nat.div_lt_of_lt_mul (Nat.lt_of_lt_of_le (Nat.mul_lt_mul_of_lt_of_le HM.out (show 1 + k ≤ 65536 by omega) (by omega)) (Nat.mul_le_mul_left _ (by decide))))
  have HEQ := hid (show hi = 0 → lo = m * (1 + k) from fun h => by rw [← elo]; exact Nat.mod_eq_of_lt (by rw [h] at ehi; exact (Nat.div_eq_zero_iff.1 ehi).resolve_left (by decide)))
  obtain ⟨s2, hs2⟩ : ∃ z, nof st.data.toList n0 xs lo = z := ⟨_, rfl⟩
  have HS2 := hid hs2
  have HMOD := hid (show hi = 0 → s2 % m = s from fun h => by rw [← hs2, HEQ.out h, number_of, hs1])
  have HLZ := hid (show hi = 0 → m ≠ 0 → lo ≠ 0 from fun h hm => by rw [HEQ.out h]; exact Nat.mul_ne_zero hm (by omega))
  obtain ⟨q, hq⟩ : ∃ z, s2 / m = z := ⟨_, rfl⟩
  have HQ := hid hq
  clear hs1 elo ehi hs2 hq
  have HW0 := hid ((Below.refl w.heap.size w).alloc (Nat.le_refl _) (.cells #[.int .u64 (wd m 0 : Int), .int .u64 (wd m 1 : Int), .int .u64 (wd m 2 : Int), .int .u64 (wd m 3 : Int), .int .u16 (k : Int)] 76))
  have HT0 := hid (tms_new w m k)
  go_enter Tryd.func13, Tryd.ntmps13
  go_wp2_with fail
  generalize w.alloc (.cells #[.int .u64 (wd m 0 : Int), .int .u64 (wd m 1 : Int), .int .u64 (wd m 2 : Int), .int .u64 (wd m 3 : Int), .int .u16 (k : Int)] 76) = w0 at *
  generalize hg5 : w.heap.size = g5 at *
  have HR0 := hid ((on_rws HR.out).at (hg5 ▸ HW0.out))
  have HK0 := hid ((on_kt HK.out).at (hg5 ▸ HW0.out))
  have HT := hid (on_tms HT0.out)
  have H0 := hid (Env.refl w0)
  clear HR HK HT0
  have HWB := hid (show Below w.heap.size w w0 from hg5 ▸ HW0.out)
  clear HW0
  refine (env_of (fixed_any w0 HK0.out) H0.out).mono ?_
  rintro e w1 ⟨rfl, h⟩
  have H1 := hid h
  clear h H0
  go_wp2_with fail
  refine (great_any st a0 n0 c0 A L C xs _ ((on_rws HR0.out).at H1.out.1)).mono ?_
  rintro e w2 ⟨g, rfl, hg, rfl⟩
  cases g with
  | true =>
    go_wp2_with fail
    refine (env_of (fixed_any _ ((on_kt HK0.out).at H1.out.1)) H1.out).mono ?_
    rintro e w3 ⟨rfl, h3⟩
    go_wp2
    go_ret
    exact ⟨rfl, HWB.out.trans (h3.1.mono HWB.out.size)⟩
  | false =>
    obtain ⟨hs, hn, hL⟩ := hg rfl
    have HS := hid (show st.size ≤ 1000000 by omega)
    have HN := hid (show n0 + 1 ≤ 1000 by omega)
    have HL := hid hL
    clear hg hs hn hL
    obtain ⟨t0, t1, t2, t3, t4⟩ := HT.out.at H1.out.1
    by_cases hz : m = 0
    · have q0 : ∀ W : World, (Op.equalIn 10000 24 (num m) (.agg #[.int .u64 0, .int .u64 0, .int .u64 0, .int .u64 0])).run Tryd.prog W = .ok true W := fun W => by rw [hz]; exact eq_none_yes W
      clear hz
      go_wp2_with fail
      refine (env_of (fixed_any _ ((on_kt HK0.out).at H1.out.1)) H1.out).mono ?_
      rintro e w3 ⟨rfl, h3⟩
      go_wp2
      go_ret
      exact ⟨rfl, HWB.out.trans (h3.1.mono HWB.out.size)⟩
    have q0 := eq_none m HM.out hz
    have HM0 := hid hz
    clear hz
    go_upto_region 3 with fail
    go_wp2_with fail
    clear t0 t1 t2 t3 t4
    refine (env_of (number_any st a0 n0 c0 A L C xs m s 0 _ HM.out ((on_rws HR0.out).at H1.out.1) ((on_kt HK0.out).at H1.out.1) HN.out HL.out HS.out HC.out H0A.out (by rw [if_neg HM0.out]; exact HS1.out) (by rw [if_neg HM0.out])) H1.out).mono ?_
    rintro e w2 ⟨rfl, h⟩
    have H2 := hid h
    clear h H1
    go_upto_region 4 with fail
    have H2b := hid (H2.out.new s)
    clear H2
    generalize w2.alloc (.cells (cls s) 24) = w2b at *
    generalize w2.heap.size = g7 at *
    have hw1 : IntKind.u64.wrap (k : Int) = (k : Int) := by rw [IntKind.wrap_u64]; omega
    have hw2 : IntKind.u64.wrap (1 + (k : Int)) = 1 + (k : Int) := by rw [IntKind.wrap_u64]; omega
    have HT4 : Hid (∀ {W : World}, Below w0.heap.size w0 W → ((W.cell? ⟨g5, 0, none⟩ = some (.int .u64 (wd m 0 : Int)) ∧ W.cell? ⟨g5, 1, none⟩ = some (.int .u64 (wd m 1 : Int)) ∧ W.cell? ⟨g5, 2, none⟩ = some (.int .u64 (wd m 2 : Int)) ∧ W.cell? ⟨g5, 3, none⟩ = some (.int .u64 (wd m 3 : Int))) ∧ W.cell? ⟨g5, 4, none⟩ = some (.int .u16 (k : Int)))) := hid (fun hb => by obtain ⟨t0, t1, t2, t3, t4⟩ := HT.out.at hb; exact ⟨⟨t0, t1, t2, t3⟩, t4⟩)
    go_cut [9, 10] (fun s9 s10 wx => ∃ g9 g10 : Nat, s9 = .pointer (some ⟨g9, 0, none⟩) ∧ s10 = .pointer (some ⟨g10, 0, none⟩) ∧ Hid (Env w0 [(g9, lo), (g10, hi), (g7, s)] wx))
    case first =>
      have hs := H2b.out.drew
      refine wp_region_noPanic ?_
      refine Goes.region (fun (L : Array Bool) (w' : World) => (w'.cell? ⟨g5, 0, none⟩ = some (.int .u64 (wd m 0 : Int)) ∧ w'.cell? ⟨g5, 1, none⟩ = some (.int .u64 (wd m 1 : Int)) ∧ w'.cell? ⟨g5, 2, none⟩ = some (.int .u64 (wd m 2 : Int)) ∧ w'.cell? ⟨g5, 3, none⟩ = some (.int .u64 (wd m 3 : Int))) ∧ w'.cell? ⟨g5, 4, none⟩ = some (.int .u16 (k : Int))) (by kernel_rfl) ?_
      generalize w2b.drew = wd at *
      refine Goes.take (i := 0) (o := { dst := some 39, op := _, type := _, pos := _, after := _, guard := _ }) (v := ?_) [] rfl (by kernel_rfl) (by kernel_rfl) (by kernel_rfl) (fun _ _ _ h => h) (by kernel_rfl) (fun L u h => h) (Or.inl ⟨by rfl, ?_⟩) (HT4.out (hs).1) ?_
      rotate_left
      · intro w hY; go_simp; try with_reducible rfl
      try simp only [Act.put, List.setIfInBounds_toArray, List.set_cons_zero, List.set_cons_succ]
      refine Goes.take (i := 1) (o := { dst := some 40, op := _, type := _, pos := _, after := _, guard := _ }) (v := ?_) [] rfl (by kernel_rfl) (by kernel_rfl) (by kernel_rfl) (fun _ _ _ h => h) (by kernel_rfl) (fun L u h => h) (Or.inl ⟨by rfl, ?_⟩) (HT4.out (hs).1) ?_
      rotate_left
      · intro w hY; obtain ⟨up, hL⟩ := hY; have hX := hL.2.1; clear hL; (try dsimp only at hX); go_simp; try with_reducible rfl
      try simp only [Act.put, List.setIfInBounds_toArray, List.set_cons_zero, List.set_cons_succ]
      refine Goes.take (i := 2) (o := { dst := some 41, op := _, type := _, pos := _, after := _, guard := _ }) (v := ?_) [] rfl (by kernel_rfl) (by kernel_rfl) (by kernel_rfl) (fun _ _ _ h => h) (by kernel_rfl) (fun L u h => h) (Or.inl ⟨by rfl, ?_⟩) (HT4.out (hs).1) ?_
      rotate_left
      · intro w hY; go_simp; try with_reducible rfl
      try simp only [Act.put, List.setIfInBounds_toArray, List.set_cons_zero, List.set_cons_succ]
      refine Goes.take (i := 3) (o := { dst := some 42, op := _, type := _, pos := _, after := _, guard := _ }) (v := ?_) [] rfl (by kernel_rfl) (by kernel_rfl) (by kernel_rfl) (fun _ _ _ h => h) (by kernel_rfl) (fun L u h => h) (Or.inl ⟨by rfl, ?_⟩) (HT4.out (hs).1) ?_
      rotate_left
      · intro w hY; obtain ⟨up, hL⟩ := hY; have hX := hL.2.2; clear hL; (try dsimp only at hX); go_simp; try with_reducible rfl
      try simp only [Act.put, List.setIfInBounds_toArray, List.set_cons_zero, List.set_cons_succ]
      refine Goes.take (i := 4) (o := { dst := some 43, op := _, type := _, pos := _, after := _, guard := _ }) (v := ?_) [] rfl (by kernel_rfl) (by kernel_rfl) (by kernel_rfl) (fun _ _ _ h => h) (by kernel_rfl) (fun L u h => h) (Or.inl ⟨by rfl, ?_⟩) (HT4.out (hs).1) ?_
      rotate_left
      · intro w hY; go_simp; try with_reducible rfl
      try simp only [Act.put, List.setIfInBounds_toArray, List.set_cons_zero, List.set_cons_succ]
      refine Goes.take (i := 5) (o := { dst := some 44, op := _, type := _, pos := _, after := _, guard := _ }) (v := ?_) [] rfl (by kernel_rfl) (by kernel_rfl) (by kernel_rfl) (fun _ _ _ h => h) (by kernel_rfl) (fun L u h => h) (Or.inl ⟨by rfl, ?_⟩) (HT4.out (hs).1) ?_
      rotate_left
      · intro w hY; go_simp; try with_reducible rfl
      try simp only [Act.put, List.setIfInBounds_toArray, List.set_cons_zero, List.set_cons_succ]
      refine Goes.three (i := 6) (j := 11) (k := 12) (o := { dst := some 45, op := _, type := _, pos := _, after := _, guard := _ }) (p := { dst := some 9, op := _, type := _, pos := _, after := _, guard := _ }) (q := { dst := some 10, op := _, type := _, pos := _, after := _, guard := _ }) (by kernel_rfl) rfl rfl rfl (fun K hK => ?_) (fun K hK => ?_) (fun K hK => ?_)
      · skip
        go_simp
        with_reducible refine (lof_at (1 + k) (1 + (k : Int)) hs (by have := HKK.out; omega) (by omega)).mono ?_
        rintro e wn1 ⟨rfl, hs1⟩
        go_wp2_with fail
        refine hK.out _ _ (HT4.out (hs1).1) ?_
        clear hK K
        try simp only [Act.put, List.setIfInBounds_toArray, List.set_cons_zero, List.set_cons_succ]
        clear hs
        have hs := hs1
        clear hs1
        refine Goes.three (i := 7) (j := 11) (k := 12) (o := { dst := some 46, op := _, type := _, pos := _, after := _, guard := _ }) (p := { dst := some 9, op := _, type := _, pos := _, after := _, guard := _ }) (q := { dst := some 10, op := _, type := _, pos := _, after := _, guard := _ }) (by kernel_rfl) rfl rfl rfl (fun K hK => ?_) (fun K hK => ?_) (fun K hK => ?_)
        · skip
          go_simp
          with_reducible refine (mul_at m (1 + k) lo hi hs HM.out (by have := HKK.out; exact Nat.lt_of_le_of_lt (show 1 + k ≤ 65536 by omega) (by decide)) HELO.out HEHI.out).mono ?_
          rintro e wn2 ⟨rfl, hs2⟩
          go_wp2_with fail
          refine hK.out _ _ (HT4.out (hs2).1) ?_
          clear hK K
          try simp only [Act.put, List.setIfInBounds_toArray, List.set_cons_zero, List.set_cons_succ]
          clear hs
          have hs := hs2
          clear hs2
          refine Goes.take (i := 8) (o := { dst := some 38, op := _, type := _, pos := _, after := _, guard := _ }) (v := ?_) [] rfl (by kernel_rfl) (by kernel_rfl) (by kernel_rfl) (fun _ _ _ h => h) (by kernel_rfl) (fun L u h => h) (Or.inl ⟨by rfl, ?_⟩) (HT4.out (hs).1) ?_
          rotate_left
          · intro w hY; go_simp; try with_reducible rfl
          try simp only [Act.put, List.setIfInBounds_toArray, List.set_cons_zero, List.set_cons_succ]
          refine Goes.take (i := 9) (o := { dst := some 47, op := _, type := _, pos := _, after := _, guard := _ }) (v := ?_) [] rfl (by kernel_rfl) (by kernel_rfl) (by kernel_rfl) (fun _ _ _ h => h) (by kernel_rfl) (fun L u h => h) (Or.inl ⟨by rfl, ?_⟩) (HT4.out (hs).1) ?_
          rotate_left
          · intro w hY; go_simp; try with_reducible rfl
          try simp only [Act.put, List.setIfInBounds_toArray, List.set_cons_zero, List.set_cons_succ]
          refine Goes.take (i := 10) (o := { dst := some 48, op := _, type := _, pos := _, after := _, guard := _ }) (v := ?_) [] rfl (by kernel_rfl) (by kernel_rfl) (by kernel_rfl) (fun _ _ _ h => h) (by kernel_rfl) (fun L u h => h) (Or.inl ⟨by rfl, ?_⟩) (HT4.out (hs).1) ?_
          rotate_left
          · intro w hY; go_simp; try with_reducible rfl
          try simp only [Act.put, List.setIfInBounds_toArray, List.set_cons_zero, List.set_cons_succ]
          refine Goes.two (i := 11) (j := 12) (o := { dst := some 9, op := _, type := _, pos := _, after := _, guard := _ }) (p := { dst := some 10, op := _, type := _, pos := _, after := _, guard := _ }) (by kernel_rfl) rfl rfl (fun K hK => ?_) (fun K hK => ?_)
          · skip
            go_simp
            refine hK.out _ _ (HT4.out (hs.zero).1) ?_
            clear hK K
            try simp only [Act.put, List.setIfInBounds_toArray, List.set_cons_zero, List.set_cons_succ]
            have Fg9 := hid hs.fresh
            have hs3 := hs.zero
            clear hs
            generalize wn2.alloc (.cells #[.int .u64 0, .int .u64 0, .int .u64 0, .int .u64 0] 24) = wn3 at *
            generalize wn2.heap.size = g9 at *
            have hs := hs3
            clear hs3
            refine Goes.one (i := 12) (o := { dst := some 10, op := _, type := _, pos := _, after := _, guard := _ }) (by kernel_rfl) rfl (fun K hK => ?_)
            go_simp
            refine hK.out _ _ (HT4.out (hs.zero).1) ?_
            clear hK K
            try simp only [Act.put, List.setIfInBounds_toArray, List.set_cons_zero, List.set_cons_succ]
            have Fg10 := hid hs.fresh
            have hs4 := hs.zero
            clear hs
            generalize wn3.alloc (.cells #[.int .u64 0, .int .u64 0, .int .u64 0, .int .u64 0] 24) = wn4 at *
            generalize wn3.heap.size = g10 at *
            have hs := hs4
            clear hs4
            refine Goes.one (i := 13) (o := { dst := none, op := _, type := _, pos := _, after := _, guard := _ }) (by kernel_rfl) rfl (fun K hK => ?_)
            obtain ⟨z0, z1, z2, z3⟩ := hs.cell g9 0 (by simp)
            have zl := hs.lt g9 0 (by simp)
            have zf := hs.frozen g9 0 (by simp)
            have hs5 := hs.set g9 0 (lo) [(g10, 0), (g7, s)] (by simp) Fg9.out.1 (fun p hp => by simp only [List.mem_cons, List.not_mem_nil, or_false] at hp; rcases hp with rfl | rfl <;> first | exact ⟨by simp, (Ne.symm (Fg10.out.2 (g9, 0) (by simp)))⟩ | exact ⟨by simp, (Fg9.out.2 (g7, s) (by simp))⟩)
            go_simp
            refine hK.out _ _ (HT4.out (hs5).1) ?_
            clear hK K
            try simp only [Act.put, List.setIfInBounds_toArray, List.set_cons_zero, List.set_cons_succ]
            clear hs z0 z1 z2 z3 zl zf
            change Goes _ _ _ _ _ _ _ _ (fil wn4 g9 (lo))
            generalize fil wn4 g9 (lo) = wn5 at *
            have hs := hs5
            clear hs5
            refine Goes.one (i := 14) (o := { dst := none, op := _, type := _, pos := _, after := _, guard := _ }) (by kernel_rfl) rfl (fun K hK => ?_)
            obtain ⟨z0, z1, z2, z3⟩ := hs.cell g10 0 (by simp)
            have zl := hs.lt g10 0 (by simp)
            have zf := hs.frozen g10 0 (by simp)
            have hs6 := hs.set g10 0 (hi) [(g9, lo), (g7, s)] (by simp) Fg10.out.1 (fun p hp => by simp only [List.mem_cons, List.not_mem_nil, or_false] at hp; rcases hp with rfl | rfl <;> first | exact ⟨by simp, (Fg10.out.2 (g9, 0) (by simp))⟩ | exact ⟨by simp, (Fg10.out.2 (g7, s) (by simp))⟩)
            go_simp
            refine hK.out _ _ (HT4.out (hs6).1) ?_
            clear hK K
            try simp only [Act.put, List.setIfInBounds_toArray, List.set_cons_zero, List.set_cons_succ]
            clear hs z0 z1 z2 z3 zl zf
            change Goes _ _ _ _ _ _ _ _ (fil wn5 g10 (hi))
            generalize fil wn5 g10 (hi) = wn6 at *
            have hs := hs6
            clear hs6
            refine Goes.done (by kernel_rfl) ?_ _
            refine NoPanic.normal ?_
            go_wp2_with fail
            go_meet
            exact ⟨_, _, rfl, rfl, hid (hs.perm (by simp))⟩
          · skip
            go_simp
            refine hK.out _ _ (HT4.out (hs.zero).1) ?_
            clear hK K
            try simp only [Act.put, List.setIfInBounds_toArray, List.set_cons_zero, List.set_cons_succ]
            have Fg10 := hid hs.fresh
            have hs7 := hs.zero
            clear hs
            generalize wn2.alloc (.cells #[.int .u64 0, .int .u64 0, .int .u64 0, .int .u64 0] 24) = wn7 at *
            generalize wn2.heap.size = g10 at *
            have hs := hs7
            clear hs7
            refine Goes.one (i := 11) (o := { dst := some 9, op := _, type := _, pos := _, after := _, guard := _ }) (by kernel_rfl) rfl (fun K hK => ?_)
            go_simp
            refine hK.out _ _ (HT4.out (hs.zero).1) ?_
            clear hK K
            try simp only [Act.put, List.setIfInBounds_toArray, List.set_cons_zero, List.set_cons_succ]
            have Fg9 := hid hs.fresh
            have hs8 := hs.zero
            clear hs
            generalize wn7.alloc (.cells #[.int .u64 0, .int .u64 0, .int .u64 0, .int .u64 0] 24) = wn8 at *
            generalize wn7.heap.size = g9 at *
            have hs := hs8
            clear hs8
            refine Goes.one (i := 13) (o := { dst := none, op := _, type := _, pos := _, after := _, guard := _ }) (by kernel_rfl) rfl (fun K hK => ?_)
            obtain ⟨z0, z1, z2, z3⟩ := hs.cell g9 0 (by simp)
            have zl := hs.lt g9 0 (by simp)
            have zf := hs.frozen g9 0 (by simp)
            have hs9 := hs.set g9 0 (lo) [(g10, 0), (g7, s)] (by simp) Fg9.out.1 (fun p hp => by simp only [List.mem_cons, List.not_mem_nil, or_false] at hp; rcases hp with rfl | rfl <;> first | exact ⟨by simp, (Fg9.out.2 (g10, 0) (by simp))⟩ | exact ⟨by simp, (Fg9.out.2 (g7, s) (by simp))⟩)
            go_simp
            refine hK.out _ _ (HT4.out (hs9).1) ?_
            clear hK K
            try simp only [Act.put, List.setIfInBounds_toArray, List.set_cons_zero, List.set_cons_succ]
            clear hs z0 z1 z2 z3 zl zf
            change Goes _ _ _ _ _ _ _ _ (fil wn8 g9 (lo))
            generalize fil wn8 g9 (lo) = wn9 at *
            have hs := hs9
            clear hs9
            refine Goes.one (i := 14) (o := { dst := none, op := _, type := _, pos := _, after := _, guard := _ }) (by kernel_rfl) rfl (fun K hK => ?_)
            obtain ⟨z0, z1, z2, z3⟩ := hs.cell g10 0 (by simp)
            have zl := hs.lt g10 0 (by simp)
            have zf := hs.frozen g10 0 (by simp)
            have hs10 := hs.set g10 0 (hi) [(g9, lo), (g7, s)] (by simp) Fg10.out.1 (fun p hp => by simp only [List.mem_cons, List.not_mem_nil, or_false] at hp; rcases hp with rfl | rfl <;> first | exact ⟨by simp, (Ne.symm (Fg9.out.2 (g10, 0) (by simp)))⟩ | exact ⟨by simp, (Fg10.out.2 (g7, s) (by simp))⟩)
            go_simp
            refine hK.out _ _ (HT4.out (hs10).1) ?_
            clear hK K
            try simp only [Act.put, List.setIfInBounds_toArray, List.set_cons_zero, List.set_cons_succ]
            clear hs z0 z1 z2 z3 zl zf
            change Goes _ _ _ _ _ _ _ _ (fil wn9 g10 (hi))
            generalize fil wn9 g10 (hi) = wn10 at *
            have hs := hs10
            clear hs10
            refine Goes.done (by kernel_rfl) ?_ _
            refine NoPanic.normal ?_
            go_wp2_with fail
            go_meet
            exact ⟨_, _, rfl, rfl, hid (hs.perm (by simp))⟩
        · skip
          go_simp
          refine hK.out _ _ (HT4.out (hs.zero).1) ?_
          clear hK K
          try simp only [Act.put, List.setIfInBounds_toArray, List.set_cons_zero, List.set_cons_succ]
          have Fg9 := hid hs.fresh
          have hs11 := hs.zero
          clear hs
          generalize wn1.alloc (.cells #[.int .u64 0, .int .u64 0, .int .u64 0, .int .u64 0] 24) = wn11 at *
          generalize wn1.heap.size = g9 at *
          have hs := hs11
          clear hs11
          refine Goes.two (i := 7) (j := 12) (o := { dst := some 46, op := _, type := _, pos := _, after := _, guard := _ }) (p := { dst := some 10, op := _, type := _, pos := _, after := _, guard := _ }) (by kernel_rfl) rfl rfl (fun K hK => ?_) (fun K hK => ?_)
          · skip
            go_simp
            with_reducible refine (mul_at m (1 + k) lo hi hs HM.out (by have := HKK.out; exact Nat.lt_of_le_of_lt (show 1 + k ≤ 65536 by omega) (by decide)) HELO.out HEHI.out).mono ?_
            rintro e wn12 ⟨rfl, hs12⟩
            go_wp2_with fail
            refine hK.out _ _ (HT4.out (hs12).1) ?_
            clear hK K
            try simp only [Act.put, List.setIfInBounds_toArray, List.set_cons_zero, List.set_cons_succ]
            clear hs
            have hs := hs12
            clear hs12
            refine Goes.take (i := 8) (o := { dst := some 38, op := _, type := _, pos := _, after := _, guard := _ }) (v := ?_) [] rfl (by kernel_rfl) (by kernel_rfl) (by kernel_rfl) (fun _ _ _ h => h) (by kernel_rfl) (fun L u h => h) (Or.inl ⟨by rfl, ?_⟩) (HT4.out (hs).1) ?_
            rotate_left
            · intro w hY; go_simp; try with_reducible rfl
            try simp only [Act.put, List.setIfInBounds_toArray, List.set_cons_zero, List.set_cons_succ]
            refine Goes.take (i := 9) (o := { dst := some 47, op := _, type := _, pos := _, after := _, guard := _ }) (v := ?_) [] rfl (by kernel_rfl) (by kernel_rfl) (by kernel_rfl) (fun _ _ _ h => h) (by kernel_rfl) (fun L u h => h) (Or.inl ⟨by rfl, ?_⟩) (HT4.out (hs).1) ?_
            rotate_left
            · intro w hY; go_simp; try with_reducible rfl
            try simp only [Act.put, List.setIfInBounds_toArray, List.set_cons_zero, List.set_cons_succ]
            refine Goes.take (i := 10) (o := { dst := some 48, op := _, type := _, pos := _, after := _, guard := _ }) (v := ?_) [] rfl (by kernel_rfl) (by kernel_rfl) (by kernel_rfl) (fun _ _ _ h => h) (by kernel_rfl) (fun L u h => h) (Or.inl ⟨by rfl, ?_⟩) (HT4.out (hs).1) ?_
            rotate_left
            · intro w hY; go_simp; try with_reducible rfl
            try simp only [Act.put, List.setIfInBounds_toArray, List.set_cons_zero, List.set_cons_succ]
            refine Goes.one (i := 12) (o := { dst := some 10, op := _, type := _, pos := _, after := _, guard := _ }) (by kernel_rfl) rfl (fun K hK => ?_)
            go_simp
            refine hK.out _ _ (HT4.out (hs.zero).1) ?_
            clear hK K
            try simp only [Act.put, List.setIfInBounds_toArray, List.set_cons_zero, List.set_cons_succ]
            have Fg10 := hid hs.fresh
            have hs13 := hs.zero
            clear hs
            generalize wn12.alloc (.cells #[.int .u64 0, .int .u64 0, .int .u64 0, .int .u64 0] 24) = wn13 at *
            generalize wn12.heap.size = g10 at *
            have hs := hs13
            clear hs13
            refine Goes.one (i := 13) (o := { dst := none, op := _, type := _, pos := _, after := _, guard := _ }) (by kernel_rfl) rfl (fun K hK => ?_)
            obtain ⟨z0, z1, z2, z3⟩ := hs.cell g9 0 (by simp)
            have zl := hs.lt g9 0 (by simp)
            have zf := hs.frozen g9 0 (by simp)
            have hs14 := hs.set g9 0 (lo) [(g10, 0), (g7, s)] (by simp) Fg9.out.1 (fun p hp => by simp only [List.mem_cons, List.not_mem_nil, or_false] at hp; rcases hp with rfl | rfl <;> first | exact ⟨by simp, (Ne.symm (Fg10.out.2 (g9, 0) (by simp)))⟩ | exact ⟨by simp, (Fg9.out.2 (g7, s) (by simp))⟩)
            go_simp
            refine hK.out _ _ (HT4.out (hs14).1) ?_
            clear hK K
            try simp only [Act.put, List.setIfInBounds_toArray, List.set_cons_zero, List.set_cons_succ]
            clear hs z0 z1 z2 z3 zl zf
            change Goes _ _ _ _ _ _ _ _ (fil wn13 g9 (lo))
            generalize fil wn13 g9 (lo) = wn14 at *
            have hs := hs14
            clear hs14
            refine Goes.one (i := 14) (o := { dst := none, op := _, type := _, pos := _, after := _, guard := _ }) (by kernel_rfl) rfl (fun K hK => ?_)
            obtain ⟨z0, z1, z2, z3⟩ := hs.cell g10 0 (by simp)
            have zl := hs.lt g10 0 (by simp)
            have zf := hs.frozen g10 0 (by simp)
            have hs15 := hs.set g10 0 (hi) [(g9, lo), (g7, s)] (by simp) Fg10.out.1 (fun p hp => by simp only [List.mem_cons, List.not_mem_nil, or_false] at hp; rcases hp with rfl | rfl <;> first | exact ⟨by simp, (Fg10.out.2 (g9, 0) (by simp))⟩ | exact ⟨by simp, (Fg10.out.2 (g7, s) (by simp))⟩)
            go_simp
            refine hK.out _ _ (HT4.out (hs15).1) ?_
            clear hK K
            try simp only [Act.put, List.setIfInBounds_toArray, List.set_cons_zero, List.set_cons_succ]
            clear hs z0 z1 z2 z3 zl zf
            change Goes _ _ _ _ _ _ _ _ (fil wn14 g10 (hi))
            generalize fil wn14 g10 (hi) = wn15 at *
            have hs := hs15
            clear hs15
            refine Goes.done (by kernel_rfl) ?_ _
            refine NoPanic.normal ?_
            go_wp2_with fail
            go_meet
            exact ⟨_, _, rfl, rfl, hid (hs.perm (by simp))⟩
          · skip
            go_simp
            refine hK.out _ _ (HT4.out (hs.zero).1) ?_
            clear hK K
            try simp only [Act.put, List.setIfInBounds_toArray, List.set_cons_zero, List.set_cons_succ]
            have Fg10 := hid hs.fresh
            have hs16 := hs.zero
            clear hs
            generalize wn11.alloc (.cells #[.int .u64 0, .int .u64 0, .int .u64 0, .int .u64 0] 24) = wn16 at *
            generalize wn11.heap.size = g10 at *
            have hs := hs16
            clear hs16
            refine Goes.one (i := 7) (o := { dst := some 46, op := _, type := _, pos := _, after := _, guard := _ }) (by kernel_rfl) rfl (fun K hK => ?_)
            go_simp
            with_reducible refine (mul_at m (1 + k) lo hi hs HM.out (by have := HKK.out; exact Nat.lt_of_le_of_lt (show 1 + k ≤ 65536 by omega) (by decide)) HELO.out HEHI.out).mono ?_
            rintro e wn17 ⟨rfl, hs17⟩
            go_wp2_with fail
            refine hK.out _ _ (HT4.out (hs17).1) ?_
            clear hK K
            try simp only [Act.put, List.setIfInBounds_toArray, List.set_cons_zero, List.set_cons_succ]
            clear hs
            have hs := hs17
            clear hs17
            refine Goes.take (i := 8) (o := { dst := some 38, op := _, type := _, pos := _, after := _, guard := _ }) (v := ?_) [] rfl (by kernel_rfl) (by kernel_rfl) (by kernel_rfl) (fun _ _ _ h => h) (by kernel_rfl) (fun L u h => h) (Or.inl ⟨by rfl, ?_⟩) (HT4.out (hs).1) ?_
            rotate_left
            · intro w hY; go_simp; try with_reducible rfl
            try simp only [Act.put, List.setIfInBounds_toArray, List.set_cons_zero, List.set_cons_succ]
            refine Goes.take (i := 9) (o := { dst := some 47, op := _, type := _, pos := _, after := _, guard := _ }) (v := ?_) [] rfl (by kernel_rfl) (by kernel_rfl) (by kernel_rfl) (fun _ _ _ h => h) (by kernel_rfl) (fun L u h => h) (Or.inl ⟨by rfl, ?_⟩) (HT4.out (hs).1) ?_
            rotate_left
            · intro w hY; go_simp; try with_reducible rfl
            try simp only [Act.put, List.setIfInBounds_toArray, List.set_cons_zero, List.set_cons_succ]
            refine Goes.take (i := 10) (o := { dst := some 48, op := _, type := _, pos := _, after := _, guard := _ }) (v := ?_) [] rfl (by kernel_rfl) (by kernel_rfl) (by kernel_rfl) (fun _ _ _ h => h) (by kernel_rfl) (fun L u h => h) (Or.inl ⟨by rfl, ?_⟩) (HT4.out (hs).1) ?_
            rotate_left
            · intro w hY; go_simp; try with_reducible rfl
            try simp only [Act.put, List.setIfInBounds_toArray, List.set_cons_zero, List.set_cons_succ]
            refine Goes.one (i := 13) (o := { dst := none, op := _, type := _, pos := _, after := _, guard := _ }) (by kernel_rfl) rfl (fun K hK => ?_)
            obtain ⟨z0, z1, z2, z3⟩ := hs.cell g9 0 (by simp)
            have zl := hs.lt g9 0 (by simp)
            have zf := hs.frozen g9 0 (by simp)
            have hs18 := hs.set g9 0 (lo) [(g10, 0), (g7, s)] (by simp) Fg9.out.1 (fun p hp => by simp only [List.mem_cons, List.not_mem_nil, or_false] at hp; rcases hp with rfl | rfl <;> first | exact ⟨by simp, (Ne.symm (Fg10.out.2 (g9, 0) (by simp)))⟩ | exact ⟨by simp, (Fg9.out.2 (g7, s) (by simp))⟩)
            go_simp
            refine hK.out _ _ (HT4.out (hs18).1) ?_
            clear hK K
            try simp only [Act.put, List.setIfInBounds_toArray, List.set_cons_zero, List.set_cons_succ]
            clear hs z0 z1 z2 z3 zl zf
            change Goes _ _ _ _ _ _ _ _ (fil wn17 g9 (lo))
            generalize fil wn17 g9 (lo) = wn18 at *
            have hs := hs18
            clear hs18
            refine Goes.one (i := 14) (o := { dst := none, op := _, type := _, pos := _, after := _, guard := _ }) (by kernel_rfl) rfl (fun K hK => ?_)
            obtain ⟨z0, z1, z2, z3⟩ := hs.cell g10 0 (by simp)
            have zl := hs.lt g10 0 (by simp)
            have zf := hs.frozen g10 0 (by simp)
            have hs19 := hs.set g10 0 (hi) [(g9, lo), (g7, s)] (by simp) Fg10.out.1 (fun p hp => by simp only [List.mem_cons, List.not_mem_nil, or_false] at hp; rcases hp with rfl | rfl <;> first | exact ⟨by simp, (Fg10.out.2 (g9, 0) (by simp))⟩ | exact ⟨by simp, (Fg10.out.2 (g7, s) (by simp))⟩)
            go_simp
            refine hK.out _ _ (HT4.out (hs19).1) ?_
            clear hK K
            try simp only [Act.put, List.setIfInBounds_toArray, List.set_cons_zero, List.set_cons_succ]
            clear hs z0 z1 z2 z3 zl zf
            change Goes _ _ _ _ _ _ _ _ (fil wn18 g10 (hi))
            generalize fil wn18 g10 (hi) = wn19 at *
            have hs := hs19
            clear hs19
            refine Goes.done (by kernel_rfl) ?_ _
            refine NoPanic.normal ?_
            go_wp2_with fail
            go_meet
            exact ⟨_, _, rfl, rfl, hid (hs.perm (by simp))⟩
        · skip
          go_simp
          refine hK.out _ _ (HT4.out (hs.zero).1) ?_
          clear hK K
          try simp only [Act.put, List.setIfInBounds_toArray, List.set_cons_zero, List.set_cons_succ]
          have Fg10 := hid hs.fresh
          have hs20 := hs.zero
          clear hs
          generalize wn1.alloc (.cells #[.int .u64 0, .int .u64 0, .int .u64 0, .int .u64 0] 24) = wn20 at *
          generalize wn1.heap.size = g10 at *
          have hs := hs20
          clear hs20
          refine Goes.two (i := 7) (j := 11) (o := { dst := some 46, op := _, type := _, pos := _, after := _, guard := _ }) (p := { dst := some 9, op := _, type := _, pos := _, after := _, guard := _ }) (by kernel_rfl) rfl rfl (fun K hK => ?_) (fun K hK => ?_)
          · skip
            go_simp
            with_reducible refine (mul_at m (1 + k) lo hi hs HM.out (by have := HKK.out; exact Nat.lt_of_le_of_lt (show 1 + k ≤ 65536 by omega) (by decide)) HELO.out HEHI.out).mono ?_
            rintro e wn21 ⟨rfl, hs21⟩
            go_wp2_with fail
            refine hK.out _ _ (HT4.out (hs21).1) ?_
            clear hK K
            try simp only [Act.put, List.setIfInBounds_toArray, List.set_cons_zero, List.set_cons_succ]
            clear hs
            have hs := hs21
            clear hs21
            refine Goes.take (i := 8) (o := { dst := some 38, op := _, type := _, pos := _, after := _, guard := _ }) (v := ?_) [] rfl (by kernel_rfl) (by kernel_rfl) (by kernel_rfl) (fun _ _ _ h => h) (by kernel_rfl) (fun L u h => h) (Or.inl ⟨by rfl, ?_⟩) (HT4.out (hs).1) ?_
            rotate_left
            · intro w hY; go_simp; try with_reducible rfl
            try simp only [Act.put, List.setIfInBounds_toArray, List.set_cons_zero, List.set_cons_succ]
            refine Goes.take (i := 9) (o := { dst := some 47, op := _, type := _, pos := _, after := _, guard := _ }) (v := ?_) [] rfl (by kernel_rfl) (by kernel_rfl) (by kernel_rfl) (fun _ _ _ h => h) (by kernel_rfl) (fun L u h => h) (Or.inl ⟨by rfl, ?_⟩) (HT4.out (hs).1) ?_
            rotate_left
            · intro w hY; go_simp; try with_reducible rfl
            try simp only [Act.put, List.setIfInBounds_toArray, List.set_cons_zero, List.set_cons_succ]
            refine Goes.take (i := 10) (o := { dst := some 48, op := _, type := _, pos := _, after := _, guard := _ }) (v := ?_) [] rfl (by kernel_rfl) (by kernel_rfl) (by kernel_rfl) (fun _ _ _ h => h) (by kernel_rfl) (fun L u h => h) (Or.inl ⟨by rfl, ?_⟩) (HT4.out (hs).1) ?_
            rotate_left
            · intro w hY; go_simp; try with_reducible rfl
            try simp only [Act.put, List.setIfInBounds_toArray, List.set_cons_zero, List.set_cons_succ]
            refine Goes.one (i := 11) (o := { dst := some 9, op := _, type := _, pos := _, after := _, guard := _ }) (by kernel_rfl) rfl (fun K hK => ?_)
            go_simp
            refine hK.out _ _ (HT4.out (hs.zero).1) ?_
            clear hK K
            try simp only [Act.put, List.setIfInBounds_toArray, List.set_cons_zero, List.set_cons_succ]
            have Fg9 := hid hs.fresh
            have hs22 := hs.zero
            clear hs
            generalize wn21.alloc (.cells #[.int .u64 0, .int .u64 0, .int .u64 0, .int .u64 0] 24) = wn22 at *
            generalize wn21.heap.size = g9 at *
            have hs := hs22
            clear hs22
            refine Goes.one (i := 13) (o := { dst := none, op := _, type := _, pos := _, after := _, guard := _ }) (by kernel_rfl) rfl (fun K hK => ?_)
            obtain ⟨z0, z1, z2, z3⟩ := hs.cell g9 0 (by simp)
            have zl := hs.lt g9 0 (by simp)
            have zf := hs.frozen g9 0 (by simp)
            have hs23 := hs.set g9 0 (lo) [(g10, 0), (g7, s)] (by simp) Fg9.out.1 (fun p hp => by simp only [List.mem_cons, List.not_mem_nil, or_false] at hp; rcases hp with rfl | rfl <;> first | exact ⟨by simp, (Fg9.out.2 (g10, 0) (by simp))⟩ | exact ⟨by simp, (Fg9.out.2 (g7, s) (by simp))⟩)
            go_simp
            refine hK.out _ _ (HT4.out (hs23).1) ?_
            clear hK K
            try simp only [Act.put, List.setIfInBounds_toArray, List.set_cons_zero, List.set_cons_succ]
            clear hs z0 z1 z2 z3 zl zf
            change Goes _ _ _ _ _ _ _ _ (fil wn22 g9 (lo))
            generalize fil wn22 g9 (lo) = wn23 at *
            have hs := hs23
            clear hs23
            refine Goes.one (i := 14) (o := { dst := none, op := _, type := _, pos := _, after := _, guard := _ }) (by kernel_rfl) rfl (fun K hK => ?_)
            obtain ⟨z0, z1, z2, z3⟩ := hs.cell g10 0 (by simp)
            have zl := hs.lt g10 0 (by simp)
            have zf := hs.frozen g10 0 (by simp)
            have hs24 := hs.set g10 0 (hi) [(g9, lo), (g7, s)] (by simp) Fg10.out.1 (fun p hp => by simp only [List.mem_cons, List.not_mem_nil, or_false] at hp; rcases hp with rfl | rfl <;> first | exact ⟨by simp, (Ne.symm (Fg9.out.2 (g10, 0) (by simp)))⟩ | exact ⟨by simp, (Fg10.out.2 (g7, s) (by simp))⟩)
            go_simp
            refine hK.out _ _ (HT4.out (hs24).1) ?_
            clear hK K
            try simp only [Act.put, List.setIfInBounds_toArray, List.set_cons_zero, List.set_cons_succ]
            clear hs z0 z1 z2 z3 zl zf
            change Goes _ _ _ _ _ _ _ _ (fil wn23 g10 (hi))
            generalize fil wn23 g10 (hi) = wn24 at *
            have hs := hs24
            clear hs24
            refine Goes.done (by kernel_rfl) ?_ _
            refine NoPanic.normal ?_
            go_wp2_with fail
            go_meet
            exact ⟨_, _, rfl, rfl, hid (hs.perm (by simp))⟩
          · skip
            go_simp
            refine hK.out _ _ (HT4.out (hs.zero).1) ?_
            clear hK K
            try simp only [Act.put, List.setIfInBounds_toArray, List.set_cons_zero, List.set_cons_succ]
            have Fg9 := hid hs.fresh
            have hs25 := hs.zero
            clear hs
            generalize wn20.alloc (.cells #[.int .u64 0, .int .u64 0, .int .u64 0, .int .u64 0] 24) = wn25 at *
            generalize wn20.heap.size = g9 at *
            have hs := hs25
            clear hs25
            refine Goes.one (i := 7) (o := { dst := some 46, op := _, type := _, pos := _, after := _, guard := _ }) (by kernel_rfl) rfl (fun K hK => ?_)
            go_simp
            with_reducible refine (mul_at m (1 + k) lo hi hs HM.out (by have := HKK.out; exact Nat.lt_of_le_of_lt (show 1 + k ≤ 65536 by omega) (by decide)) HELO.out HEHI.out).mono ?_
            rintro e wn26 ⟨rfl, hs26⟩
            go_wp2_with fail
            refine hK.out _ _ (HT4.out (hs26).1) ?_
            clear hK K
            try simp only [Act.put, List.setIfInBounds_toArray, List.set_cons_zero, List.set_cons_succ]
            clear hs
            have hs := hs26
            clear hs26
            refine Goes.take (i := 8) (o := { dst := some 38, op := _, type := _, pos := _, after := _, guard := _ }) (v := ?_) [] rfl (by kernel_rfl) (by kernel_rfl) (by kernel_rfl) (fun _ _ _ h => h) (by kernel_rfl) (fun L u h => h) (Or.inl ⟨by rfl, ?_⟩) (HT4.out (hs).1) ?_
            rotate_left
            · intro w hY; go_simp; try with_reducible rfl
            try simp only [Act.put, List.setIfInBounds_toArray, List.set_cons_zero, List.set_cons_succ]
            refine Goes.take (i := 9) (o := { dst := some 47, op := _, type := _, pos := _, after := _, guard := _ }) (v := ?_) [] rfl (by kernel_rfl) (by kernel_rfl) (by kernel_rfl) (fun _ _ _ h => h) (by kernel_rfl) (fun L u h => h) (Or.inl ⟨by rfl, ?_⟩) (HT4.out (hs).1) ?_
            rotate_left
            · intro w hY; go_simp; try with_reducible rfl
            try simp only [Act.put, List.setIfInBounds_toArray, List.set_cons_zero, List.set_cons_succ]
            refine Goes.take (i := 10) (o := { dst := some 48, op := _, type := _, pos := _, after := _, guard := _ }) (v := ?_) [] rfl (by kernel_rfl) (by kernel_rfl) (by kernel_rfl) (fun _ _ _ h => h) (by kernel_rfl) (fun L u h => h) (Or.inl ⟨by rfl, ?_⟩) (HT4.out (hs).1) ?_
            rotate_left
            · intro w hY; go_simp; try with_reducible rfl
            try simp only [Act.put, List.setIfInBounds_toArray, List.set_cons_zero, List.set_cons_succ]
            refine Goes.one (i := 13) (o := { dst := none, op := _, type := _, pos := _, after := _, guard := _ }) (by kernel_rfl) rfl (fun K hK => ?_)
            obtain ⟨z0, z1, z2, z3⟩ := hs.cell g9 0 (by simp)
            have zl := hs.lt g9 0 (by simp)
            have zf := hs.frozen g9 0 (by simp)
            have hs27 := hs.set g9 0 (lo) [(g10, 0), (g7, s)] (by simp) Fg9.out.1 (fun p hp => by simp only [List.mem_cons, List.not_mem_nil, or_false] at hp; rcases hp with rfl | rfl <;> first | exact ⟨by simp, (Fg9.out.2 (g10, 0) (by simp))⟩ | exact ⟨by simp, (Fg9.out.2 (g7, s) (by simp))⟩)
            go_simp
            refine hK.out _ _ (HT4.out (hs27).1) ?_
            clear hK K
            try simp only [Act.put, List.setIfInBounds_toArray, List.set_cons_zero, List.set_cons_succ]
            clear hs z0 z1 z2 z3 zl zf
            change Goes _ _ _ _ _ _ _ _ (fil wn26 g9 (lo))
            generalize fil wn26 g9 (lo) = wn27 at *
            have hs := hs27
            clear hs27
            refine Goes.one (i := 14) (o := { dst := none, op := _, type := _, pos := _, after := _, guard := _ }) (by kernel_rfl) rfl (fun K hK => ?_)
            obtain ⟨z0, z1, z2, z3⟩ := hs.cell g10 0 (by simp)
            have zl := hs.lt g10 0 (by simp)
            have zf := hs.frozen g10 0 (by simp)
            have hs28 := hs.set g10 0 (hi) [(g9, lo), (g7, s)] (by simp) Fg10.out.1 (fun p hp => by simp only [List.mem_cons, List.not_mem_nil, or_false] at hp; rcases hp with rfl | rfl <;> first | exact ⟨by simp, (Ne.symm (Fg9.out.2 (g10, 0) (by simp)))⟩ | exact ⟨by simp, (Fg10.out.2 (g7, s) (by simp))⟩)
            go_simp
            refine hK.out _ _ (HT4.out (hs28).1) ?_
            clear hK K
            try simp only [Act.put, List.setIfInBounds_toArray, List.set_cons_zero, List.set_cons_succ]
            clear hs z0 z1 z2 z3 zl zf
            change Goes _ _ _ _ _ _ _ _ (fil wn27 g10 (hi))
            generalize fil wn27 g10 (hi) = wn28 at *
            have hs := hs28
            clear hs28
            refine Goes.done (by kernel_rfl) ?_ _
            refine NoPanic.normal ?_
            go_wp2_with fail
            go_meet
            exact ⟨_, _, rfl, rfl, hid (hs.perm (by simp))⟩
      · skip
        go_simp
        refine hK.out _ _ (HT4.out (hs.zero).1) ?_
        clear hK K
        try simp only [Act.put, List.setIfInBounds_toArray, List.set_cons_zero, List.set_cons_succ]
        have Fg9 := hid hs.fresh
        have hs29 := hs.zero
        clear hs
        generalize wd.alloc (.cells #[.int .u64 0, .int .u64 0, .int .u64 0, .int .u64 0] 24) = wn29 at *
        generalize wd.heap.size = g9 at *
        have hs := hs29
        clear hs29
        refine Goes.two (i := 6) (j := 12) (o := { dst := some 45, op := _, type := _, pos := _, after := _, guard := _ }) (p := { dst := some 10, op := _, type := _, pos := _, after := _, guard := _ }) (by kernel_rfl) rfl rfl (fun K hK => ?_) (fun K hK => ?_)
        · skip
          go_simp
          with_reducible refine (lof_at (1 + k) (1 + (k : Int)) hs (by have := HKK.out; omega) (by omega)).mono ?_
          rintro e wn30 ⟨rfl, hs30⟩
          go_wp2_with fail
          refine hK.out _ _ (HT4.out (hs30).1) ?_
          clear hK K
          try simp only [Act.put, List.setIfInBounds_toArray, List.set_cons_zero, List.set_cons_succ]
          clear hs
          have hs := hs30
          clear hs30
          refine Goes.two (i := 7) (j := 12) (o := { dst := some 46, op := _, type := _, pos := _, after := _, guard := _ }) (p := { dst := some 10, op := _, type := _, pos := _, after := _, guard := _ }) (by kernel_rfl) rfl rfl (fun K hK => ?_) (fun K hK => ?_)
          · skip
            go_simp
            with_reducible refine (mul_at m (1 + k) lo hi hs HM.out (by have := HKK.out; exact Nat.lt_of_le_of_lt (show 1 + k ≤ 65536 by omega) (by decide)) HELO.out HEHI.out).mono ?_
            rintro e wn31 ⟨rfl, hs31⟩
            go_wp2_with fail
            refine hK.out _ _ (HT4.out (hs31).1) ?_
            clear hK K
            try simp only [Act.put, List.setIfInBounds_toArray, List.set_cons_zero, List.set_cons_succ]
            clear hs
            have hs := hs31
            clear hs31
            refine Goes.take (i := 8) (o := { dst := some 38, op := _, type := _, pos := _, after := _, guard := _ }) (v := ?_) [] rfl (by kernel_rfl) (by kernel_rfl) (by kernel_rfl) (fun _ _ _ h => h) (by kernel_rfl) (fun L u h => h) (Or.inl ⟨by rfl, ?_⟩) (HT4.out (hs).1) ?_
            rotate_left
            · intro w hY; go_simp; try with_reducible rfl
            try simp only [Act.put, List.setIfInBounds_toArray, List.set_cons_zero, List.set_cons_succ]
            refine Goes.take (i := 9) (o := { dst := some 47, op := _, type := _, pos := _, after := _, guard := _ }) (v := ?_) [] rfl (by kernel_rfl) (by kernel_rfl) (by kernel_rfl) (fun _ _ _ h => h) (by kernel_rfl) (fun L u h => h) (Or.inl ⟨by rfl, ?_⟩) (HT4.out (hs).1) ?_
            rotate_left
            · intro w hY; go_simp; try with_reducible rfl
            try simp only [Act.put, List.setIfInBounds_toArray, List.set_cons_zero, List.set_cons_succ]
            refine Goes.take (i := 10) (o := { dst := some 48, op := _, type := _, pos := _, after := _, guard := _ }) (v := ?_) [] rfl (by kernel_rfl) (by kernel_rfl) (by kernel_rfl) (fun _ _ _ h => h) (by kernel_rfl) (fun L u h => h) (Or.inl ⟨by rfl, ?_⟩) (HT4.out (hs).1) ?_
            rotate_left
            · intro w hY; go_simp; try with_reducible rfl
            try simp only [Act.put, List.setIfInBounds_toArray, List.set_cons_zero, List.set_cons_succ]
            refine Goes.one (i := 12) (o := { dst := some 10, op := _, type := _, pos := _, after := _, guard := _ }) (by kernel_rfl) rfl (fun K hK => ?_)
            go_simp
            refine hK.out _ _ (HT4.out (hs.zero).1) ?_
            clear hK K
            try simp only [Act.put, List.setIfInBounds_toArray, List.set_cons_zero, List.set_cons_succ]
            have Fg10 := hid hs.fresh
            have hs32 := hs.zero
            clear hs
            generalize wn31.alloc (.cells #[.int .u64 0, .int .u64 0, .int .u64 0, .int .u64 0] 24) = wn32 at *
            generalize wn31.heap.size = g10 at *
            have hs := hs32
            clear hs32
            refine Goes.one (i := 13) (o := { dst := none, op := _, type := _, pos := _, after := _, guard := _ }) (by kernel_rfl) rfl (fun K hK => ?_)
            obtain ⟨z0, z1, z2, z3⟩ := hs.cell g9 0 (by simp)
            have zl := hs.lt g9 0 (by simp)
            have zf := hs.frozen g9 0 (by simp)
            have hs33 := hs.set g9 0 (lo) [(g10, 0), (g7, s)] (by simp) Fg9.out.1 (fun p hp => by simp only [List.mem_cons, List.not_mem_nil, or_false] at hp; rcases hp with rfl | rfl <;> first | exact ⟨by simp, (Ne.symm (Fg10.out.2 (g9, 0) (by simp)))⟩ | exact ⟨by simp, (Fg9.out.2 (g7, s) (by simp))⟩)
            go_simp
            refine hK.out _ _ (HT4.out (hs33).1) ?_
            clear hK K
            try simp only [Act.put, List.setIfInBounds_toArray, List.set_cons_zero, List.set_cons_succ]
            clear hs z0 z1 z2 z3 zl zf
            change Goes _ _ _ _ _ _ _ _ (fil wn32 g9 (lo))
            generalize fil wn32 g9 (lo) = wn33 at *
            have hs := hs33
            clear hs33
            refine Goes.one (i := 14) (o := { dst := none, op := _, type := _, pos := _, after := _, guard := _ }) (by kernel_rfl) rfl (fun K hK => ?_)
            obtain ⟨z0, z1, z2, z3⟩ := hs.cell g10 0 (by simp)
            have zl := hs.lt g10 0 (by simp)
            have zf := hs.frozen g10 0 (by simp)
            have hs34 := hs.set g10 0 (hi) [(g9, lo), (g7, s)] (by simp) Fg10.out.1 (fun p hp => by simp only [List.mem_cons, List.not_mem_nil, or_false] at hp; rcases hp with rfl | rfl <;> first | exact ⟨by simp, (Fg10.out.2 (g9, 0) (by simp))⟩ | exact ⟨by simp, (Fg10.out.2 (g7, s) (by simp))⟩)
            go_simp
            refine hK.out _ _ (HT4.out (hs34).1) ?_
            clear hK K
            try simp only [Act.put, List.setIfInBounds_toArray, List.set_cons_zero, List.set_cons_succ]
            clear hs z0 z1 z2 z3 zl zf
            change Goes _ _ _ _ _ _ _ _ (fil wn33 g10 (hi))
            generalize fil wn33 g10 (hi) = wn34 at *
            have hs := hs34
            clear hs34
            refine Goes.done (by kernel_rfl) ?_ _
            refine NoPanic.normal ?_
            go_wp2_with fail
            go_meet
            exact ⟨_, _, rfl, rfl, hid (hs.perm (by simp))⟩
          · skip
            go_simp
            refine hK.out _ _ (HT4.out (hs.zero).1) ?_
            clear hK K
            try simp only [Act.put, List.setIfInBounds_toArray, List.set_cons_zero, List.set_cons_succ]
            have Fg10 := hid hs.fresh
            have hs35 := hs.zero
            clear hs
            generalize wn30.alloc (.cells #[.int .u64 0, .int .u64 0, .int .u64 0, .int .u64 0] 24) = wn35 at *
            generalize wn30.heap.size = g10 at *
            have hs := hs35
            clear hs35
            refine Goes.one (i := 7) (o := { dst := some 46, op := _, type := _, pos := _, after := _, guard := _ }) (by kernel_rfl) rfl (fun K hK => ?_)
            go_simp
            with_reducible refine (mul_at m (1 + k) lo hi hs HM.out (by have := HKK.out; exact Nat.lt_of_le_of_lt (show 1 + k ≤ 65536 by omega) (by decide)) HELO.out HEHI.out).mono ?_
            rintro e wn36 ⟨rfl, hs36⟩
            go_wp2_with fail
            refine hK.out _ _ (HT4.out (hs36).1) ?_
            clear hK K
            try simp only [Act.put, List.setIfInBounds_toArray, List.set_cons_zero, List.set_cons_succ]
            clear hs
            have hs := hs36
            clear hs36
            refine Goes.take (i := 8) (o := { dst := some 38, op := _, type := _, pos := _, after := _, guard := _ }) (v := ?_) [] rfl (by kernel_rfl) (by kernel_rfl) (by kernel_rfl) (fun _ _ _ h => h) (by kernel_rfl) (fun L u h => h) (Or.inl ⟨by rfl, ?_⟩) (HT4.out (hs).1) ?_
            rotate_left
            · intro w hY; go_simp; try with_reducible rfl
            try simp only [Act.put, List.setIfInBounds_toArray, List.set_cons_zero, List.set_cons_succ]
            refine Goes.take (i := 9) (o := { dst := some 47, op := _, type := _, pos := _, after := _, guard := _ }) (v := ?_) [] rfl (by kernel_rfl) (by kernel_rfl) (by kernel_rfl) (fun _ _ _ h => h) (by kernel_rfl) (fun L u h => h) (Or.inl ⟨by rfl, ?_⟩) (HT4.out (hs).1) ?_
            rotate_left
            · intro w hY; go_simp; try with_reducible rfl
            try simp only [Act.put, List.setIfInBounds_toArray, List.set_cons_zero, List.set_cons_succ]
            refine Goes.take (i := 10) (o := { dst := some 48, op := _, type := _, pos := _, after := _, guard := _ }) (v := ?_) [] rfl (by kernel_rfl) (by kernel_rfl) (by kernel_rfl) (fun _ _ _ h => h) (by kernel_rfl) (fun L u h => h) (Or.inl ⟨by rfl, ?_⟩) (HT4.out (hs).1) ?_
            rotate_left
            · intro w hY; go_simp; try with_reducible rfl
            try simp only [Act.put, List.setIfInBounds_toArray, List.set_cons_zero, List.set_cons_succ]
            refine Goes.one (i := 13) (o := { dst := none, op := _, type := _, pos := _, after := _, guard := _ }) (by kernel_rfl) rfl (fun K hK => ?_)
            obtain ⟨z0, z1, z2, z3⟩ := hs.cell g9 0 (by simp)
            have zl := hs.lt g9 0 (by simp)
            have zf := hs.frozen g9 0 (by simp)
            have hs37 := hs.set g9 0 (lo) [(g10, 0), (g7, s)] (by simp) Fg9.out.1 (fun p hp => by simp only [List.mem_cons, List.not_mem_nil, or_false] at hp; rcases hp with rfl | rfl <;> first | exact ⟨by simp, (Ne.symm (Fg10.out.2 (g9, 0) (by simp)))⟩ | exact ⟨by simp, (Fg9.out.2 (g7, s) (by simp))⟩)
            go_simp
            refine hK.out _ _ (HT4.out (hs37).1) ?_
            clear hK K
            try simp only [Act.put, List.setIfInBounds_toArray, List.set_cons_zero, List.set_cons_succ]
            clear hs z0 z1 z2 z3 zl zf
            change Goes _ _ _ _ _ _ _ _ (fil wn36 g9 (lo))
            generalize fil wn36 g9 (lo) = wn37 at *
            have hs := hs37
            clear hs37
            refine Goes.one (i := 14) (o := { dst := none, op := _, type := _, pos := _, after := _, guard := _ }) (by kernel_rfl) rfl (fun K hK => ?_)
            obtain ⟨z0, z1, z2, z3⟩ := hs.cell g10 0 (by simp)
            have zl := hs.lt g10 0 (by simp)
            have zf := hs.frozen g10 0 (by simp)
            have hs38 := hs.set g10 0 (hi) [(g9, lo), (g7, s)] (by simp) Fg10.out.1 (fun p hp => by simp only [List.mem_cons, List.not_mem_nil, or_false] at hp; rcases hp with rfl | rfl <;> first | exact ⟨by simp, (Fg10.out.2 (g9, 0) (by simp))⟩ | exact ⟨by simp, (Fg10.out.2 (g7, s) (by simp))⟩)
            go_simp
            refine hK.out _ _ (HT4.out (hs38).1) ?_
            clear hK K
            try simp only [Act.put, List.setIfInBounds_toArray, List.set_cons_zero, List.set_cons_succ]
            clear hs z0 z1 z2 z3 zl zf
            change Goes _ _ _ _ _ _ _ _ (fil wn37 g10 (hi))
            generalize fil wn37 g10 (hi) = wn38 at *
            have hs := hs38
            clear hs38
            refine Goes.done (by kernel_rfl) ?_ _
            refine NoPanic.normal ?_
            go_wp2_with fail
            go_meet
            exact ⟨_, _, rfl, rfl, hid (hs.perm (by simp))⟩
        · skip
          go_simp
          refine hK.out _ _ (HT4.out (hs.zero).1) ?_
          clear hK K
          try simp only [Act.put, List.setIfInBounds_toArray, List.set_cons_zero, List.set_cons_succ]
          have Fg10 := hid hs.fresh
          have hs39 := hs.zero
          clear hs
          generalize wn29.alloc (.cells #[.int .u64 0, .int .u64 0, .int .u64 0, .int .u64 0] 24) = wn39 at *
          generalize wn29.heap.size = g10 at *
          have hs := hs39
          clear hs39
          refine Goes.one (i := 6) (o := { dst := some 45, op := _, type := _, pos := _, after := _, guard := _ }) (by kernel_rfl) rfl (fun K hK => ?_)
          go_simp
          with_reducible refine (lof_at (1 + k) (1 + (k : Int)) hs (by have := HKK.out; omega) (by omega)).mono ?_
          rintro e wn40 ⟨rfl, hs40⟩
          go_wp2_with fail
          refine hK.out _ _ (HT4.out (hs40).1) ?_
          clear hK K
          try simp only [Act.put, List.setIfInBounds_toArray, List.set_cons_zero, List.set_cons_succ]
          clear hs
          have hs := hs40
          clear hs40
          refine Goes.one (i := 7) (o := { dst := some 46, op := _, type := _, pos := _, after := _, guard := _ }) (by kernel_rfl) rfl (fun K hK => ?_)
          go_simp
          with_reducible refine (mul_at m (1 + k) lo hi hs HM.out (by have := HKK.out; exact Nat.lt_of_le_of_lt (show 1 + k ≤ 65536 by omega) (by decide)) HELO.out HEHI.out).mono ?_
          rintro e wn41 ⟨rfl, hs41⟩
          go_wp2_with fail
          refine hK.out _ _ (HT4.out (hs41).1) ?_
          clear hK K
          try simp only [Act.put, List.setIfInBounds_toArray, List.set_cons_zero, List.set_cons_succ]
          clear hs
          have hs := hs41
          clear hs41
          refine Goes.take (i := 8) (o := { dst := some 38, op := _, type := _, pos := _, after := _, guard := _ }) (v := ?_) [] rfl (by kernel_rfl) (by kernel_rfl) (by kernel_rfl) (fun _ _ _ h => h) (by kernel_rfl) (fun L u h => h) (Or.inl ⟨by rfl, ?_⟩) (HT4.out (hs).1) ?_
          rotate_left
          · intro w hY; go_simp; try with_reducible rfl
          try simp only [Act.put, List.setIfInBounds_toArray, List.set_cons_zero, List.set_cons_succ]
          refine Goes.take (i := 9) (o := { dst := some 47, op := _, type := _, pos := _, after := _, guard := _ }) (v := ?_) [] rfl (by kernel_rfl) (by kernel_rfl) (by kernel_rfl) (fun _ _ _ h => h) (by kernel_rfl) (fun L u h => h) (Or.inl ⟨by rfl, ?_⟩) (HT4.out (hs).1) ?_
          rotate_left
          · intro w hY; go_simp; try with_reducible rfl
          try simp only [Act.put, List.setIfInBounds_toArray, List.set_cons_zero, List.set_cons_succ]
          refine Goes.take (i := 10) (o := { dst := some 48, op := _, type := _, pos := _, after := _, guard := _ }) (v := ?_) [] rfl (by kernel_rfl) (by kernel_rfl) (by kernel_rfl) (fun _ _ _ h => h) (by kernel_rfl) (fun L u h => h) (Or.inl ⟨by rfl, ?_⟩) (HT4.out (hs).1) ?_
          rotate_left
          · intro w hY; go_simp; try with_reducible rfl
          try simp only [Act.put, List.setIfInBounds_toArray, List.set_cons_zero, List.set_cons_succ]
          refine Goes.one (i := 13) (o := { dst := none, op := _, type := _, pos := _, after := _, guard := _ }) (by kernel_rfl) rfl (fun K hK => ?_)
          obtain ⟨z0, z1, z2, z3⟩ := hs.cell g9 0 (by simp)
          have zl := hs.lt g9 0 (by simp)
          have zf := hs.frozen g9 0 (by simp)
          have hs42 := hs.set g9 0 (lo) [(g10, 0), (g7, s)] (by simp) Fg9.out.1 (fun p hp => by simp only [List.mem_cons, List.not_mem_nil, or_false] at hp; rcases hp with rfl | rfl <;> first | exact ⟨by simp, (Ne.symm (Fg10.out.2 (g9, 0) (by simp)))⟩ | exact ⟨by simp, (Fg9.out.2 (g7, s) (by simp))⟩)
          go_simp
          refine hK.out _ _ (HT4.out (hs42).1) ?_
          clear hK K
          try simp only [Act.put, List.setIfInBounds_toArray, List.set_cons_zero, List.set_cons_succ]
          clear hs z0 z1 z2 z3 zl zf
          change Goes _ _ _ _ _ _ _ _ (fil wn41 g9 (lo))
          generalize fil wn41 g9 (lo) = wn42 at *
          have hs := hs42
          clear hs42
          refine Goes.one (i := 14) (o := { dst := none, op := _, type := _, pos := _, after := _, guard := _ }) (by kernel_rfl) rfl (fun K hK => ?_)
          obtain ⟨z0, z1, z2, z3⟩ := hs.cell g10 0 (by simp)
          have zl := hs.lt g10 0 (by simp)
          have zf := hs.frozen g10 0 (by simp)
          have hs43 := hs.set g10 0 (hi) [(g9, lo), (g7, s)] (by simp) Fg10.out.1 (fun p hp => by simp only [List.mem_cons, List.not_mem_nil, or_false] at hp; rcases hp with rfl | rfl <;> first | exact ⟨by simp, (Fg10.out.2 (g9, 0) (by simp))⟩ | exact ⟨by simp, (Fg10.out.2 (g7, s) (by simp))⟩)
          go_simp
          refine hK.out _ _ (HT4.out (hs43).1) ?_
          clear hK K
          try simp only [Act.put, List.setIfInBounds_toArray, List.set_cons_zero, List.set_cons_succ]
          clear hs z0 z1 z2 z3 zl zf
          change Goes _ _ _ _ _ _ _ _ (fil wn42 g10 (hi))
          generalize fil wn42 g10 (hi) = wn43 at *
          have hs := hs43
          clear hs43
          refine Goes.done (by kernel_rfl) ?_ _
          refine NoPanic.normal ?_
          go_wp2_with fail
          go_meet
          exact ⟨_, _, rfl, rfl, hid (hs.perm (by simp))⟩
      · skip
        go_simp
        refine hK.out _ _ (HT4.out (hs.zero).1) ?_
        clear hK K
        try simp only [Act.put, List.setIfInBounds_toArray, List.set_cons_zero, List.set_cons_succ]
        have Fg10 := hid hs.fresh
        have hs44 := hs.zero
        clear hs
        generalize wd.alloc (.cells #[.int .u64 0, .int .u64 0, .int .u64 0, .int .u64 0] 24) = wn44 at *
        generalize wd.heap.size = g10 at *
        have hs := hs44
        clear hs44
        refine Goes.two (i := 6) (j := 11) (o := { dst := some 45, op := _, type := _, pos := _, after := _, guard := _ }) (p := { dst := some 9, op := _, type := _, pos := _, after := _, guard := _ }) (by kernel_rfl) rfl rfl (fun K hK => ?_) (fun K hK => ?_)
        · skip
          go_simp
          with_reducible refine (lof_at (1 + k) (1 + (k : Int)) hs (by have := HKK.out; omega) (by omega)).mono ?_
          rintro e wn45 ⟨rfl, hs45⟩
          go_wp2_with fail
          refine hK.out _ _ (HT4.out (hs45).1) ?_
          clear hK K
          try simp only [Act.put, List.setIfInBounds_toArray, List.set_cons_zero, List.set_cons_succ]
          clear hs
          have hs := hs45
          clear hs45
          refine Goes.two (i := 7) (j := 11) (o := { dst := some 46, op := _, type := _, pos := _, after := _, guard := _ }) (p := { dst := some 9, op := _, type := _, pos := _, after := _, guard := _ }) (by kernel_rfl) rfl rfl (fun K hK => ?_) (fun K hK => ?_)
          · skip
            go_simp
            with_reducible refine (mul_at m (1 + k) lo hi hs HM.out (by have := HKK.out; exact Nat.lt_of_le_of_lt (show 1 + k ≤ 65536 by omega) (by decide)) HELO.out HEHI.out).mono ?_
            rintro e wn46 ⟨rfl, hs46⟩
            go_wp2_with fail
            refine hK.out _ _ (HT4.out (hs46).1) ?_
            clear hK K
            try simp only [Act.put, List.setIfInBounds_toArray, List.set_cons_zero, List.set_cons_succ]
            clear hs
            have hs := hs46
            clear hs46
            refine Goes.take (i := 8) (o := { dst := some 38, op := _, type := _, pos := _, after := _, guard := _ }) (v := ?_) [] rfl (by kernel_rfl) (by kernel_rfl) (by kernel_rfl) (fun _ _ _ h => h) (by kernel_rfl) (fun L u h => h) (Or.inl ⟨by rfl, ?_⟩) (HT4.out (hs).1) ?_
            rotate_left
            · intro w hY; go_simp; try with_reducible rfl
            try simp only [Act.put, List.setIfInBounds_toArray, List.set_cons_zero, List.set_cons_succ]
            refine Goes.take (i := 9) (o := { dst := some 47, op := _, type := _, pos := _, after := _, guard := _ }) (v := ?_) [] rfl (by kernel_rfl) (by kernel_rfl) (by kernel_rfl) (fun _ _ _ h => h) (by kernel_rfl) (fun L u h => h) (Or.inl ⟨by rfl, ?_⟩) (HT4.out (hs).1) ?_
            rotate_left
            · intro w hY; go_simp; try with_reducible rfl
            try simp only [Act.put, List.setIfInBounds_toArray, List.set_cons_zero, List.set_cons_succ]
            refine Goes.take (i := 10) (o := { dst := some 48, op := _, type := _, pos := _, after := _, guard := _ }) (v := ?_) [] rfl (by kernel_rfl) (by kernel_rfl) (by kernel_rfl) (fun _ _ _ h => h) (by kernel_rfl) (fun L u h => h) (Or.inl ⟨by rfl, ?_⟩) (HT4.out (hs).1) ?_
            rotate_left
            · intro w hY; go_simp; try with_reducible rfl
            try simp only [Act.put, List.setIfInBounds_toArray, List.set_cons_zero, List.set_cons_succ]
            refine Goes.one (i := 11) (o := { dst := some 9, op := _, type := _, pos := _, after := _, guard := _ }) (by kernel_rfl) rfl (fun K hK => ?_)
            go_simp
            refine hK.out _ _ (HT4.out (hs.zero).1) ?_
            clear hK K
            try simp only [Act.put, List.setIfInBounds_toArray, List.set_cons_zero, List.set_cons_succ]
            have Fg9 := hid hs.fresh
            have hs47 := hs.zero
            clear hs
            generalize wn46.alloc (.cells #[.int .u64 0, .int .u64 0, .int .u64 0, .int .u64 0] 24) = wn47 at *
            generalize wn46.heap.size = g9 at *
            have hs := hs47
            clear hs47
            refine Goes.one (i := 13) (o := { dst := none, op := _, type := _, pos := _, after := _, guard := _ }) (by kernel_rfl) rfl (fun K hK => ?_)
            obtain ⟨z0, z1, z2, z3⟩ := hs.cell g9 0 (by simp)
            have zl := hs.lt g9 0 (by simp)
            have zf := hs.frozen g9 0 (by simp)
            have hs48 := hs.set g9 0 (lo) [(g10, 0), (g7, s)] (by simp) Fg9.out.1 (fun p hp => by simp only [List.mem_cons, List.not_mem_nil, or_false] at hp; rcases hp with rfl | rfl <;> first | exact ⟨by simp, (Fg9.out.2 (g10, 0) (by simp))⟩ | exact ⟨by simp, (Fg9.out.2 (g7, s) (by simp))⟩)
            go_simp
            refine hK.out _ _ (HT4.out (hs48).1) ?_
            clear hK K
            try simp only [Act.put, List.setIfInBounds_toArray, List.set_cons_zero, List.set_cons_succ]
            clear hs z0 z1 z2 z3 zl zf
            change Goes _ _ _ _ _ _ _ _ (fil wn47 g9 (lo))
            generalize fil wn47 g9 (lo) = wn48 at *
            have hs := hs48
            clear hs48
            refine Goes.one (i := 14) (o := { dst := none, op := _, type := _, pos := _, after := _, guard := _ }) (by kernel_rfl) rfl (fun K hK => ?_)
            obtain ⟨z0, z1, z2, z3⟩ := hs.cell g10 0 (by simp)
            have zl := hs.lt g10 0 (by simp)
            have zf := hs.frozen g10 0 (by simp)
            have hs49 := hs.set g10 0 (hi) [(g9, lo), (g7, s)] (by simp) Fg10.out.1 (fun p hp => by simp only [List.mem_cons, List.not_mem_nil, or_false] at hp; rcases hp with rfl | rfl <;> first | exact ⟨by simp, (Ne.symm (Fg9.out.2 (g10, 0) (by simp)))⟩ | exact ⟨by simp, (Fg10.out.2 (g7, s) (by simp))⟩)
            go_simp
            refine hK.out _ _ (HT4.out (hs49).1) ?_
            clear hK K
            try simp only [Act.put, List.setIfInBounds_toArray, List.set_cons_zero, List.set_cons_succ]
            clear hs z0 z1 z2 z3 zl zf
            change Goes _ _ _ _ _ _ _ _ (fil wn48 g10 (hi))
            generalize fil wn48 g10 (hi) = wn49 at *
            have hs := hs49
            clear hs49
            refine Goes.done (by kernel_rfl) ?_ _
            refine NoPanic.normal ?_
            go_wp2_with fail
            go_meet
            exact ⟨_, _, rfl, rfl, hid (hs.perm (by simp))⟩
          · skip
            go_simp
            refine hK.out _ _ (HT4.out (hs.zero).1) ?_
            clear hK K
            try simp only [Act.put, List.setIfInBounds_toArray, List.set_cons_zero, List.set_cons_succ]
            have Fg9 := hid hs.fresh
            have hs50 := hs.zero
            clear hs
            generalize wn45.alloc (.cells #[.int .u64 0, .int .u64 0, .int .u64 0, .int .u64 0] 24) = wn50 at *
            generalize wn45.heap.size = g9 at *
            have hs := hs50
            clear hs50
            refine Goes.one (i := 7) (o := { dst := some 46, op := _, type := _, pos := _, after := _, guard := _ }) (by kernel_rfl) rfl (fun K hK => ?_)
            go_simp
            with_reducible refine (mul_at m (1 + k) lo hi hs HM.out (by have := HKK.out; exact Nat.lt_of_le_of_lt (show 1 + k ≤ 65536 by omega) (by decide)) HELO.out HEHI.out).mono ?_
            rintro e wn51 ⟨rfl, hs51⟩
            go_wp2_with fail
            refine hK.out _ _ (HT4.out (hs51).1) ?_
            clear hK K
            try simp only [Act.put, List.setIfInBounds_toArray, List.set_cons_zero, List.set_cons_succ]
            clear hs
            have hs := hs51
            clear hs51
            refine Goes.take (i := 8) (o := { dst := some 38, op := _, type := _, pos := _, after := _, guard := _ }) (v := ?_) [] rfl (by kernel_rfl) (by kernel_rfl) (by kernel_rfl) (fun _ _ _ h => h) (by kernel_rfl) (fun L u h => h) (Or.inl ⟨by rfl, ?_⟩) (HT4.out (hs).1) ?_
            rotate_left
            · intro w hY; go_simp; try with_reducible rfl
            try simp only [Act.put, List.setIfInBounds_toArray, List.set_cons_zero, List.set_cons_succ]
            refine Goes.take (i := 9) (o := { dst := some 47, op := _, type := _, pos := _, after := _, guard := _ }) (v := ?_) [] rfl (by kernel_rfl) (by kernel_rfl) (by kernel_rfl) (fun _ _ _ h => h) (by kernel_rfl) (fun L u h => h) (Or.inl ⟨by rfl, ?_⟩) (HT4.out (hs).1) ?_
            rotate_left
            · intro w hY; go_simp; try with_reducible rfl
            try simp only [Act.put, List.setIfInBounds_toArray, List.set_cons_zero, List.set_cons_succ]
            refine Goes.take (i := 10) (o := { dst := some 48, op := _, type := _, pos := _, after := _, guard := _ }) (v := ?_) [] rfl (by kernel_rfl) (by kernel_rfl) (by kernel_rfl) (fun _ _ _ h => h) (by kernel_rfl) (fun L u h => h) (Or.inl ⟨by rfl, ?_⟩) (HT4.out (hs).1) ?_
            rotate_left
            · intro w hY; go_simp; try with_reducible rfl
            try simp only [Act.put, List.setIfInBounds_toArray, List.set_cons_zero, List.set_cons_succ]
            refine Goes.one (i := 13) (o := { dst := none, op := _, type := _, pos := _, after := _, guard := _ }) (by kernel_rfl) rfl (fun K hK => ?_)
            obtain ⟨z0, z1, z2, z3⟩ := hs.cell g9 0 (by simp)
            have zl := hs.lt g9 0 (by simp)
            have zf := hs.frozen g9 0 (by simp)
            have hs52 := hs.set g9 0 (lo) [(g10, 0), (g7, s)] (by simp) Fg9.out.1 (fun p hp => by simp only [List.mem_cons, List.not_mem_nil, or_false] at hp; rcases hp with rfl | rfl <;> first | exact ⟨by simp, (Fg9.out.2 (g10, 0) (by simp))⟩ | exact ⟨by simp, (Fg9.out.2 (g7, s) (by simp))⟩)
            go_simp
            refine hK.out _ _ (HT4.out (hs52).1) ?_
            clear hK K
            try simp only [Act.put, List.setIfInBounds_toArray, List.set_cons_zero, List.set_cons_succ]
            clear hs z0 z1 z2 z3 zl zf
            change Goes _ _ _ _ _ _ _ _ (fil wn51 g9 (lo))
            generalize fil wn51 g9 (lo) = wn52 at *
            have hs := hs52
            clear hs52
            refine Goes.one (i := 14) (o := { dst := none, op := _, type := _, pos := _, after := _, guard := _ }) (by kernel_rfl) rfl (fun K hK => ?_)
            obtain ⟨z0, z1, z2, z3⟩ := hs.cell g10 0 (by simp)
            have zl := hs.lt g10 0 (by simp)
            have zf := hs.frozen g10 0 (by simp)
            have hs53 := hs.set g10 0 (hi) [(g9, lo), (g7, s)] (by simp) Fg10.out.1 (fun p hp => by simp only [List.mem_cons, List.not_mem_nil, or_false] at hp; rcases hp with rfl | rfl <;> first | exact ⟨by simp, (Ne.symm (Fg9.out.2 (g10, 0) (by simp)))⟩ | exact ⟨by simp, (Fg10.out.2 (g7, s) (by simp))⟩)
            go_simp
            refine hK.out _ _ (HT4.out (hs53).1) ?_
            clear hK K
            try simp only [Act.put, List.setIfInBounds_toArray, List.set_cons_zero, List.set_cons_succ]
            clear hs z0 z1 z2 z3 zl zf
            change Goes _ _ _ _ _ _ _ _ (fil wn52 g10 (hi))
            generalize fil wn52 g10 (hi) = wn53 at *
            have hs := hs53
            clear hs53
            refine Goes.done (by kernel_rfl) ?_ _
            refine NoPanic.normal ?_
            go_wp2_with fail
            go_meet
            exact ⟨_, _, rfl, rfl, hid (hs.perm (by simp))⟩
        · skip
          go_simp
          refine hK.out _ _ (HT4.out (hs.zero).1) ?_
          clear hK K
          try simp only [Act.put, List.setIfInBounds_toArray, List.set_cons_zero, List.set_cons_succ]
          have Fg9 := hid hs.fresh
          have hs54 := hs.zero
          clear hs
          generalize wn44.alloc (.cells #[.int .u64 0, .int .u64 0, .int .u64 0, .int .u64 0] 24) = wn54 at *
          generalize wn44.heap.size = g9 at *
          have hs := hs54
          clear hs54
          refine Goes.one (i := 6) (o := { dst := some 45, op := _, type := _, pos := _, after := _, guard := _ }) (by kernel_rfl) rfl (fun K hK => ?_)
          go_simp
          with_reducible refine (lof_at (1 + k) (1 + (k : Int)) hs (by have := HKK.out; omega) (by omega)).mono ?_
          rintro e wn55 ⟨rfl, hs55⟩
          go_wp2_with fail
          refine hK.out _ _ (HT4.out (hs55).1) ?_
          clear hK K
          try simp only [Act.put, List.setIfInBounds_toArray, List.set_cons_zero, List.set_cons_succ]
          clear hs
          have hs := hs55
          clear hs55
          refine Goes.one (i := 7) (o := { dst := some 46, op := _, type := _, pos := _, after := _, guard := _ }) (by kernel_rfl) rfl (fun K hK => ?_)
          go_simp
          with_reducible refine (mul_at m (1 + k) lo hi hs HM.out (by have := HKK.out; exact Nat.lt_of_le_of_lt (show 1 + k ≤ 65536 by omega) (by decide)) HELO.out HEHI.out).mono ?_
          rintro e wn56 ⟨rfl, hs56⟩
          go_wp2_with fail
          refine hK.out _ _ (HT4.out (hs56).1) ?_
          clear hK K
          try simp only [Act.put, List.setIfInBounds_toArray, List.set_cons_zero, List.set_cons_succ]
          clear hs
          have hs := hs56
          clear hs56
          refine Goes.take (i := 8) (o := { dst := some 38, op := _, type := _, pos := _, after := _, guard := _ }) (v := ?_) [] rfl (by kernel_rfl) (by kernel_rfl) (by kernel_rfl) (fun _ _ _ h => h) (by kernel_rfl) (fun L u h => h) (Or.inl ⟨by rfl, ?_⟩) (HT4.out (hs).1) ?_
          rotate_left
          · intro w hY; go_simp; try with_reducible rfl
          try simp only [Act.put, List.setIfInBounds_toArray, List.set_cons_zero, List.set_cons_succ]
          refine Goes.take (i := 9) (o := { dst := some 47, op := _, type := _, pos := _, after := _, guard := _ }) (v := ?_) [] rfl (by kernel_rfl) (by kernel_rfl) (by kernel_rfl) (fun _ _ _ h => h) (by kernel_rfl) (fun L u h => h) (Or.inl ⟨by rfl, ?_⟩) (HT4.out (hs).1) ?_
          rotate_left
          · intro w hY; go_simp; try with_reducible rfl
          try simp only [Act.put, List.setIfInBounds_toArray, List.set_cons_zero, List.set_cons_succ]
          refine Goes.take (i := 10) (o := { dst := some 48, op := _, type := _, pos := _, after := _, guard := _ }) (v := ?_) [] rfl (by kernel_rfl) (by kernel_rfl) (by kernel_rfl) (fun _ _ _ h => h) (by kernel_rfl) (fun L u h => h) (Or.inl ⟨by rfl, ?_⟩) (HT4.out (hs).1) ?_
          rotate_left
          · intro w hY; go_simp; try with_reducible rfl
          try simp only [Act.put, List.setIfInBounds_toArray, List.set_cons_zero, List.set_cons_succ]
          refine Goes.one (i := 13) (o := { dst := none, op := _, type := _, pos := _, after := _, guard := _ }) (by kernel_rfl) rfl (fun K hK => ?_)
          obtain ⟨z0, z1, z2, z3⟩ := hs.cell g9 0 (by simp)
          have zl := hs.lt g9 0 (by simp)
          have zf := hs.frozen g9 0 (by simp)
          have hs57 := hs.set g9 0 (lo) [(g10, 0), (g7, s)] (by simp) Fg9.out.1 (fun p hp => by simp only [List.mem_cons, List.not_mem_nil, or_false] at hp; rcases hp with rfl | rfl <;> first | exact ⟨by simp, (Fg9.out.2 (g10, 0) (by simp))⟩ | exact ⟨by simp, (Fg9.out.2 (g7, s) (by simp))⟩)
          go_simp
          refine hK.out _ _ (HT4.out (hs57).1) ?_
          clear hK K
          try simp only [Act.put, List.setIfInBounds_toArray, List.set_cons_zero, List.set_cons_succ]
          clear hs z0 z1 z2 z3 zl zf
          change Goes _ _ _ _ _ _ _ _ (fil wn56 g9 (lo))
          generalize fil wn56 g9 (lo) = wn57 at *
          have hs := hs57
          clear hs57
          refine Goes.one (i := 14) (o := { dst := none, op := _, type := _, pos := _, after := _, guard := _ }) (by kernel_rfl) rfl (fun K hK => ?_)
          obtain ⟨z0, z1, z2, z3⟩ := hs.cell g10 0 (by simp)
          have zl := hs.lt g10 0 (by simp)
          have zf := hs.frozen g10 0 (by simp)
          have hs58 := hs.set g10 0 (hi) [(g9, lo), (g7, s)] (by simp) Fg10.out.1 (fun p hp => by simp only [List.mem_cons, List.not_mem_nil, or_false] at hp; rcases hp with rfl | rfl <;> first | exact ⟨by simp, (Ne.symm (Fg9.out.2 (g10, 0) (by simp)))⟩ | exact ⟨by simp, (Fg10.out.2 (g7, s) (by simp))⟩)
          go_simp
          refine hK.out _ _ (HT4.out (hs58).1) ?_
          clear hK K
          try simp only [Act.put, List.setIfInBounds_toArray, List.set_cons_zero, List.set_cons_succ]
          clear hs z0 z1 z2 z3 zl zf
          change Goes _ _ _ _ _ _ _ _ (fil wn57 g10 (hi))
          generalize fil wn57 g10 (hi) = wn58 at *
          have hs := hs58
          clear hs58
          refine Goes.done (by kernel_rfl) ?_ _
          refine NoPanic.normal ?_
          go_wp2_with fail
          go_meet
          exact ⟨_, _, rfl, rfl, hid (hs.perm (by simp))⟩
    case rest =>
      obtain ⟨g9, g10, rfl, rfl, H3c⟩ := hcut
      clear H2b hw1 hw2
      obtain ⟨t0, t1, t2, t3, t4⟩ := HT.out.at H3c.out.1
      obtain ⟨c0x3a, c0x3b, c0x3c, c0x3d⟩ := H3c.out.cell (g7) (s) (by simp)
      have c0x3l := H3c.out.lt (g7) (s) (by simp)
      have c0x3m := Nat.le_of_lt c0x3l
      go_wp2_with fail
      clear c0x3a c0x3b c0x3c c0x3d c0x3l c0x3m
      clear t0 t1 t2 t3 t4
      refine (cmp_at s m (-1) H3c.out (Nat.lt_trans (HSL.out HM0.out) HM.out) HM.out (nu_less s m (HSL.out HM0.out))).mono ?_
      rintro e w4 ⟨rfl, h⟩
      have H4 := hid h
      clear h H3c
      obtain ⟨c0x4a, c0x4b, c0x4c, c0x4d⟩ := H4.out.cell (g10) (hi) (by simp)
      have c0x4l := H4.out.lt (g10) (hi) (by simp)
      have c0x4m := Nat.le_of_lt c0x4l
      by_cases hz : hi = 0
      rotate_left
      · have q1 := eq_none hi HHI.out hz
        go_wp2
        go_ret
        exact ⟨rfl, HWB.out.trans (H4.out.1.mono HWB.out.size)⟩
      have q1 : ∀ W : World, (Op.equalIn 10000 24 (num hi) (.agg #[.int .u64 0, .int .u64 0, .int .u64 0, .int .u64 0])).run Tryd.prog W = .ok true W := fun W => by rw [hz]; exact eq_none_yes W
      have HLZ1 := hid (HLZ.out hz HM0.out)
      have HMOD1 := hid (HMOD.out hz)
      clear hz
      obtain ⟨c6x4a, c6x4b, c6x4c, c6x4d⟩ := H4.out.cell (g9) (lo) (by simp)
      have c6x4l := H4.out.lt (g9) (lo) (by simp)
      have c6x4m := Nat.le_of_lt c6x4l
      go_wp2_with fail
      clear q1
      clear c0x4a c0x4b c0x4c c0x4d c0x4l c0x4m c6x4a c6x4b c6x4c c6x4d c6x4l c6x4m
      refine (env_of (number_any st a0 n0 c0 A L C xs lo s2 0 _ HLO.out ((on_rws HR0.out).at H4.out.1) ((on_kt HK0.out).at H4.out.1) HN.out HL.out HS.out HC.out H0A.out (by rw [if_neg HLZ1.out]; exact HS2.out) (by rw [if_neg HLZ1.out])) H4.out).mono ?_
      rintro e w5 ⟨rfl, h⟩
      have H5 := hid h
      clear h H4
      go_upto_region 10 with fail
      have H5b := hid (H5.out.new s2)
      clear H5
      generalize w5.alloc (.cells (cls s2) 24) = w5b at *
      generalize w5.heap.size = g11 at *
      obtain ⟨t0, t1, t2, t3, t4⟩ := HT.out.at H5b.out.1
      obtain ⟨c0x5a, c0x5b, c0x5c, c0x5d⟩ := H5b.out.cell (g11) (s2) (by simp)
      have c0x5l := H5b.out.lt (g11) (s2) (by simp)
      have c0x5m := Nat.le_of_lt c0x5l
      go_wp2_with fail
      clear c0x5a c0x5b c0x5c c0x5d c0x5l c0x5m
      clear t0 t1 t2 t3 t4
      refine (div_at s2 m q s H5b.out (HS2.out ▸ nof_lt2 _ _ _ lo HLO.out HLZ1.out) HM.out HM0.out HQ.out HMOD1.out).mono ?_
      rintro e w6 ⟨rfl, h⟩
      have H6 := hid h
      clear h H5b
      go_upto_region 11 with fail
      have H6b := hid (H6.out.new2 q s)
      clear H6
      generalize (w6.alloc (.cells (cls q) 24)).alloc (.cells (cls s) 24) = w6b at *
      generalize w6.heap.size + 1 = g13s at *
      generalize w6.heap.size = g13 at *
      have qs := fun W : World => eq_yes s s rfl W
      obtain ⟨c0x6a, c0x6b, c0x6c, c0x6d⟩ := H6b.out.cell (g13s) (s) (by simp)
      have c0x6l := H6b.out.lt (g13s) (s) (by simp)
      have c0x6m := Nat.le_of_lt c0x6l
      obtain ⟨c6x6a, c6x6b, c6x6c, c6x6d⟩ := H6b.out.cell (g7) (s) (by simp)
      have c6x6l := H6b.out.lt (g7) (s) (by simp)
      have c6x6m := Nat.le_of_lt c6x6l
      go_wp2
      go_ret
      exact ⟨rfl, HWB.out.trans (H6b.out.1.mono HWB.out.size)⟩
end Go.Proofs.YtikmhnlhaolbfaaDoor

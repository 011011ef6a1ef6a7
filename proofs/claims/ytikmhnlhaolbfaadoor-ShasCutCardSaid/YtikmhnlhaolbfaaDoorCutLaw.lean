/-
  burrowlaw05.ShasCut, walked: it answers true. Conditions: the library's table holds what its text lays.
-/
import Derived.Test.YtikmhnlhaolbfaaDoorCb
import Derived.Test.YtikmhnlhaolbfaaDoorOrd
namespace Go.Proofs.YtikmhnlhaolbfaaDoor
open Go.RowKit
set_option linter.unusedVariables false
set_option linter.unusedSimpArgs false

theorem Bt.range {w : World} {g : Nat} {t : TypeId} {l : List UInt8} (h : Bt w g t l) : w.rangeAt g 0 (bvs l) := by
  intro j v hv
  rw [Nat.zero_add, cell_of_row w g j _ t (0, 0) h]; simpa using hv
theorem boxes3 {w wr : World} {g g7 g8 g9 : Nat} {bs h0 h1 : List UInt8} (h : Cb w g bs [(g9, h1), (g8, h1), (g7, h0)] wr) : wr.rangeAt g7 0 (bvs h0) ∧ wr.rangeAt g8 0 (bvs h1) ∧ wr.rangeAt g9 0 (bvs h1) :=
  ⟨(h.2 (g7, h0) (by simp)).1.range, (h.2 (g8, h1) (by simp)).1.range, (h.2 (g9, h1) (by simp)).1.range⟩
set_option maxRecDepth 100000 in
set_option maxHeartbeats 4000000 in
theorem cut_law (A : Option Addr) (c : Nat) (bs : List UInt8) (n cut : Nat) (w : World) (hl : bs.length = n) (hr : Rd w A bs) (hcn : n ≤ c) (hcm : c ≤ 140737488351232) (hAc : A = none → c = 0) (hcut : cut < 65536) (hK : Kt w) :
    Calls Tryd.prog 10 #[.slice A n c, .int .u16 (cut : Int)] w fun e w' => e = .returned (.bool true) ∧ Below w.heap.size w w' := by
  have HL := hid hl
  have HR := hid hr
  have HCN := hid hcn
  have HK := hid hK
  clear hl hr hcn hcm hAc hK
  by_cases hbig : 20000 < n
  · go_enter Tryd.func10, Tryd.ntmps10
    go_wp2_with fail
    refine (alive_any w HK.out).mono ?_
    rintro e w1 ⟨rfl, hb1⟩
    go_wp2_with fail
    refine (alive_any w1 (HK.out.on hb1)).mono ?_
    rintro e w2 ⟨rfl, hb2⟩
    go_wp2
    go_ret
    exact ⟨rfl, hb1.trans (hb2.mono hb1.size)⟩
  have HNB := hid (show n ≤ 20000 by omega)
  go_enter Tryd.func10, Tryd.ntmps10
  go_wp2_with fail
  refine (alive_any w HK.out).mono ?_
  rintro e wa ⟨rfl, hba⟩
  have HBA := hid hba
  clear hba
  obtain ⟨k, hk⟩ : ∃ k, k = cut % (n + 1) := ⟨_, rfl⟩
  have hkn : k ≤ n := by have := Nat.mod_lt cut (show 0 < n + 1 by omega); omega
  have hw1 : IntKind.i64.wrap ((n : Int) + 1) = ((n : Int) + 1) := by rw [IntKind.wrap_i64]; omega
  have hrem : (cut : Int) % ((n : Int) + 1) = (k : Int) := by rw [hk]; simp
  have hremt : (cut : Int).tmod ((n : Int) + 1) = (k : Int) := by rw [Int.tmod_eq_emod_of_nonneg (by omega)]; exact hrem
  have HKN := hid hkn
  clear hk
  have HR2 := hid (HR.out.below HBA.out (Nat.le_refl _))
  have HK2 := hid (HK.out.on HBA.out)
  clear HR HK
  have HR := HR2
  have HK := HK2
  clear HR2 HK2
  have hne : ((n : Int) + 1 == 0) = false := by simp; omega
  go_wp2_with fail
  refine (new_cb wa HK.out).mono ?_
  rintro e w1 ⟨g, rfl, H1⟩
  clear hrem hremt hw1 hne
  go_wp2_with fail
  refine (sum_cb H1 (by decide)).mono ?_
  rintro e w2 ⟨rfl, H2⟩
  clear H1
  obtain ⟨w3, hw, H3⟩ := H2.out.setx (sha [])
  have hbx := hi44 (sha []) (sha_length _)
  have hox := ho32 (sha []) (sha_length _)
  have hsl := slice_head A n c k (Nat.le_trans HKN.out HCN.out)
  go_wp2_with (refine wpList_store_row rfl 44 (.tmp 7) (.tmp 26) rfl w2.heap.size (bvs (sha [])).toArray rfl rfl 44 _ (heap_alloc_new _ _) hbx.out hox.out (bvs_all _) ?_; rw [hw])
  clear hw hbx hox hsl H2
  generalize hg7 : w2.heap.size = g7 at *
  clear hg7
  have hlk := hid (show (bs.take k).length = k by have := HL.out; have := HKN.out; simp; omega)
  have hrk := hid ((((HR.out.below H3.out.1.below (Nat.le_refl _)).past 0 c (Nat.zero_le _) (by rw [HL.out]; exact HCN.out)).take k))
  refine (write_cb H3 (past A 0 c) c k (bs.take k) hlk.out hrk.out (fun hp => past_block A 0 c g (par_block HR.out (by have := HL.out; have := HKN.out; omega) H3.out.1.new)) (Nat.le_trans HKN.out HCN.out) (by have := HNB.out; have := HKN.out; simp; omega)).mono ?_
  rintro e w4 ⟨rfl, H4⟩
  have H4 := hid (p := Cb wa g (bs.take k) [(g7, sha [])] w4) H4.out
  clear hrk H3
  go_wp2_with fail
  refine (sum_cb H4 (by rw [hlk.out]; have := HNB.out; have := HKN.out; omega)).mono ?_
  rintro e w5 ⟨rfl, H5⟩
  clear H4
  obtain ⟨w6, hw, H6⟩ := H5.out.setx (sha (bs.take k))
  have hbx := hi44 (sha (bs.take k)) (sha_length _)
  have hox := ho32 (sha (bs.take k)) (sha_length _)
  go_wp2_with (refine wpList_store_row rfl 44 (.tmp 8) (.tmp 33) rfl w5.heap.size (bvs (sha (bs.take k))).toArray rfl rfl 44 _ (heap_alloc_new _ _) hbx.out hox.out (bvs_all _) ?_; rw [hw])
  clear hw hbx hox H5
  generalize hg8 : w5.heap.size = g8 at *
  clear hg8
  refine (sum_cb H6 (by rw [hlk.out]; have := HNB.out; have := HKN.out; omega)).mono ?_
  rintro e w7 ⟨rfl, H7⟩
  clear H6
  obtain ⟨w8, hw, H8⟩ := H7.out.setx (sha (bs.take k))
  have hbx := hi44 (sha (bs.take k)) (sha_length _)
  have hox := ho32 (sha (bs.take k)) (sha_length _)
  go_wp2_with (refine wpList_store_row rfl 44 (.tmp 9) (.tmp 35) rfl w7.heap.size (bvs (sha (bs.take k))).toArray rfl rfl 44 _ (heap_alloc_new _ _) hbx.out hox.out (bvs_all _) ?_; rw [hw])
  clear hw hbx hox H7
  generalize hg9 : w7.heap.size = g9 at *
  clear hg9
  refine (write_cb H8 none 0 0 [] rfl (Rd.nil _ _) (fun h => absurd h (by decide)) (Nat.le_refl _) (by rw [hlk.out]; have := HNB.out; have := HKN.out; omega)).mono ?_
  rintro e w9 ⟨rfl, H9⟩
  have H9 := hid (p := Cb wa g (bs.take k) [(g9, sha (bs.take k)), (g8, sha (bs.take k)), (g7, sha [])] w9) (by have := H9.out; rwa [List.append_nil] at this)
  clear H8
  have hsl := slice_rest A n c k HKN.out
  go_wp2_with fail
  clear hsl
  refine (write_cb H9 (past A k c) (c - k) (n - k) (bs.drop k) (by rw [List.length_drop, HL.out]) ((HR.out.below H9.out.1.below (Nat.le_refl _)).past k c (by rw [HL.out]; exact HKN.out) (by rw [HL.out]; exact HCN.out)) (fun hp => past_block A k c g (par_block HR.out (by have := HL.out; omega) H9.out.1.new)) (by have := HCN.out; omega) (by rw [hlk.out]; have := HNB.out; have := HKN.out; omega)).mono ?_
  rintro e w10 ⟨rfl, H10⟩
  have H10 := hid (p := Cb wa g bs [(g9, sha (bs.take k)), (g8, sha (bs.take k)), (g7, sha [])] w10) (by have := H10.out; rwa [List.take_append_drop] at this)
  clear H9
  go_wp2_with fail
  have HTK := hlk
  have HP0 := hid (p := ∀ W : World, Below wa.heap.size wa W → Rd W (past A 0 c) (bs.take k)) (fun W hb => ((HR.out.below hb (Nat.le_refl _)).past 0 c (Nat.zero_le _) (by rw [HL.out]; exact HCN.out)).take k)
  have HKC := hid (Nat.le_trans HKN.out HCN.out)
  have HKS := hid (show k ≤ 70368744177664 by have := HNB.out; have := HKN.out; omega)
  have HNS := hid (show n ≤ 70368744177664 by have := HNB.out; omega)
  have HS2 := hid (show bs.length ≤ 70368744177664 by have := HNB.out; have := HL.out; omega)
  have HCd := hid H10.out.drew
  have q0 := sha_length []
  have q1 := sha_length (bs.take k)
  have q2 := sha_length bs
  have heq0 := fun W : World => eq_sum (sha []) (sha []) q0 q0 W
  have heq1 := fun W : World => eq_sum (sha (bs.take k)) (sha (bs.take k)) q1 q1 W
  have heq2 := fun W : World => eq_sum (sha bs) (sha bs) q2 q2 W
  have HI0 := hi44 (sha []) q0
  have HI1 := hi44 (sha (bs.take k)) q1
  rw [bvs_size, ← bvs_length] at HI0 HI1
  simp only [decide_true] at heq0 heq1 heq2
  have hsl := slice_head A n c k HKC.out
  have hs := boxes3 HCd.out
  clear q0 q1 q2 hlk H10
  generalize hh0 : sha [] = h0 at *
  generalize hh1 : sha (bs.take k) = h1 at *
  generalize hh2 : sha bs = h2 at *
  have HH0 := hid hh0
  have HH1 := hid hh1
  have HH2 := hid hh2
  clear hh0 hh1 hh2
  refine wp_region_noPanic ?_
  refine Goes.region (fun (L : Array Bool) (wX : World) => wX.rangeAt g7 0 (bvs h0) ∧ wX.rangeAt g8 0 (bvs h1) ∧ wX.rangeAt g9 0 (bvs h1)) (by as_aux_lemma => kernel_rfl) ?_
  refine Goes.take (i := 0) (o := { dst := some 43, op := _, type := _, pos := _, after := _, guard := _ }) [] rfl (by as_aux_lemma => kernel_rfl) (by as_aux_lemma => kernel_rfl) (by as_aux_lemma => kernel_rfl) (fun _ _ _ h => h) (by as_aux_lemma => kernel_rfl) (fun L u h => h) (yieldsIf_load_mid (by rfl) 44 (.tmp 7) rfl g7 0 rfl (bvs h0) _ (fun W hY => by obtain ⟨up, hU, hL⟩ := hY; exact hL.1) Tryd.underlying44 rfl HI0.out) hs ?_
  try simp only [Act.put, List.setIfInBounds_toArray, List.set_cons_zero, List.set_cons_succ]
  refine Goes.one (i := 1) (o := { dst := some 44, op := _, type := _, pos := _, after := _, guard := _ }) (by as_aux_lemma => kernel_rfl) rfl (fun K hK => ?_)
  go_simp
  with_reducible refine (of_cb HCd none 0 0 [] rfl (Rd.nil _ _) (Nat.le_refl _) (by decide)).mono ?_
  rintro e' wc1 ⟨rfl, HC1⟩
  go_wp2_with fail
  have hs1 : wc1.rangeAt g7 0 (bvs h0) ∧ wc1.rangeAt g8 0 (bvs h1) ∧ wc1.rangeAt g9 0 (bvs h1) := boxes3 HC1.out
  refine hK.out _ _ hs1 ?_
  clear hK K hs
  have hs := hs1
  clear hs1
  rw [HH0.out]
  try simp only [Act.put, List.setIfInBounds_toArray, List.set_cons_zero, List.set_cons_succ]
  refine Goes.take (i := 2) (o := { dst := some 45, op := _, type := _, pos := _, after := _, guard := _ }) (v := ?_) [] rfl (by as_aux_lemma => kernel_rfl) (by as_aux_lemma => kernel_rfl) (by as_aux_lemma => kernel_rfl) (fun _ _ _ h => h) (by as_aux_lemma => kernel_rfl) (fun L u h => h) (Or.inl ⟨by rfl, ?_⟩) hs ?_
  rotate_left
  · intro w hY; go_simp; try with_reducible rfl
  try simp only [Act.put, List.setIfInBounds_toArray, List.set_cons_zero, List.set_cons_succ]
  refine Goes.take (i := 3) (o := { dst := some 46, op := _, type := _, pos := _, after := _, guard := _ }) (v := ?_) [] rfl (by as_aux_lemma => kernel_rfl) (by as_aux_lemma => kernel_rfl) (by as_aux_lemma => kernel_rfl) (fun _ _ _ h => h) (by as_aux_lemma => kernel_rfl) (fun L u h => h) (Or.inl ⟨by rfl, ?_⟩) hs ?_
  rotate_left
  · intro w hY; go_simp; try with_reducible rfl
  try simp only [Act.put, List.setIfInBounds_toArray, List.set_cons_zero, List.set_cons_succ]
  refine Goes.take (i := 4) (o := { dst := some 47, op := _, type := _, pos := _, after := _, guard := _ }) [] rfl (by as_aux_lemma => kernel_rfl) (by as_aux_lemma => kernel_rfl) (by as_aux_lemma => kernel_rfl) (fun _ _ _ h => h) (by as_aux_lemma => kernel_rfl) (fun L u h => h) (yieldsIf_load_mid (by rfl) 44 (.tmp 8) rfl g8 0 rfl (bvs h1) _ (fun W hY => by obtain ⟨up, hU, hL⟩ := hY; exact hL.2.1) Tryd.underlying44 rfl HI1.out) hs ?_
  try simp only [Act.put, List.setIfInBounds_toArray, List.set_cons_zero, List.set_cons_succ]
  refine Goes.take (i := 5) (o := { dst := some 48, op := _, type := _, pos := _, after := _, guard := _ }) (v := ?_) [] rfl (by as_aux_lemma => kernel_rfl) (by as_aux_lemma => kernel_rfl) (by as_aux_lemma => kernel_rfl) (fun _ _ _ h => h) (by as_aux_lemma => kernel_rfl) (fun L u h => h) (Or.inl ⟨by rfl, ?_⟩) hs ?_
  rotate_left
  · intro w hY; go_simp; try with_reducible rfl
  try simp only [Act.put, List.setIfInBounds_toArray, List.set_cons_zero, List.set_cons_succ]
  refine Goes.take (i := 6) (o := { dst := some 49, op := _, type := _, pos := _, after := _, guard := _ }) (v := ?_) [] rfl (by as_aux_lemma => kernel_rfl) (by as_aux_lemma => kernel_rfl) (by as_aux_lemma => kernel_rfl) (fun _ _ _ h => h) (by as_aux_lemma => kernel_rfl) (fun L u h => h) (Or.inl ⟨by rfl, ?_⟩) hs ?_
  rotate_left
  · intro w hY; go_simp; try with_reducible rfl
  try simp only [Act.put, List.setIfInBounds_toArray, List.set_cons_zero, List.set_cons_succ]
  refine Goes.take (i := 7) (o := { dst := some 50, op := _, type := _, pos := _, after := _, guard := _ }) (v := ?_) [] rfl (by as_aux_lemma => kernel_rfl) (by as_aux_lemma => kernel_rfl) (by as_aux_lemma => kernel_rfl) (fun _ _ _ h => h) (by as_aux_lemma => kernel_rfl) (fun L u h => h) (Or.inl ⟨by rfl, ?_⟩) hs ?_
  rotate_left
  · intro w hY; go_simp; try with_reducible rfl
  try simp only [Act.put, List.setIfInBounds_toArray, List.set_cons_zero, List.set_cons_succ]
  refine Goes.one (i := 8) (o := { dst := some 51, op := _, type := _, pos := _, after := _, guard := _ }) (by as_aux_lemma => kernel_rfl) rfl (fun K hK => ?_)
  go_simp
  with_reducible refine (of_cb HC1 (past A 0 c) c k (bs.take k) HTK.out (HP0.out _ (Cb.old HC1.out)) HKC.out HKS.out).mono ?_
  rintro e' wc2 ⟨rfl, HC2⟩
  go_wp2_with fail
  have hs2 : wc2.rangeAt g7 0 (bvs h0) ∧ wc2.rangeAt g8 0 (bvs h1) ∧ wc2.rangeAt g9 0 (bvs h1) := boxes3 HC2.out
  refine hK.out _ _ hs2 ?_
  clear hK K hs
  have hs := hs2
  clear hs2
  rw [HH1.out]
  try simp only [Act.put, List.setIfInBounds_toArray, List.set_cons_zero, List.set_cons_succ]
  refine Goes.take (i := 9) (o := { dst := some 52, op := _, type := _, pos := _, after := _, guard := _ }) (v := ?_) [] rfl (by as_aux_lemma => kernel_rfl) (by as_aux_lemma => kernel_rfl) (by as_aux_lemma => kernel_rfl) (fun _ _ _ h => h) (by as_aux_lemma => kernel_rfl) (fun L u h => h) (Or.inl ⟨by rfl, ?_⟩) hs ?_
  rotate_left
  · intro w hY; go_simp; try with_reducible rfl
  try simp only [Act.put, List.setIfInBounds_toArray, List.set_cons_zero, List.set_cons_succ]
  refine Goes.take (i := 10) (o := { dst := some 53, op := _, type := _, pos := _, after := _, guard := _ }) (v := ?_) [] rfl (by as_aux_lemma => kernel_rfl) (by as_aux_lemma => kernel_rfl) (by as_aux_lemma => kernel_rfl) (fun _ _ _ h => h) (by as_aux_lemma => kernel_rfl) (fun L u h => h) (Or.inl ⟨by rfl, ?_⟩) hs ?_
  rotate_left
  · intro w hY; go_simp; try with_reducible rfl
  try simp only [Act.put, List.setIfInBounds_toArray, List.set_cons_zero, List.set_cons_succ]
  refine Goes.take (i := 11) (o := { dst := some 54, op := _, type := _, pos := _, after := _, guard := _ }) (v := ?_) [] rfl (by as_aux_lemma => kernel_rfl) (by as_aux_lemma => kernel_rfl) (by as_aux_lemma => kernel_rfl) (fun _ _ _ h => h) (by as_aux_lemma => kernel_rfl) (fun L u h => h) (Or.inl ⟨by rfl, ?_⟩) hs ?_
  rotate_left
  · intro w hY; go_simp; try with_reducible rfl
  try simp only [Act.put, List.setIfInBounds_toArray, List.set_cons_zero, List.set_cons_succ]
  refine Goes.take (i := 12) (o := { dst := some 55, op := _, type := _, pos := _, after := _, guard := _ }) [] rfl (by as_aux_lemma => kernel_rfl) (by as_aux_lemma => kernel_rfl) (by as_aux_lemma => kernel_rfl) (fun _ _ _ h => h) (by as_aux_lemma => kernel_rfl) (fun L u h => h) (yieldsIf_load_mid (by rfl) 44 (.tmp 9) rfl g9 0 rfl (bvs h1) _ (fun W hY => by obtain ⟨up, hU, hL⟩ := hY; exact hL.2.2) Tryd.underlying44 rfl HI1.out) hs ?_
  try simp only [Act.put, List.setIfInBounds_toArray, List.set_cons_zero, List.set_cons_succ]
  refine Goes.take (i := 13) (o := { dst := some 56, op := _, type := _, pos := _, after := _, guard := _ }) [] rfl (by as_aux_lemma => kernel_rfl) (by as_aux_lemma => kernel_rfl) (by as_aux_lemma => kernel_rfl) (fun _ _ _ h => h) (by as_aux_lemma => kernel_rfl) (fun L u h => h) (yieldsIf_load_mid (by rfl) 44 (.tmp 8) rfl g8 0 rfl (bvs h1) _ (fun W hY => by obtain ⟨up, hU, hL⟩ := hY; exact hL.2.1) Tryd.underlying44 rfl HI1.out) hs ?_
  try simp only [Act.put, List.setIfInBounds_toArray, List.set_cons_zero, List.set_cons_succ]
  refine Goes.take (i := 14) (o := { dst := some 57, op := _, type := _, pos := _, after := _, guard := _ }) (v := ?_) [] rfl (by as_aux_lemma => kernel_rfl) (by as_aux_lemma => kernel_rfl) (by as_aux_lemma => kernel_rfl) (fun _ _ _ h => h) (by as_aux_lemma => kernel_rfl) (fun L u h => h) (Or.inl ⟨by rfl, ?_⟩) hs ?_
  rotate_left
  · intro w hY; go_simp; try with_reducible rfl
  try simp only [Act.put, List.setIfInBounds_toArray, List.set_cons_zero, List.set_cons_succ]
  refine Goes.take (i := 15) (o := { dst := some 58, op := _, type := _, pos := _, after := _, guard := _ }) (v := ?_) [] rfl (by as_aux_lemma => kernel_rfl) (by as_aux_lemma => kernel_rfl) (by as_aux_lemma => kernel_rfl) (fun _ _ _ h => h) (by as_aux_lemma => kernel_rfl) (fun L u h => h) (Or.inl ⟨by rfl, ?_⟩) hs ?_
  rotate_left
  · intro w hY; go_simp; try with_reducible rfl
  try simp only [Act.put, List.setIfInBounds_toArray, List.set_cons_zero, List.set_cons_succ]
  refine Goes.take (i := 16) (o := { dst := some 59, op := _, type := _, pos := _, after := _, guard := _ }) (v := ?_) [] rfl (by as_aux_lemma => kernel_rfl) (by as_aux_lemma => kernel_rfl) (by as_aux_lemma => kernel_rfl) (fun _ _ _ h => h) (by as_aux_lemma => kernel_rfl) (fun L u h => h) (Or.inl ⟨by rfl, ?_⟩) hs ?_
  rotate_left
  · intro w hY; go_simp; try with_reducible rfl
  try simp only [Act.put, List.setIfInBounds_toArray, List.set_cons_zero, List.set_cons_succ]
  refine Goes.take (i := 17) (o := { dst := some 60, op := _, type := _, pos := _, after := _, guard := _ }) (v := ?_) [] rfl (by as_aux_lemma => kernel_rfl) (by as_aux_lemma => kernel_rfl) (by as_aux_lemma => kernel_rfl) (fun _ _ _ h => h) (by as_aux_lemma => kernel_rfl) (fun L u h => h) (Or.inl ⟨by rfl, ?_⟩) hs ?_
  rotate_left
  · intro w hY; go_simp; try with_reducible rfl
  try simp only [Act.put, List.setIfInBounds_toArray, List.set_cons_zero, List.set_cons_succ]
  refine Goes.take (i := 19) (o := { dst := some 62, op := _, type := _, pos := _, after := _, guard := _ }) (v := ?_) [] rfl (by as_aux_lemma => kernel_rfl) (by as_aux_lemma => kernel_rfl) (by as_aux_lemma => kernel_rfl) (fun _ _ _ h => h) (by as_aux_lemma => kernel_rfl) (fun L u h => h) (Or.inl ⟨by rfl, ?_⟩) hs ?_
  rotate_left
  · intro w hY; go_simp; try with_reducible rfl
  try simp only [Act.put, List.setIfInBounds_toArray, List.set_cons_zero, List.set_cons_succ]
  refine Goes.one (i := 18) (o := { dst := some 61, op := _, type := _, pos := _, after := _, guard := _ }) (by as_aux_lemma => kernel_rfl) rfl (fun K hK => ?_)
  go_simp
  with_reducible refine (sum_cb HC2 HS2.out).mono ?_
  rintro e' wc3 ⟨rfl, HC3⟩
  go_wp2_with fail
  have hs3 : wc3.rangeAt g7 0 (bvs h0) ∧ wc3.rangeAt g8 0 (bvs h1) ∧ wc3.rangeAt g9 0 (bvs h1) := boxes3 HC3.out
  refine hK.out _ _ hs3 ?_
  clear hK K hs
  have hs := hs3
  clear hs3
  rw [HH2.out]
  try simp only [Act.put, List.setIfInBounds_toArray, List.set_cons_zero, List.set_cons_succ]
  refine Goes.one (i := 20) (o := { dst := some 63, op := _, type := _, pos := _, after := _, guard := _ }) (by as_aux_lemma => kernel_rfl) rfl (fun K hK => ?_)
  go_simp
  with_reducible refine (of_cb HC3 A c n bs HL.out (HR.out.below (Cb.old HC3.out) (Nat.le_refl _)) HCN.out HNS.out).mono ?_
  rintro e' wc4 ⟨rfl, HC4⟩
  go_wp2_with fail
  have hs4 : wc4.rangeAt g7 0 (bvs h0) ∧ wc4.rangeAt g8 0 (bvs h1) ∧ wc4.rangeAt g9 0 (bvs h1) := boxes3 HC4.out
  refine hK.out _ _ hs4 ?_
  clear hK K hs
  have hs := hs4
  clear hs4
  rw [HH2.out]
  try simp only [Act.put, List.setIfInBounds_toArray, List.set_cons_zero, List.set_cons_succ]
  refine Goes.take (i := 21) (o := { dst := some 64, op := _, type := _, pos := _, after := _, guard := _ }) (v := ?_) [] rfl (by as_aux_lemma => kernel_rfl) (by as_aux_lemma => kernel_rfl) (by as_aux_lemma => kernel_rfl) (fun _ _ _ h => h) (by as_aux_lemma => kernel_rfl) (fun L u h => h) (Or.inl ⟨by rfl, ?_⟩) hs ?_
  rotate_left
  · intro w hY; go_simp; try with_reducible rfl
  try simp only [Act.put, List.setIfInBounds_toArray, List.set_cons_zero, List.set_cons_succ]
  refine Goes.take (i := 22) (o := { dst := some 65, op := _, type := _, pos := _, after := _, guard := _ }) (v := ?_) [] rfl (by as_aux_lemma => kernel_rfl) (by as_aux_lemma => kernel_rfl) (by as_aux_lemma => kernel_rfl) (fun _ _ _ h => h) (by as_aux_lemma => kernel_rfl) (fun L u h => h) (Or.inl ⟨by rfl, ?_⟩) hs ?_
  rotate_left
  · intro w hY; go_simp; try with_reducible rfl
  try simp only [Act.put, List.setIfInBounds_toArray, List.set_cons_zero, List.set_cons_succ]
  refine Goes.take (i := 23) (o := { dst := some 4, op := _, type := _, pos := _, after := _, guard := _ }) (v := ?_) [] rfl (by as_aux_lemma => kernel_rfl) (by as_aux_lemma => kernel_rfl) (by as_aux_lemma => kernel_rfl) (fun _ _ _ h => h) (by as_aux_lemma => kernel_rfl) (fun L u h => h) (Or.inl ⟨by rfl, ?_⟩) hs ?_
  rotate_left
  · intro w hY; go_simp; try with_reducible rfl
  try simp only [Act.put, List.setIfInBounds_toArray, List.set_cons_zero, List.set_cons_succ]
  refine Goes.done (by as_aux_lemma => kernel_rfl) ?_ _
  refine NoPanic.normal ?_
  go_wp2
  go_ret
  exact ⟨rfl, HBA.out.trans (HC4.out.1.below.mono HBA.out.size)⟩
end Go.Proofs.YtikmhnlhaolbfaaDoor

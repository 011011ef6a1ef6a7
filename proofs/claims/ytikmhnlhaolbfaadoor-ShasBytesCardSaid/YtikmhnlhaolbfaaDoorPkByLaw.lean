/-
  burrowlaw05.ShasBytes, walked: it answers true. Conditions: the library's table K lies there.
-/
import Derived.Test.YtikmhnlhaolbfaaDoorPkL
import Derived.Test.YtikmhnlhaolbfaaDoorPkJ
import Derived.MapKept
namespace Go.Proofs.YtikmhnlhaolbfaaDoor
open Go.RowKit
set_option linter.unusedVariables false
set_option linter.unusedSimpArgs false

/-- the box of two texts -/
def Txs (g3 : Nat) (s t : ByteArray) (u : World) : Prop := u.cell? ⟨g3, 0, none⟩ = some (.string s) ∧ u.cell? ⟨g3, 1, none⟩ = some (.string t)
theorem txs_new (w : World) (s t : ByteArray) : Txs w.heap.size s t (w.alloc (.cells #[.string s, .string t] 72)) := by
  have h := fun j => cell_of_row _ w.heap.size j _ 72 (0, 0) (heap_alloc_new w (.cells #[.string s, .string t] 72))
  exact ⟨h 0, h 1⟩
theorem on_txs {w : World} {g3 : Nat} {s t : ByteArray} (h : Txs g3 s t w) : On w (Txs g3 s t) := by
  intro u hu
  have hl := World.block_lt_of_cell? _ _ h.1
  exact ⟨(on_cell hl h.1) _ hu, (on_cell hl h.2) _ hu⟩
theorem on_to {w w2 : World} {P : World → Prop} (h : On w P) (hb : Below w.heap.size w w2) : P w2 := h _ hb
theorem text_same (s t : ByteArray) : s.data.toList = t.data.toList ↔ s = t := by
  constructor
  · intro h
    cases s; cases t
    simp at h
    rw [h]
  · rintro rfl
    rfl
theorem spelt_same (s t : ByteArray) (n m : Nat) (xs ys : Nat → List UInt8) (hs : s.size ≤ 1000000) (ht : t.size ≤ 1000000) (hn : n ≤ 1000) (hm : m ≤ 1000) (hx : ∀ r, r < n → (xs r).length ≤ 1048576) (hy : ∀ r, r < m → (ys r).length ≤ 1048576) :
    spelt s.data.toList n xs n = spelt t.data.toList m ys m ↔ s = t ∧ n = m ∧ ∀ r, r < n → xs r = ys r := by
  have e1 : s.data.toList.length = s.size := by rw [Array.length_toList]; rfl
  have e2 : t.data.toList.length = t.size := by rw [Array.length_toList]; rfl
  rw [spelt_iff _ _ _ _ _ _ (by omega) (by omega) (by omega) (by omega) (fun r hr => by have := hx r hr; omega) (fun r hr => by have := hy r hr; omega), text_same]
theorem load44 (a : Act) (o : Oper) (x : Operand) (g : Nat) (r : List UInt8) (w : World) (ho : o.op = .load 44 x) (hx : a.eval x = .pointer (some ⟨g, 0, none⟩)) (hz : Bt w g 44 r) (hq : r.length = 32) :
    (execOp a.eval o).run Tryd.prog w = .ok (.value (.agg (bvs r).toArray)) w := by
  unfold Bt at hz
  unfold execOp
  simp only [ho, hx, Instr.loadAt, Instr.sureAddr, Sem.run_bind, Sem.run_pure, Result.andThen_ok, run_loadVar_row w g 44 44 _ _ _ hz Tryd.underlying44 rfl (hi44 r hq).out]
set_option maxRecDepth 100000 in
set_option maxHeartbeats 8000000 in
theorem by_law (s t : ByteArray) (a0 b0 : Option Addr) (n0 c0 k0 d0 : Nat) (A B : Nat → Option Addr) (L C M D : Nat → Nat) (xs ys : Nat → List UInt8) (w : World) (hR : Rws w a0 n0 A L C xs) (hS : Rws w b0 k0 B M D ys) (hK : Kt w) :
    Calls Tryd.prog 12 #[.agg #[.string s, .string t], .slice a0 n0 c0, .slice b0 k0 d0] w fun e w' => e = .returned (.bool true) ∧ Below w.heap.size w w' := by
  have HR := hid hR
  have HSS := hid hS
  have HK := hid hK
  clear hR hS hK
  obtain ⟨X, eX⟩ : ∃ z, spelt s.data.toList n0 xs n0 = z := ⟨_, rfl⟩
  obtain ⟨Y, eY⟩ : ∃ z, spelt t.data.toList k0 ys k0 = z := ⟨_, rfl⟩
  obtain ⟨r, er⟩ : ∃ z, sha X = z := ⟨_, rfl⟩
  have EX := hid eX
  have EY := hid eY
  have ER := hid er
  have HQ := hid (show r.length = 32 by rw [← er]; exact sha_length _)
  clear eX eY er
  have HW0 := hid ((Below.refl w.heap.size w).alloc (Nat.le_refl _) (.cells #[.string s, .string t] 72))
  have HT0 := hid (txs_new w s t)
  go_enter Tryd.func12, Tryd.ntmps12
  go_wp2_with fail
  generalize w.alloc (.cells #[.string s, .string t] 72) = w0 at *
  generalize hg3 : w.heap.size = g3 at *
  have HWB := hid (show Below w.heap.size w w0 from hg3 ▸ HW0.out)
  clear HW0
  have HR0 := hid (on_rws (on_to (on_rws HR.out) HWB.out))
  have HS0 := hid (on_rws (on_to (on_rws HSS.out) HWB.out))
  have HK0 := hid (on_kt (on_to (on_kt HK.out) HWB.out))
  have HT := hid (on_txs HT0.out)
  have H0 := hid (Env.refl w0)
  clear HR HSS HK HT0
  refine (env_of (fixed_any w0 (on_to HK0.out (Below.refl _ _))) H0.out).mono ?_
  rintro e w1 ⟨rfl, h⟩
  have H1 := hid h
  clear h H0
  obtain ⟨t0, t1⟩ := on_to HT.out H1.out.1
  go_wp2_with fail
  refine (great_any s a0 n0 c0 A L C xs _ (on_to HR0.out H1.out.1)).mono ?_
  rintro e w2 ⟨g, rfl, hg, rfl⟩
  cases g with
  | true =>
    go_wp2_with fail
    refine (env_of (fixed_any _ (on_to HK0.out H1.out.1)) H1.out).mono ?_
    rintro e w3 ⟨rfl, h3⟩
    go_wp2
    go_ret
    exact ⟨rfl, HWB.out.trans (h3.1.mono HWB.out.size)⟩
  | false =>
    obtain ⟨h1, h2, h3⟩ := hg rfl
    have HS := hid (Nat.le_trans h1 (by decide : 5000 ≤ 1000000))
    have HN := hid (Nat.le_trans h2 (by decide : 200 ≤ 1000))
    have HL := hid h3
    clear hg h1 h2 h3
    go_wp2_with fail
    refine (great_any t b0 k0 d0 B M D ys _ (on_to HS0.out H1.out.1)).mono ?_
    rintro e w2 ⟨g, rfl, hg, rfl⟩
    cases g with
    | true =>
      go_wp2_with fail
      refine (env_of (fixed_any _ (on_to HK0.out H1.out.1)) H1.out).mono ?_
      rintro e w3 ⟨rfl, h3⟩
      go_wp2
      go_ret
      exact ⟨rfl, HWB.out.trans (h3.1.mono HWB.out.size)⟩
    | false =>
      obtain ⟨h1, h2, h3⟩ := hg rfl
      have HSt := hid (Nat.le_trans h1 (by decide : 5000 ≤ 1000000))
      have HNt := hid (Nat.le_trans h2 (by decide : 200 ≤ 1000))
      have HLt := hid h3
      clear hg h1 h2 h3
      have HSAME := hid (by have := spelt_same s t n0 k0 xs ys HS.out HSt.out HN.out HNt.out (fun r hr => by rw [((on_to HR0.out H1.out.1) r hr).2.1]; exact HL.out r hr) (fun r hr => by rw [((on_to HS0.out H1.out.1) r hr).2.1]; exact HLt.out r hr); rw [EX.out, EY.out] at this; exact this)
      go_wp2_with fail
      refine (bytes_any s a0 n0 c0 A L C xs _ (on_to HR0.out H1.out.1) HN.out HL.out HS.out).mono ?_
      rintro e w4 ⟨A2, m2, c2, rfl, h⟩
      have HX := hid (EX.out ▸ h.out)
      have H4 := hid (H1.out.on h.out.1)
      clear h t0 t1
      have HXO := hid (on_rd HX.out.2.2.1)
      obtain ⟨t0, t1⟩ := on_to HT.out H4.out.1
      go_wp2_with fail
      refine (bytes_any t b0 k0 d0 B M D ys _ (on_to HS0.out H4.out.1) HNt.out HLt.out HSt.out).mono ?_
      rintro e w5 ⟨B2, j2, d2, rfl, h⟩
      have HY := hid (EY.out ▸ h.out)
      have H5 := hid (H4.out.on h.out.1)
      have HXR := hid (on_to HXO.out h.out.1)
      have HYR := hid HY.out.2.2.1
      clear h t0 t1 H4 HXO
      have HM2 := hid (show m2 ≤ 281474976710656 by have h1 := spelt_length s.data.toList n0 xs n0 (fun r hr => by rw [((on_to HR0.out H5.out.1) r hr).2.1]; exact HL.out r hr); rw [EX.out, HX.out.2.1] at h1; have e1 : s.data.toList.length = s.size := (by rw [Array.length_toList]; rfl); have h2 := HS.out; have h3 := HN.out; rw [e1] at h1; omega)
      have HM3 := hid (show m2 ≤ 70368744177664 by have h1 := spelt_length s.data.toList n0 xs n0 (fun r hr => by rw [((on_to HR0.out H5.out.1) r hr).2.1]; exact HL.out r hr); rw [EX.out, HX.out.2.1] at h1; have e1 : s.data.toList.length = s.size := (by rw [Array.length_toList]; rfl); have h2 := HS.out; have h3 := HN.out; rw [e1] at h1; omega)
      obtain ⟨t0, t1⟩ := on_to HT.out H5.out.1
      by_cases hst : s = t
      rotate_left
      · have e1 : (s == t) = false := Bool.eq_false_iff.2 (fun e => hst ((Go.MapKept.bytes_beq s t).1 e))
        have e2 : ¬ s.toList = t.toList := fun e => hst ((text_same s t).1 (by rw [← ByteArray.toList_eq, ← ByteArray.toList_eq]; exact e))
        have HE := hid (show ¬ X = Y from fun e => hst (HSAME.out.1 e).1)
        clear hst
        go_upto_region 6 with fail
        clear e1 e2 t0 t1
        go_upto_region 6 with fail
        obtain ⟨t0, t1⟩ := on_to HT.out H5.out.1
        go_wp2_with fail
        clear t0 t1
        refine (as_r s a0 n0 c0 A L C xs r _ (on_to HR0.out H5.out.1) (on_to HK0.out H5.out.1) HN.out HL.out HS.out (by rw [EX.out]; exact ER.out)).mono ?_
        rintro e w6 ⟨rfl, hb6⟩
        have N6 := hid (show Ns w0 [] [] w6 from ⟨H5.out.on hb6, fun p hp => by cases hp⟩)
        have HX6 := hid (on_rd HXR.out _ hb6)
        have HY6 := hid (on_rd HYR.out _ hb6)
        obtain ⟨w7, hw, N7⟩ := N6.out.setx r
        have hbx := hi44 r HQ.out
        have hox := ho32 r HQ.out
        have HB7 := hid (show Below w6.heap.size w6 w7 by rw [← hw, World.setRow_alloc_new]; exact (Below.refl _ _).alloc (Nat.le_refl _) _)
        go_upto_region 7 with (first | (refine wpList_store_row rfl 44 (.tmp 10) (.tmp 47) rfl w6.heap.size (bvs r).toArray rfl rfl 44 _ (heap_alloc_new _ _) hbx.out hox.out (bvs_all _) ?_; rw [hw]))
        clear hw hbx hox N6
        have HX7 := hid (on_rd (on_rd HX6.out _ HB7.out))
        have HY7 := hid (on_rd (on_rd HY6.out _ HB7.out))
        generalize w6.heap.size = b10 at *
        have HZ7 := hid (on_bt (N7.out.bt b10 r (by simp)))
        have HO7 := hid N7.out.1.1
        have HC7 := hid (on_txs (on_to HT.out HO7.out))
        have HS7 := hid (on_rws (on_to HS0.out HO7.out))
        have HK7 := hid (on_kt (on_to HK0.out HO7.out))
        have heq := fun W : World => eq_sum r r HQ.out HQ.out W
        simp only [decide_true] at heq
        have hb := (Below.refl w7.heap.size w7).drew
        refine wp_region_noPanic ?_
        refine Goes.region (fun (_ : Array Bool) (u : World) => Bt u b10 44 r ∧ u.cell? ⟨g3, 1, none⟩ = some (.string t)) (by kernel_rfl) ?_
        generalize w7.drew = wq at *
        refine Goes.take (i := 0) (o := ⟨some 48, _, _, _, _, _⟩) (v := ?_) [] rfl (by kernel_rfl) (by kernel_rfl) (by kernel_rfl) (fun _ _ _ h => h) (by kernel_rfl) (fun L u h => h) (Or.inl ⟨by rfl, ?_⟩) ⟨on_to HZ7.out hb, (on_to HC7.out hb).2⟩ ?_
        rotate_left
        · intro u hY; go_simp; try with_reducible rfl
        try simp only [Act.put, List.setIfInBounds_toArray, List.set_cons_zero, List.set_cons_succ]
        refine Goes.take (i := 1) (o := ⟨some 49, _, _, _, _, _⟩) (v := ?_) [] rfl (by kernel_rfl) (by kernel_rfl) (by kernel_rfl) (fun _ _ _ h => h) (by kernel_rfl) (fun L u h => h) (Or.inl ⟨by rfl, ?_⟩) ⟨on_to HZ7.out hb, (on_to HC7.out hb).2⟩ ?_
        rotate_left
        · intro u hY; go_simp; try with_reducible rfl
        try simp only [Act.put, List.setIfInBounds_toArray, List.set_cons_zero, List.set_cons_succ]
        refine Goes.take (i := 3) (o := ⟨some 51, _, _, _, _, _⟩) (v := ?_) [] rfl (by kernel_rfl) (by kernel_rfl) (by kernel_rfl) (fun _ _ _ h => h) (by kernel_rfl) (fun L u h => h) (Or.inl ⟨by rfl, ?_⟩) ⟨on_to HZ7.out hb, (on_to HC7.out hb).2⟩ ?_
        rotate_left
        · intro u hY; go_simp; try with_reducible rfl
        try simp only [Act.put, List.setIfInBounds_toArray, List.set_cons_zero, List.set_cons_succ]
        have hc := samebytes_any A2 B2 m2 j2 c2 d2 X Y wq (on_to HX7.out hb) (on_to HY7.out hb) HX.out.2.1 HY.out.2.1 HM2.out
        rw [decide_eq_false HE.out] at hc
        refine Goes.one (i := 2) (o := ⟨some 50, _, _, _, _, _⟩) (by kernel_rfl) rfl (fun K hK => ?_)
        go_simp
        with_reducible refine hc.mono ?_
        clear hc
        rintro e wn1 ⟨rfl, j, rfl⟩
        have hb2 := below_drewN hb j
        generalize wq.drewN j = wn1 at *
        clear hb
        have hb := hb2
        clear hb2
        go_wp2_with fail
        refine hK.out _ _ ⟨on_to HZ7.out hb, (on_to HC7.out hb).2⟩ ?_
        clear hK K
        try simp only [Act.put, List.setIfInBounds_toArray, List.set_cons_zero, List.set_cons_succ]
        refine Goes.take (i := 4) (o := ⟨some 52, _, _, _, _, _⟩) (v := ?_) [] rfl (by kernel_rfl) (by kernel_rfl) (by kernel_rfl) (fun _ _ _ h => h) (by kernel_rfl) (fun L u h => h) (Or.inl ⟨by rfl, ?_⟩) ⟨on_to HZ7.out hb, (on_to HC7.out hb).2⟩ ?_
        rotate_left
        · intro u hY; go_simp; try with_reducible rfl
        try simp only [Act.put, List.setIfInBounds_toArray, List.set_cons_zero, List.set_cons_succ]
        refine Goes.take (i := 5) (o := ⟨some 53, _, _, _, _, _⟩) (v := ?_) [] rfl (by kernel_rfl) (by kernel_rfl) (by kernel_rfl) (fun _ _ _ h => h) (by kernel_rfl) (fun L u h => h) (Or.inl ⟨by rfl, ?_⟩) ⟨on_to HZ7.out hb, (on_to HC7.out hb).2⟩ ?_
        rotate_left
        · intro u hY; go_simp; try with_reducible rfl
        try simp only [Act.put, List.setIfInBounds_toArray, List.set_cons_zero, List.set_cons_succ]
        refine Goes.take (i := 6) (o := ⟨some 54, _, _, _, _, _⟩) (v := ?_) [] rfl (by kernel_rfl) (by kernel_rfl) (by kernel_rfl) (fun _ _ _ h => h) (by kernel_rfl) (fun L u h => h) (Or.inl ⟨by rfl, ?_⟩) ⟨on_to HZ7.out hb, (on_to HC7.out hb).2⟩ ?_
        rotate_left
        · rintro u ⟨up, -, hX⟩; refine load44 _ _ (.tmp 10) b10 r u ?_ ?_ hX.1 HQ.out <;> rfl
        try simp only [Act.put, List.setIfInBounds_toArray, List.set_cons_zero, List.set_cons_succ]
        refine Goes.take (i := 7) (o := ⟨some 55, _, _, _, _, _⟩) (v := ?_) [] rfl (by kernel_rfl) (by kernel_rfl) (by kernel_rfl) (fun _ _ _ h => h) (by kernel_rfl) (fun L u h => h) (Or.inl ⟨by rfl, ?_⟩) ⟨on_to HZ7.out hb, (on_to HC7.out hb).2⟩ ?_
        rotate_left
        · intro u hY; go_simp; try with_reducible rfl
        try simp only [Act.put, List.setIfInBounds_toArray, List.set_cons_zero, List.set_cons_succ]
        have hc := of_r A2 c2 m2 X r wn1 (on_to HX7.out hb) (on_to HK7.out hb) HX.out.2.1 ER.out HX.out.2.2.2.1 HM3.out
        refine Goes.one (i := 8) (o := ⟨some 56, _, _, _, _, _⟩) (by kernel_rfl) rfl (fun K hK => ?_)
        rw [if_pos (by rfl)]
        go_simp
        with_reducible refine hc.mono ?_
        clear hc
        rintro e wn2 ⟨rfl, hbn⟩
        have hb2 := hb.trans (hbn.mono hb.size)
        clear hbn
        clear hb
        have hb := hb2
        clear hb2
        go_wp2_with fail
        refine hK.out _ _ ⟨on_to HZ7.out hb, (on_to HC7.out hb).2⟩ ?_
        clear hK K
        try simp only [Act.put, List.setIfInBounds_toArray, List.set_cons_zero, List.set_cons_succ]
        refine Goes.take (i := 9) (o := ⟨some 57, _, _, _, _, _⟩) (v := ?_) [] rfl (by kernel_rfl) (by kernel_rfl) (by kernel_rfl) (fun _ _ _ h => h) (by kernel_rfl) (fun L u h => h) (Or.inl ⟨by rfl, ?_⟩) ⟨on_to HZ7.out hb, (on_to HC7.out hb).2⟩ ?_
        rotate_left
        · intro u hY; go_simp; try with_reducible rfl
        try simp only [Act.put, List.setIfInBounds_toArray, List.set_cons_zero, List.set_cons_succ]
        refine Goes.take (i := 10) (o := ⟨some 58, _, _, _, _, _⟩) (v := ?_) [] rfl (by kernel_rfl) (by kernel_rfl) (by kernel_rfl) (fun _ _ _ h => h) (by kernel_rfl) (fun L u h => h) (Or.inl ⟨by rfl, ?_⟩) ⟨on_to HZ7.out hb, (on_to HC7.out hb).2⟩ ?_
        rotate_left
        · intro u hY; go_simp; try with_reducible rfl
        try simp only [Act.put, List.setIfInBounds_toArray, List.set_cons_zero, List.set_cons_succ]
        refine Goes.take (i := 11) (o := ⟨some 59, _, _, _, _, _⟩) (v := ?_) [] rfl (by kernel_rfl) (by kernel_rfl) (by kernel_rfl) (fun _ _ _ h => h) (by kernel_rfl) (fun L u h => h) (Or.inl ⟨by rfl, ?_⟩) ⟨on_to HZ7.out hb, (on_to HC7.out hb).2⟩ ?_
        rotate_left
        · intro u hY; go_simp; try with_reducible rfl
        try simp only [Act.put, List.setIfInBounds_toArray, List.set_cons_zero, List.set_cons_succ]
        refine Goes.take (i := 12) (o := ⟨some 60, _, _, _, _, _⟩) (v := ?_) [] rfl (by kernel_rfl) (by kernel_rfl) (by kernel_rfl) (fun _ _ _ h => h) (by kernel_rfl) (fun L u h => h) (Or.inl ⟨by rfl, ?_⟩) ⟨on_to HZ7.out hb, (on_to HC7.out hb).2⟩ ?_
        rotate_left
        · intro u hY; go_simp; try with_reducible rfl
        try simp only [Act.put, List.setIfInBounds_toArray, List.set_cons_zero, List.set_cons_succ]
        refine Goes.take (i := 13) (o := ⟨some 61, _, _, _, _, _⟩) (v := ?_) [] rfl (by kernel_rfl) (by kernel_rfl) (by kernel_rfl) (fun _ _ _ h => h) (by kernel_rfl) (fun L u h => h) (Or.inl ⟨by rfl, ?_⟩) ⟨on_to HZ7.out hb, (on_to HC7.out hb).2⟩ ?_
        rotate_left
        · intro u hY; go_simp; try with_reducible rfl
        try simp only [Act.put, List.setIfInBounds_toArray, List.set_cons_zero, List.set_cons_succ]
        refine Goes.take (i := 14) (o := ⟨some 62, _, _, _, _, _⟩) (v := ?_) [] rfl (by kernel_rfl) (by kernel_rfl) (by kernel_rfl) (fun _ _ _ h => h) (by kernel_rfl) (fun L u h => h) (Or.inl ⟨by rfl, ?_⟩) ⟨on_to HZ7.out hb, (on_to HC7.out hb).2⟩ ?_
        rotate_left
        · intro u hY; go_simp; try with_reducible rfl
        try simp only [Act.put, List.setIfInBounds_toArray, List.set_cons_zero, List.set_cons_succ]
        refine Goes.take (i := 15) (o := ⟨some 63, _, _, _, _, _⟩) (v := undef) [] rfl (by kernel_rfl) (by kernel_rfl) (by kernel_rfl) (fun _ _ _ h => h) (by kernel_rfl) (fun L u h => h) (Or.inr ⟨by rfl, rfl⟩) ⟨on_to HZ7.out hb, (on_to HC7.out hb).2⟩ ?_
        try simp only [Act.put, List.setIfInBounds_toArray, List.set_cons_zero, List.set_cons_succ]
        refine Goes.take (i := 16) (o := ⟨some 64, _, _, _, _, _⟩) (v := undef) [] rfl (by kernel_rfl) (by kernel_rfl) (by kernel_rfl) (fun _ _ _ h => h) (by kernel_rfl) (fun L u h => h) (Or.inr ⟨by rfl, rfl⟩) ⟨on_to HZ7.out hb, (on_to HC7.out hb).2⟩ ?_
        try simp only [Act.put, List.setIfInBounds_toArray, List.set_cons_zero, List.set_cons_succ]
        refine Goes.take (i := 17) (o := ⟨some 65, _, _, _, _, _⟩) (v := undef) [] rfl (by kernel_rfl) (by kernel_rfl) (by kernel_rfl) (fun _ _ _ h => h) (by kernel_rfl) (fun L u h => h) (Or.inr ⟨by rfl, rfl⟩) ⟨on_to HZ7.out hb, (on_to HC7.out hb).2⟩ ?_
        try simp only [Act.put, List.setIfInBounds_toArray, List.set_cons_zero, List.set_cons_succ]
        refine Goes.take (i := 18) (o := ⟨some 66, _, _, _, _, _⟩) (v := undef) [] rfl (by kernel_rfl) (by kernel_rfl) (by kernel_rfl) (fun _ _ _ h => h) (by kernel_rfl) (fun L u h => h) (Or.inr ⟨by rfl, rfl⟩) ⟨on_to HZ7.out hb, (on_to HC7.out hb).2⟩ ?_
        try simp only [Act.put, List.setIfInBounds_toArray, List.set_cons_zero, List.set_cons_succ]
        refine Goes.take (i := 19) (o := ⟨some 67, _, _, _, _, _⟩) (v := undef) [] rfl (by kernel_rfl) (by kernel_rfl) (by kernel_rfl) (fun _ _ _ h => h) (by kernel_rfl) (fun L u h => h) (Or.inr ⟨by rfl, rfl⟩) ⟨on_to HZ7.out hb, (on_to HC7.out hb).2⟩ ?_
        try simp only [Act.put, List.setIfInBounds_toArray, List.set_cons_zero, List.set_cons_succ]
        refine Goes.take (i := 20) (o := ⟨some 68, _, _, _, _, _⟩) (v := undef) [] rfl (by kernel_rfl) (by kernel_rfl) (by kernel_rfl) (fun _ _ _ h => h) (by kernel_rfl) (fun L u h => h) (Or.inr ⟨by rfl, rfl⟩) ⟨on_to HZ7.out hb, (on_to HC7.out hb).2⟩ ?_
        try simp only [Act.put, List.setIfInBounds_toArray, List.set_cons_zero, List.set_cons_succ]
        refine Goes.take (i := 21) (o := ⟨some 69, _, _, _, _, _⟩) (v := ?_) [] rfl (by kernel_rfl) (by kernel_rfl) (by kernel_rfl) (fun _ _ _ h => h) (by kernel_rfl) (fun L u h => h) (Or.inl ⟨by rfl, ?_⟩) ⟨on_to HZ7.out hb, (on_to HC7.out hb).2⟩ ?_
        rotate_left
        · intro u hY; go_simp; try with_reducible rfl
        try simp only [Act.put, List.setIfInBounds_toArray, List.set_cons_zero, List.set_cons_succ]
        refine Goes.take (i := 22) (o := ⟨some 70, _, _, _, _, _⟩) (v := ?_) [] rfl (by kernel_rfl) (by kernel_rfl) (by kernel_rfl) (fun _ _ _ h => h) (by kernel_rfl) (fun L u h => h) (Or.inl ⟨by rfl, ?_⟩) ⟨on_to HZ7.out hb, (on_to HC7.out hb).2⟩ ?_
        rotate_left
        · intro u hY; go_simp; try with_reducible rfl
        try simp only [Act.put, List.setIfInBounds_toArray, List.set_cons_zero, List.set_cons_succ]
        refine Goes.take (i := 23) (o := ⟨some 6, _, _, _, _, _⟩) (v := ?_) [] rfl (by kernel_rfl) (by kernel_rfl) (by kernel_rfl) (fun _ _ _ h => h) (by kernel_rfl) (fun L u h => h) (Or.inl ⟨by rfl, ?_⟩) ⟨on_to HZ7.out hb, (on_to HC7.out hb).2⟩ ?_
        rotate_left
        · intro u hY; go_simp; try with_reducible rfl
        try simp only [Act.put, List.setIfInBounds_toArray, List.set_cons_zero, List.set_cons_succ]
        refine Goes.done (by kernel_rfl) ?_ _
        refine NoPanic.normal ?_
        go_wp2
        go_ret
        exact ⟨rfl, HWB.out.trans ((HO7.out.trans (hb.mono HO7.out.size)).mono HWB.out.size)⟩
      · subst hst
        have e0 : (s == s) = true := (Go.MapKept.bytes_beq s s).2 rfl
        go_wp2_with fail
        clear t0 t1
        refine (samerec_any a0 b0 n0 c0 k0 d0 A B L C M D xs ys _ (on_to HR0.out H5.out.1) (on_to HS0.out H5.out.1) HN.out HL.out).mono ?_
        rintro e ws ⟨sm, rfl, hsm, js, rfl⟩
        have H6 := hid (H5.out.on (below_drewN (Below.refl _ _) js))
        have HXR := hid (on_rd HXR.out _ (below_drewN (Below.refl _ _) js))
        have HYR := hid (on_rd HYR.out _ (below_drewN (Below.refl _ _) js))
        generalize w5.drewN js = w5b at *
        clear H5
        cases sm with
        | true =>
          have HE := hid (show X = Y from HSAME.out.2 ⟨by trivial, hsm.1 (by trivial)⟩)
          clear hsm
          go_upto_region 6 with fail
          obtain ⟨t0, t1⟩ := on_to HT.out H6.out.1
          go_wp2_with fail
          clear t0 t1
          refine (as_r s a0 n0 c0 A L C xs r _ (on_to HR0.out H6.out.1) (on_to HK0.out H6.out.1) HN.out HL.out HS.out (by rw [EX.out]; exact ER.out)).mono ?_
          rintro e w6 ⟨rfl, hb6⟩
          have N6 := hid (show Ns w0 [] [] w6 from ⟨H6.out.on hb6, fun p hp => by cases hp⟩)
          have HX6 := hid (on_rd HXR.out _ hb6)
          have HY6 := hid (on_rd HYR.out _ hb6)
          obtain ⟨w7, hw, N7⟩ := N6.out.setx r
          have hbx := hi44 r HQ.out
          have hox := ho32 r HQ.out
          have HB7 := hid (show Below w6.heap.size w6 w7 by rw [← hw, World.setRow_alloc_new]; exact (Below.refl _ _).alloc (Nat.le_refl _) _)
          go_upto_region 7 with (first | (refine wpList_store_row rfl 44 (.tmp 10) (.tmp 47) rfl w6.heap.size (bvs r).toArray rfl rfl 44 _ (heap_alloc_new _ _) hbx.out hox.out (bvs_all _) ?_; rw [hw]))
          clear hw hbx hox N6
          have HX7 := hid (on_rd (on_rd HX6.out _ HB7.out))
          have HY7 := hid (on_rd (on_rd HY6.out _ HB7.out))
          generalize w6.heap.size = b10 at *
          have HZ7 := hid (on_bt (N7.out.bt b10 r (by simp)))
          have HO7 := hid N7.out.1.1
          have HC7 := hid (on_txs (on_to HT.out HO7.out))
          have HS7 := hid (on_rws (on_to HS0.out HO7.out))
          have HK7 := hid (on_kt (on_to HK0.out HO7.out))
          have heq := fun W : World => eq_sum r r HQ.out HQ.out W
          simp only [decide_true] at heq
          have hb := (Below.refl w7.heap.size w7).drew
          refine wp_region_noPanic ?_
          refine Goes.region (fun (_ : Array Bool) (u : World) => Bt u b10 44 r ∧ u.cell? ⟨g3, 1, none⟩ = some (.string s)) (by kernel_rfl) ?_
          generalize w7.drew = wq at *
          refine Goes.take (i := 0) (o := ⟨some 48, _, _, _, _, _⟩) (v := ?_) [] rfl (by kernel_rfl) (by kernel_rfl) (by kernel_rfl) (fun _ _ _ h => h) (by kernel_rfl) (fun L u h => h) (Or.inl ⟨by rfl, ?_⟩) ⟨on_to HZ7.out hb, (on_to HC7.out hb).2⟩ ?_
          rotate_left
          · intro u hY; go_simp; try with_reducible rfl
          try simp only [Act.put, List.setIfInBounds_toArray, List.set_cons_zero, List.set_cons_succ]
          refine Goes.take (i := 1) (o := ⟨some 49, _, _, _, _, _⟩) (v := ?_) [] rfl (by kernel_rfl) (by kernel_rfl) (by kernel_rfl) (fun _ _ _ h => h) (by kernel_rfl) (fun L u h => h) (Or.inl ⟨by rfl, ?_⟩) ⟨on_to HZ7.out hb, (on_to HC7.out hb).2⟩ ?_
          rotate_left
          · intro u hY; go_simp; try with_reducible rfl
          try simp only [Act.put, List.setIfInBounds_toArray, List.set_cons_zero, List.set_cons_succ]
          refine Goes.take (i := 3) (o := ⟨some 51, _, _, _, _, _⟩) (v := ?_) [] rfl (by kernel_rfl) (by kernel_rfl) (by kernel_rfl) (fun _ _ _ h => h) (by kernel_rfl) (fun L u h => h) (Or.inl ⟨by rfl, ?_⟩) ⟨on_to HZ7.out hb, (on_to HC7.out hb).2⟩ ?_
          rotate_left
          · intro u hY; go_simp; try with_reducible rfl
          try simp only [Act.put, List.setIfInBounds_toArray, List.set_cons_zero, List.set_cons_succ]
          have hc := samebytes_any A2 B2 m2 j2 c2 d2 X Y wq (on_to HX7.out hb) (on_to HY7.out hb) HX.out.2.1 HY.out.2.1 HM2.out
          rw [decide_eq_true HE.out] at hc
          refine Goes.one (i := 2) (o := ⟨some 50, _, _, _, _, _⟩) (by kernel_rfl) rfl (fun K hK => ?_)
          go_simp
          with_reducible refine hc.mono ?_
          clear hc
          rintro e wn1 ⟨rfl, j, rfl⟩
          have hb2 := below_drewN hb j
          generalize wq.drewN j = wn1 at *
          clear hb
          have hb := hb2
          clear hb2
          go_wp2_with fail
          refine hK.out _ _ ⟨on_to HZ7.out hb, (on_to HC7.out hb).2⟩ ?_
          clear hK K
          try simp only [Act.put, List.setIfInBounds_toArray, List.set_cons_zero, List.set_cons_succ]
          refine Goes.take (i := 4) (o := ⟨some 52, _, _, _, _, _⟩) (v := ?_) [] rfl (by kernel_rfl) (by kernel_rfl) (by kernel_rfl) (fun _ _ _ h => h) (by kernel_rfl) (fun L u h => h) (Or.inl ⟨by rfl, ?_⟩) ⟨on_to HZ7.out hb, (on_to HC7.out hb).2⟩ ?_
          rotate_left
          · intro u hY; go_simp; try with_reducible rfl
          try simp only [Act.put, List.setIfInBounds_toArray, List.set_cons_zero, List.set_cons_succ]
          refine Goes.take (i := 5) (o := ⟨some 53, _, _, _, _, _⟩) (v := ?_) [] rfl (by kernel_rfl) (by kernel_rfl) (by kernel_rfl) (fun _ _ _ h => h) (by kernel_rfl) (fun L u h => h) (Or.inl ⟨by rfl, ?_⟩) ⟨on_to HZ7.out hb, (on_to HC7.out hb).2⟩ ?_
          rotate_left
          · intro u hY; go_simp; try with_reducible rfl
          try simp only [Act.put, List.setIfInBounds_toArray, List.set_cons_zero, List.set_cons_succ]
          refine Goes.take (i := 6) (o := ⟨some 54, _, _, _, _, _⟩) (v := ?_) [] rfl (by kernel_rfl) (by kernel_rfl) (by kernel_rfl) (fun _ _ _ h => h) (by kernel_rfl) (fun L u h => h) (Or.inl ⟨by rfl, ?_⟩) ⟨on_to HZ7.out hb, (on_to HC7.out hb).2⟩ ?_
          rotate_left
          · rintro u ⟨up, -, hX⟩; refine load44 _ _ (.tmp 10) b10 r u ?_ ?_ hX.1 HQ.out <;> rfl
          try simp only [Act.put, List.setIfInBounds_toArray, List.set_cons_zero, List.set_cons_succ]
          refine Goes.take (i := 7) (o := ⟨some 55, _, _, _, _, _⟩) (v := ?_) [] rfl (by kernel_rfl) (by kernel_rfl) (by kernel_rfl) (fun _ _ _ h => h) (by kernel_rfl) (fun L u h => h) (Or.inl ⟨by rfl, ?_⟩) ⟨on_to HZ7.out hb, (on_to HC7.out hb).2⟩ ?_
          rotate_left
          · intro u hY; go_simp; try with_reducible rfl
          try simp only [Act.put, List.setIfInBounds_toArray, List.set_cons_zero, List.set_cons_succ]
          have hc := of_r A2 c2 m2 X r wn1 (on_to HX7.out hb) (on_to HK7.out hb) HX.out.2.1 ER.out HX.out.2.2.2.1 HM3.out
          refine Goes.one (i := 8) (o := ⟨some 56, _, _, _, _, _⟩) (by kernel_rfl) rfl (fun K hK => ?_)
          rw [if_pos (by rfl)]
          go_simp
          with_reducible refine hc.mono ?_
          clear hc
          rintro e wn2 ⟨rfl, hbn⟩
          have hb2 := hb.trans (hbn.mono hb.size)
          clear hbn
          clear hb
          have hb := hb2
          clear hb2
          go_wp2_with fail
          refine hK.out _ _ ⟨on_to HZ7.out hb, (on_to HC7.out hb).2⟩ ?_
          clear hK K
          try simp only [Act.put, List.setIfInBounds_toArray, List.set_cons_zero, List.set_cons_succ]
          refine Goes.take (i := 9) (o := ⟨some 57, _, _, _, _, _⟩) (v := ?_) [] rfl (by kernel_rfl) (by kernel_rfl) (by kernel_rfl) (fun _ _ _ h => h) (by kernel_rfl) (fun L u h => h) (Or.inl ⟨by rfl, ?_⟩) ⟨on_to HZ7.out hb, (on_to HC7.out hb).2⟩ ?_
          rotate_left
          · intro u hY; go_simp; try with_reducible rfl
          try simp only [Act.put, List.setIfInBounds_toArray, List.set_cons_zero, List.set_cons_succ]
          refine Goes.take (i := 10) (o := ⟨some 58, _, _, _, _, _⟩) (v := ?_) [] rfl (by kernel_rfl) (by kernel_rfl) (by kernel_rfl) (fun _ _ _ h => h) (by kernel_rfl) (fun L u h => h) (Or.inl ⟨by rfl, ?_⟩) ⟨on_to HZ7.out hb, (on_to HC7.out hb).2⟩ ?_
          rotate_left
          · intro u hY; go_simp; try with_reducible rfl
          try simp only [Act.put, List.setIfInBounds_toArray, List.set_cons_zero, List.set_cons_succ]
          refine Goes.take (i := 11) (o := ⟨some 59, _, _, _, _, _⟩) (v := ?_) [] rfl (by kernel_rfl) (by kernel_rfl) (by kernel_rfl) (fun _ _ _ h => h) (by kernel_rfl) (fun L u h => h) (Or.inl ⟨by rfl, ?_⟩) ⟨on_to HZ7.out hb, (on_to HC7.out hb).2⟩ ?_
          rotate_left
          · intro u hY; go_simp; try with_reducible rfl
          try simp only [Act.put, List.setIfInBounds_toArray, List.set_cons_zero, List.set_cons_succ]
          refine Goes.take (i := 12) (o := ⟨some 60, _, _, _, _, _⟩) (v := ?_) [] rfl (by kernel_rfl) (by kernel_rfl) (by kernel_rfl) (fun _ _ _ h => h) (by kernel_rfl) (fun L u h => h) (Or.inl ⟨by rfl, ?_⟩) ⟨on_to HZ7.out hb, (on_to HC7.out hb).2⟩ ?_
          rotate_left
          · intro u hY; go_simp; try with_reducible rfl
          try simp only [Act.put, List.setIfInBounds_toArray, List.set_cons_zero, List.set_cons_succ]
          refine Goes.take (i := 13) (o := ⟨some 61, _, _, _, _, _⟩) (v := ?_) [] rfl (by kernel_rfl) (by kernel_rfl) (by kernel_rfl) (fun _ _ _ h => h) (by kernel_rfl) (fun L u h => h) (Or.inl ⟨by rfl, ?_⟩) ⟨on_to HZ7.out hb, (on_to HC7.out hb).2⟩ ?_
          rotate_left
          · intro u hY; go_simp; try with_reducible rfl
          try simp only [Act.put, List.setIfInBounds_toArray, List.set_cons_zero, List.set_cons_succ]
          refine Goes.take (i := 14) (o := ⟨some 62, _, _, _, _, _⟩) (v := ?_) [] rfl (by kernel_rfl) (by kernel_rfl) (by kernel_rfl) (fun _ _ _ h => h) (by kernel_rfl) (fun L u h => h) (Or.inl ⟨by rfl, ?_⟩) ⟨on_to HZ7.out hb, (on_to HC7.out hb).2⟩ ?_
          rotate_left
          · intro u hY; go_simp; try with_reducible rfl
          try simp only [Act.put, List.setIfInBounds_toArray, List.set_cons_zero, List.set_cons_succ]
          refine Goes.take (i := 15) (o := ⟨some 63, _, _, _, _, _⟩) (v := ?_) [] rfl (by kernel_rfl) (by kernel_rfl) (by kernel_rfl) (fun _ _ _ h => h) (by kernel_rfl) (fun L u h => h) (Or.inl ⟨by rfl, ?_⟩) ⟨on_to HZ7.out hb, (on_to HC7.out hb).2⟩ ?_
          rotate_left
          · rintro u ⟨up, -, hX⟩; refine load44 _ _ (.tmp 10) b10 r u ?_ ?_ hX.1 HQ.out <;> rfl
          try simp only [Act.put, List.setIfInBounds_toArray, List.set_cons_zero, List.set_cons_succ]
          refine Goes.take (i := 16) (o := ⟨some 64, _, _, _, _, _⟩) (v := ?_) [] rfl (by kernel_rfl) (by kernel_rfl) (by kernel_rfl) (fun _ _ _ h => h) (by kernel_rfl) (fun L u h => h) (Or.inl ⟨by rfl, ?_⟩) ⟨on_to HZ7.out hb, (on_to HC7.out hb).2⟩ ?_
          rotate_left
          · intro u hY; go_simp; try with_reducible rfl
          try simp only [Act.put, List.setIfInBounds_toArray, List.set_cons_zero, List.set_cons_succ]
          refine Goes.take (i := 17) (o := ⟨some 65, _, _, _, _, _⟩) (v := ?_) [] rfl (by kernel_rfl) (by kernel_rfl) (by kernel_rfl) (fun _ _ _ h => h) (by kernel_rfl) (fun L u h => h) (Or.inl ⟨by rfl, ?_⟩) ⟨on_to HZ7.out hb, (on_to HC7.out hb).2⟩ ?_
          rotate_left
          · rintro u ⟨up, -, hX⟩; have hx := hX.2; clear hX; go_simp; try with_reducible rfl
          try simp only [Act.put, List.setIfInBounds_toArray, List.set_cons_zero, List.set_cons_succ]
          refine Goes.take (i := 18) (o := ⟨some 66, _, _, _, _, _⟩) (v := ?_) [] rfl (by kernel_rfl) (by kernel_rfl) (by kernel_rfl) (fun _ _ _ h => h) (by kernel_rfl) (fun L u h => h) (Or.inl ⟨by rfl, ?_⟩) ⟨on_to HZ7.out hb, (on_to HC7.out hb).2⟩ ?_
          rotate_left
          · intro u hY; go_simp; try with_reducible rfl
          try simp only [Act.put, List.setIfInBounds_toArray, List.set_cons_zero, List.set_cons_succ]
          have hc := as_r s b0 k0 d0 B M D ys r wn2 (on_to HS7.out hb) (on_to HK7.out hb) HNt.out HLt.out HSt.out (by rw [EY.out, ← HE.out]; exact ER.out)
          refine Goes.one (i := 19) (o := ⟨some 67, _, _, _, _, _⟩) (by kernel_rfl) rfl (fun K hK => ?_)
          rw [if_pos (by rfl)]
          go_simp
          with_reducible refine hc.mono ?_
          clear hc
          rintro e wn3 ⟨rfl, hbn⟩
          have hb2 := hb.trans (hbn.mono hb.size)
          clear hbn
          clear hb
          have hb := hb2
          clear hb2
          go_wp2_with fail
          refine hK.out _ _ ⟨on_to HZ7.out hb, (on_to HC7.out hb).2⟩ ?_
          clear hK K
          try simp only [Act.put, List.setIfInBounds_toArray, List.set_cons_zero, List.set_cons_succ]
          refine Goes.take (i := 20) (o := ⟨some 68, _, _, _, _, _⟩) (v := ?_) [] rfl (by kernel_rfl) (by kernel_rfl) (by kernel_rfl) (fun _ _ _ h => h) (by kernel_rfl) (fun L u h => h) (Or.inl ⟨by rfl, ?_⟩) ⟨on_to HZ7.out hb, (on_to HC7.out hb).2⟩ ?_
          rotate_left
          · intro u hY; go_simp; try with_reducible rfl
          try simp only [Act.put, List.setIfInBounds_toArray, List.set_cons_zero, List.set_cons_succ]
          refine Goes.take (i := 21) (o := ⟨some 69, _, _, _, _, _⟩) (v := ?_) [] rfl (by kernel_rfl) (by kernel_rfl) (by kernel_rfl) (fun _ _ _ h => h) (by kernel_rfl) (fun L u h => h) (Or.inl ⟨by rfl, ?_⟩) ⟨on_to HZ7.out hb, (on_to HC7.out hb).2⟩ ?_
          rotate_left
          · intro u hY; go_simp; try with_reducible rfl
          try simp only [Act.put, List.setIfInBounds_toArray, List.set_cons_zero, List.set_cons_succ]
          refine Goes.take (i := 22) (o := ⟨some 70, _, _, _, _, _⟩) (v := ?_) [] rfl (by kernel_rfl) (by kernel_rfl) (by kernel_rfl) (fun _ _ _ h => h) (by kernel_rfl) (fun L u h => h) (Or.inl ⟨by rfl, ?_⟩) ⟨on_to HZ7.out hb, (on_to HC7.out hb).2⟩ ?_
          rotate_left
          · intro u hY; go_simp; try with_reducible rfl
          try simp only [Act.put, List.setIfInBounds_toArray, List.set_cons_zero, List.set_cons_succ]
          refine Goes.take (i := 23) (o := ⟨some 6, _, _, _, _, _⟩) (v := ?_) [] rfl (by kernel_rfl) (by kernel_rfl) (by kernel_rfl) (fun _ _ _ h => h) (by kernel_rfl) (fun L u h => h) (Or.inl ⟨by rfl, ?_⟩) ⟨on_to HZ7.out hb, (on_to HC7.out hb).2⟩ ?_
          rotate_left
          · intro u hY; go_simp; try with_reducible rfl
          try simp only [Act.put, List.setIfInBounds_toArray, List.set_cons_zero, List.set_cons_succ]
          refine Goes.done (by kernel_rfl) ?_ _
          refine NoPanic.normal ?_
          go_wp2
          go_ret
          exact ⟨rfl, HWB.out.trans ((HO7.out.trans (hb.mono HO7.out.size)).mono HWB.out.size)⟩
        | false =>
          have HE := hid (show ¬ X = Y from fun e => by have := hsm.2 (HSAME.out.1 e).2; cases this)
          clear hsm
          go_upto_region 6 with fail
          obtain ⟨t0, t1⟩ := on_to HT.out H6.out.1
          go_wp2_with fail
          clear t0 t1
          refine (as_r s a0 n0 c0 A L C xs r _ (on_to HR0.out H6.out.1) (on_to HK0.out H6.out.1) HN.out HL.out HS.out (by rw [EX.out]; exact ER.out)).mono ?_
          rintro e w6 ⟨rfl, hb6⟩
          have N6 := hid (show Ns w0 [] [] w6 from ⟨H6.out.on hb6, fun p hp => by cases hp⟩)
          have HX6 := hid (on_rd HXR.out _ hb6)
          have HY6 := hid (on_rd HYR.out _ hb6)
          obtain ⟨w7, hw, N7⟩ := N6.out.setx r
          have hbx := hi44 r HQ.out
          have hox := ho32 r HQ.out
          have HB7 := hid (show Below w6.heap.size w6 w7 by rw [← hw, World.setRow_alloc_new]; exact (Below.refl _ _).alloc (Nat.le_refl _) _)
          go_upto_region 7 with (first | (refine wpList_store_row rfl 44 (.tmp 10) (.tmp 47) rfl w6.heap.size (bvs r).toArray rfl rfl 44 _ (heap_alloc_new _ _) hbx.out hox.out (bvs_all _) ?_; rw [hw]))
          clear hw hbx hox N6
          have HX7 := hid (on_rd (on_rd HX6.out _ HB7.out))
          have HY7 := hid (on_rd (on_rd HY6.out _ HB7.out))
          generalize w6.heap.size = b10 at *
          have HZ7 := hid (on_bt (N7.out.bt b10 r (by simp)))
          have HO7 := hid N7.out.1.1
          have HC7 := hid (on_txs (on_to HT.out HO7.out))
          have HS7 := hid (on_rws (on_to HS0.out HO7.out))
          have HK7 := hid (on_kt (on_to HK0.out HO7.out))
          have heq := fun W : World => eq_sum r r HQ.out HQ.out W
          simp only [decide_true] at heq
          have hb := (Below.refl w7.heap.size w7).drew
          refine wp_region_noPanic ?_
          refine Goes.region (fun (_ : Array Bool) (u : World) => Bt u b10 44 r ∧ u.cell? ⟨g3, 1, none⟩ = some (.string s)) (by kernel_rfl) ?_
          generalize w7.drew = wq at *
          refine Goes.take (i := 0) (o := ⟨some 48, _, _, _, _, _⟩) (v := ?_) [] rfl (by kernel_rfl) (by kernel_rfl) (by kernel_rfl) (fun _ _ _ h => h) (by kernel_rfl) (fun L u h => h) (Or.inl ⟨by rfl, ?_⟩) ⟨on_to HZ7.out hb, (on_to HC7.out hb).2⟩ ?_
          rotate_left
          · intro u hY; go_simp; try with_reducible rfl
          try simp only [Act.put, List.setIfInBounds_toArray, List.set_cons_zero, List.set_cons_succ]
          refine Goes.take (i := 1) (o := ⟨some 49, _, _, _, _, _⟩) (v := ?_) [] rfl (by kernel_rfl) (by kernel_rfl) (by kernel_rfl) (fun _ _ _ h => h) (by kernel_rfl) (fun L u h => h) (Or.inl ⟨by rfl, ?_⟩) ⟨on_to HZ7.out hb, (on_to HC7.out hb).2⟩ ?_
          rotate_left
          · intro u hY; go_simp; try with_reducible rfl
          try simp only [Act.put, List.setIfInBounds_toArray, List.set_cons_zero, List.set_cons_succ]
          refine Goes.take (i := 3) (o := ⟨some 51, _, _, _, _, _⟩) (v := ?_) [] rfl (by kernel_rfl) (by kernel_rfl) (by kernel_rfl) (fun _ _ _ h => h) (by kernel_rfl) (fun L u h => h) (Or.inl ⟨by rfl, ?_⟩) ⟨on_to HZ7.out hb, (on_to HC7.out hb).2⟩ ?_
          rotate_left
          · intro u hY; go_simp; try with_reducible rfl
          try simp only [Act.put, List.setIfInBounds_toArray, List.set_cons_zero, List.set_cons_succ]
          have hc := samebytes_any A2 B2 m2 j2 c2 d2 X Y wq (on_to HX7.out hb) (on_to HY7.out hb) HX.out.2.1 HY.out.2.1 HM2.out
          rw [decide_eq_false HE.out] at hc
          refine Goes.one (i := 2) (o := ⟨some 50, _, _, _, _, _⟩) (by kernel_rfl) rfl (fun K hK => ?_)
          go_simp
          with_reducible refine hc.mono ?_
          clear hc
          rintro e wn1 ⟨rfl, j, rfl⟩
          have hb2 := below_drewN hb j
          generalize wq.drewN j = wn1 at *
          clear hb
          have hb := hb2
          clear hb2
          go_wp2_with fail
          refine hK.out _ _ ⟨on_to HZ7.out hb, (on_to HC7.out hb).2⟩ ?_
          clear hK K
          try simp only [Act.put, List.setIfInBounds_toArray, List.set_cons_zero, List.set_cons_succ]
          refine Goes.take (i := 4) (o := ⟨some 52, _, _, _, _, _⟩) (v := ?_) [] rfl (by kernel_rfl) (by kernel_rfl) (by kernel_rfl) (fun _ _ _ h => h) (by kernel_rfl) (fun L u h => h) (Or.inl ⟨by rfl, ?_⟩) ⟨on_to HZ7.out hb, (on_to HC7.out hb).2⟩ ?_
          rotate_left
          · intro u hY; go_simp; try with_reducible rfl
          try simp only [Act.put, List.setIfInBounds_toArray, List.set_cons_zero, List.set_cons_succ]
          refine Goes.take (i := 5) (o := ⟨some 53, _, _, _, _, _⟩) (v := ?_) [] rfl (by kernel_rfl) (by kernel_rfl) (by kernel_rfl) (fun _ _ _ h => h) (by kernel_rfl) (fun L u h => h) (Or.inl ⟨by rfl, ?_⟩) ⟨on_to HZ7.out hb, (on_to HC7.out hb).2⟩ ?_
          rotate_left
          · intro u hY; go_simp; try with_reducible rfl
          try simp only [Act.put, List.setIfInBounds_toArray, List.set_cons_zero, List.set_cons_succ]
          refine Goes.take (i := 6) (o := ⟨some 54, _, _, _, _, _⟩) (v := ?_) [] rfl (by kernel_rfl) (by kernel_rfl) (by kernel_rfl) (fun _ _ _ h => h) (by kernel_rfl) (fun L u h => h) (Or.inl ⟨by rfl, ?_⟩) ⟨on_to HZ7.out hb, (on_to HC7.out hb).2⟩ ?_
          rotate_left
          · rintro u ⟨up, -, hX⟩; refine load44 _ _ (.tmp 10) b10 r u ?_ ?_ hX.1 HQ.out <;> rfl
          try simp only [Act.put, List.setIfInBounds_toArray, List.set_cons_zero, List.set_cons_succ]
          refine Goes.take (i := 7) (o := ⟨some 55, _, _, _, _, _⟩) (v := ?_) [] rfl (by kernel_rfl) (by kernel_rfl) (by kernel_rfl) (fun _ _ _ h => h) (by kernel_rfl) (fun L u h => h) (Or.inl ⟨by rfl, ?_⟩) ⟨on_to HZ7.out hb, (on_to HC7.out hb).2⟩ ?_
          rotate_left
          · intro u hY; go_simp; try with_reducible rfl
          try simp only [Act.put, List.setIfInBounds_toArray, List.set_cons_zero, List.set_cons_succ]
          have hc := of_r A2 c2 m2 X r wn1 (on_to HX7.out hb) (on_to HK7.out hb) HX.out.2.1 ER.out HX.out.2.2.2.1 HM3.out
          refine Goes.one (i := 8) (o := ⟨some 56, _, _, _, _, _⟩) (by kernel_rfl) rfl (fun K hK => ?_)
          rw [if_pos (by rfl)]
          go_simp
          with_reducible refine hc.mono ?_
          clear hc
          rintro e wn2 ⟨rfl, hbn⟩
          have hb2 := hb.trans (hbn.mono hb.size)
          clear hbn
          clear hb
          have hb := hb2
          clear hb2
          go_wp2_with fail
          refine hK.out _ _ ⟨on_to HZ7.out hb, (on_to HC7.out hb).2⟩ ?_
          clear hK K
          try simp only [Act.put, List.setIfInBounds_toArray, List.set_cons_zero, List.set_cons_succ]
          refine Goes.take (i := 9) (o := ⟨some 57, _, _, _, _, _⟩) (v := ?_) [] rfl (by kernel_rfl) (by kernel_rfl) (by kernel_rfl) (fun _ _ _ h => h) (by kernel_rfl) (fun L u h => h) (Or.inl ⟨by rfl, ?_⟩) ⟨on_to HZ7.out hb, (on_to HC7.out hb).2⟩ ?_
          rotate_left
          · intro u hY; go_simp; try with_reducible rfl
          try simp only [Act.put, List.setIfInBounds_toArray, List.set_cons_zero, List.set_cons_succ]
          refine Goes.take (i := 10) (o := ⟨some 58, _, _, _, _, _⟩) (v := ?_) [] rfl (by kernel_rfl) (by kernel_rfl) (by kernel_rfl) (fun _ _ _ h => h) (by kernel_rfl) (fun L u h => h) (Or.inl ⟨by rfl, ?_⟩) ⟨on_to HZ7.out hb, (on_to HC7.out hb).2⟩ ?_
          rotate_left
          · intro u hY; go_simp; try with_reducible rfl
          try simp only [Act.put, List.setIfInBounds_toArray, List.set_cons_zero, List.set_cons_succ]
          refine Goes.take (i := 11) (o := ⟨some 59, _, _, _, _, _⟩) (v := ?_) [] rfl (by kernel_rfl) (by kernel_rfl) (by kernel_rfl) (fun _ _ _ h => h) (by kernel_rfl) (fun L u h => h) (Or.inl ⟨by rfl, ?_⟩) ⟨on_to HZ7.out hb, (on_to HC7.out hb).2⟩ ?_
          rotate_left
          · intro u hY; go_simp; try with_reducible rfl
          try simp only [Act.put, List.setIfInBounds_toArray, List.set_cons_zero, List.set_cons_succ]
          refine Goes.take (i := 12) (o := ⟨some 60, _, _, _, _, _⟩) (v := ?_) [] rfl (by kernel_rfl) (by kernel_rfl) (by kernel_rfl) (fun _ _ _ h => h) (by kernel_rfl) (fun L u h => h) (Or.inl ⟨by rfl, ?_⟩) ⟨on_to HZ7.out hb, (on_to HC7.out hb).2⟩ ?_
          rotate_left
          · intro u hY; go_simp; try with_reducible rfl
          try simp only [Act.put, List.setIfInBounds_toArray, List.set_cons_zero, List.set_cons_succ]
          refine Goes.take (i := 13) (o := ⟨some 61, _, _, _, _, _⟩) (v := ?_) [] rfl (by kernel_rfl) (by kernel_rfl) (by kernel_rfl) (fun _ _ _ h => h) (by kernel_rfl) (fun L u h => h) (Or.inl ⟨by rfl, ?_⟩) ⟨on_to HZ7.out hb, (on_to HC7.out hb).2⟩ ?_
          rotate_left
          · intro u hY; go_simp; try with_reducible rfl
          try simp only [Act.put, List.setIfInBounds_toArray, List.set_cons_zero, List.set_cons_succ]
          refine Goes.take (i := 14) (o := ⟨some 62, _, _, _, _, _⟩) (v := ?_) [] rfl (by kernel_rfl) (by kernel_rfl) (by kernel_rfl) (fun _ _ _ h => h) (by kernel_rfl) (fun L u h => h) (Or.inl ⟨by rfl, ?_⟩) ⟨on_to HZ7.out hb, (on_to HC7.out hb).2⟩ ?_
          rotate_left
          · intro u hY; go_simp; try with_reducible rfl
          try simp only [Act.put, List.setIfInBounds_toArray, List.set_cons_zero, List.set_cons_succ]
          refine Goes.take (i := 15) (o := ⟨some 63, _, _, _, _, _⟩) (v := undef) [] rfl (by kernel_rfl) (by kernel_rfl) (by kernel_rfl) (fun _ _ _ h => h) (by kernel_rfl) (fun L u h => h) (Or.inr ⟨by rfl, rfl⟩) ⟨on_to HZ7.out hb, (on_to HC7.out hb).2⟩ ?_
          try simp only [Act.put, List.setIfInBounds_toArray, List.set_cons_zero, List.set_cons_succ]
          refine Goes.take (i := 16) (o := ⟨some 64, _, _, _, _, _⟩) (v := undef) [] rfl (by kernel_rfl) (by kernel_rfl) (by kernel_rfl) (fun _ _ _ h => h) (by kernel_rfl) (fun L u h => h) (Or.inr ⟨by rfl, rfl⟩) ⟨on_to HZ7.out hb, (on_to HC7.out hb).2⟩ ?_
          try simp only [Act.put, List.setIfInBounds_toArray, List.set_cons_zero, List.set_cons_succ]
          refine Goes.take (i := 17) (o := ⟨some 65, _, _, _, _, _⟩) (v := undef) [] rfl (by kernel_rfl) (by kernel_rfl) (by kernel_rfl) (fun _ _ _ h => h) (by kernel_rfl) (fun L u h => h) (Or.inr ⟨by rfl, rfl⟩) ⟨on_to HZ7.out hb, (on_to HC7.out hb).2⟩ ?_
          try simp only [Act.put, List.setIfInBounds_toArray, List.set_cons_zero, List.set_cons_succ]
          refine Goes.take (i := 18) (o := ⟨some 66, _, _, _, _, _⟩) (v := undef) [] rfl (by kernel_rfl) (by kernel_rfl) (by kernel_rfl) (fun _ _ _ h => h) (by kernel_rfl) (fun L u h => h) (Or.inr ⟨by rfl, rfl⟩) ⟨on_to HZ7.out hb, (on_to HC7.out hb).2⟩ ?_
          try simp only [Act.put, List.setIfInBounds_toArray, List.set_cons_zero, List.set_cons_succ]
          refine Goes.take (i := 19) (o := ⟨some 67, _, _, _, _, _⟩) (v := undef) [] rfl (by kernel_rfl) (by kernel_rfl) (by kernel_rfl) (fun _ _ _ h => h) (by kernel_rfl) (fun L u h => h) (Or.inr ⟨by rfl, rfl⟩) ⟨on_to HZ7.out hb, (on_to HC7.out hb).2⟩ ?_
          try simp only [Act.put, List.setIfInBounds_toArray, List.set_cons_zero, List.set_cons_succ]
          refine Goes.take (i := 20) (o := ⟨some 68, _, _, _, _, _⟩) (v := undef) [] rfl (by kernel_rfl) (by kernel_rfl) (by kernel_rfl) (fun _ _ _ h => h) (by kernel_rfl) (fun L u h => h) (Or.inr ⟨by rfl, rfl⟩) ⟨on_to HZ7.out hb, (on_to HC7.out hb).2⟩ ?_
          try simp only [Act.put, List.setIfInBounds_toArray, List.set_cons_zero, List.set_cons_succ]
          refine Goes.take (i := 21) (o := ⟨some 69, _, _, _, _, _⟩) (v := ?_) [] rfl (by kernel_rfl) (by kernel_rfl) (by kernel_rfl) (fun _ _ _ h => h) (by kernel_rfl) (fun L u h => h) (Or.inl ⟨by rfl, ?_⟩) ⟨on_to HZ7.out hb, (on_to HC7.out hb).2⟩ ?_
          rotate_left
          · intro u hY; go_simp; try with_reducible rfl
          try simp only [Act.put, List.setIfInBounds_toArray, List.set_cons_zero, List.set_cons_succ]
          refine Goes.take (i := 22) (o := ⟨some 70, _, _, _, _, _⟩) (v := ?_) [] rfl (by kernel_rfl) (by kernel_rfl) (by kernel_rfl) (fun _ _ _ h => h) (by kernel_rfl) (fun L u h => h) (Or.inl ⟨by rfl, ?_⟩) ⟨on_to HZ7.out hb, (on_to HC7.out hb).2⟩ ?_
          rotate_left
          · intro u hY; go_simp; try with_reducible rfl
          try simp only [Act.put, List.setIfInBounds_toArray, List.set_cons_zero, List.set_cons_succ]
          refine Goes.take (i := 23) (o := ⟨some 6, _, _, _, _, _⟩) (v := ?_) [] rfl (by kernel_rfl) (by kernel_rfl) (by kernel_rfl) (fun _ _ _ h => h) (by kernel_rfl) (fun L u h => h) (Or.inl ⟨by rfl, ?_⟩) ⟨on_to HZ7.out hb, (on_to HC7.out hb).2⟩ ?_
          rotate_left
          · intro u hY; go_simp; try with_reducible rfl
          try simp only [Act.put, List.setIfInBounds_toArray, List.set_cons_zero, List.set_cons_succ]
          refine Goes.done (by kernel_rfl) ?_ _
          refine NoPanic.normal ?_
          go_wp2
          go_ret
          exact ⟨rfl, HWB.out.trans ((HO7.out.trans (hb.mono HO7.out.size)).mono HWB.out.size)⟩
end Go.Proofs.YtikmhnlhaolbfaaDoor

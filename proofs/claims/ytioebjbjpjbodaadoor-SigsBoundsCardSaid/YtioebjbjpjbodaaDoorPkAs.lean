/-
  burrowlaw07: lives, walked; what is signed passes. Condition: none of its own.
-/
import Derived.Test.YtioebjbjpjbodaaDoorPkSgf
import Derived.Test.YtioebjbjpjbodaaDoorPkAa
namespace Go.Proofs.YtioebjbjpjbodaaDoor
open Go.RowKit
set_option linter.unusedVariables false
set_option linter.unusedSimpArgs false

theorem eq_words9 (a b c d : Int) (w : World) : (Op.equalIn 9999 24 (.agg #[.int .u64 a, .int .u64 b, .int .u64 c, .int .u64 d]) (.agg #[.int .u64 a, .int .u64 b, .int .u64 c, .int .u64 d])).run Tryd.prog w = .ok true w := by
  have u3 := Tryd.underlying22
  have a3 := Tryd.isAgg22
  have z3 := Tryd.sizeOf22
  rw [show (9999 : Nat) = 9998 + 1 from rfl, Op.equalIn]
  simp only [Sem.run_bind, run_underlying Tryd.underlying24, Result.andThen_ok]
  simp only [Std.Legacy.Range.forIn_eq_forIn_range', Std.Legacy.Range.size, Nat.sub_zero, Nat.add_sub_cancel, Nat.div_one, List.range'_succ, List.range'_zero, List.forIn_cons, List.forIn_nil]
  go_simp
/-- a signature is itself -/
theorem eq_sig (c s : Nat) (w : World) : (Op.equalIn 10000 33 (sgv c s) (sgv c s)).run Tryd.prog w = .ok true w := by
  have u3 := Tryd.underlying24
  have a3 := Tryd.isAgg24
  have z3 := Tryd.sizeOf24
  have h9 := fun a b c d => eq_words9 a b c d w
  rw [show (10000 : Nat) = 9999 + 1 from rfl, Op.equalIn]
  simp only [Sem.run_bind, run_underlying Tryd.underlying33, Result.andThen_ok]
  go_simp
theorem wp_ldw {ops : Array Oper} {rest : List Oper} {o : Oper} {a : Act} {w : World} {Q : Exit → Act → World → Prop} (hw : Region.wanted o (yielded ops a.tmps) = true) (ty : TypeId) (x : Operand) (ho : o.op = .load ty x) (p : Value) (hx : a.eval x = p) (v : Value) (hl : (Instr.loadAt ty p).run Tryd.prog w = .ok v w)
    (h : wpList Tryd.prog ops Q rest (a.put o.dst v) w) : wpList Tryd.prog ops Q (o :: rest) a w := by
  refine Go.BigFrame.wpList_want hw fun K hK => ?_
  unfold Oper.wp execOp
  simp only [ho, hx, Sem.run_bind, Result.andThen_ok, hl]
  exact hK _ _ h
theorem lofb (n : Nat) (z : Int) (w : World) (hn : n < 18446744073709551616) (hz : (n : Int) = z) : Calls Tryd.prog 8 #[.int .u64 z] w fun e w' => e = .returned (num n) ∧ Below w.heap.size w w' := by
  subst hz; exact lof_any n w hn
set_option maxRecDepth 100000 in
set_option maxHeartbeats 4000000 in
theorem lives_any (w : World) : Calls Tryd.prog 7 #[] w fun e w' => e = .returned (.bool true) ∧ Below w.heap.size w w' := by
  have K0 : ∀ w, Calls Tryd.prog 5 #[gv 23 11 4, .agg #[.int .u64 0, .int .u64 0, .int .u64 0, .int .u64 0]] w fun e w' => e = .returned (.tuple #[num 0, .int .i64 1]) ∧ Below w.heap.size w w' := fun w => key_none 23 11 4 0 w (by decide) (by decide) (by decide) (by decide) (by unfold Sec; decide)
  have K11 : ∀ w, Calls Tryd.prog 5 #[gv 23 11 4, .agg #[.int .u64 11, .int .u64 0, .int .u64 0, .int .u64 0]] w fun e w' => e = .returned (.tuple #[num 0, .int .i64 1]) ∧ Below w.heap.size w w' := fun w => key_none 23 11 4 11 w (by decide) (by decide) (by decide) (by decide) (by unfold Sec; decide)
  have K1 : ∀ w, Calls Tryd.prog 5 #[gv 23 11 4, .agg #[.int .u64 1, .int .u64 0, .int .u64 0, .int .u64 0]] w fun e w' => e = .returned (.tuple #[num 4, .int .i64 0]) ∧ Below w.heap.size w w' := fun w => key_ok 23 11 4 1 4 w (by decide) (by decide) (by decide) (by decide) (by decide) (by decide)
  have q4 := eq_yes 4 4 rfl
  go_enter Tryd.func7, Tryd.ntmps7
  go_upto_region 2 with fail
  have hb := (Below.refl w.heap.size w).alloc (Nat.le_refl _) (.cells #[.int .u64 23, .int .u64 0, .int .u64 0, .int .u64 0, .int .u64 11, .int .u64 0, .int .u64 0, .int .u64 0, .int .u64 4, .int .u64 0, .int .u64 0, .int .u64 0] 26)
  have hn : (w.alloc (.cells #[.int .u64 23, .int .u64 0, .int .u64 0, .int .u64 0, .int .u64 11, .int .u64 0, .int .u64 0, .int .u64 0, .int .u64 4, .int .u64 0, .int .u64 0, .int .u64 0] 26)).heap[w.heap.size]? = some (.cells (gcs 23 11 4) 26 (0, 0)) := heap_alloc_new w (.cells #[.int .u64 23, .int .u64 0, .int .u64 0, .int .u64 0, .int .u64 11, .int .u64 0, .int .u64 0, .int .u64 0, .int .u64 4, .int .u64 0, .int .u64 0, .int .u64 0] 26)
  have HFIN : Hid (∀ u, Below (w.alloc (.cells #[.int .u64 23, .int .u64 0, .int .u64 0, .int .u64 0, .int .u64 11, .int .u64 0, .int .u64 0, .int .u64 0, .int .u64 4, .int .u64 0, .int .u64 0, .int .u64 0] 26)).heap.size (w.alloc (.cells #[.int .u64 23, .int .u64 0, .int .u64 0, .int .u64 0, .int .u64 11, .int .u64 0, .int .u64 0, .int .u64 0, .int .u64 4, .int .u64 0, .int .u64 0, .int .u64 0] 26)) u → Below w.heap.size w u) := hid (fun u hu => hb.trans (hu.mono hb.size))
  have FG := hid (ldG 23 11 4 0 hn (all_at _))
  clear hb hn
  generalize w.alloc (.cells #[.int .u64 23, .int .u64 0, .int .u64 0, .int .u64 0, .int .u64 11, .int .u64 0, .int .u64 0, .int .u64 0, .int .u64 4, .int .u64 0, .int .u64 0, .int .u64 0] 26) = W0 at *
  generalize hgp : w.heap.size = g_p at *
  have HB := hid (Below.refl W0.heap.size W0)
  have l1 := FG.out.here
  go_wp2_with (first | (refine wp_ldw (by rfl) _ _ rfl _ rfl _ (by first | exact l1) ?_))
  clear l1
  refine (K0 _).mono ?_
  rintro e w1 ⟨rfl, hb⟩
  have HB := hid (HB.out.trans (hb.mono HB.out.size))
  have FG := hid (FG.out.on hb)
  clear hb
  go_upto_region 3 with fail
  have hb := (Below.refl w1.heap.size w1).alloc (Nat.le_refl _) (.cells (cls 0) 24)
  have hn := heap_alloc_new w1 (.cells (cls 0) 24)
  have HB := hid (HB.out.trans (hb.mono HB.out.size))
  have FG := hid (FG.out.on hb)
  have FN2 := hid (ldN 0 0 hn (all_at _))
  have FbN2 := hid (on_blk hn)
  clear hb hn
  generalize w1.alloc (.cells (cls 0) 24) = w2 at *
  generalize w1.heap.size = gN2 at *
  have l2 := FG.out.here
  go_wp2_with (first | (refine wp_ldw (by rfl) _ _ rfl _ rfl _ (by first | exact l2) ?_))
  clear l2
  refine (K11 _).mono ?_
  rintro e w3 ⟨rfl, hb⟩
  have HB := hid (HB.out.trans (hb.mono HB.out.size))
  have FG := hid (FG.out.on hb)
  have FN2 := hid (FN2.out.on hb)
  have FbN2 := hid (FbN2.out.on hb)
  clear hb
  go_upto_region 4 with fail
  have hb := (Below.refl w3.heap.size w3).alloc (Nat.le_refl _) (.cells (cls 0) 24)
  have hn := heap_alloc_new w3 (.cells (cls 0) 24)
  have HB := hid (HB.out.trans (hb.mono HB.out.size))
  have FG := hid (FG.out.on hb)
  have FN2 := hid (FN2.out.on hb)
  have FbN2 := hid (FbN2.out.on hb)
  have FN4 := hid (ldN 0 0 hn (all_at _))
  have FbN4 := hid (on_blk hn)
  clear hb hn
  generalize w3.alloc (.cells (cls 0) 24) = w4 at *
  generalize w3.heap.size = gN4 at *
  have l3 := FG.out.here
  go_wp2_with (first | (refine wp_ldw (by rfl) _ _ rfl _ rfl _ (by first | exact l3) ?_))
  clear l3
  refine (K1 _).mono ?_
  rintro e w5 ⟨rfl, hb⟩
  have HB := hid (HB.out.trans (hb.mono HB.out.size))
  have FG := hid (FG.out.on hb)
  have FN2 := hid (FN2.out.on hb)
  have FbN2 := hid (FbN2.out.on hb)
  have FN4 := hid (FN4.out.on hb)
  have FbN4 := hid (FbN4.out.on hb)
  clear hb
  go_upto_region 5 with fail
  have hb := (Below.refl w5.heap.size w5).alloc (Nat.le_refl _) (.cells (cls 4) 24)
  have hn := heap_alloc_new w5 (.cells (cls 4) 24)
  have HB := hid (HB.out.trans (hb.mono HB.out.size))
  have FG := hid (FG.out.on hb)
  have FN2 := hid (FN2.out.on hb)
  have FbN2 := hid (FbN2.out.on hb)
  have FN4 := hid (FN4.out.on hb)
  have FbN4 := hid (FbN4.out.on hb)
  have FN6 := hid (ldN 4 0 hn (all_at _))
  have FbN6 := hid (on_blk hn)
  clear hb hn
  generalize w5.alloc (.cells (cls 4) 24) = w6 at *
  generalize w5.heap.size = gN6 at *
  refine wp_region_noPanic ?_
  refine Goes.region (fun (L : Array Bool) (u : World) => (Instr.loadAt 24 (.pointer (some ⟨gN6, 0, none⟩))).run Tryd.prog u = .ok (num 4) u) (by kernel_rfl) ?_
  have hb := (Below.refl w6.heap.size w6).drew
  have HB := hid (HB.out.trans (hb.mono HB.out.size))
  have FG := hid (FG.out.on hb)
  have FN2 := hid (FN2.out.on hb)
  have FbN2 := hid (FbN2.out.on hb)
  have FN4 := hid (FN4.out.on hb)
  have FbN4 := hid (FbN4.out.on hb)
  have FN6 := hid (FN6.out.on hb)
  have FbN6 := hid (FbN6.out.on hb)
  clear hb
  generalize w6.drew = w7 at *
  refine Goes.tk (i := 0) (o := ⟨some 30, _, _, _, _, _⟩) (v := ?_) [] (y := Or.inl ⟨by rfl, ?_⟩) (s := FN6.out.here) (H := ?_)
  rotate_left
  · intro u hY; go_simp; try with_reducible rfl
  try simp only [putz]
  refine Goes.tk (i := 1) (o := ⟨some 31, _, _, _, _, _⟩) (v := ?_) [] (y := Or.inl ⟨by rfl, ?_⟩) (s := FN6.out.here) (H := ?_)
  rotate_left
  · intro u hY; go_simp; try with_reducible rfl
  try simp only [putz]
  refine Goes.tk (i := 2) (o := ⟨some 32, _, _, _, _, _⟩) (v := ?_) [] (y := Or.inl ⟨by rfl, ?_⟩) (s := FN6.out.here) (H := ?_)
  rotate_left
  · intro u hY; go_simp; try with_reducible rfl
  try simp only [putz]
  refine Goes.tk (i := 3) (o := ⟨some 33, _, _, _, _, _⟩) (v := ?_) [] (y := Or.inl ⟨by rfl, ?_⟩) (s := FN6.out.here) (H := ?_)
  rotate_left
  · intro u hY; go_simp; try with_reducible rfl
  try simp only [putz]
  refine Goes.tk (i := 4) (o := ⟨some 34, _, _, _, _, _⟩) (v := ?_) [] (y := Or.inl ⟨by rfl, ?_⟩) (s := FN6.out.here) (H := ?_)
  rotate_left
  · intro u hY; go_simp; try with_reducible rfl
  try simp only [putz]
  refine Goes.tk (i := 5) (o := ⟨some 35, _, _, _, _, _⟩) (v := ?_) [] (y := Or.inl ⟨by rfl, ?_⟩) (s := FN6.out.here) (H := ?_)
  rotate_left
  · intro u hY; go_simp; try with_reducible rfl
  try simp only [putz]
  refine Goes.tk (i := 6) (o := ⟨some 36, _, _, _, _, _⟩) (v := ?_) [] (y := Or.inl ⟨by rfl, ?_⟩) (s := FN6.out.here) (H := ?_)
  rotate_left
  · intro u hY; go_simp; try with_reducible rfl
  try simp only [putz]
  refine Goes.tk (i := 7) (o := ⟨some 37, _, _, _, _, _⟩) (v := num 4) [] (y := Or.inl ⟨by rfl, ?_⟩) (s := FN6.out.here) (H := ?_)
  · rintro u ⟨up, -, hX⟩; have x0 := hX; exact y_ld _ _ rfl _ _ rfl x0
  try simp only [putz]
  refine Goes.one (i := 8) (o := ⟨some 38, _, _, _, _, _⟩) (by kernel_rfl) rfl (fun K hK => ?_)
  go_simp
  with_reducible refine (lofb 4 4 _ (by decide) rfl).mono ?_
  rintro e w8 ⟨rfl, hb⟩
  go_wp2_with fail
  have HB := hid (HB.out.trans (hb.mono HB.out.size))
  have FG := hid (FG.out.on hb)
  have FN2 := hid (FN2.out.on hb)
  have FbN2 := hid (FbN2.out.on hb)
  have FN4 := hid (FN4.out.on hb)
  have FbN4 := hid (FbN4.out.on hb)
  have FN6 := hid (FN6.out.on hb)
  have FbN6 := hid (FbN6.out.on hb)
  clear hb
  refine hK.out _ _ FN6.out.here ?_
  clear hK K
  try simp only [putz]
  refine Goes.tk (i := 9) (o := ⟨some 39, _, _, _, _, _⟩) (v := ?_) [] (y := Or.inl ⟨by rfl, ?_⟩) (s := FN6.out.here) (H := ?_)
  rotate_left
  · intro u hY; go_simp; try with_reducible rfl
  try simp only [putz]
  refine Goes.tk (i := 10) (o := ⟨some 40, _, _, _, _, _⟩) (v := ?_) [] (y := Or.inl ⟨by rfl, ?_⟩) (s := FN6.out.here) (H := ?_)
  rotate_left
  · intro u hY; go_simp; try with_reducible rfl
  try simp only [putz]
  refine Goes.tk (i := 11) (o := ⟨some 41, _, _, _, _, _⟩) (v := ?_) [] (y := Or.inl ⟨by rfl, ?_⟩) (s := FN6.out.here) (H := ?_)
  rotate_left
  · intro u hY; go_simp; try with_reducible rfl
  try simp only [putz]
  refine Goes.tk (i := 12) (o := ⟨some 42, _, _, _, _, _⟩) (v := ?_) [] (y := Or.inl ⟨by rfl, ?_⟩) (s := FN6.out.here) (H := ?_)
  rotate_left
  · intro u hY; go_simp; try with_reducible rfl
  try simp only [putz]
  refine Goes.tk (i := 13) (o := ⟨some 43, _, _, _, _, _⟩) (v := ?_) [] (y := Or.inl ⟨by rfl, ?_⟩) (s := FN6.out.here) (H := ?_)
  rotate_left
  · intro u hY; go_simp; try with_reducible rfl
  try simp only [putz]
  refine Goes.tk (i := 14) (o := ⟨some 44, _, _, _, _, _⟩) (v := ?_) [] (y := Or.inl ⟨by rfl, ?_⟩) (s := FN6.out.here) (H := ?_)
  rotate_left
  · intro u hY; go_simp; try with_reducible rfl
  try simp only [putz]
  refine Goes.tk (i := 15) (o := ⟨some 0, _, _, _, _, _⟩) (v := ?_) [] (y := Or.inl ⟨by rfl, ?_⟩) (s := FN6.out.here) (H := ?_)
  rotate_left
  · intro u hY; go_simp; try with_reducible rfl
  try simp only [putz]
  refine Goes.done (by kernel_rfl) ?_ _
  refine NoPanic.normal ?_
  go_wp2_with fail
  try go_ret
  try rw [Exit.noGoto_ret]
  first | exact ⟨rfl, by first | exact HFIN.out _ HB.out | (rw [hgp]; exact HFIN.out _ HB.out)⟩ | exact bodyPost_ret (v := .bool (true)) (by simp [results, Tryd.results7, go_sem]) rfl ⟨rfl, by first | exact HFIN.out _ HB.out | (rw [hgp]; exact HFIN.out _ HB.out)⟩
theorem back_chk (p q g x : Nat) (bs : List UInt8) (hv : Sec p q g x) (h1 : g ^ x % p ≠ 1) : Chk p q g (g ^ x % p) (sigC p q g x bs) (sigS p q g x bs) bs := by
  obtain ⟨v1, v2, v3, v4, v5, v6⟩ := hv
  have hp1 : 1 < p := by omega
  have hq0 : q ≠ 0 := by omega
  have hk := grp_pow (n := x) hp1 v6
  refine ⟨⟨v3, v4, v5, v6⟩, ⟨h1, grp_pos hp1 hq0 hk (Nat.mod_lt _ (by omega)), hk⟩, sigC_lt p q g x bs hq0, sigS_lt p q g x bs hq0, ?_⟩
  have hs := sig_passes p q g x (sigC p q g x bs) (drw q x bs) (sigS p q g x bs) (by rw [v6, Nat.mod_eq_of_lt hp1]) (Nat.le_of_lt (sigC_lt p q g x bs hq0)) (by unfold sigS; rw [Nat.mod_mod, Nat.add_mod_mod])
  rw [hs]
  rfl
end Go.Proofs.YtioebjbjpjbodaaDoor

/-
  What is loaded, from a time on; burrowlaw07.lives, walked. Conditions: none.
-/
import Derived.Test.YtioebjbjpjbodaaSga
import Derived.Deep.MidRow
namespace Go.Proofs.Ytioebjbjpjbodaa
open Go.RowKit
set_option linter.unusedVariables false
set_option linter.unusedSimpArgs false

/-- from here on -/
def On (w : World) (P : World → Prop) : Prop := ∀ w', Below w.heap.size w w' → P w'
theorem On.on {w w2 : World} {P : World → Prop} (h : On w P) (hb : Below w.heap.size w w2) : On w2 P := fun w' h' => h w' (hb.trans (h'.mono hb.size))
theorem On.here {w : World} {P : World → Prop} (h : On w P) : P w := h w (Below.refl _ _)
theorem on_blk {w : World} {g : Nat} {o : Obj} (h : w.heap[g]? = some o) : On w fun u => u.heap[g]? = some o := fun u hu => (hu.block g (lt_of_block h)).trans h
/-- from here on, what is loaded there is this -/
def Ld (w : World) (ty g o : Nat) (v : Value) : Prop := ∀ u, Below w.heap.size w u → (Instr.loadAt ty (.pointer (some ⟨g, o, none⟩))).run Try.prog u = .ok v u
theorem Ld.on {w w' : World} {ty g o : Nat} {v : Value} (h : Ld w ty g o v) (hb : Below w.heap.size w w') : Ld w' ty g o v := fun u hu => h u (hb.trans (hu.mono hb.size))
theorem Ld.here {w : World} {ty g o : Nat} {v : Value} (h : Ld w ty g o v) : (Instr.loadAt ty (.pointer (some ⟨g, o, none⟩))).run Try.prog w = .ok v w := h w (Below.refl _ _)
theorem rng_of {w : World} {g t : Nat} {cs : Array Value} (h : w.heap[g]? = some (.cells cs t (0, 0))) (o : Nat) (vs : List Value) (hv : ∀ j v, vs[j]? = some v → cs[o + j]? = some v) : w.rangeAt g o vs := fun j v hj => by
  rw [cell_of_row w g (o + j) _ t (0, 0) h]; exact hv j v hj
theorem ld_of {w : World} {g t : Nat} {cs : Array Value} (h : w.heap[g]? = some (.cells cs t (0, 0))) (ty o : Nat) (vs : List Value) (d : TypeDesc) (hv : ∀ j v, vs[j]? = some v → cs[o + j]? = some v)
    (hu : Try.prog.underlying ty = some d) (hd : d.isRow = true) (hi : (Try.prog.info? ty).map (·.size) = some vs.length) : Ld w ty g o (.agg vs.toArray) := fun u hu2 =>
  run_loadAt_mid u g o ty vs d (rng_of ((hu2.block g (lt_of_block h)).trans h) o vs hv) hu hd hi
theorem four_at (x : Nat) (cs : Array Value) (o : Nat) (h0 : cs[o]? = some (.int .u64 (wd x 0 : Int))) (h1 : cs[o + 1]? = some (.int .u64 (wd x 1 : Int))) (h2 : cs[o + 2]? = some (.int .u64 (wd x 2 : Int))) (h3 : cs[o + 3]? = some (.int .u64 (wd x 3 : Int))) : ∀ j v, (cls x).toList[j]? = some v → cs[o + j]? = some v := by
  intro j v hj
  match j, hj with
  | 0, hj => rw [← hj]; exact h0
  | 1, hj => rw [← hj]; exact h1
  | 2, hj => rw [← hj]; exact h2
  | 3, hj => rw [← hj]; exact h3
  | n + 4, hj => simp at hj
theorem ldN {w : World} {g t : Nat} {cs : Array Value} (x o : Nat) (h : w.heap[g]? = some (.cells cs t (0, 0))) (hv : ∀ j v, (cls x).toList[j]? = some v → cs[o + j]? = some v) : Ld w 24 g o (num x) :=
  ld_of h 24 o (cls x).toList _ hv Try.underlying24 rfl (by kernel_rfl)
theorem ldG {w : World} {g t : Nat} {cs : Array Value} (p q g0 o : Nat) (h : w.heap[g]? = some (.cells cs t (0, 0))) (hv : ∀ j v, (gcs p q g0).toList[j]? = some v → cs[o + j]? = some v) : Ld w 26 g o (gv p q g0) :=
  ld_of h 26 o (gcs p q g0).toList _ hv Try.underlying26 rfl (by kernel_rfl)
theorem all_at (cs : Array Value) : ∀ j v, cs.toList[j]? = some v → cs[0 + j]? = some v := fun j v h => by rw [Nat.zero_add]; simpa using h
theorem wp_ld {ops : Array Oper} {rest : List Oper} {o : Oper} {a : Act} {w : World} {Q : Exit → Act → World → Prop} (hgd : o.guard = none) (ty : TypeId) (x : Operand) (ho : o.op = .load ty x) (p : Value) (hx : a.eval x = p) (v : Value) (hl : (Instr.loadAt ty p).run Try.prog w = .ok v w)
    (h : wpList Try.prog ops Q rest (a.put o.dst v) w) : wpList Try.prog ops Q (o :: rest) a w := by
  refine wpList_plain hgd fun K hK => ?_
  unfold Oper.wp execOp
  simp only [ho, hx, Sem.run_bind, Result.andThen_ok, hl]
  exact hK _ _ h
theorem nm_zero {w : World} {g : Nat} (h : w.heap[g]? = some (.cells #[.int .u64 0, .int .u64 0, .int .u64 0, .int .u64 0] 24 (0, 0))) : Nm w g 0 := by unfold Nm; rw [← cls_zero]; exact h
theorem env_one {W0 w : World} {g x : Nat} (h : Below W0.heap.size W0 w) (hn : Nm w g x) : Env W0 [(g, x)] w := ⟨h, fun p hp => by obtain rfl := List.mem_singleton.1 hp; exact hn⟩
theorem y_ld {o : Oper} {a : Act} {u : World} (ty : TypeId) (x : Operand) (ho : o.op = .load ty x) (p v : Value) (hx : a.eval x = p) (hl : (Instr.loadAt ty p).run Try.prog u = .ok v u) : (execOp a.eval o).run Try.prog u = .ok (.value v) u := by
  unfold execOp
  simp only [ho, hx, Sem.run_bind, Sem.run_pure, Result.andThen_ok, hl]
theorem wp_ldw {ops : Array Oper} {rest : List Oper} {o : Oper} {a : Act} {w : World} {Q : Exit → Act → World → Prop} (hw : Region.wanted o (yielded ops a.tmps) = true) (ty : TypeId) (x : Operand) (ho : o.op = .load ty x) (p : Value) (hx : a.eval x = p) (v : Value) (hl : (Instr.loadAt ty p).run Try.prog w = .ok v w)
    (h : wpList Try.prog ops Q rest (a.put o.dst v) w) : wpList Try.prog ops Q (o :: rest) a w := by
  refine Go.BigFrame.wpList_want hw fun K hK => ?_
  unfold Oper.wp execOp
  simp only [ho, hx, Sem.run_bind, Result.andThen_ok, hl]
  exact hK _ _ h
theorem lofb (n : Nat) (z : Int) (w : World) (hn : n < 18446744073709551616) (hz : (n : Int) = z) : Calls Try.prog 13 #[.int .u64 z] w fun e w' => e = .returned (num n) ∧ Below w.heap.size w w' := by
  subst hz; exact lof_any n w hn
set_option maxRecDepth 100000 in
set_option maxHeartbeats 4000000 in
theorem lives_any (w : World) : Calls Try.prog 5 #[] w fun e w' => e = .returned (.bool true) ∧ Below w.heap.size w w' := by
  have K0 : ∀ w, Calls Try.prog 4 #[gv 23 11 4, .agg #[.int .u64 0, .int .u64 0, .int .u64 0, .int .u64 0]] w fun e w' => e = .returned (.tuple #[num 0, .int .i64 1]) ∧ Below w.heap.size w w' := fun w => key_none 23 11 4 0 w (by decide) (by decide) (by decide) (by decide) (by unfold Sec; decide)
  have K11 : ∀ w, Calls Try.prog 4 #[gv 23 11 4, .agg #[.int .u64 11, .int .u64 0, .int .u64 0, .int .u64 0]] w fun e w' => e = .returned (.tuple #[num 0, .int .i64 1]) ∧ Below w.heap.size w w' := fun w => key_none 23 11 4 11 w (by decide) (by decide) (by decide) (by decide) (by unfold Sec; decide)
  have K1 : ∀ w, Calls Try.prog 4 #[gv 23 11 4, .agg #[.int .u64 1, .int .u64 0, .int .u64 0, .int .u64 0]] w fun e w' => e = .returned (.tuple #[num 4, .int .i64 0]) ∧ Below w.heap.size w w' := fun w => key_ok 23 11 4 1 4 w (by decide) (by decide) (by decide) (by decide) (by decide) (by decide)
  have q4 := eq_yes 4 4 rfl
  go_enter Try.func5, Try.ntmps5
  go_upto_region 2 with fail
  have hb := (Below.refl w.heap.size w).alloc (Nat.le_refl _) (.cells #[.int .u64 23, .int .u64 0, .int .u64 0, .int .u64 0, .int .u64 11, .int .u64 0, .int .u64 0, .int .u64 0, .int .u64 4, .int .u64 0, .int .u64 0, .int .u64 0] 26)
  have hn : (w.alloc (.cells #[.int .u64 23, .int .u64 0, .int .u64 0, .int .u64 0, .int .u64 11, .int .u64 0, .int .u64 0, .int .u64 0, .int .u64 4, .int .u64 0, .int .u64 0, .int .u64 0] 26)).heap[w.heap.size]? = some (.cells (gcs 23 11 4) 26 (0, 0)) := heap_alloc_new w (.cells #[.int .u64 23, .int .u64 0, .int .u64 0, .int .u64 0, .int .u64 11, .int .u64 0, .int .u64 0, .int .u64 0, .int .u64 4, .int .u64 0, .int .u64 0, .int .u64 0] 26)
  have HFIN : Hid (∀ u, Below (w.alloc (.cells #[.int .u64 23, .int .u64 0, .int .u64 0, .int .u64 0, .int .u64 11, .int .u64 0, .int .u64 0, .int .u64 0, .int .u64 4, .int .u64 0, .int .u64 0, .int .u64 0] 26)).heap.size (w.alloc (.cells #[.int .u64 23, .int .u64 0, .int .u64 0, .int .u64 0, .int .u64 11, .int .u64 0, .int .u64 0, .int .u64 0, .int .u64 4, .int .u64 0, .int .u64 0, .int .u64 0] 26)) u → Below w.heap.size w u) := hid (fun u hu => hb.trans (hu.mono hb.size))
  have FG := hid (ldG 23 11 4 0 hn (all_at _))
  clear hb hn
  generalize w.alloc (.cells #[.int .u64 23, .int .u64 0, .int .u64 0, .int .u64 0, .int .u64 11, .int .u64 0, .int .u64 0, .int .u64 0, .int .u64 4, .int .u64 0, .int .u64 0, .int .u64 0] 26) = W0 at *
  generalize hgp : w.heap.size = g_p at *
  have HB := hid (Below.refl W0.heap.size W0)
  have l1 := FG.out.here
  go_wp2_with (first | (refine wp_ldw (by rfl) _ _ rfl _ rfl _ (by first | exact l1) ?_))
  clear l1
  refine (K0 _).mono ?_
  rintro e w1 ⟨rfl, hb⟩
  have HB := hid (HB.out.trans (hb.mono HB.out.size))
  have FG := hid (FG.out.on hb)
  clear hb
  go_upto_region 3 with fail
  have hb := (Below.refl w1.heap.size w1).alloc (Nat.le_refl _) (.cells (cls 0) 24)
  have hn := heap_alloc_new w1 (.cells (cls 0) 24)
  have HB := hid (HB.out.trans (hb.mono HB.out.size))
  have FG := hid (FG.out.on hb)
  have FN2 := hid (ldN 0 0 hn (all_at _))
  have FbN2 := hid (on_blk hn)
  clear hb hn
  generalize w1.alloc (.cells (cls 0) 24) = w2 at *
  generalize w1.heap.size = gN2 at *
  have l2 := FG.out.here
  go_wp2_with (first | (refine wp_ldw (by rfl) _ _ rfl _ rfl _ (by first | exact l2) ?_))
  clear l2
  refine (K11 _).mono ?_
  rintro e w3 ⟨rfl, hb⟩
  have HB := hid (HB.out.trans (hb.mono HB.out.size))
  have FG := hid (FG.out.on hb)
  have FN2 := hid (FN2.out.on hb)
  have FbN2 := hid (FbN2.out.on hb)
  clear hb
  go_upto_region 4 with fail
  have hb := (Below.refl w3.heap.size w3).alloc (Nat.le_refl _) (.cells (cls 0) 24)
  have hn := heap_alloc_new w3 (.cells (cls 0) 24)
  have HB := hid (HB.out.trans (hb.mono HB.out.size))
  have FG := hid (FG.out.on hb)
  have FN2 := hid (FN2.out.on hb)
  have FbN2 := hid (FbN2.out.on hb)
  have FN4 := hid (ldN 0 0 hn (all_at _))
  have FbN4 := hid (on_blk hn)
  clear hb hn
  generalize w3.alloc (.cells (cls 0) 24) = w4 at *
  generalize w3.heap.size = gN4 at *
  have l3 := FG.out.here
  go_wp2_with (first | (refine wp_ldw (by rfl) _ _ rfl _ rfl _ (by first | exact l3) ?_))
  clear l3
  refine (K1 _).mono ?_
  rintro e w5 ⟨rfl, hb⟩
  have HB := hid (HB.out.trans (hb.mono HB.out.size))
  have FG := hid (FG.out.on hb)
  have FN2 := hid (FN2.out.on hb)
  have FbN2 := hid (FbN2.out.on hb)
  have FN4 := hid (FN4.out.on hb)
  have FbN4 := hid (FbN4.out.on hb)
  clear hb
  go_upto_region 5 with fail
  have hb := (Below.refl w5.heap.size w5).alloc (Nat.le_refl _) (.cells (cls 4) 24)
  have hn := heap_alloc_new w5 (.cells (cls 4) 24)
  have HB := hid (HB.out.trans (hb.mono HB.out.size))
  have FG := hid (FG.out.on hb)
  have FN2 := hid (FN2.out.on hb)
  have FbN2 := hid (FbN2.out.on hb)
  have FN4 := hid (FN4.out.on hb)
  have FbN4 := hid (FbN4.out.on hb)
  have FN6 := hid (ldN 4 0 hn (all_at _))
  have FbN6 := hid (on_blk hn)
  clear hb hn
  generalize w5.alloc (.cells (cls 4) 24) = w6 at *
  generalize w5.heap.size = gN6 at *
  refine wp_region_noPanic ?_
  refine Goes.region (fun (L : Array Bool) (u : World) => (Instr.loadAt 24 (.pointer (some ⟨gN6, 0, none⟩))).run Try.prog u = .ok (num 4) u) (by kernel_rfl) ?_
  have hb := (Below.refl w6.heap.size w6).drew
  have HB := hid (HB.out.trans (hb.mono HB.out.size))
  have FG := hid (FG.out.on hb)
  have FN2 := hid (FN2.out.on hb)
  have FbN2 := hid (FbN2.out.on hb)
  have FN4 := hid (FN4.out.on hb)
  have FbN4 := hid (FbN4.out.on hb)
  have FN6 := hid (FN6.out.on hb)
  have FbN6 := hid (FbN6.out.on hb)
  clear hb
  generalize w6.drew = w7 at *
  refine Goes.tk (i := 0) (o := ⟨some 30, _, _, _, _, _⟩) (v := ?_) [] (y := Or.inl ⟨by rfl, ?_⟩) (s := FN6.out.here) (H := ?_)
  rotate_left
  · intro u hY; go_simp; try with_reducible rfl
  try simp only [putz]
  refine Goes.tk (i := 1) (o := ⟨some 31, _, _, _, _, _⟩) (v := ?_) [] (y := Or.inl ⟨by rfl, ?_⟩) (s := FN6.out.here) (H := ?_)
  rotate_left
  · intro u hY; go_simp; try with_reducible rfl
  try simp only [putz]
  refine Goes.tk (i := 2) (o := ⟨some 32, _, _, _, _, _⟩) (v := ?_) [] (y := Or.inl ⟨by rfl, ?_⟩) (s := FN6.out.here) (H := ?_)
  rotate_left
  · intro u hY; go_simp; try with_reducible rfl
  try simp only [putz]
  refine Goes.tk (i := 3) (o := ⟨some 33, _, _, _, _, _⟩) (v := ?_) [] (y := Or.inl ⟨by rfl, ?_⟩) (s := FN6.out.here) (H := ?_)
  rotate_left
  · intro u hY; go_simp; try with_reducible rfl
  try simp only [putz]
  refine Goes.tk (i := 4) (o := ⟨some 34, _, _, _, _, _⟩) (v := ?_) [] (y := Or.inl ⟨by rfl, ?_⟩) (s := FN6.out.here) (H := ?_)
  rotate_left
  · intro u hY; go_simp; try with_reducible rfl
  try simp only [putz]
  refine Goes.tk (i := 5) (o := ⟨some 35, _, _, _, _, _⟩) (v := ?_) [] (y := Or.inl ⟨by rfl, ?_⟩) (s := FN6.out.here) (H := ?_)
  rotate_left
  · intro u hY; go_simp; try with_reducible rfl
  try simp only [putz]
  refine Goes.tk (i := 6) (o := ⟨some 36, _, _, _, _, _⟩) (v := ?_) [] (y := Or.inl ⟨by rfl, ?_⟩) (s := FN6.out.here) (H := ?_)
  rotate_left
  · intro u hY; go_simp; try with_reducible rfl
  try simp only [putz]
  refine Goes.tk (i := 7) (o := ⟨some 37, _, _, _, _, _⟩) (v := num 4) [] (y := Or.inl ⟨by rfl, ?_⟩) (s := FN6.out.here) (H := ?_)
  · rintro u ⟨up, -, hX⟩; have x0 := hX; exact y_ld _ _ rfl _ _ rfl x0
  try simp only [putz]
  refine Goes.one (i := 8) (o := ⟨some 38, _, _, _, _, _⟩) (by kernel_rfl) rfl (fun K hK => ?_)
  go_simp
  with_reducible refine (lofb 4 4 _ (by decide) rfl).mono ?_
  rintro e w8 ⟨rfl, hb⟩
  go_wp2_with fail
  have HB := hid (HB.out.trans (hb.mono HB.out.size))
  have FG := hid (FG.out.on hb)
  have FN2 := hid (FN2.out.on hb)
  have FbN2 := hid (FbN2.out.on hb)
  have FN4 := hid (FN4.out.on hb)
  have FbN4 := hid (FbN4.out.on hb)
  have FN6 := hid (FN6.out.on hb)
  have FbN6 := hid (FbN6.out.on hb)
  clear hb
  refine hK.out _ _ FN6.out.here ?_
  clear hK K
  try simp only [putz]
  refine Goes.tk (i := 9) (o := ⟨some 39, _, _, _, _, _⟩) (v := ?_) [] (y := Or.inl ⟨by rfl, ?_⟩) (s := FN6.out.here) (H := ?_)
  rotate_left
  · intro u hY; go_simp; try with_reducible rfl
  try simp only [putz]
  refine Goes.tk (i := 10) (o := ⟨some 40, _, _, _, _, _⟩) (v := ?_) [] (y := Or.inl ⟨by rfl, ?_⟩) (s := FN6.out.here) (H := ?_)
  rotate_left
  · intro u hY; go_simp; try with_reducible rfl
  try simp only [putz]
  refine Goes.tk (i := 11) (o := ⟨some 41, _, _, _, _, _⟩) (v := ?_) [] (y := Or.inl ⟨by rfl, ?_⟩) (s := FN6.out.here) (H := ?_)
  rotate_left
  · intro u hY; go_simp; try with_reducible rfl
  try simp only [putz]
  refine Goes.tk (i := 12) (o := ⟨some 42, _, _, _, _, _⟩) (v := ?_) [] (y := Or.inl ⟨by rfl, ?_⟩) (s := FN6.out.here) (H := ?_)
  rotate_left
  · intro u hY; go_simp; try with_reducible rfl
  try simp only [putz]
  refine Goes.tk (i := 13) (o := ⟨some 43, _, _, _, _, _⟩) (v := ?_) [] (y := Or.inl ⟨by rfl, ?_⟩) (s := FN6.out.here) (H := ?_)
  rotate_left
  · intro u hY; go_simp; try with_reducible rfl
  try simp only [putz]
  refine Goes.tk (i := 14) (o := ⟨some 44, _, _, _, _, _⟩) (v := ?_) [] (y := Or.inl ⟨by rfl, ?_⟩) (s := FN6.out.here) (H := ?_)
  rotate_left
  · intro u hY; go_simp; try with_reducible rfl
  try simp only [putz]
  refine Goes.tk (i := 15) (o := ⟨some 0, _, _, _, _, _⟩) (v := ?_) [] (y := Or.inl ⟨by rfl, ?_⟩) (s := FN6.out.here) (H := ?_)
  rotate_left
  · intro u hY; go_simp; try with_reducible rfl
  try simp only [putz]
  refine Goes.done (by kernel_rfl) ?_ _
  refine NoPanic.normal ?_
  go_wp2_with fail
  try go_ret
  try rw [Exit.noGoto_ret]
  first | exact ⟨rfl, by first | exact HFIN.out _ HB.out | (rw [hgp]; exact HFIN.out _ HB.out)⟩ | exact bodyPost_ret (v := .bool (true)) (by simp [results, Try.results5, go_sem]) rfl ⟨rfl, by first | exact HFIN.out _ HB.out | (rw [hgp]; exact HFIN.out _ HB.out)⟩
theorem key_ex (p q g x : Nat) (hp : p < 2 ^ 256) (hq : q < 2 ^ 256) (hg : g < 2 ^ 256) (hx : x < 2 ^ 256) : ∃ (r : Nat) (e : Int), ∀ w, Calls Try.prog 4 #[gv p q g, num x] w fun y w' => y = .returned (.tuple #[num r, .int .i64 e]) ∧ Below w.heap.size w w' := by
  by_cases h : Sec p q g x
  · exact ⟨_, _, fun w => key_ok p q g x _ w hp hq hg hx h rfl⟩
  · exact ⟨_, _, fun w => key_none p q g x w hp hq hg hx h⟩
end Go.Proofs.Ytioebjbjpjbodaa

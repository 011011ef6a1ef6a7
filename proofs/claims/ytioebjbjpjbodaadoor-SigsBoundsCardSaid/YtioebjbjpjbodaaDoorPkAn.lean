/-
  mods.Inv, walked: the one whose product is 1, or none. Conditions: none.
  A group, as a value and in memory; what a law over groups carries. Conditions: none.
  Several boxes laid one behind the other. Conditions: none.
  mods.plain, formOf for exponents that are short, walked. Conditions: none.
-/
import Derived.Test.YtioebjbjpjbodaaDoorPkAsm
import Derived.Test.YtioebjbjpjbodaaDoorPkAd
import Derived.Deep.LoopGhost
namespace Go.Proofs.YtioebjbjpjbodaaDoor
open Go.RowKit
set_option linter.unusedVariables false

theorem Env.below {w w' : World} {l : List (Nat × Nat)} (h : Env w l w') : Below w.heap.size w w' := h.1
/-- two boxes are filled anew, in whatever order -/
theorem Env.two {w w' : World} {l : List (Nat × Nat)} (h : Env w l w') (g1 x1 y1 g2 x2 y2 : Nat) (l' : List (Nat × Nat)) (h1 : (g1, x1) ∈ l) (h2 : (g2, x2) ∈ l) (b1 : w.heap.size ≤ g1) (b2 : w.heap.size ≤ g2) (hne : g1 ≠ g2) (hl : ∀ p ∈ l', p ∈ l ∧ p.1 ≠ g1 ∧ p.1 ≠ g2) :
    Env w ((g1, y1) :: (g2, y2) :: l') (fil (fil w' g1 y1) g2 y2) ∧ Env w ((g1, y1) :: (g2, y2) :: l') (fil (fil w' g2 y2) g1 y1) ∧ Env w ((g1, y1) :: (g2, x2) :: l') (fil w' g1 y1) ∧ Env w ((g2, y2) :: (g1, x1) :: l') (fil w' g2 y2) := by
  have A : Env w ((g1, y1) :: (g2, x2) :: l') (fil w' g1 y1) := h.set g1 x1 y1 ((g2, x2) :: l') h1 b1 (fun p hp => by
    rcases List.mem_cons.1 hp with rfl | hp
    · exact ⟨h2, Ne.symm hne⟩
    · exact ⟨(hl p hp).1, (hl p hp).2.1⟩)
  have B : Env w ((g2, y2) :: (g1, x1) :: l') (fil w' g2 y2) := h.set g2 x2 y2 ((g1, x1) :: l') h2 b2 (fun p hp => by
    rcases List.mem_cons.1 hp with rfl | hp
    · exact ⟨h1, hne⟩
    · exact ⟨(hl p hp).1, (hl p hp).2.2⟩)
  refine ⟨?_, ?_, A, B⟩
  · exact (A.set g2 x2 y2 ((g1, y1) :: l') (by simp) b2 (fun p hp => by
      rcases List.mem_cons.1 hp with rfl | hp
      · exact ⟨by simp, hne⟩
      · exact ⟨by simp [hp], (hl p hp).2.2⟩)).perm (by intro p hp; simp only [List.mem_cons] at hp ⊢; rcases hp with h | h | h <;> simp [h])
  · exact B.set g1 x1 y1 ((g2, y2) :: l') (by simp) b1 (fun p hp => by
      rcases List.mem_cons.1 hp with rfl | hp
      · exact ⟨by simp, Ne.symm hne⟩
      · exact ⟨by simp [hp], (hl p hp).2.1⟩)
/-- what a round of Inv carries -/
def InvP (a m wh re la ne : Nat) : Prop := re < wh ∧ wh ≤ m ∧ la < m ∧ ne < m ∧ Cg m ((a : Int) * la) wh ∧ Cg m ((a : Int) * ne) re ∧ Nat.gcd wh re = Nat.gcd a m ∧ wh ≠ 1
theorem InvP.step {a m wh re la ne t z : Nat} (h : InvP a m wh re la ne) (h0 : re ≠ 0) (h1 : re ≠ 1) (ht : wh / re * ne % m = t) (hz : (la + (m - t)) % m = z) : InvP a m re (wh % re) ne z := by
  obtain ⟨p1, p2, p3, p4, p5, p6, p7, p8⟩ := h
  have hm : 0 < m := by omega
  refine ⟨Nat.mod_lt _ (by omega), by omega, p4, by rw [← hz]; exact Nat.mod_lt _ hm, p6, ?_, by rw [gcd_step]; exact p7, h1⟩
  refine ivs_step p5 p6 ht.symm ?_
  rw [← hz]
  exact Cg.of_sub (by rw [← ht]; exact Nat.le_of_lt (Nat.mod_lt _ hm))
theorem InvP.no {a m wh la ne : Nat} (h : InvP a m wh 0 la ne) : Nat.gcd a m ≠ 1 := by
  rw [← h.2.2.2.2.2.2.1, Nat.gcd_zero_right]; exact h.2.2.2.2.2.2.2
/-- what Inv answers -/
def InvE (a m : Nat) (e : Ending) : Prop := (∃ v, Ivs a m v ∧ e = .returned (.tuple #[num v, .int .i64 0])) ∨ (Nat.gcd a m ≠ 1 ∧ e = .returned (.tuple #[num 0, .int .i64 7]))
theorem rsub_b (a b m r g : Nat) (w : World) (hg : Nm w g m) (ha : a < m) (hb : b < m) (hm : m < 2 ^ 256) (hr : (a + (m - b)) % m = r) : Calls Tryd.prog 40 #[num a, num b, .pointer (some ⟨g, 0, none⟩)] w fun e w' => e = .returned (num r) ∧ Below w.heap.size w w' := by
  subst hr; exact rsub_any a b m g w hg ha hb hm
theorem rmul_b (a b m r g : Nat) (w : World) (hg : Nm w g m) (ha : a < 2 ^ 256) (hb : b < 2 ^ 256) (hm : m < 2 ^ 256) (h0 : m ≠ 0) (hr : a * b % m = r) : Calls Tryd.prog 41 #[num a, num b, .pointer (some ⟨g, 0, none⟩)] w fun e w' => e = .returned (num r) ∧ Below w.heap.size w w' := by
  subst hr; exact rmul_any a b m g w hg ha hb hm h0
end Go.Proofs.YtioebjbjpjbodaaDoor
namespace Go.Proofs.YtioebjbjpjbodaaDoor
open Go.RowKit
set_option linter.unusedVariables false

/-- a group's cells -/
abbrev gcs (p q g : Nat) : Array Value := #[.int .u64 (wd p 0 : Int), .int .u64 (wd p 1 : Int), .int .u64 (wd p 2 : Int), .int .u64 (wd p 3 : Int), .int .u64 (wd q 0 : Int), .int .u64 (wd q 1 : Int), .int .u64 (wd q 2 : Int), .int .u64 (wd q 3 : Int), .int .u64 (wd g 0 : Int), .int .u64 (wd g 1 : Int), .int .u64 (wd g 2 : Int), .int .u64 (wd g 3 : Int)]
/-- a group, as a value -/
abbrev gv (p q g : Nat) : Value := .agg (gcs p q g)
/-- block b holds this group -/
def Gm (w : World) (b t p q g : Nat) : Prop := w.heap[b]? = some (.cells (gcs p q g) t (0, 0))
theorem Gm.lt {w : World} {b t p q g : Nat} (h : Gm w b t p q g) : b < w.heap.size := lt_of_block h
theorem Gm.on {w w' : World} {b t p q g : Nat} (h : Gm w b t p q g) (hb : Below w.heap.size w w') : Gm w' b t p q g := (hb.block b h.lt).trans h
theorem Gm.alloc {w : World} {b t p q g : Nat} (h : Gm w b t p q g) (o : Obj) : Gm (w.alloc o) b t p q g := h.on ((Below.refl w.heap.size w).alloc (Nat.le_refl _) o)
theorem Gm.new (w : World) (t p q g : Nat) : Gm (w.alloc (.cells (gcs p q g) t)) w.heap.size t p q g := heap_alloc_new _ _
theorem Gm.p {w : World} {b t p q g : Nat} (h : Gm w b t p q g) : w.cell? ⟨b, 0, none⟩ = some (.int .u64 (wd p 0 : Int)) ∧ w.cell? ⟨b, 1, none⟩ = some (.int .u64 (wd p 1 : Int)) ∧ w.cell? ⟨b, 2, none⟩ = some (.int .u64 (wd p 2 : Int)) ∧ w.cell? ⟨b, 3, none⟩ = some (.int .u64 (wd p 3 : Int)) := by
  refine ⟨?_, ?_, ?_, ?_⟩ <;> (rw [cell_of_row w b _ _ t (0, 0) h]; rfl)
theorem Gm.q {w : World} {b t p q g : Nat} (h : Gm w b t p q g) : w.cell? ⟨b, 4, none⟩ = some (.int .u64 (wd q 0 : Int)) ∧ w.cell? ⟨b, 5, none⟩ = some (.int .u64 (wd q 1 : Int)) ∧ w.cell? ⟨b, 6, none⟩ = some (.int .u64 (wd q 2 : Int)) ∧ w.cell? ⟨b, 7, none⟩ = some (.int .u64 (wd q 3 : Int)) := by
  refine ⟨?_, ?_, ?_, ?_⟩ <;> (rw [cell_of_row w b _ _ t (0, 0) h]; rfl)
theorem Gm.g {w : World} {b t p q g : Nat} (h : Gm w b t p q g) : w.cell? ⟨b, 8, none⟩ = some (.int .u64 (wd g 0 : Int)) ∧ w.cell? ⟨b, 9, none⟩ = some (.int .u64 (wd g 1 : Int)) ∧ w.cell? ⟨b, 10, none⟩ = some (.int .u64 (wd g 2 : Int)) ∧ w.cell? ⟨b, 11, none⟩ = some (.int .u64 (wd g 3 : Int)) := by
  refine ⟨?_, ?_, ?_, ?_⟩ <;> (rw [cell_of_row w b _ _ t (0, 0) h]; rfl)
theorem Gm.setOther {w : World} {b t p q g g' j : Nat} (h : Gm w b t p q g) (v : Value) (hne : b ≠ g') : Gm (w.setCell ⟨g', j, none⟩ v) b t p q g :=
  (Below.heap_setCell w ⟨g', j, none⟩ v b hne).trans h
theorem Gm.fil {w : World} {b t p q g g' : Nat} (h : Gm w b t p q g) (x : Nat) (hne : b ≠ g') : Gm (fil w g' x) b t p q g :=
  (((h.setOther _ hne).setOther _ hne).setOther _ hne).setOther _ hne
/-- what a law over a group carries -/
def Eg (w : World) (b t p q g : Nat) (l : List (Nat × Nat)) (w' : World) : Prop := Env w l w' ∧ Gm w' b t p q g
section
variable {w w' w2 : World} {b t p q g : Nat} {l : List (Nat × Nat)}
theorem Eg.on (h : Eg w b t p q g l w') (hb : Below w'.heap.size w' w2) : Eg w b t p q g l w2 := ⟨h.1.on hb, h.2.on hb⟩
theorem Eg.drew (h : Eg w b t p q g l w') : Eg w b t p q g l w'.drew := ⟨h.1.drew, h.2⟩
theorem Eg.new (h : Eg w b t p q g l w') (x : Nat) : Eg w b t p q g ((w'.heap.size, x) :: l) (w'.alloc (.cells (cls x) 24)) := ⟨h.1.new x, h.2.alloc _⟩
theorem Eg.new2 (h : Eg w b t p q g l w') (x y : Nat) : Eg w b t p q g ((w'.heap.size + 1, y) :: (w'.heap.size, x) :: l) ((w'.alloc (.cells (cls x) 24)).alloc (.cells (cls y) 24)) := ⟨h.1.new2 x y, (h.2.alloc _).alloc _⟩
theorem Eg.zero (h : Eg w b t p q g l w') : Eg w b t p q g ((w'.heap.size, 0) :: l) (w'.alloc (.cells #[.int .u64 0, .int .u64 0, .int .u64 0, .int .u64 0] 24)) := ⟨h.1.zero, h.2.alloc _⟩
theorem Eg.cell (h : Eg w b t p q g l w') (a x : Nat) (hm : (a, x) ∈ l) : w'.cell? ⟨a, 0, none⟩ = some (.int .u64 (wd x 0 : Int)) ∧ w'.cell? ⟨a, 1, none⟩ = some (.int .u64 (wd x 1 : Int)) ∧ w'.cell? ⟨a, 2, none⟩ = some (.int .u64 (wd x 2 : Int)) ∧ w'.cell? ⟨a, 3, none⟩ = some (.int .u64 (wd x 3 : Int)) := h.1.cell a x hm
theorem Eg.lt (h : Eg w b t p q g l w') (a x : Nat) (hm : (a, x) ∈ l) : a < w'.heap.size := h.1.lt a x hm
theorem Eg.frozen (h : Eg w b t p q g l w') (a x : Nat) (hm : (a, x) ∈ l) (i : Nat) : w'.frozen? ⟨a, i, none⟩ = false := h.1.frozen a x hm i
theorem Eg.perm {l' : List (Nat × Nat)} (h : Eg w b t p q g l w') (hs : ∀ p ∈ l', p ∈ l) : Eg w b t p q g l' w' := ⟨h.1.perm hs, h.2⟩
theorem Eg.gp (h : Eg w b t p q g l w') : w'.cell? ⟨b, 0, none⟩ = some (.int .u64 (wd p 0 : Int)) ∧ w'.cell? ⟨b, 1, none⟩ = some (.int .u64 (wd p 1 : Int)) ∧ w'.cell? ⟨b, 2, none⟩ = some (.int .u64 (wd p 2 : Int)) ∧ w'.cell? ⟨b, 3, none⟩ = some (.int .u64 (wd p 3 : Int)) := h.2.p
theorem Eg.gq (h : Eg w b t p q g l w') : w'.cell? ⟨b, 4, none⟩ = some (.int .u64 (wd q 0 : Int)) ∧ w'.cell? ⟨b, 5, none⟩ = some (.int .u64 (wd q 1 : Int)) ∧ w'.cell? ⟨b, 6, none⟩ = some (.int .u64 (wd q 2 : Int)) ∧ w'.cell? ⟨b, 7, none⟩ = some (.int .u64 (wd q 3 : Int)) := h.2.q
theorem Eg.gg (h : Eg w b t p q g l w') : w'.cell? ⟨b, 8, none⟩ = some (.int .u64 (wd g 0 : Int)) ∧ w'.cell? ⟨b, 9, none⟩ = some (.int .u64 (wd g 1 : Int)) ∧ w'.cell? ⟨b, 10, none⟩ = some (.int .u64 (wd g 2 : Int)) ∧ w'.cell? ⟨b, 11, none⟩ = some (.int .u64 (wd g 3 : Int)) := h.2.g
theorem Eg.gl (h : Eg w b t p q g l w') : b < w'.heap.size := h.2.lt
theorem Eg.set (h : Eg w b t p q g l w') (a x y : Nat) (l' : List (Nat × Nat)) (hm : (a, x) ∈ l) (hg : w.heap.size ≤ a) (hl : ∀ p ∈ l', p ∈ l ∧ p.1 ≠ a) (hb : b ≠ a) : Eg w b t p q g ((a, y) :: l') (fil w' a y) := ⟨h.1.set a x y l' hm hg hl, h.2.fil y hb⟩
theorem eg_of {f : FuncId} {args : Array Value} {v : Value} (hc : Calls Tryd.prog f args w' fun e w2 => e = .returned v ∧ Below w'.heap.size w' w2) (h : Eg w b t p q g l w') : Calls Tryd.prog f args w' fun e w2 => e = .returned v ∧ Eg w b t p q g l w2 :=
  hc.mono fun e w2 ⟨he, hb⟩ => ⟨he, h.on hb⟩
theorem eg_at {f : FuncId} {args : Array Value} {v : Value} (hc : Calls Tryd.prog f args w' fun e w2 => e = .returned v ∧ Env w' [] w2) (h : Eg w b t p q g l w') : Calls Tryd.prog f args w' fun e w2 => e = .returned v ∧ Eg w b t p q g l w2 :=
  hc.mono fun e w2 ⟨he, hb⟩ => ⟨he, h.on hb.1⟩
theorem Eg.of {hw : World} (h : Env w l hw) (x y z t : Nat) : Eg w hw.heap.size t x y z l (hw.alloc (.cells (gcs x y z) t)) := ⟨⟨bal h.1 _, fun p hp => (h.2 p hp).alloc _⟩, Gm.new _ _ _ _ _⟩
end
set_option maxRecDepth 100000 in
set_option maxHeartbeats 4000000 in
theorem may_zero (p q g a : Nat) (w : World) (hp : p < 2 ^ 256) (ha : a < 2 ^ 256) (h0 : a = 0) : Calls Tryd.prog 26 #[gv p q g, num a] w fun e w' => e = .returned (.bool false) ∧ Below w.heap.size w w' := by
  have AL := hid ha
  have PL := hid hp
  have EN : Hid ((nbits a : Int) = 0) := hid (by rw [h0]; rfl)
  have n1 : ¬ (0 : Int) > 0 := by omega
  clear ha hp h0
  have H0 := hid ((((Eg.of (Env.refl w) p q g 26)).new a).perm (l' := [(w.heap.size + 1, a)]) (by simp))
  go_enter Tryd.func26, Tryd.ntmps26
  go_wp2_with fail
  generalize (w.alloc (.cells (gcs p q g) 26)).alloc (.cells (cls a) 24) = w0 at *
  generalize w.heap.size + 1 = g_a at *
  generalize hzg_p : w.heap.size = g_p at *
  obtain ⟨c0x0a, c0x0b, c0x0c, c0x0d⟩ := H0.out.cell (g_a) (a) (by simp)
  have c0x0l := H0.out.lt (g_a) (a) (by simp)
  have c0x0m := Nat.le_of_lt c0x0l
  go_wp2_with fail
  clear c0x0a c0x0b c0x0c c0x0d c0x0l c0x0m
  refine (eg_at (bits_at a 0 (Env.refl _) AL.out EN.out) H0.out).mono ?_
  rintro e w1 ⟨rfl, h⟩
  have H1 := hid h
  clear h H0
  go_wp2
  go_ret
  exact ⟨rfl, H1.out.1.1⟩
set_option maxRecDepth 100000 in
set_option maxHeartbeats 4000000 in
theorem may_some (p q g a : Nat) (w : World) (hp : p < 2 ^ 256) (ha : a < 2 ^ 256) (h0 : a ≠ 0) : Calls Tryd.prog 26 #[gv p q g, num a] w fun e w' => e = .returned (.bool (decide (a < p))) ∧ Below w.heap.size w w' := by
  have AL := hid ha
  have PL := hid hp
  obtain ⟨n, en⟩ : ∃ n, nbits a = n := ⟨_, rfl⟩
  have hn : 0 < n := by rw [← en]; exact nbits_pos a (by omega)
  have EN := hid (show (nbits a : Int) = (n : Int) by rw [en])
  have n1 : (n : Int) > 0 := by omega
  have n2 : 0 < n := hn
  obtain ⟨c, ec⟩ : ∃ c, cmpN a p = c := ⟨_, rfl⟩
  have hc : (c < 0) ↔ a < p := by rw [← ec]; unfold cmpN; split <;> (try split) <;> omega
  have EC := hid ec
  have HC := hid hc
  clear ha hp h0 en hn ec hc
  have H0 := hid ((((Eg.of (Env.refl w) p q g 26)).new a).perm (l' := [(w.heap.size + 1, a)]) (by simp))
  go_enter Tryd.func26, Tryd.ntmps26
  go_wp2_with fail
  generalize (w.alloc (.cells (gcs p q g) 26)).alloc (.cells (cls a) 24) = w0 at *
  generalize w.heap.size + 1 = g_a at *
  generalize hzg_p : w.heap.size = g_p at *
  obtain ⟨c0x0a, c0x0b, c0x0c, c0x0d⟩ := H0.out.cell (g_a) (a) (by simp)
  have c0x0l := H0.out.lt (g_a) (a) (by simp)
  have c0x0m := Nat.le_of_lt c0x0l
  go_wp2_with fail
  clear c0x0a c0x0b c0x0c c0x0d c0x0l c0x0m
  refine (eg_at (bits_at a (n : Int) (Env.refl _) AL.out EN.out) H0.out).mono ?_
  rintro e w1 ⟨rfl, h⟩
  have H1 := hid h
  clear h H0
  obtain ⟨c0x1a, c0x1b, c0x1c, c0x1d⟩ := H1.out.cell (g_a) (a) (by simp)
  have c0x1l := H1.out.lt (g_a) (a) (by simp)
  have c0x1m := Nat.le_of_lt c0x1l
  obtain ⟨ep1a, ep1b, ep1c, ep1d⟩ := H1.out.gp
  have eg1l := H1.out.gl
  have eg1m := Nat.le_of_lt eg1l
  go_wp2_with fail
  clear c0x1a c0x1b c0x1c c0x1d c0x1l c0x1m ep1a ep1b ep1c ep1d eg1l eg1m
  refine (eg_at (cmp_at a p c (Env.refl _) AL.out PL.out EC.out) H1.out).mono ?_
  rintro e w2 ⟨rfl, h⟩
  have H2 := hid h
  clear h H1
  go_wp2
  exact bodyPost_ret (v := .bool (decide (c < 0))) (by simp [results, Tryd.results26, go_sem]) rfl ⟨by rw [show decide (c < 0) = decide (a < p) from decide_eq_decide.2 HC.out], H2.out.1.1⟩
theorem may_any (p q g a : Nat) (v : Bool) (w : World) (hp : p < 2 ^ 256) (ha : a < 2 ^ 256) (hv : decide (0 < a ∧ a < p) = v) : Calls Tryd.prog 26 #[gv p q g, num a] w fun e w' => e = .returned (.bool v) ∧ Below w.heap.size w w' := by
  subst hv
  by_cases h0 : a = 0
  · rw [show decide (0 < a ∧ a < p) = false by simp [h0]]; exact may_zero p q g a w hp ha h0
  · rw [show decide (0 < a ∧ a < p) = decide (a < p) from decide_eq_decide.2 (by omega)]; exact may_some p q g a w hp ha h0
end Go.Proofs.YtioebjbjpjbodaaDoor
namespace Go.Proofs.YtioebjbjpjbodaaDoor
open Go.RowKit
set_option linter.unusedVariables false
set_option linter.unusedSimpArgs false

theorem sz1 (w : World) (o : Obj) : (w.alloc o).heap.size = w.heap.size + 1 := Array.size_push _
theorem boxes2 (w : World) (a b : Array Value) (ta tb : TypeId) : Below w.heap.size w ((w.alloc (.cells a ta)).alloc (.cells b tb)) ∧ ((w.alloc (.cells a ta)).alloc (.cells b tb)).heap.size = w.heap.size + 1 + 1 ∧
    ((w.alloc (.cells a ta)).alloc (.cells b tb)).heap[w.heap.size]? = some (.cells a ta (0, 0)) ∧ ((w.alloc (.cells a ta)).alloc (.cells b tb)).heap[w.heap.size + 1]? = some (.cells b tb (0, 0)) := by
  have h1 := (Below.refl w.heap.size w).alloc (Nat.le_refl _) (.cells a ta)
  have h2 := h1.alloc (by rw [sz1]; omega) (.cells b tb)
  refine ⟨h2, by rw [sz1, sz1], ?_, ?_⟩
  · exact (Below.heap_alloc (w.alloc (.cells a ta)) _ _ (by rw [sz1]; omega)).trans (heap_alloc_new w _)
  · have := heap_alloc_new (w.alloc (.cells a ta)) (.cells b tb)
    rw [sz1] at this; exact this
theorem boxes3 (w : World) (a b c : Array Value) (ta tb tc : TypeId) (W : World) (hW : ((w.alloc (.cells a ta)).alloc (.cells b tb)).alloc (.cells c tc) = W) : Below w.heap.size w W ∧ W.heap.size = w.heap.size + 1 + 1 + 1 ∧
    W.heap[w.heap.size]? = some (.cells a ta (0, 0)) ∧ W.heap[w.heap.size + 1]? = some (.cells b tb (0, 0)) ∧ W.heap[w.heap.size + 1 + 1]? = some (.cells c tc (0, 0)) := by
  obtain ⟨h1, h2, h3, h4⟩ := boxes2 w a b ta tb
  subst hW
  generalize (w.alloc (.cells a ta)).alloc (.cells b tb) = u at *
  refine ⟨h1.alloc (by omega) _, by rw [sz1, h2], ?_, ?_, ?_⟩
  · exact (Below.heap_alloc u _ _ (by omega)).trans h3
  · exact (Below.heap_alloc u _ _ (by omega)).trans h4
  · have := heap_alloc_new u (.cells c tc)
    rw [h2] at this; exact this
theorem boxes4 (w : World) (a b c d : Array Value) (ta tb tc td : TypeId) (W : World) (hW : (((w.alloc (.cells a ta)).alloc (.cells b tb)).alloc (.cells c tc)).alloc (.cells d td) = W) : Below w.heap.size w W ∧ W.heap.size = w.heap.size + 1 + 1 + 1 + 1 ∧
    W.heap[w.heap.size]? = some (.cells a ta (0, 0)) ∧ W.heap[w.heap.size + 1]? = some (.cells b tb (0, 0)) ∧ W.heap[w.heap.size + 1 + 1]? = some (.cells c tc (0, 0)) ∧ W.heap[w.heap.size + 1 + 1 + 1]? = some (.cells d td (0, 0)) := by
  obtain ⟨h1, h2, h3, h4, h5⟩ := boxes3 w a b c ta tb tc _ rfl
  subst hW
  generalize ((w.alloc (.cells a ta)).alloc (.cells b tb)).alloc (.cells c tc) = u at *
  refine ⟨h1.alloc (by omega) _, by rw [sz1, h2], ?_, ?_, ?_, ?_⟩
  · exact (Below.heap_alloc u _ _ (by omega)).trans h3
  · exact (Below.heap_alloc u _ _ (by omega)).trans h4
  · exact (Below.heap_alloc u _ _ (by omega)).trans h5
  · have := heap_alloc_new u (.cells d td)
    rw [h2] at this; exact this
/-- from here on, a group's box -/
theorem Eg.base {W : World} {b t p q g : Nat} (h : Gm W b t p q g) : Eg W b t p q g [] W := ⟨Env.refl W, h⟩
/-- a number's box that stood before -/
theorem Eg.hav {w w' : World} {b t p q g : Nat} {l : List (Nat × Nat)} (h : Eg w b t p q g l w') {a x : Nat} (hn : Nm w' a x) : Eg w b t p q g ((a, x) :: l) w' :=
  ⟨⟨h.1.1, fun p hp => by rcases List.mem_cons.1 hp with rfl | hp; exact hn; exact h.1.2 p hp⟩, h.2⟩
theorem Eg.old {w w' : World} {b t p q g : Nat} {l : List (Nat × Nat)} (h : Eg w b t p q g l w') : Below w.heap.size w w' := h.1.1
theorem Eg.nm {w w' : World} {b t p q g : Nat} {l : List (Nat × Nat)} (h : Eg w b t p q g l w') (a x : Nat) (hm : (a, x) ∈ l) : Nm w' a x := h.1.2 (a, x) hm
end Go.Proofs.YtioebjbjpjbodaaDoor
namespace Go.Proofs.YtioebjbjpjbodaaDoor
open Go.RowKit
set_option linter.unusedVariables false

theorem Env.more {w w' : World} {l : List (Nat × Nat)} {g x : Nat} (h : Env w l w') (hn : Nm w' g x) : Env w ((g, x) :: l) w' := ⟨h.1, fun p hp => by
  rcases List.mem_cons.1 hp with rfl | hp
  · exact hn
  · exact h.2 p hp⟩
/-- the form in which numbers stand as they are -/
abbrev pform (g : Nat) : Value := .agg #[.func (.func 85) #[] #[], .func (.func 85) #[] #[], .func (.func 41) #[] #[.pointer (some ⟨g, 0, none⟩)]]
set_option maxRecDepth 100000 in
set_option maxHeartbeats 4000000 in
theorem same_any (a : Nat) (w : World) : Calls Tryd.prog 85 #[num a] w fun e w' => e = .returned (num a) ∧ Below w.heap.size w w' := by
  go_enter Tryd.func85, Tryd.ntmps85
  go_wp2
  refine bodyPost_ret (v := num a) (by simp [results, Tryd.results85, go_sem]) rfl ⟨rfl, ?_⟩
  repeat (first | exact Below.refl _ _ | refine Below.drew ?_ | refine bal ?_ _)
set_option maxRecDepth 100000 in
set_option maxHeartbeats 4000000 in
theorem plain_any (m : Nat) (w : World) : Calls Tryd.prog 73 #[num m] w fun e w' => ∃ g, e = .returned (pform g) ∧ Env w [(g, m)] w' ∧ w.heap.size ≤ g := by
  have hf : ∀ (g : Nat) (w : World), (Instr.field 63 (ring g) 2).run Tryd.prog w = .ok (.func (.func 41) #[] #[.pointer (some ⟨g, 0, none⟩)]) w := fun _ _ => by kernel_rfl
  have hmf : ∀ (fn : Fn) (first cap : Array Value) (w : World), (Instr.makeFunc fn first cap).run Tryd.prog w = .ok (.func fn first cap) w := fun _ _ _ _ => rfl
  have HE := hid ((Env.refl w).new m)
  go_enter Tryd.func73, Tryd.ntmps73
  go_upto_region 1 with fail
  have HR := hid (R3.new (w.alloc (.cells (cls m) 24)) 101 .nilFunc .nilFunc .nilFunc)
  have HE2 := hid (HE.out.alloc (.cells #[.nilFunc, .nilFunc, .nilFunc] 101))
  have HF := hid (show w.heap.size ≤ (w.alloc (.cells (cls m) 24)).heap.size ∧ w.heap.size ≠ (w.alloc (.cells (cls m) 24)).heap.size by simp)
  simp only [show ∀ (w : World) (o : Obj), (w.alloc o).heap.size = w.heap.size + 1 from fun w o => Array.size_push _] at HR HF
  clear HE
  generalize (w.alloc (.cells (cls m) 24)).alloc (.cells #[.nilFunc, .nilFunc, .nilFunc] 101) = w0 at *
  generalize hr : w.heap.size + 1 = gr at *
  generalize hm : w.heap.size = gm at *
  obtain ⟨c0, c1, c2, c3⟩ := HE2.out.cell gm m (by simp)
  have cl := HE2.out.lt gm m (by simp)
  go_wp2_with fail
  clear c0 c1 c2 c3 cl
  refine (by_any m w0).mono ?_
  rintro e w1 ⟨rfl, h⟩
  have GN := hid (show ¬ w0.heap.size = gr by have := HR.out.lt; omega)
  have HR1 := hid (HR.out.on h.below)
  have E1 := hid ((HE2.out.on h.below).more (h.nm w0.heap.size m (by simp)))
  have GB := hid HE2.out.below.size
  clear h HR HE2
  generalize w0.heap.size = gb at *
  have GN2 := GN
  have GN := hid (show ¬ gb = gr ∧ ¬ gm = gr from ⟨GN2.out, HF.out.2⟩)
  obtain ⟨z0, z1, z2⟩ := HR1.out.cell
  have zf := HR1.out.frozen
  have zl := HR1.out.lt
  go_wp2
  clear z0 z1 z2 zf zl
  have HZ := hid (E1.out.fil3 (g := gr) (a := .func (.func 85) #[] #[]) (b := .func (.func 85) #[] #[]) (c := .func (.func 41) #[] #[.pointer (some ⟨gb, 0, none⟩)]) (by rw [hm]; exact HF.out.1) (by simp; exact GN.out))
  have HY := hid (HR1.out.fil (.func (.func 85) #[] #[]) (.func (.func 85) #[] #[]) (.func (.func 41) #[] #[.pointer (some ⟨gb, 0, none⟩)]))
  try rw [Exit.noGoto_ret]
  change bodyPost _ _ _ _ _ (fil3 w1 gr _ _ _)
  generalize fil3 w1 gr _ _ _ = wz at *
  obtain ⟨k0, k1, k2⟩ := HY.out.cell
  exact bodyPost_ret (v := pform gb) (by simp [results, Tryd.results73, go_sem, k0, k1, k2]) rfl ⟨gb, rfl, HZ.out.perm (by simp), GB.out⟩
set_option maxRecDepth 100000 in
set_option maxHeartbeats 4000000 in
theorem form_plain (m c : Nat) (w : World) (hc : c ≤ 16) : Calls Tryd.prog 62 #[num m, .int .i64 (c : Int)] w fun e w' => ∃ g, e = .returned (pform g) ∧ Env w [(g, m)] w' ∧ w.heap.size ≤ g := by
  have hgt : ¬ (16 < (c : Int)) := by omega
  have hgt2 : ¬ ((c : Int) > 16) := by omega
  have hmf : ∀ (fn : Fn) (first cap : Array Value) (w : World), (Instr.makeFunc fn first cap).run Tryd.prog w = .ok (.func fn first cap) w := fun _ _ _ _ => rfl
  have HE := hid ((Env.refl w).new m)
  go_enter Tryd.func62, Tryd.ntmps62
  go_upto_region 1 with fail
  have HR := hid (R3.new (w.alloc (.cells (cls m) 24)) 101 .nilFunc .nilFunc .nilFunc)
  have HE2 := hid (HE.out.alloc (.cells #[.nilFunc, .nilFunc, .nilFunc] 101))
  have HF := hid (show w.heap.size ≤ (w.alloc (.cells (cls m) 24)).heap.size ∧ w.heap.size ≠ (w.alloc (.cells (cls m) 24)).heap.size by simp)
  simp only [show ∀ (w : World) (o : Obj), (w.alloc o).heap.size = w.heap.size + 1 from fun w o => Array.size_push _] at HR HF
  clear HE
  generalize (w.alloc (.cells (cls m) 24)).alloc (.cells #[.nilFunc, .nilFunc, .nilFunc] 101) = w0 at *
  generalize hr : w.heap.size + 1 = gr at *
  generalize hm : w.heap.size = gm at *
  obtain ⟨c0, c1, c2, c3⟩ := HE2.out.cell gm m (by simp)
  have cl := HE2.out.lt gm m (by simp)
  go_wp2_with fail
  clear c0 c1 c2 c3 cl
  refine (plain_any m w0).mono ?_
  rintro e w1 ⟨gb, rfl, h, hl⟩
  have GN := hid (show ¬ gb = gr ∧ ¬ gm = gr from ⟨by have := HR.out.lt; omega, HF.out.2⟩)
  have GB := hid (show w.heap.size ≤ gb from Nat.le_trans HE2.out.below.size hl)
  clear hl
  have HR1 := hid (HR.out.on h.below)
  have E1 := hid ((HE2.out.on h.below).more (h.nm gb m (by simp)))
  clear h HR HE2
  obtain ⟨z0, z1, z2⟩ := HR1.out.cell
  have zf := HR1.out.frozen
  have zl := HR1.out.lt
  go_wp2
  clear z0 z1 z2 zf zl
  have HZ := hid (E1.out.fil3 (g := gr) (a := .func (.func 85) #[] #[]) (b := .func (.func 85) #[] #[]) (c := .func (.func 41) #[] #[.pointer (some ⟨gb, 0, none⟩)]) (by rw [hm]; exact HF.out.1) (by simp; exact GN.out))
  have HY := hid (HR1.out.fil (.func (.func 85) #[] #[]) (.func (.func 85) #[] #[]) (.func (.func 41) #[] #[.pointer (some ⟨gb, 0, none⟩)]))
  try rw [Exit.noGoto_ret]
  change bodyPost _ _ _ _ _ (fil3 w1 gr _ _ _)
  generalize fil3 w1 gr _ _ _ = wz at *
  obtain ⟨k0, k1, k2⟩ := HY.out.cell
  exact bodyPost_ret (v := pform gb) (by simp [results, Tryd.results62, go_sem, k0, k1, k2]) rfl ⟨gb, rfl, HZ.out.perm (by simp), GB.out⟩
end Go.Proofs.YtioebjbjpjbodaaDoor

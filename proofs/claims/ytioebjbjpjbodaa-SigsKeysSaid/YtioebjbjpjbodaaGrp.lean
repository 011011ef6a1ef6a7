/-
  A group, as a value and in memory; what a law over groups carries. Conditions: none.
-/
import Derived.Test.YtioebjbjpjbodaaInv
import Derived.Test.YtioebjbjpjbodaaDv64
namespace Go.Proofs.Ytioebjbjpjbodaa
open Go.RowKit
set_option linter.unusedVariables false

/-- a group's cells -/
abbrev gcs (p q g : Nat) : Array Value := #[.int .u64 (wd p 0 : Int), .int .u64 (wd p 1 : Int), .int .u64 (wd p 2 : Int), .int .u64 (wd p 3 : Int), .int .u64 (wd q 0 : Int), .int .u64 (wd q 1 : Int), .int .u64 (wd q 2 : Int), .int .u64 (wd q 3 : Int), .int .u64 (wd g 0 : Int), .int .u64 (wd g 1 : Int), .int .u64 (wd g 2 : Int), .int .u64 (wd g 3 : Int)]
/-- a group, as a value -/
abbrev gv (p q g : Nat) : Value := .agg (gcs p q g)
/-- block b holds this group -/
def Gm (w : World) (b t p q g : Nat) : Prop := w.heap[b]? = some (.cells (gcs p q g) t (0, 0))
theorem Gm.lt {w : World} {b t p q g : Nat} (h : Gm w b t p q g) : b < w.heap.size := lt_of_block h
theorem Gm.on {w w' : World} {b t p q g : Nat} (h : Gm w b t p q g) (hb : Below w.heap.size w w') : Gm w' b t p q g := (hb.block b h.lt).trans h
theorem Gm.alloc {w : World} {b t p q g : Nat} (h : Gm w b t p q g) (o : Obj) : Gm (w.alloc o) b t p q g := h.on ((Below.refl w.heap.size w).alloc (Nat.le_refl _) o)
theorem Gm.new (w : World) (t p q g : Nat) : Gm (w.alloc (.cells (gcs p q g) t)) w.heap.size t p q g := heap_alloc_new _ _
theorem Gm.p {w : World} {b t p q g : Nat} (h : Gm w b t p q g) : w.cell? ⟨b, 0, none⟩ = some (.int .u64 (wd p 0 : Int)) ∧ w.cell? ⟨b, 1, none⟩ = some (.int .u64 (wd p 1 : Int)) ∧ w.cell? ⟨b, 2, none⟩ = some (.int .u64 (wd p 2 : Int)) ∧ w.cell? ⟨b, 3, none⟩ = some (.int .u64 (wd p 3 : Int)) := by
  refine ⟨?_, ?_, ?_, ?_⟩ <;> (rw [cell_of_row w b _ _ t (0, 0) h]; rfl)
theorem Gm.q {w : World} {b t p q g : Nat} (h : Gm w b t p q g) : w.cell? ⟨b, 4, none⟩ = some (.int .u64 (wd q 0 : Int)) ∧ w.cell? ⟨b, 5, none⟩ = some (.int .u64 (wd q 1 : Int)) ∧ w.cell? ⟨b, 6, none⟩ = some (.int .u64 (wd q 2 : Int)) ∧ w.cell? ⟨b, 7, none⟩ = some (.int .u64 (wd q 3 : Int)) := by
  refine ⟨?_, ?_, ?_, ?_⟩ <;> (rw [cell_of_row w b _ _ t (0, 0) h]; rfl)
theorem Gm.g {w : World} {b t p q g : Nat} (h : Gm w b t p q g) : w.cell? ⟨b, 8, none⟩ = some (.int .u64 (wd g 0 : Int)) ∧ w.cell? ⟨b, 9, none⟩ = some (.int .u64 (wd g 1 : Int)) ∧ w.cell? ⟨b, 10, none⟩ = some (.int .u64 (wd g 2 : Int)) ∧ w.cell? ⟨b, 11, none⟩ = some (.int .u64 (wd g 3 : Int)) := by
  refine ⟨?_, ?_, ?_, ?_⟩ <;> (rw [cell_of_row w b _ _ t (0, 0) h]; rfl)
theorem Gm.setOther {w : World} {b t p q g g' j : Nat} (h : Gm w b t p q g) (v : Value) (hne : b ≠ g') : Gm (w.setCell ⟨g', j, none⟩ v) b t p q g :=
  (Below.heap_setCell w ⟨g', j, none⟩ v b hne).trans h
theorem Gm.fil {w : World} {b t p q g g' : Nat} (h : Gm w b t p q g) (x : Nat) (hne : b ≠ g') : Gm (fil w g' x) b t p q g :=
  (((h.setOther _ hne).setOther _ hne).setOther _ hne).setOther _ hne
/-- what a law over a group carries -/
def Eg (w : World) (b t p q g : Nat) (l : List (Nat × Nat)) (w' : World) : Prop := Env w l w' ∧ Gm w' b t p q g
section
variable {w w' w2 : World} {b t p q g : Nat} {l : List (Nat × Nat)}
theorem Eg.on (h : Eg w b t p q g l w') (hb : Below w'.heap.size w' w2) : Eg w b t p q g l w2 := ⟨h.1.on hb, h.2.on hb⟩
theorem Eg.drew (h : Eg w b t p q g l w') : Eg w b t p q g l w'.drew := ⟨h.1.drew, h.2⟩
theorem Eg.new (h : Eg w b t p q g l w') (x : Nat) : Eg w b t p q g ((w'.heap.size, x) :: l) (w'.alloc (.cells (cls x) 24)) := ⟨h.1.new x, h.2.alloc _⟩
theorem Eg.new2 (h : Eg w b t p q g l w') (x y : Nat) : Eg w b t p q g ((w'.heap.size + 1, y) :: (w'.heap.size, x) :: l) ((w'.alloc (.cells (cls x) 24)).alloc (.cells (cls y) 24)) := ⟨h.1.new2 x y, (h.2.alloc _).alloc _⟩
theorem Eg.zero (h : Eg w b t p q g l w') : Eg w b t p q g ((w'.heap.size, 0) :: l) (w'.alloc (.cells #[.int .u64 0, .int .u64 0, .int .u64 0, .int .u64 0] 24)) := ⟨h.1.zero, h.2.alloc _⟩
theorem Eg.cell (h : Eg w b t p q g l w') (a x : Nat) (hm : (a, x) ∈ l) : w'.cell? ⟨a, 0, none⟩ = some (.int .u64 (wd x 0 : Int)) ∧ w'.cell? ⟨a, 1, none⟩ = some (.int .u64 (wd x 1 : Int)) ∧ w'.cell? ⟨a, 2, none⟩ = some (.int .u64 (wd x 2 : Int)) ∧ w'.cell? ⟨a, 3, none⟩ = some (.int .u64 (wd x 3 : Int)) := h.1.cell a x hm
theorem Eg.lt (h : Eg w b t p q g l w') (a x : Nat) (hm : (a, x) ∈ l) : a < w'.heap.size := h.1.lt a x hm
theorem Eg.frozen (h : Eg w b t p q g l w') (a x : Nat) (hm : (a, x) ∈ l) (i : Nat) : w'.frozen? ⟨a, i, none⟩ = false := h.1.frozen a x hm i
theorem Eg.perm {l' : List (Nat × Nat)} (h : Eg w b t p q g l w') (hs : ∀ p ∈ l', p ∈ l) : Eg w b t p q g l' w' := ⟨h.1.perm hs, h.2⟩
theorem Eg.gp (h : Eg w b t p q g l w') : w'.cell? ⟨b, 0, none⟩ = some (.int .u64 (wd p 0 : Int)) ∧ w'.cell? ⟨b, 1, none⟩ = some (.int .u64 (wd p 1 : Int)) ∧ w'.cell? ⟨b, 2, none⟩ = some (.int .u64 (wd p 2 : Int)) ∧ w'.cell? ⟨b, 3, none⟩ = some (.int .u64 (wd p 3 : Int)) := h.2.p
theorem Eg.gq (h : Eg w b t p q g l w') : w'.cell? ⟨b, 4, none⟩ = some (.int .u64 (wd q 0 : Int)) ∧ w'.cell? ⟨b, 5, none⟩ = some (.int .u64 (wd q 1 : Int)) ∧ w'.cell? ⟨b, 6, none⟩ = some (.int .u64 (wd q 2 : Int)) ∧ w'.cell? ⟨b, 7, none⟩ = some (.int .u64 (wd q 3 : Int)) := h.2.q
theorem Eg.gg (h : Eg w b t p q g l w') : w'.cell? ⟨b, 8, none⟩ = some (.int .u64 (wd g 0 : Int)) ∧ w'.cell? ⟨b, 9, none⟩ = some (.int .u64 (wd g 1 : Int)) ∧ w'.cell? ⟨b, 10, none⟩ = some (.int .u64 (wd g 2 : Int)) ∧ w'.cell? ⟨b, 11, none⟩ = some (.int .u64 (wd g 3 : Int)) := h.2.g
theorem Eg.gl (h : Eg w b t p q g l w') : b < w'.heap.size := h.2.lt
theorem Eg.set (h : Eg w b t p q g l w') (a x y : Nat) (l' : List (Nat × Nat)) (hm : (a, x) ∈ l) (hg : w.heap.size ≤ a) (hl : ∀ p ∈ l', p ∈ l ∧ p.1 ≠ a) (hb : b ≠ a) : Eg w b t p q g ((a, y) :: l') (fil w' a y) := ⟨h.1.set a x y l' hm hg hl, h.2.fil y hb⟩
theorem eg_of {f : FuncId} {args : Array Value} {v : Value} (hc : Calls Try.prog f args w' fun e w2 => e = .returned v ∧ Below w'.heap.size w' w2) (h : Eg w b t p q g l w') : Calls Try.prog f args w' fun e w2 => e = .returned v ∧ Eg w b t p q g l w2 :=
  hc.mono fun e w2 ⟨he, hb⟩ => ⟨he, h.on hb⟩
theorem eg_at {f : FuncId} {args : Array Value} {v : Value} (hc : Calls Try.prog f args w' fun e w2 => e = .returned v ∧ Env w' [] w2) (h : Eg w b t p q g l w') : Calls Try.prog f args w' fun e w2 => e = .returned v ∧ Eg w b t p q g l w2 :=
  hc.mono fun e w2 ⟨he, hb⟩ => ⟨he, h.on hb.1⟩
theorem Eg.of {hw : World} (h : Env w l hw) (x y z t : Nat) : Eg w hw.heap.size t x y z l (hw.alloc (.cells (gcs x y z) t)) := ⟨⟨bal h.1 _, fun p hp => (h.2 p hp).alloc _⟩, Gm.new _ _ _ _ _⟩
end
set_option maxRecDepth 100000 in
set_option maxHeartbeats 4000000 in
theorem may_zero (p q g a : Nat) (w : World) (hp : p < 2 ^ 256) (ha : a < 2 ^ 256) (h0 : a = 0) : Calls Try.prog 17 #[gv p q g, num a] w fun e w' => e = .returned (.bool false) ∧ Below w.heap.size w w' := by
  have AL := hid ha
  have PL := hid hp
  have EN : Hid ((nbits a : Int) = 0) := hid (by rw [h0]; rfl)
  have n1 : ¬ (0 : Int) > 0 := by omega
  clear ha hp h0
  have H0 := hid ((((Eg.of (Env.refl w) p q g 26)).new a).perm (l' := [(w.heap.size + 1, a)]) (by simp))
  go_enter Try.func17, Try.ntmps17
  go_wp2_with fail
  generalize (w.alloc (.cells (gcs p q g) 26)).alloc (.cells (cls a) 24) = w0 at *
  generalize w.heap.size + 1 = g_a at *
  generalize hzg_p : w.heap.size = g_p at *
  obtain ⟨c0x0a, c0x0b, c0x0c, c0x0d⟩ := H0.out.cell (g_a) (a) (by simp)
  have c0x0l := H0.out.lt (g_a) (a) (by simp)
  have c0x0m := Nat.le_of_lt c0x0l
  go_wp2_with fail
  clear c0x0a c0x0b c0x0c c0x0d c0x0l c0x0m
  refine (eg_at (bits_at a 0 (Env.refl _) AL.out EN.out) H0.out).mono ?_
  rintro e w1 ⟨rfl, h⟩
  have H1 := hid h
  clear h H0
  go_wp2
  go_ret
  exact ⟨rfl, H1.out.1.1⟩
set_option maxRecDepth 100000 in
set_option maxHeartbeats 4000000 in
theorem may_some (p q g a : Nat) (w : World) (hp : p < 2 ^ 256) (ha : a < 2 ^ 256) (h0 : a ≠ 0) : Calls Try.prog 17 #[gv p q g, num a] w fun e w' => e = .returned (.bool (decide (a < p))) ∧ Below w.heap.size w w' := by
  have AL := hid ha
  have PL := hid hp
  obtain ⟨n, en⟩ : ∃ n, nbits a = n := ⟨_, rfl⟩
  have hn : 0 < n := by rw [← en]; exact nbits_pos a (by omega)
  have EN := hid (show (nbits a : Int) = (n : Int) by rw [en])
  have n1 : (n : Int) > 0 := by omega
  have n2 : 0 < n := hn
  obtain ⟨c, ec⟩ : ∃ c, cmpN a p = c := ⟨_, rfl⟩
  have hc : (c < 0) ↔ a < p := by rw [← ec]; unfold cmpN; split <;> (try split) <;> omega
  have EC := hid ec
  have HC := hid hc
  clear ha hp h0 en hn ec hc
  have H0 := hid ((((Eg.of (Env.refl w) p q g 26)).new a).perm (l' := [(w.heap.size + 1, a)]) (by simp))
  go_enter Try.func17, Try.ntmps17
  go_wp2_with fail
  generalize (w.alloc (.cells (gcs p q g) 26)).alloc (.cells (cls a) 24) = w0 at *
  generalize w.heap.size + 1 = g_a at *
  generalize hzg_p : w.heap.size = g_p at *
  obtain ⟨c0x0a, c0x0b, c0x0c, c0x0d⟩ := H0.out.cell (g_a) (a) (by simp)
  have c0x0l := H0.out.lt (g_a) (a) (by simp)
  have c0x0m := Nat.le_of_lt c0x0l
  go_wp2_with fail
  clear c0x0a c0x0b c0x0c c0x0d c0x0l c0x0m
  refine (eg_at (bits_at a (n : Int) (Env.refl _) AL.out EN.out) H0.out).mono ?_
  rintro e w1 ⟨rfl, h⟩
  have H1 := hid h
  clear h H0
  obtain ⟨c0x1a, c0x1b, c0x1c, c0x1d⟩ := H1.out.cell (g_a) (a) (by simp)
  have c0x1l := H1.out.lt (g_a) (a) (by simp)
  have c0x1m := Nat.le_of_lt c0x1l
  obtain ⟨ep1a, ep1b, ep1c, ep1d⟩ := H1.out.gp
  have eg1l := H1.out.gl
  have eg1m := Nat.le_of_lt eg1l
  go_wp2_with fail
  clear c0x1a c0x1b c0x1c c0x1d c0x1l c0x1m ep1a ep1b ep1c ep1d eg1l eg1m
  refine (eg_at (cmp_at a p c (Env.refl _) AL.out PL.out EC.out) H1.out).mono ?_
  rintro e w2 ⟨rfl, h⟩
  have H2 := hid h
  clear h H1
  go_wp2
  exact bodyPost_ret (v := .bool (decide (c < 0))) (by simp [results, Try.results17, go_sem]) rfl ⟨by rw [show decide (c < 0) = decide (a < p) from decide_eq_decide.2 HC.out], H2.out.1.1⟩
theorem may_any (p q g a : Nat) (v : Bool) (w : World) (hp : p < 2 ^ 256) (ha : a < 2 ^ 256) (hv : decide (0 < a ∧ a < p) = v) : Calls Try.prog 17 #[gv p q g, num a] w fun e w' => e = .returned (.bool v) ∧ Below w.heap.size w w' := by
  subst hv
  by_cases h0 : a = 0
  · rw [show decide (0 < a ∧ a < p) = false by simp [h0]]; exact may_zero p q g a w hp ha h0
  · rw [show decide (0 < a ∧ a < p) = decide (a < p) from decide_eq_decide.2 (by omega)]; exact may_some p q g a w hp ha h0
end Go.Proofs.Ytioebjbjpjbodaa

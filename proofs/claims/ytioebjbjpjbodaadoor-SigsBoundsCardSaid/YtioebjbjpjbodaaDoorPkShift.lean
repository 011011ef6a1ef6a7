/-
  limbs.Shift, walked. Conditions: none.
-/
import Derived.Test.YtioebjbjpjbodaaDoorPkAc
namespace Go.Proofs.YtioebjbjpjbodaaDoor
open Go.RowKit
set_option linter.unusedVariables false

/-- block g holds these four cells -/
def Fr (w : World) (g : Nat) (a b c d : Value) : Prop := w.heap[g]? = some (.cells #[a, b, c, d] 24 (0, 0))
theorem Fr.lt {w : World} {g : Nat} {a b c d : Value} (h : Fr w g a b c d) : g < w.heap.size := lt_of_block h
theorem Fr.on {w w' : World} {g : Nat} {a b c d : Value} (h : Fr w g a b c d) (hb : Below w.heap.size w w') : Fr w' g a b c d := (hb.block g h.lt).trans h
theorem Fr.cell {w : World} {g : Nat} {a b c d : Value} (h : Fr w g a b c d) : w.cell? ⟨g, 0, none⟩ = some a ∧ w.cell? ⟨g, 1, none⟩ = some b ∧ w.cell? ⟨g, 2, none⟩ = some c ∧ w.cell? ⟨g, 3, none⟩ = some d := by
  refine ⟨?_, ?_, ?_, ?_⟩ <;> (rw [cell_of_row w g _ _ 24 (0, 0) h]; rfl)
theorem Fr.frozen {w : World} {g : Nat} {a b c d : Value} (h : Fr w g a b c d) (i : Nat) : w.frozen? ⟨g, i, none⟩ = false := by
  unfold Fr at h; simp [World.frozen?, h]

theorem Fr.new (w : World) (a b c d : Value) : Fr (w.alloc (.cells #[a, b, c, d] 24)) w.heap.size a b c d := heap_alloc_new _ _
theorem Fr.alloc {w : World} {g : Nat} {a b c d : Value} (h : Fr w g a b c d) (o : Obj) : Fr (w.alloc o) g a b c d := h.on ((Below.refl w.heap.size w).alloc (Nat.le_refl _) o)
theorem Fr.set0 {w : World} {g : Nat} {a b c d : Value} (h : Fr w g a b c d) (v : Value) : Fr (w.setCell ⟨g, 0, none⟩ v) g v b c d := by unfold Fr at h ⊢; simp [World.setCell, Array.getElem?_modify, h]
theorem Fr.set1 {w : World} {g : Nat} {a b c d : Value} (h : Fr w g a b c d) (v : Value) : Fr (w.setCell ⟨g, 1, none⟩ v) g a v c d := by unfold Fr at h ⊢; simp [World.setCell, Array.getElem?_modify, h]
theorem Fr.set2 {w : World} {g : Nat} {a b c d : Value} (h : Fr w g a b c d) (v : Value) : Fr (w.setCell ⟨g, 2, none⟩ v) g a b v d := by unfold Fr at h ⊢; simp [World.setCell, Array.getElem?_modify, h]
theorem Fr.set3 {w : World} {g : Nat} {a b c d : Value} (h : Fr w g a b c d) (v : Value) : Fr (w.setCell ⟨g, 3, none⟩ v) g a b c v := by unfold Fr at h ⊢; simp [World.setCell, Array.getElem?_modify, h]
theorem Fr.setOther {w : World} {g g' i : Nat} {a b c d : Value} (h : Fr w g a b c d) (v : Value) (hne : g ≠ g') : Fr (w.setCell ⟨g', i, none⟩ v) g a b c d := (Below.heap_setCell w ⟨g', i, none⟩ v g hne).trans h

/-- what stands while a number is moved: its box, the answer's, what is made so far -/
def Sh (w : World) (x : Nat) (a b c d : Value) (w' : World) : Prop :=
  Below w.heap.size w w' ∧ Nm w' w.heap.size x ∧ Fr w' (w.heap.size + 1) (.int .u64 0) (.int .u64 0) (.int .u64 0) (.int .u64 0) ∧ Fr w' (w.heap.size + 1 + 1) a b c d
theorem Sh.init (w : World) (x : Nat) : Sh w x (.int .u64 0) (.int .u64 0) (.int .u64 0) (.int .u64 0)
    (((w.alloc (.cells (cls x) 24)).alloc (.cells #[.int .u64 0, .int .u64 0, .int .u64 0, .int .u64 0] 24)).alloc (.cells #[.int .u64 0, .int .u64 0, .int .u64 0, .int .u64 0] 24)) := by
  refine ⟨bal (bal (bal (Below.refl _ _) _) _) _, ((Nm.new w x).alloc _).alloc _, ?_, ?_⟩
  · have := (Fr.new (w.alloc (.cells (cls x) 24)) (.int .u64 0) (.int .u64 0) (.int .u64 0) (.int .u64 0)).alloc (.cells #[.int .u64 0, .int .u64 0, .int .u64 0, .int .u64 0] 24)
    simpa using this
  · have := Fr.new ((w.alloc (.cells (cls x) 24)).alloc (.cells #[.int .u64 0, .int .u64 0, .int .u64 0, .int .u64 0] 24)) (.int .u64 0) (.int .u64 0) (.int .u64 0) (.int .u64 0)
    simpa using this
theorem Sh.drew {w w' : World} {x : Nat} {a b c d : Value} (h : Sh w x a b c d w') : Sh w x a b c d w'.drew := ⟨h.1.drew, h.2.1, h.2.2.1, h.2.2.2⟩
theorem Sh.on {w w' w2 : World} {x : Nat} {a b c d : Value} (h : Sh w x a b c d w') (hb : Below w'.heap.size w' w2) : Sh w x a b c d w2 :=
  ⟨bthen h.1 hb, h.2.1.on hb, h.2.2.1.on hb, h.2.2.2.on hb⟩
theorem Sh.cell {w w' : World} {x : Nat} {a b c d : Value} (h : Sh w x a b c d w') : w'.cell? ⟨w.heap.size, 0, none⟩ = some (.int .u64 (wd x 0 : Int)) ∧ w'.cell? ⟨w.heap.size, 1, none⟩ = some (.int .u64 (wd x 1 : Int)) ∧ w'.cell? ⟨w.heap.size, 2, none⟩ = some (.int .u64 (wd x 2 : Int)) ∧ w'.cell? ⟨w.heap.size, 3, none⟩ = some (.int .u64 (wd x 3 : Int)) := h.2.1.cell
theorem Sh.put {w w' : World} {x i : Nat} {a b c d a' b' c' d' : Value} (h : Sh w x a b c d w') (v : Value) (hf : Fr (w'.setCell ⟨w.heap.size + 1 + 1, i, none⟩ v) (w.heap.size + 1 + 1) a' b' c' d') : Sh w x a' b' c' d' (w'.setCell ⟨w.heap.size + 1 + 1, i, none⟩ v) :=
  ⟨h.1.setCell (by simp; omega) v, (Below.heap_setCell w' ⟨w.heap.size + 1 + 1, i, none⟩ v w.heap.size (by simp; omega)).trans h.2.1, h.2.2.1.setOther v (by omega), hf⟩
theorem Sh.kept {w w' : World} {x : Nat} {a b c d : Value} (h : Sh w x a b c d w') (i : Nat) (v : Value) : (w'.setCell ⟨w.heap.size + 1 + 1, i, none⟩ v).cell? ⟨w.heap.size, 0, none⟩ = some (.int .u64 (wd x 0 : Int)) ∧ (w'.setCell ⟨w.heap.size + 1 + 1, i, none⟩ v).cell? ⟨w.heap.size, 1, none⟩ = some (.int .u64 (wd x 1 : Int)) ∧ (w'.setCell ⟨w.heap.size + 1 + 1, i, none⟩ v).cell? ⟨w.heap.size, 2, none⟩ = some (.int .u64 (wd x 2 : Int)) ∧ (w'.setCell ⟨w.heap.size + 1 + 1, i, none⟩ v).cell? ⟨w.heap.size, 3, none⟩ = some (.int .u64 (wd x 3 : Int)) :=
  Nm.cell ((Below.heap_setCell w' ⟨w.heap.size + 1 + 1, i, none⟩ v w.heap.size (by simp; omega)).trans h.2.1)
theorem word_sh (x : Nat) (i : Int) (w w' : World) (a b c d : Value) (h : Sh w x a b c d w') :
    Calls Tryd.prog 61 #[num x, .int .i64 i] w' fun e w2 => e = .returned (.int .u64 (wi x i : Int)) ∧ Sh w x a b c d w2 :=
  (word_any x i w').mono fun e w2 ⟨he, hb⟩ => ⟨he, h.on hb⟩

set_option maxRecDepth 100000 in
set_option maxHeartbeats 800000 in
theorem shift_any (x : Nat) (n : Int) (w : World) (hx : x < 2 ^ 256) (h0 : -9223372036854775808 ≤ n) (h1 : n ≤ 9223372036854775807) :
    Calls Tryd.prog 69 #[num x, .int .i64 n] w fun e w' => e = .returned (num (shf x n)) ∧ Below w.heap.size w w' := by
  obtain ⟨q, p, h, hp⟩ : ∃ (q : Int) (p : Nat), n = 64 * q + p ∧ p < 64 := ⟨n / 64, (n % 64).toNat, by omega, by omega⟩
  have hq0 : -144115188075855872 ≤ q := by omega
  have hq1 : q ≤ 144115188075855871 := by omega
  have H := hid h
  have V0 : Hid (bits .or .u64 (IntKind.u64.wrap ((wi x (-q) : Int) * 2 ^ p)) ((wi x (-q - 1) : Int) / 2 ^ (64 - p)) = (wd (shf x n) 0 : Int)) := hid (shf_or x p 0 n q hx h hp (by decide) _ _ (by first | rfl | (congr 1; omega)) (by first | rfl | (congr 1; omega)))
  have V1 : Hid (bits .or .u64 (IntKind.u64.wrap ((wi x (1 - q) : Int) * 2 ^ p)) ((wi x (1 - q - 1) : Int) / 2 ^ (64 - p)) = (wd (shf x n) 1 : Int)) := hid (shf_or x p 1 n q hx h hp (by decide) _ _ (by first | rfl | (congr 1; omega)) (by first | rfl | (congr 1; omega)))
  have V2 : Hid (bits .or .u64 (IntKind.u64.wrap ((wi x (2 - q) : Int) * 2 ^ p)) ((wi x (2 - q - 1) : Int) / 2 ^ (64 - p)) = (wd (shf x n) 2 : Int)) := hid (shf_or x p 2 n q hx h hp (by decide) _ _ (by first | rfl | (congr 1; omega)) (by first | rfl | (congr 1; omega)))
  have V3 : Hid (bits .or .u64 (IntKind.u64.wrap ((wi x (3 - q) : Int) * 2 ^ p)) ((wi x (3 - q - 1) : Int) / 2 ^ (64 - p)) = (wd (shf x n) 3 : Int)) := hid (shf_or x p 3 n q hx h hp (by decide) _ _ (by first | rfl | (congr 1; omega)) (by first | rfl | (congr 1; omega)))
  clear h
  go_enter Tryd.func69, Tryd.ntmps69
  go_wp2_with fail
  refine (apart_at n q p _ H.out hp h0 h1).mono ?_
  rintro e w' ⟨rfl, rfl⟩
  go_wp2
  have HS := hid (Sh.init w x)
  generalize (((w.alloc (.cells (cls x) 24)).alloc (.cells #[.int .u64 0, .int .u64 0, .int .u64 0, .int .u64 0] 24)).alloc (.cells #[.int .u64 0, .int .u64 0, .int .u64 0, .int .u64 0] 24)) = w0 at *
  refine wp_loop_rounds 5 ?_
  rw [rounds_succ]
  go_wp2_with fail
  have HD := hid HS.out.drew
  have cs := HS.out.cell
  have s0 : IntKind.i64.wrap (-q) = -q := IntWalk.i64_in _ (by omega)
  have s1 : IntKind.i64.wrap (-q - 1) = -q - 1 := IntWalk.i64_in _ (by omega)
  have s2 : IntKind.u64.wrap (64 - (p : Int)) = ((64 - p : Nat) : Int) := by rw [IntWalk.u64_in _ (by omega)]; omega
  go_region_held3 (fun w' => w'.cell? ⟨w.heap.size, 0, none⟩ = some (.int .u64 (wd x 0 : Int)) ∧ w'.cell? ⟨w.heap.size, 1, none⟩ = some (.int .u64 (wd x 1 : Int)) ∧ w'.cell? ⟨w.heap.size, 2, none⟩ = some (.int .u64 (wd x 2 : Int)) ∧ w'.cell? ⟨w.heap.size, 3, none⟩ = some (.int .u64 (wd x 3 : Int)))
    (first | exact cs | exact Sh.cell (by assumption) | exact Sh.kept (by assumption) _ _)
    (first | (go_at_call 61; refine (word_sh x _ w _ _ _ _ _ (by first | exact Hid.out (by assumption) | assumption)).mono ?_; rintro e w1 ⟨rfl, hs⟩; have cc := hs.2.2.2.cell.1; have cf := hs.2.2.2.frozen 0))
  rw [V0.out]
  have HS1 := hid (hs.put _ (hs.2.2.2.set0 (.int .u64 (wd (shf x n) 0 : Int))))
  generalize w1.setCell ⟨w.heap.size + 1 + 1, 0, none⟩ (.int .u64 (wd (shf x n) 0 : Int)) = wn1 at *
  clear HS HD cs s0 s1 s2 V0 hs cc cf
  go_wp2
  rw [rounds_succ]
  go_wp2_with fail
  have HD := hid HS1.out.drew
  have cs := HS1.out.cell
  have s0 : IntKind.i64.wrap (1 - q) = 1 - q := IntWalk.i64_in _ (by omega)
  have s1 : IntKind.i64.wrap (1 - q - 1) = 1 - q - 1 := IntWalk.i64_in _ (by omega)
  have s2 : IntKind.u64.wrap (64 - (p : Int)) = ((64 - p : Nat) : Int) := by rw [IntWalk.u64_in _ (by omega)]; omega
  go_region_held3 (fun w' => w'.cell? ⟨w.heap.size, 0, none⟩ = some (.int .u64 (wd x 0 : Int)) ∧ w'.cell? ⟨w.heap.size, 1, none⟩ = some (.int .u64 (wd x 1 : Int)) ∧ w'.cell? ⟨w.heap.size, 2, none⟩ = some (.int .u64 (wd x 2 : Int)) ∧ w'.cell? ⟨w.heap.size, 3, none⟩ = some (.int .u64 (wd x 3 : Int)))
    (first | exact cs | exact Sh.cell (by assumption) | exact Sh.kept (by assumption) _ _)
    (first | (go_at_call 61; refine (word_sh x _ w _ _ _ _ _ (by first | exact Hid.out (by assumption) | assumption)).mono ?_; rintro e w1 ⟨rfl, hs⟩; have cc := hs.2.2.2.cell.2.1; have cf := hs.2.2.2.frozen 1))
  rw [V1.out]
  have HS2 := hid (hs.put _ (hs.2.2.2.set1 (.int .u64 (wd (shf x n) 1 : Int))))
  generalize w1.setCell ⟨w.heap.size + 1 + 1, 1, none⟩ (.int .u64 (wd (shf x n) 1 : Int)) = wn2 at *
  clear HS1 HD cs s0 s1 s2 V1 hs cc cf
  go_wp2
  rw [rounds_succ]
  go_wp2_with fail
  have HD := hid HS2.out.drew
  have cs := HS2.out.cell
  have s0 : IntKind.i64.wrap (2 - q) = 2 - q := IntWalk.i64_in _ (by omega)
  have s1 : IntKind.i64.wrap (2 - q - 1) = 2 - q - 1 := IntWalk.i64_in _ (by omega)
  have s2 : IntKind.u64.wrap (64 - (p : Int)) = ((64 - p : Nat) : Int) := by rw [IntWalk.u64_in _ (by omega)]; omega
  go_region_held3 (fun w' => w'.cell? ⟨w.heap.size, 0, none⟩ = some (.int .u64 (wd x 0 : Int)) ∧ w'.cell? ⟨w.heap.size, 1, none⟩ = some (.int .u64 (wd x 1 : Int)) ∧ w'.cell? ⟨w.heap.size, 2, none⟩ = some (.int .u64 (wd x 2 : Int)) ∧ w'.cell? ⟨w.heap.size, 3, none⟩ = some (.int .u64 (wd x 3 : Int)))
    (first | exact cs | exact Sh.cell (by assumption) | exact Sh.kept (by assumption) _ _)
    (first | (go_at_call 61; refine (word_sh x _ w _ _ _ _ _ (by first | exact Hid.out (by assumption) | assumption)).mono ?_; rintro e w1 ⟨rfl, hs⟩; have cc := hs.2.2.2.cell.2.2.1; have cf := hs.2.2.2.frozen 2))
  rw [V2.out]
  have HS3 := hid (hs.put _ (hs.2.2.2.set2 (.int .u64 (wd (shf x n) 2 : Int))))
  generalize w1.setCell ⟨w.heap.size + 1 + 1, 2, none⟩ (.int .u64 (wd (shf x n) 2 : Int)) = wn3 at *
  clear HS2 HD cs s0 s1 s2 V2 hs cc cf
  go_wp2
  rw [rounds_succ]
  go_wp2_with fail
  have HD := hid HS3.out.drew
  have cs := HS3.out.cell
  have s0 : IntKind.i64.wrap (3 - q) = 3 - q := IntWalk.i64_in _ (by omega)
  have s1 : IntKind.i64.wrap (3 - q - 1) = 3 - q - 1 := IntWalk.i64_in _ (by omega)
  have s2 : IntKind.u64.wrap (64 - (p : Int)) = ((64 - p : Nat) : Int) := by rw [IntWalk.u64_in _ (by omega)]; omega
  go_region_held3 (fun w' => w'.cell? ⟨w.heap.size, 0, none⟩ = some (.int .u64 (wd x 0 : Int)) ∧ w'.cell? ⟨w.heap.size, 1, none⟩ = some (.int .u64 (wd x 1 : Int)) ∧ w'.cell? ⟨w.heap.size, 2, none⟩ = some (.int .u64 (wd x 2 : Int)) ∧ w'.cell? ⟨w.heap.size, 3, none⟩ = some (.int .u64 (wd x 3 : Int)))
    (first | exact cs | exact Sh.cell (by assumption) | exact Sh.kept (by assumption) _ _)
    (first | (go_at_call 61; refine (word_sh x _ w _ _ _ _ _ (by first | exact Hid.out (by assumption) | assumption)).mono ?_; rintro e w1 ⟨rfl, hs⟩; have cc := hs.2.2.2.cell.2.2.2; have cf := hs.2.2.2.frozen 3))
  rw [V3.out]
  have HS4 := hid (hs.put _ (hs.2.2.2.set3 (.int .u64 (wd (shf x n) 3 : Int))))
  generalize w1.setCell ⟨w.heap.size + 1 + 1, 3, none⟩ (.int .u64 (wd (shf x n) 3 : Int)) = wn4 at *
  clear HS3 HD cs s0 s1 s2 V3 hs cc cf
  go_wp2
  have c0 := HS4.out.2.2.2.cell.1
  have c1 := HS4.out.2.2.2.cell.2.1
  have c2 := HS4.out.2.2.2.cell.2.2.1
  have c3 := HS4.out.2.2.2.cell.2.2.2
  have d0 := HS4.out.2.2.1.cell.1
  have d1 := HS4.out.2.2.1.cell.2.1
  have d2 := HS4.out.2.2.1.cell.2.2.1
  have d3 := HS4.out.2.2.1.cell.2.2.2
  have f0 := HS4.out.2.2.1.frozen
  rw [rounds_succ]
  go_wp2
  have HF := hid ((((HS4.out.2.2.1.set0 (.int .u64 (wd (shf x n) 0 : Int))).set1 (.int .u64 (wd (shf x n) 1 : Int))).set2 (.int .u64 (wd (shf x n) 2 : Int))).set3 (.int .u64 (wd (shf x n) 3 : Int)))
  have HB := hid ((((HS4.out.1.setCell (p := ⟨w.heap.size + 1, 0, none⟩) (by simp) (.int .u64 (wd (shf x n) 0 : Int))).setCell (p := ⟨w.heap.size + 1, 1, none⟩) (by simp) (.int .u64 (wd (shf x n) 1 : Int))).setCell (p := ⟨w.heap.size + 1, 2, none⟩) (by simp) (.int .u64 (wd (shf x n) 2 : Int))).setCell (p := ⟨w.heap.size + 1, 3, none⟩) (by simp) (.int .u64 (wd (shf x n) 3 : Int)))
  generalize (((wn4.setCell ⟨w.heap.size + 1, 0, none⟩ (.int .u64 (wd (shf x n) 0 : Int))).setCell ⟨w.heap.size + 1, 1, none⟩ (.int .u64 (wd (shf x n) 1 : Int))).setCell ⟨w.heap.size + 1, 2, none⟩ (.int .u64 (wd (shf x n) 2 : Int))).setCell ⟨w.heap.size + 1, 3, none⟩ (.int .u64 (wd (shf x n) 3 : Int)) = wz at *
  obtain ⟨g0, g1, g2, g3⟩ := HF.out.cell
  exact bodyPost_ret (v := num (shf x n)) (by simp [results, Tryd.results69, go_sem, g0, g1, g2, g3]) rfl ⟨rfl, HB.out⟩
end Go.Proofs.YtioebjbjpjbodaaDoor

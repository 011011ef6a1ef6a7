/-
  mods.Add, Sub, Mul, walked. Conditions: none.
-/
import Derived.Test.YtioebjbjpjbodaaDoorPkAm
namespace Go.Proofs.YtioebjbjpjbodaaDoor
open Go.RowKit
set_option linter.unusedVariables false

theorem gor1_b (m a g : Nat) (v : Bool) (w : World) (hS : Sl1 w g a) (hm : m < 2 ^ 256) (ha : a < 2 ^ 256) (hv : decide (1 < m ∧ a < m) = v) : Calls Tryd.prog 29 #[num m, .slice (some ⟨g, 0, none⟩) 1 1] w fun e w' => e = .returned (.bool v) ∧ Below w.heap.size w w' := by
  subst hv; exact gor1_any m a g w hS hm ha
theorem gor2_b (m a b g : Nat) (v : Bool) (w : World) (hS : Sl2 w g a b) (hm : m < 2 ^ 256) (ha : a < 2 ^ 256) (hb : b < 2 ^ 256) (hv : decide (1 < m ∧ a < m ∧ b < m) = v) : Calls Tryd.prog 29 #[num m, .slice (some ⟨g, 0, none⟩) 2 2] w fun e w' => e = .returned (.bool v) ∧ Below w.heap.size w w' := by
  subst hv; exact gor2_any m a b g w hS hm ha hb
theorem by_at (m : Nat) {w w' : World} {l : List (Nat × Nat)} (h : Env w l w') : Calls Tryd.prog 30 #[num m] w' fun e w2 => ∃ g, e = .returned (ring g) ∧ Env w ((g, m) :: l) w2 :=
  (by_any m w').mono fun e w2 ⟨he, hE⟩ => ⟨_, he, (h.on hE.1).1, fun p hp => by
    rcases List.mem_cons.1 hp with rfl | hp
    · exact hE.2 _ (by simp)
    · exact (h.on hE.1).2 p hp⟩
theorem radd_at (a b m r g : Nat) {w w' : World} {l : List (Nat × Nat)} (h : Env w l w') (hg : (g, m) ∈ l) (ha : a < m) (hb : b < m) (hm : m < 2 ^ 256) (hr : (a + b) % m = r) : Calls Tryd.prog 39 #[num a, num b, .pointer (some ⟨g, 0, none⟩)] w' fun e w2 => e = .returned (num r) ∧ Env w l w2 := by
  subst hr; exact env_of (radd_any a b m g w' (h.nm g m hg) ha hb hm) h
theorem rmul_at (a b m r g : Nat) {w w' : World} {l : List (Nat × Nat)} (h : Env w l w') (hg : (g, m) ∈ l) (ha : a < 2 ^ 256) (hb : b < 2 ^ 256) (hm : m < 2 ^ 256) (h0 : m ≠ 0) (hr : a * b % m = r) : Calls Tryd.prog 41 #[num a, num b, .pointer (some ⟨g, 0, none⟩)] w' fun e w2 => e = .returned (num r) ∧ Env w l w2 := by
  subst hr; exact env_of (rmul_any a b m g w' (h.nm g m hg) ha hb hm h0) h
set_option maxRecDepth 100000 in
set_option maxHeartbeats 4000000 in
theorem madd_some (a b m : Nat) (w : World) (ha : a < 2 ^ 256) (hb : b < 2 ^ 256) (hm : m < 2 ^ 256) (hv : 1 < m ∧ a < m ∧ b < m) : Calls Tryd.prog 18 #[num a, num b, num m] w fun e w' => e = .returned (.tuple #[num ((a + b) % m), .int .i64 0]) ∧ Below w.heap.size w w' := by
  have AL := hid ha
  have BL := hid hb
  have ML := hid hm
  have HV : Hid (decide (1 < m ∧ a < m ∧ b < m) = true) := hid (by simpa using hv)
  have A1 := hid hv.1
  have A2 := hid hv.2.1
  have A3 := hid hv.2.2
  obtain ⟨r, er⟩ : ∃ r, (a + b) % m = r := ⟨_, rfl⟩
  have ER := hid er
  clear er
  clear ha hb hm hv
  have H0 := hid ((((((Env.refl w).new a).new b).new m).zero).perm (l' := [(w.heap.size + 1 + 1 + 1, 0), (w.heap.size + 1 + 1, m), (w.heap.size + 1, b), (w.heap.size, a)]) (by simp))
  have DZ := hid (show w.heap.size ≤ w.heap.size + 1 + 1 + 1 by omega)
  have DN := hid (show ∀ p ∈ [(w.heap.size, a), (w.heap.size + 1, b), (w.heap.size + 1 + 1, m)], p.1 ≠ w.heap.size + 1 + 1 + 1 by simp; try omega)
  go_enter Tryd.func18, Tryd.ntmps18
  go_wp2_with fail
  have hs0 : ((((w.alloc (.cells (cls a) 24)).alloc (.cells (cls b) 24)).alloc (.cells (cls m) 24)).alloc (.cells #[.int .u64 0, .int .u64 0, .int .u64 0, .int .u64 0] 24)).heap.size = w.heap.size + 1 + 1 + 1 + 1 := by simp only [show ∀ (w : World) (o : Obj), (w.alloc o).heap.size = w.heap.size + 1 from fun w o => Array.size_push _]
  generalize (((w.alloc (.cells (cls a) 24)).alloc (.cells (cls b) 24)).alloc (.cells (cls m) 24)).alloc (.cells #[.int .u64 0, .int .u64 0, .int .u64 0, .int .u64 0] 24) = w0 at *
  generalize w.heap.size + 1 + 1 + 1 + 1 = g_s at *
  generalize w.heap.size + 1 + 1 + 1 = g_z at *
  generalize w.heap.size + 1 + 1 = g_c at *
  generalize w.heap.size + 1 = g_b at *
  generalize hzg_a : w.heap.size = g_a at *
  have HSL : Hid (Sl2 (w0.alloc (.cells #[.int .u64 (wd a 0 : Int), .int .u64 (wd a 1 : Int), .int .u64 (wd a 2 : Int), .int .u64 (wd a 3 : Int), .int .u64 (wd b 0 : Int), .int .u64 (wd b 1 : Int), .int .u64 (wd b 2 : Int), .int .u64 (wd b 3 : Int)] 24)) g_s a b) := hid (by rw [← hs0]; exact heap_alloc_new _ _)
  have H0s := hid (H0.out.alloc (.cells #[.int .u64 (wd a 0 : Int), .int .u64 (wd a 1 : Int), .int .u64 (wd a 2 : Int), .int .u64 (wd a 3 : Int), .int .u64 (wd b 0 : Int), .int .u64 (wd b 1 : Int), .int .u64 (wd b 2 : Int), .int .u64 (wd b 3 : Int)] 24))
  clear H0 hs0
  generalize w0.alloc (.cells #[.int .u64 (wd a 0 : Int), .int .u64 (wd a 1 : Int), .int .u64 (wd a 2 : Int), .int .u64 (wd a 3 : Int), .int .u64 (wd b 0 : Int), .int .u64 (wd b 1 : Int), .int .u64 (wd b 2 : Int), .int .u64 (wd b 3 : Int)] 24) = w0s at *
  refine (env_of (gor2_b m a b g_s true w0s HSL.out ML.out AL.out BL.out HV.out) H0s.out).mono ?_
  rintro e w1 ⟨rfl, h⟩
  have H1 := hid h
  clear h H0s
  go_upto_region 3 with fail
  have hf : ∀ (g : Nat) (w : World), (Instr.field 63 (ring g) 0).run Tryd.prog w = .ok (.func (.func 39) #[] #[.pointer (some ⟨g, 0, none⟩)]) w := fun _ _ => by kernel_rfl
  have hs := H1.out.drew
  obtain ⟨z0, z1, z2, z3⟩ := hs.cell g_z 0 (by simp); have zl := hs.lt g_z 0 (by simp); have zf := hs.frozen g_z 0 (by simp)
  go_region_held3 (fun w' => (w'.cell? ⟨g_a, 0, none⟩ = some (.int .u64 (wd (a) 0 : Int)) ∧ w'.cell? ⟨g_a, 1, none⟩ = some (.int .u64 (wd (a) 1 : Int)) ∧ w'.cell? ⟨g_a, 2, none⟩ = some (.int .u64 (wd (a) 2 : Int)) ∧ w'.cell? ⟨g_a, 3, none⟩ = some (.int .u64 (wd (a) 3 : Int))) ∧ (w'.cell? ⟨g_b, 0, none⟩ = some (.int .u64 (wd (b) 0 : Int)) ∧ w'.cell? ⟨g_b, 1, none⟩ = some (.int .u64 (wd (b) 1 : Int)) ∧ w'.cell? ⟨g_b, 2, none⟩ = some (.int .u64 (wd (b) 2 : Int)) ∧ w'.cell? ⟨g_b, 3, none⟩ = some (.int .u64 (wd (b) 3 : Int))) ∧ (w'.cell? ⟨g_c, 0, none⟩ = some (.int .u64 (wd (m) 0 : Int)) ∧ w'.cell? ⟨g_c, 1, none⟩ = some (.int .u64 (wd (m) 1 : Int)) ∧ w'.cell? ⟨g_c, 2, none⟩ = some (.int .u64 (wd (m) 2 : Int)) ∧ w'.cell? ⟨g_c, 3, none⟩ = some (.int .u64 (wd (m) 3 : Int)))) (first | (with_reducible exact ⟨hs.cell _ _ (by simp), hs.cell _ _ (by simp), hs.cell _ _ (by simp)⟩) | (with_reducible exact ⟨(hs.set g_z 0 (r) [(g_a, a), (g_b, b), (g_c, m)] (by simp) (by rw [hzg_a]; exact DZ.out) (fun p hp => ⟨by simp at hp ⊢; rcases hp with h | h | h <;> simp [h], DN.out p (by simp at hp ⊢; rcases hp with h | h | h <;> simp [h])⟩)).cell _ _ (by simp), (hs.set g_z 0 (r) [(g_a, a), (g_b, b), (g_c, m)] (by simp) (by rw [hzg_a]; exact DZ.out) (fun p hp => ⟨by simp at hp ⊢; rcases hp with h | h | h <;> simp [h], DN.out p (by simp at hp ⊢; rcases hp with h | h | h <;> simp [h])⟩)).cell _ _ (by simp), (hs.set g_z 0 (r) [(g_a, a), (g_b, b), (g_c, m)] (by simp) (by rw [hzg_a]; exact DZ.out) (fun p hp => ⟨by simp at hp ⊢; rcases hp with h | h | h <;> simp [h], DN.out p (by simp at hp ⊢; rcases hp with h | h | h <;> simp [h])⟩)).cell _ _ (by simp)⟩)) (first | ((go_at_call 30); (with_reducible refine (by_at m (by assumption)).mono ?_); rintro e wn ⟨gb, rfl, hs⟩; obtain ⟨z0, z1, z2, z3⟩ := hs.cell g_z 0 (by simp); have zl := hs.lt g_z 0 (by simp); have zf := hs.frozen g_z 0 (by simp)) | ((go_at_call 39); (with_reducible refine (radd_at a b m r gb (by assumption) (by simp) A2.out A3.out ML.out ER.out).mono ?_); rintro e wn ⟨rfl, hs⟩; obtain ⟨z0, z1, z2, z3⟩ := hs.cell g_z 0 (by simp); have zl := hs.lt g_z 0 (by simp); have zf := hs.frozen g_z 0 (by simp)))
  all_goals
    have HZ := hid (hs.set g_z 0 (r) [] (by simp) (by rw [hzg_a]; exact DZ.out) (by simp))
    go_wp2
    try rw [Exit.noGoto_ret]
    change bodyPost _ _ _ _ _ (fil _ g_z (r))
    generalize fil _ g_z (r) = wz at *
    obtain ⟨k0, k1, k2, k3⟩ := HZ.out.cell g_z (r) (by simp)
    exact bodyPost_ret (v := .tuple #[num (r), .int .i64 0]) (by simp [results, Tryd.results18, go_sem, k0, k1, k2, k3]) rfl ⟨by rw [ER.out], HZ.out.1⟩
set_option maxRecDepth 100000 in
set_option maxHeartbeats 4000000 in
theorem mmul_some (a b m : Nat) (w : World) (ha : a < 2 ^ 256) (hb : b < 2 ^ 256) (hm : m < 2 ^ 256) (hv : 1 < m ∧ a < m ∧ b < m) : Calls Tryd.prog 17 #[num a, num b, num m] w fun e w' => e = .returned (.tuple #[num (a * b % m), .int .i64 0]) ∧ Below w.heap.size w w' := by
  have AL := hid ha
  have BL := hid hb
  have ML := hid hm
  have HV : Hid (decide (1 < m ∧ a < m ∧ b < m) = true) := hid (by simpa using hv)
  have A1 := hid hv.1
  have A2 := hid hv.2.1
  have A3 := hid hv.2.2
  obtain ⟨r, er⟩ : ∃ r, a * b % m = r := ⟨_, rfl⟩
  have ER := hid er
  clear er
  clear ha hb hm hv
  have H0 := hid ((((((Env.refl w).new a).new b).new m).zero).perm (l' := [(w.heap.size + 1 + 1 + 1, 0), (w.heap.size + 1 + 1, m), (w.heap.size + 1, b), (w.heap.size, a)]) (by simp))
  have DZ := hid (show w.heap.size ≤ w.heap.size + 1 + 1 + 1 by omega)
  have DN := hid (show ∀ p ∈ [(w.heap.size, a), (w.heap.size + 1, b), (w.heap.size + 1 + 1, m)], p.1 ≠ w.heap.size + 1 + 1 + 1 by simp; try omega)
  go_enter Tryd.func17, Tryd.ntmps17
  go_wp2_with fail
  have hs0 : ((((w.alloc (.cells (cls a) 24)).alloc (.cells (cls b) 24)).alloc (.cells (cls m) 24)).alloc (.cells #[.int .u64 0, .int .u64 0, .int .u64 0, .int .u64 0] 24)).heap.size = w.heap.size + 1 + 1 + 1 + 1 := by simp only [show ∀ (w : World) (o : Obj), (w.alloc o).heap.size = w.heap.size + 1 from fun w o => Array.size_push _]
  generalize (((w.alloc (.cells (cls a) 24)).alloc (.cells (cls b) 24)).alloc (.cells (cls m) 24)).alloc (.cells #[.int .u64 0, .int .u64 0, .int .u64 0, .int .u64 0] 24) = w0 at *
  generalize w.heap.size + 1 + 1 + 1 + 1 = g_s at *
  generalize w.heap.size + 1 + 1 + 1 = g_z at *
  generalize w.heap.size + 1 + 1 = g_c at *
  generalize w.heap.size + 1 = g_b at *
  generalize hzg_a : w.heap.size = g_a at *
  have HSL : Hid (Sl2 (w0.alloc (.cells #[.int .u64 (wd a 0 : Int), .int .u64 (wd a 1 : Int), .int .u64 (wd a 2 : Int), .int .u64 (wd a 3 : Int), .int .u64 (wd b 0 : Int), .int .u64 (wd b 1 : Int), .int .u64 (wd b 2 : Int), .int .u64 (wd b 3 : Int)] 24)) g_s a b) := hid (by rw [← hs0]; exact heap_alloc_new _ _)
  have H0s := hid (H0.out.alloc (.cells #[.int .u64 (wd a 0 : Int), .int .u64 (wd a 1 : Int), .int .u64 (wd a 2 : Int), .int .u64 (wd a 3 : Int), .int .u64 (wd b 0 : Int), .int .u64 (wd b 1 : Int), .int .u64 (wd b 2 : Int), .int .u64 (wd b 3 : Int)] 24))
  clear H0 hs0
  generalize w0.alloc (.cells #[.int .u64 (wd a 0 : Int), .int .u64 (wd a 1 : Int), .int .u64 (wd a 2 : Int), .int .u64 (wd a 3 : Int), .int .u64 (wd b 0 : Int), .int .u64 (wd b 1 : Int), .int .u64 (wd b 2 : Int), .int .u64 (wd b 3 : Int)] 24) = w0s at *
  refine (env_of (gor2_b m a b g_s true w0s HSL.out ML.out AL.out BL.out HV.out) H0s.out).mono ?_
  rintro e w1 ⟨rfl, h⟩
  have H1 := hid h
  clear h H0s
  go_upto_region 3 with fail
  have hf : ∀ (g : Nat) (w : World), (Instr.field 63 (ring g) 2).run Tryd.prog w = .ok (.func (.func 41) #[] #[.pointer (some ⟨g, 0, none⟩)]) w := fun _ _ => by kernel_rfl
  have hs := H1.out.drew
  obtain ⟨z0, z1, z2, z3⟩ := hs.cell g_z 0 (by simp); have zl := hs.lt g_z 0 (by simp); have zf := hs.frozen g_z 0 (by simp)
  go_region_held3 (fun w' => (w'.cell? ⟨g_a, 0, none⟩ = some (.int .u64 (wd (a) 0 : Int)) ∧ w'.cell? ⟨g_a, 1, none⟩ = some (.int .u64 (wd (a) 1 : Int)) ∧ w'.cell? ⟨g_a, 2, none⟩ = some (.int .u64 (wd (a) 2 : Int)) ∧ w'.cell? ⟨g_a, 3, none⟩ = some (.int .u64 (wd (a) 3 : Int))) ∧ (w'.cell? ⟨g_b, 0, none⟩ = some (.int .u64 (wd (b) 0 : Int)) ∧ w'.cell? ⟨g_b, 1, none⟩ = some (.int .u64 (wd (b) 1 : Int)) ∧ w'.cell? ⟨g_b, 2, none⟩ = some (.int .u64 (wd (b) 2 : Int)) ∧ w'.cell? ⟨g_b, 3, none⟩ = some (.int .u64 (wd (b) 3 : Int))) ∧ (w'.cell? ⟨g_c, 0, none⟩ = some (.int .u64 (wd (m) 0 : Int)) ∧ w'.cell? ⟨g_c, 1, none⟩ = some (.int .u64 (wd (m) 1 : Int)) ∧ w'.cell? ⟨g_c, 2, none⟩ = some (.int .u64 (wd (m) 2 : Int)) ∧ w'.cell? ⟨g_c, 3, none⟩ = some (.int .u64 (wd (m) 3 : Int)))) (first | (with_reducible exact ⟨hs.cell _ _ (by simp), hs.cell _ _ (by simp), hs.cell _ _ (by simp)⟩) | (with_reducible exact ⟨(hs.set g_z 0 (r) [(g_a, a), (g_b, b), (g_c, m)] (by simp) (by rw [hzg_a]; exact DZ.out) (fun p hp => ⟨by simp at hp ⊢; rcases hp with h | h | h <;> simp [h], DN.out p (by simp at hp ⊢; rcases hp with h | h | h <;> simp [h])⟩)).cell _ _ (by simp), (hs.set g_z 0 (r) [(g_a, a), (g_b, b), (g_c, m)] (by simp) (by rw [hzg_a]; exact DZ.out) (fun p hp => ⟨by simp at hp ⊢; rcases hp with h | h | h <;> simp [h], DN.out p (by simp at hp ⊢; rcases hp with h | h | h <;> simp [h])⟩)).cell _ _ (by simp), (hs.set g_z 0 (r) [(g_a, a), (g_b, b), (g_c, m)] (by simp) (by rw [hzg_a]; exact DZ.out) (fun p hp => ⟨by simp at hp ⊢; rcases hp with h | h | h <;> simp [h], DN.out p (by simp at hp ⊢; rcases hp with h | h | h <;> simp [h])⟩)).cell _ _ (by simp)⟩)) (first | ((go_at_call 30); (with_reducible refine (by_at m (by assumption)).mono ?_); rintro e wn ⟨gb, rfl, hs⟩; obtain ⟨z0, z1, z2, z3⟩ := hs.cell g_z 0 (by simp); have zl := hs.lt g_z 0 (by simp); have zf := hs.frozen g_z 0 (by simp)) | ((go_at_call 41); (with_reducible refine (rmul_at a b m r gb (by assumption) (by simp) AL.out BL.out ML.out (by have := A1.out; omega) ER.out).mono ?_); rintro e wn ⟨rfl, hs⟩; obtain ⟨z0, z1, z2, z3⟩ := hs.cell g_z 0 (by simp); have zl := hs.lt g_z 0 (by simp); have zf := hs.frozen g_z 0 (by simp)))
  all_goals
    have HZ := hid (hs.set g_z 0 (r) [] (by simp) (by rw [hzg_a]; exact DZ.out) (by simp))
    go_wp2
    try rw [Exit.noGoto_ret]
    change bodyPost _ _ _ _ _ (fil _ g_z (r))
    generalize fil _ g_z (r) = wz at *
    obtain ⟨k0, k1, k2, k3⟩ := HZ.out.cell g_z (r) (by simp)
    exact bodyPost_ret (v := .tuple #[num (r), .int .i64 0]) (by simp [results, Tryd.results17, go_sem, k0, k1, k2, k3]) rfl ⟨by rw [ER.out], HZ.out.1⟩
theorem madd_at (a b m r : Nat) {w w' : World} {l : List (Nat × Nat)} (h : Env w l w') (hm : m < 2 ^ 256) (h1 : 1 < m) (ha : a < m) (hb : b < m) (hr : (a + b) % m = r) : Calls Tryd.prog 18 #[num a, num b, num m] w' fun e w2 => e = .returned (.tuple #[num r, .int .i64 0]) ∧ Env w l w2 := by
  subst hr; exact env_of (madd_some a b m w' (Nat.lt_trans ha hm) (Nat.lt_trans hb hm) hm ⟨h1, ha, hb⟩) h
theorem mmul_at (a b m r : Nat) {w w' : World} {l : List (Nat × Nat)} (h : Env w l w') (hm : m < 2 ^ 256) (h1 : 1 < m) (ha : a < m) (hb : b < m) (hr : a * b % m = r) : Calls Tryd.prog 17 #[num a, num b, num m] w' fun e w2 => e = .returned (.tuple #[num r, .int .i64 0]) ∧ Env w l w2 := by
  subst hr; exact env_of (mmul_some a b m w' (Nat.lt_trans ha hm) (Nat.lt_trans hb hm) hm ⟨h1, ha, hb⟩) h
end Go.Proofs.YtioebjbjpjbodaaDoor

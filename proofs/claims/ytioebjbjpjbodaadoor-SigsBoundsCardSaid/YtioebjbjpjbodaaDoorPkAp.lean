/-
  mods.formOf for exponents that are long, walked. Conditions: none.
-/
import Derived.Test.YtioebjbjpjbodaaDoorPkShd
namespace Go.Proofs.YtioebjbjpjbodaaDoor
open Go.RowKit
set_option linter.unusedVariables false

theorem Nm.ne3 {w : World} {g g' x t : Nat} {a b c : Value} (h : Nm w g x) (h3 : R3 w g' t a b c) (ht : t ≠ 24) : g ≠ g' := by
  intro e; subst e
  have h1 : some (Obj.cells (cls x) 24 (0, 0)) = some (Obj.cells #[a, b, c] t (0, 0)) := h.symm.trans h3
  injection h1 with h2
  injection h2 with h4 h5
  exact ht h5.symm
theorem F1.ne3 {w : World} {g g' t : Nat} {v a b c : Value} (h : F1 w g v) (h3 : R3 w g' t a b c) : g ≠ g' := by
  intro e; subst e
  have h1 : some (Obj.cells #[v] 56 (0, 0)) = some (Obj.cells #[a, b, c] t (0, 0)) := h.symm.trans h3
  injection h1 with h2
  injection h2 with h4 h5
  have := congrArg Array.size h4
  simp at this
set_option maxRecDepth 100000 in
set_option maxHeartbeats 4000000 in
theorem form_odd (m c : Nat) (w : World) (hm2 : m < 2 ^ 256) (hc : 16 < c) (ho : m % 2 = 1) : Calls Tryd.prog 62 #[num m, .int .i64 (c : Int)] w fun e w' => ShE m e w' ∧ Below w.heap.size w w' := by
  have hgt : (c : Int) > 16 := by omega
  have hgt2 : (16 : Int) < (c : Int) := by omega
  have ML := hid hm2
  have HO := hid ho
  have HO2 := hid (show ((m % 2 : Nat) : Int) = 1 by omega)
  clear hm2 ho
  have hmf : ∀ (fn : Fn) (first cap : Array Value) (w : World), (Instr.makeFunc fn first cap).run Tryd.prog w = .ok (.func fn first cap) w := fun _ _ _ _ => rfl
  have HE := hid ((Env.refl w).new m)
  go_enter Tryd.func62, Tryd.ntmps62
  go_upto_region 1 with fail
  have HR := hid (R3.new (w.alloc (.cells (cls m) 24)) 101 .nilFunc .nilFunc .nilFunc)
  have E0 := hid (HE.out.alloc (.cells #[.nilFunc, .nilFunc, .nilFunc] 101))
  have HF := hid (show w.heap.size ≤ (w.alloc (.cells (cls m) 24)).heap.size ∧ w.heap.size ≠ (w.alloc (.cells (cls m) 24)).heap.size by simp)
  simp only [show ∀ (w : World) (o : Obj), (w.alloc o).heap.size = w.heap.size + 1 from fun w o => Array.size_push _] at HR HF
  clear HE
  generalize (w.alloc (.cells (cls m) 24)).alloc (.cells #[.nilFunc, .nilFunc, .nilFunc] 101) = w0 at *
  generalize hr : w.heap.size + 1 = gr at *
  generalize hm : w.heap.size = gm at *
  have EB := hid (show (bi m 0 : Int) = ((m % 2 : Nat) : Int) by rw [show bi m 0 = m % 2 by simp [bi, bitAt]])
  obtain ⟨c0, c1, c2, c3⟩ := E0.out.cell gm m (by simp)
  have cl := E0.out.lt gm m (by simp)
  go_wp2_with fail
  clear c0 c1 c2 c3 cl
  refine (bit_at m 0 _ (Env.refl w0) ML.out (by decide) (by decide) EB.out).mono ?_
  rintro e w1 ⟨rfl, h1⟩
  have HR1 := hid (HR.out.on h1.below)
  have E1 := hid (E0.out.on h1.below)
  clear h1 HR E0
  rw [HO.out]
  obtain ⟨c0, c1, c2, c3⟩ := E1.out.cell gm m (by simp)
  have cl := E1.out.lt gm m (by simp)
  go_wp2_with fail
  clear c0 c1 c2 c3 cl
  refine (shifted_any m w1 ML.out HO.out).mono ?_
  rintro e w2 ⟨⟨iv, gi, gn, gs, gb, gl, rfl, hS, hiv, hci⟩, hb⟩
  have HR2 := hid (HR1.out.on hb)
  have E2 := hid (E1.out.on hb)
  have NE := hid (show gi ≠ gr ∧ gn ≠ gr ∧ gb ≠ gr ∧ gs ≠ gr ∧ gl ≠ gr from ⟨hS.1.ne3 HR2.out (by decide), hS.2.1.ne3 HR2.out (by decide), hS.2.2.1.ne3 HR2.out (by decide), hS.2.2.2.1.ne3 HR2.out, hS.2.2.2.2.ne3 HR2.out⟩)
  have SD := hid hS
  have IV := hid (show iv < 2 ^ 256 ∧ Cg (2 ^ 256) ((m : Int) * iv) 1 from ⟨hiv, hci⟩)
  clear hS hiv hci hb HR1 E1
  obtain ⟨z0, z1, z2⟩ := HR2.out.cell
  have zf := HR2.out.frozen
  have zl := HR2.out.lt
  go_wp2
  clear z0 z1 z2 zf zl
  have HZ := hid (E2.out.fil3 (g := gr) (a := .func (.func 82) #[] #[.pointer (some ⟨gn, 0, none⟩)]) (b := .func (.func 83) #[] #[.pointer (some ⟨gl, 0, none⟩)]) (c := .func (.func 84) #[] #[.pointer (some ⟨gl, 0, none⟩)]) (by rw [hm]; exact HF.out.1) (by simp; exact HF.out.2))
  have HY := hid (HR2.out.fil (.func (.func 82) #[] #[.pointer (some ⟨gn, 0, none⟩)]) (.func (.func 83) #[] #[.pointer (some ⟨gl, 0, none⟩)]) (.func (.func 84) #[] #[.pointer (some ⟨gl, 0, none⟩)]))
  have HS := hid (SD.out.fil3 NE.out (.func (.func 82) #[] #[.pointer (some ⟨gn, 0, none⟩)]) (.func (.func 83) #[] #[.pointer (some ⟨gl, 0, none⟩)]) (.func (.func 84) #[] #[.pointer (some ⟨gl, 0, none⟩)]))
  try rw [Exit.noGoto_ret]
  change bodyPost _ _ _ _ _ (fil3 w2 gr _ _ _)
  generalize fil3 w2 gr _ _ _ = wz at *
  obtain ⟨k0, k1, k2⟩ := HY.out.cell
  exact bodyPost_ret (v := sform gn gl) (by simp [results, Tryd.results62, go_sem, k0, k1, k2]) rfl ⟨⟨iv, gi, gn, gs, gb, gl, rfl, HS.out, IV.out.1, IV.out.2⟩, (by have hq := HZ.out.1; first | exact hq | rwa [hm] at hq)⟩
set_option maxRecDepth 100000 in
set_option maxHeartbeats 4000000 in
theorem form_even (m c : Nat) (w : World) (hm2 : m < 2 ^ 256) (hc : 16 < c) (ho : m % 2 = 0) : Calls Tryd.prog 62 #[num m, .int .i64 (c : Int)] w fun e w' => ∃ g, e = .returned (pform g) ∧ Env w [(g, m)] w' := by
  have hgt : (c : Int) > 16 := by omega
  have hgt2 : (16 : Int) < (c : Int) := by omega
  have ML := hid hm2
  have HO := hid ho
  clear hm2 ho
  have hmf : ∀ (fn : Fn) (first cap : Array Value) (w : World), (Instr.makeFunc fn first cap).run Tryd.prog w = .ok (.func fn first cap) w := fun _ _ _ _ => rfl
  have HE := hid ((Env.refl w).new m)
  go_enter Tryd.func62, Tryd.ntmps62
  go_upto_region 1 with fail
  have HR := hid (R3.new (w.alloc (.cells (cls m) 24)) 101 .nilFunc .nilFunc .nilFunc)
  have E0 := hid (HE.out.alloc (.cells #[.nilFunc, .nilFunc, .nilFunc] 101))
  have HF := hid (show w.heap.size ≤ (w.alloc (.cells (cls m) 24)).heap.size ∧ w.heap.size ≠ (w.alloc (.cells (cls m) 24)).heap.size by simp)
  simp only [show ∀ (w : World) (o : Obj), (w.alloc o).heap.size = w.heap.size + 1 from fun w o => Array.size_push _] at HR HF
  clear HE
  generalize (w.alloc (.cells (cls m) 24)).alloc (.cells #[.nilFunc, .nilFunc, .nilFunc] 101) = w0 at *
  generalize hr : w.heap.size + 1 = gr at *
  generalize hm : w.heap.size = gm at *
  have EB := hid (show (bi m 0 : Int) = ((m % 2 : Nat) : Int) by rw [show bi m 0 = m % 2 by simp [bi, bitAt]])
  obtain ⟨c0, c1, c2, c3⟩ := E0.out.cell gm m (by simp)
  have cl := E0.out.lt gm m (by simp)
  go_wp2_with fail
  clear c0 c1 c2 c3 cl
  refine (bit_at m 0 _ (Env.refl w0) ML.out (by decide) (by decide) EB.out).mono ?_
  rintro e w1 ⟨rfl, h1⟩
  have HR1 := hid (HR.out.on h1.below)
  have E1 := hid (E0.out.on h1.below)
  clear h1 HR E0
  rw [HO.out]
  obtain ⟨c0, c1, c2, c3⟩ := E1.out.cell gm m (by simp)
  have cl := E1.out.lt gm m (by simp)
  go_wp2_with fail
  clear c0 c1 c2 c3 cl
  refine (plain_any m w1).mono ?_
  rintro e w2 ⟨gb, rfl, h, hl⟩
  have HR2 := hid (HR1.out.on h.below)
  have E2 := hid ((E1.out.on h.below).more (h.nm gb m (by simp)))
  have GN := hid (show ¬ gb = gr ∧ ¬ gm = gr from ⟨(h.nm gb m (by simp)).ne3 HR2.out (by decide), HF.out.2⟩)
  clear h hl HR1 E1
  obtain ⟨z0, z1, z2⟩ := HR2.out.cell
  have zf := HR2.out.frozen
  have zl := HR2.out.lt
  go_wp2
  clear z0 z1 z2 zf zl
  have HZ := hid (E2.out.fil3 (g := gr) (a := .func (.func 85) #[] #[]) (b := .func (.func 85) #[] #[]) (c := .func (.func 41) #[] #[.pointer (some ⟨gb, 0, none⟩)]) (by rw [hm]; exact HF.out.1) (by simp; exact GN.out))
  have HY := hid (HR2.out.fil (.func (.func 85) #[] #[]) (.func (.func 85) #[] #[]) (.func (.func 41) #[] #[.pointer (some ⟨gb, 0, none⟩)]))
  try rw [Exit.noGoto_ret]
  change bodyPost _ _ _ _ _ (fil3 w2 gr _ _ _)
  generalize fil3 w2 gr _ _ _ = wz at *
  obtain ⟨k0, k1, k2⟩ := HY.out.cell
  exact bodyPost_ret (v := pform gb) (by simp [results, Tryd.results62, go_sem, k0, k1, k2]) rfl ⟨gb, rfl, HZ.out.perm (by simp)⟩
end Go.Proofs.YtioebjbjpjbodaaDoor

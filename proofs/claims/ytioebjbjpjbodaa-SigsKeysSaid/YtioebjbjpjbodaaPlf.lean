/-
  mods.plain, formOf for exponents that are short, walked. Conditions: none.
-/
import Derived.Test.YtioebjbjpjbodaaInv
namespace Go.Proofs.Ytioebjbjpjbodaa
open Go.RowKit
set_option linter.unusedVariables false

theorem Env.more {w w' : World} {l : List (Nat × Nat)} {g x : Nat} (h : Env w l w') (hn : Nm w' g x) : Env w ((g, x) :: l) w' := ⟨h.1, fun p hp => by
  rcases List.mem_cons.1 hp with rfl | hp
  · exact hn
  · exact h.2 p hp⟩
/-- the form in which numbers stand as they are -/
abbrev pform (g : Nat) : Value := .agg #[.func (.func 57) #[] #[], .func (.func 57) #[] #[], .func (.func 31) #[] #[.pointer (some ⟨g, 0, none⟩)]]
set_option maxRecDepth 100000 in
set_option maxHeartbeats 4000000 in
theorem same_any (a : Nat) (w : World) : Calls Try.prog 57 #[num a] w fun e w' => e = .returned (num a) ∧ Below w.heap.size w w' := by
  go_enter Try.func57, Try.ntmps57
  go_wp2
  refine bodyPost_ret (v := num a) (by simp [results, Try.results57, go_sem]) rfl ⟨rfl, ?_⟩
  repeat (first | exact Below.refl _ _ | refine Below.drew ?_ | refine bal ?_ _)
set_option maxRecDepth 100000 in
set_option maxHeartbeats 4000000 in
theorem plain_any (m : Nat) (w : World) : Calls Try.prog 50 #[num m] w fun e w' => ∃ g, e = .returned (pform g) ∧ Env w [(g, m)] w' ∧ w.heap.size ≤ g := by
  have hf : ∀ (g : Nat) (w : World), (Instr.field 59 (ring g) 2).run Try.prog w = .ok (.func (.func 31) #[] #[.pointer (some ⟨g, 0, none⟩)]) w := fun _ _ => by kernel_rfl
  have hmf : ∀ (fn : Fn) (first cap : Array Value) (w : World), (Instr.makeFunc fn first cap).run Try.prog w = .ok (.func fn first cap) w := fun _ _ _ _ => rfl
  have HE := hid ((Env.refl w).new m)
  go_enter Try.func50, Try.ntmps50
  go_upto_region 1 with fail
  have HR := hid (R3.new (w.alloc (.cells (cls m) 24)) 79 .nilFunc .nilFunc .nilFunc)
  have HE2 := hid (HE.out.alloc (.cells #[.nilFunc, .nilFunc, .nilFunc] 79))
  have HF := hid (show w.heap.size ≤ (w.alloc (.cells (cls m) 24)).heap.size ∧ w.heap.size ≠ (w.alloc (.cells (cls m) 24)).heap.size by simp)
  simp only [show ∀ (w : World) (o : Obj), (w.alloc o).heap.size = w.heap.size + 1 from fun w o => Array.size_push _] at HR HF
  clear HE
  generalize (w.alloc (.cells (cls m) 24)).alloc (.cells #[.nilFunc, .nilFunc, .nilFunc] 79) = w0 at *
  generalize hr : w.heap.size + 1 = gr at *
  generalize hm : w.heap.size = gm at *
  obtain ⟨c0, c1, c2, c3⟩ := HE2.out.cell gm m (by simp)
  have cl := HE2.out.lt gm m (by simp)
  go_wp2_with fail
  clear c0 c1 c2 c3 cl
  refine (by_any m w0).mono ?_
  rintro e w1 ⟨rfl, h⟩
  have GN := hid (show ¬ w0.heap.size = gr by have := HR.out.lt; omega)
  have HR1 := hid (HR.out.on h.below)
  have E1 := hid ((HE2.out.on h.below).more (h.nm w0.heap.size m (by simp)))
  have GB := hid HE2.out.below.size
  clear h HR HE2
  generalize w0.heap.size = gb at *
  have GN2 := GN
  have GN := hid (show ¬ gb = gr ∧ ¬ gm = gr from ⟨GN2.out, HF.out.2⟩)
  obtain ⟨z0, z1, z2⟩ := HR1.out.cell
  have zf := HR1.out.frozen
  have zl := HR1.out.lt
  go_wp2
  clear z0 z1 z2 zf zl
  have HZ := hid (E1.out.fil3 (g := gr) (a := .func (.func 57) #[] #[]) (b := .func (.func 57) #[] #[]) (c := .func (.func 31) #[] #[.pointer (some ⟨gb, 0, none⟩)]) (by rw [hm]; exact HF.out.1) (by simp; exact GN.out))
  have HY := hid (HR1.out.fil (.func (.func 57) #[] #[]) (.func (.func 57) #[] #[]) (.func (.func 31) #[] #[.pointer (some ⟨gb, 0, none⟩)]))
  try rw [Exit.noGoto_ret]
  change bodyPost _ _ _ _ _ (fil3 w1 gr _ _ _)
  generalize fil3 w1 gr _ _ _ = wz at *
  obtain ⟨k0, k1, k2⟩ := HY.out.cell
  exact bodyPost_ret (v := pform gb) (by simp [results, Try.results50, go_sem, k0, k1, k2]) rfl ⟨gb, rfl, HZ.out.perm (by simp), GB.out⟩
set_option maxRecDepth 100000 in
set_option maxHeartbeats 4000000 in
theorem form_plain (m c : Nat) (w : World) (hc : c ≤ 16) : Calls Try.prog 45 #[num m, .int .i64 (c : Int)] w fun e w' => ∃ g, e = .returned (pform g) ∧ Env w [(g, m)] w' ∧ w.heap.size ≤ g := by
  have hgt : ¬ (16 < (c : Int)) := by omega
  have hgt2 : ¬ ((c : Int) > 16) := by omega
  have hmf : ∀ (fn : Fn) (first cap : Array Value) (w : World), (Instr.makeFunc fn first cap).run Try.prog w = .ok (.func fn first cap) w := fun _ _ _ _ => rfl
  have HE := hid ((Env.refl w).new m)
  go_enter Try.func45, Try.ntmps45
  go_upto_region 1 with fail
  have HR := hid (R3.new (w.alloc (.cells (cls m) 24)) 79 .nilFunc .nilFunc .nilFunc)
  have HE2 := hid (HE.out.alloc (.cells #[.nilFunc, .nilFunc, .nilFunc] 79))
  have HF := hid (show w.heap.size ≤ (w.alloc (.cells (cls m) 24)).heap.size ∧ w.heap.size ≠ (w.alloc (.cells (cls m) 24)).heap.size by simp)
  simp only [show ∀ (w : World) (o : Obj), (w.alloc o).heap.size = w.heap.size + 1 from fun w o => Array.size_push _] at HR HF
  clear HE
  generalize (w.alloc (.cells (cls m) 24)).alloc (.cells #[.nilFunc, .nilFunc, .nilFunc] 79) = w0 at *
  generalize hr : w.heap.size + 1 = gr at *
  generalize hm : w.heap.size = gm at *
  obtain ⟨c0, c1, c2, c3⟩ := HE2.out.cell gm m (by simp)
  have cl := HE2.out.lt gm m (by simp)
  go_wp2_with fail
  clear c0 c1 c2 c3 cl
  refine (plain_any m w0).mono ?_
  rintro e w1 ⟨gb, rfl, h, hl⟩
  have GN := hid (show ¬ gb = gr ∧ ¬ gm = gr from ⟨by have := HR.out.lt; omega, HF.out.2⟩)
  have GB := hid (show w.heap.size ≤ gb from Nat.le_trans HE2.out.below.size hl)
  clear hl
  have HR1 := hid (HR.out.on h.below)
  have E1 := hid ((HE2.out.on h.below).more (h.nm gb m (by simp)))
  clear h HR HE2
  obtain ⟨z0, z1, z2⟩ := HR1.out.cell
  have zf := HR1.out.frozen
  have zl := HR1.out.lt
  go_wp2
  clear z0 z1 z2 zf zl
  have HZ := hid (E1.out.fil3 (g := gr) (a := .func (.func 57) #[] #[]) (b := .func (.func 57) #[] #[]) (c := .func (.func 31) #[] #[.pointer (some ⟨gb, 0, none⟩)]) (by rw [hm]; exact HF.out.1) (by simp; exact GN.out))
  have HY := hid (HR1.out.fil (.func (.func 57) #[] #[]) (.func (.func 57) #[] #[]) (.func (.func 31) #[] #[.pointer (some ⟨gb, 0, none⟩)]))
  try rw [Exit.noGoto_ret]
  change bodyPost _ _ _ _ _ (fil3 w1 gr _ _ _)
  generalize fil3 w1 gr _ _ _ = wz at *
  obtain ⟨k0, k1, k2⟩ := HY.out.cell
  exact bodyPost_ret (v := pform gb) (by simp [results, Try.results45, go_sem, k0, k1, k2]) rfl ⟨gb, rfl, HZ.out.perm (by simp), GB.out⟩
end Go.Proofs.Ytioebjbjpjbodaa

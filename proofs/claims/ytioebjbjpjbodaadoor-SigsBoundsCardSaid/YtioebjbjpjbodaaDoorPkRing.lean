/-
  mods.by, walked: how numbers go round, as closures that know by what. Conditions: none.
-/
import Derived.Test.YtioebjbjpjbodaaDoorPkAl
import Derived.Laws.EntriesVeiled
import Derived.Test.YtioebjbjpjbodaaDoorPkAj
import Derived.Test.YtioebjbjpjbodaaDoorPkAc
namespace Go.Proofs.YtioebjbjpjbodaaDoor
open Go.RowKit
set_option linter.unusedVariables false

theorem wid_mul (a b m : Nat) : wid (a * b % 2 ^ 256) (a * b / 2 ^ 256) m = a * b % m := by
  unfold wid; rw [Nat.mod_add_div]
theorem Env.one {w : World} {g x : Nat} (h : Nm w g x) : Env w [(g, x)] w := ⟨Below.refl _ _, by simpa using h⟩
/-- a block of three functions -/
def R3 (w : World) (g t : Nat) (a b c : Value) : Prop := w.heap[g]? = some (.cells #[a, b, c] t (0, 0))
theorem R3.lt {w : World} {g t : Nat} {a b c : Value} (h : R3 w g t a b c) : g < w.heap.size := lt_of_block h
theorem R3.on {w w' : World} {g t : Nat} {a b c : Value} (h : R3 w g t a b c) (hb : Below w.heap.size w w') : R3 w' g t a b c := (hb.block g h.lt).trans h
theorem R3.cell {w : World} {g t : Nat} {a b c : Value} (h : R3 w g t a b c) : w.cell? ⟨g, 0, none⟩ = some a ∧ w.cell? ⟨g, 1, none⟩ = some b ∧ w.cell? ⟨g, 2, none⟩ = some c := by
  refine ⟨?_, ?_, ?_⟩ <;> (rw [cell_of_row w g _ _ t (0, 0) h]; rfl)
theorem R3.frozen {w : World} {g t : Nat} {a b c : Value} (h : R3 w g t a b c) (i : Nat) : w.frozen? ⟨g, i, none⟩ = false := by
  unfold R3 at h; simp [World.frozen?, h]
theorem R3.new (w : World) (t : Nat) (a b c : Value) : R3 (w.alloc (.cells #[a, b, c] t)) w.heap.size t a b c := heap_alloc_new _ _
abbrev fil3 (w : World) (g : Nat) (a b c : Value) : World := ((w.setCell ⟨g, 0, none⟩ a).setCell ⟨g, 1, none⟩ b).setCell ⟨g, 2, none⟩ c
theorem R3.fil {w : World} {g t : Nat} {x y z : Value} (h : R3 w g t x y z) (a b c : Value) : R3 (fil3 w g a b c) g t a b c := by
  unfold R3 at h ⊢; simp [World.setCell, Array.getElem?_modify, h]
theorem Env.fil3 {w w' : World} {l : List (Nat × Nat)} {g : Nat} {a b c : Value} (h : Env w l w') (hg : w.heap.size ≤ g) (hl : ∀ p ∈ l, p.1 ≠ g) : Env w l (fil3 w' g a b c) := by
  refine ⟨((h.1.setCell (p := ⟨g, 0, none⟩) hg _).setCell (p := ⟨g, 1, none⟩) hg _).setCell (p := ⟨g, 2, none⟩) hg _, fun p hp => ?_⟩
  exact (((h.2 p hp).fr.setOther _ (hl p hp)).setOther _ (hl p hp)).setOther _ (hl p hp)
theorem Env.alloc {w w' : World} {l : List (Nat × Nat)} (h : Env w l w') (o : Obj) : Env w l (w'.alloc o) := ⟨bal h.1 o, fun p hp => (h.2 p hp).alloc o⟩
/-- how numbers go round by what block g holds -/
abbrev ring (g : Nat) : Value := .agg #[.func (.func 39) #[] #[.pointer (some ⟨g, 0, none⟩)], .func (.func 40) #[] #[.pointer (some ⟨g, 0, none⟩)], .func (.func 41) #[] #[.pointer (some ⟨g, 0, none⟩)]]
set_option maxRecDepth 100000 in
set_option maxHeartbeats 4000000 in
theorem by_any (m : Nat) (w : World) : Calls Tryd.prog 30 #[num m] w fun e w' => e = .returned (ring w.heap.size) ∧ Env w [(w.heap.size, m)] w' := by
  have hmf : ∀ (fn : Fn) (first cap : Array Value) (w : World), (Instr.makeFunc fn first cap).run Tryd.prog w = .ok (.func fn first cap) w := fun _ _ _ _ => rfl
  have HE := hid ((Env.refl w).new m)
  go_enter Tryd.func30, Tryd.ntmps30
  go_upto_region 1 with fail
  have HR := hid (R3.new (w.alloc (.cells (cls m) 24)) 63 .nilFunc .nilFunc .nilFunc)
  have HE2 := hid (HE.out.alloc (.cells #[.nilFunc, .nilFunc, .nilFunc] 63))
  have HF := hid (show w.heap.size ≤ (w.alloc (.cells (cls m) 24)).heap.size ∧ ∀ p ∈ [(w.heap.size, m)], p.1 ≠ (w.alloc (.cells (cls m) 24)).heap.size by simp)
  simp only [show ∀ (w : World) (o : Obj), (w.alloc o).heap.size = w.heap.size + 1 from fun w o => Array.size_push _] at HR HF
  generalize (w.alloc (.cells (cls m) 24)).alloc (.cells #[.nilFunc, .nilFunc, .nilFunc] 63) = w0 at *
  generalize hr : w.heap.size + 1 = gr at *
  generalize hm : w.heap.size = gm at *
  obtain ⟨z0, z1, z2⟩ := HR.out.cell
  have zf := HR.out.frozen
  have zl := HR.out.lt
  go_wp2
  clear z0 z1 z2 zf zl
  have HZ := hid (HE2.out.fil3 (g := gr) (a := .func (.func 39) #[] #[.pointer (some ⟨gm, 0, none⟩)]) (b := .func (.func 40) #[] #[.pointer (some ⟨gm, 0, none⟩)]) (c := .func (.func 41) #[] #[.pointer (some ⟨gm, 0, none⟩)]) (by rw [hm]; exact HF.out.1) HF.out.2)
  have HY := hid (HR.out.fil (.func (.func 39) #[] #[.pointer (some ⟨gm, 0, none⟩)]) (.func (.func 40) #[] #[.pointer (some ⟨gm, 0, none⟩)]) (.func (.func 41) #[] #[.pointer (some ⟨gm, 0, none⟩)]))
  change bodyPost _ _ _ _ _ (fil3 w0 gr _ _ _)
  generalize fil3 w0 gr _ _ _ = wz at *
  obtain ⟨k0, k1, k2⟩ := HY.out.cell
  exact bodyPost_ret (v := ring gm) (by simp [results, Tryd.results30, go_sem, k0, k1, k2]) rfl ⟨by rw [hm], by rw [hm]; exact HZ.out⟩
set_option maxRecDepth 100000 in
set_option maxHeartbeats 4000000 in
theorem radd_yes (a b m g : Nat) (w : World) (hg : Nm w g m) (ha : a < m) (hb : b < m) (hm : m < 2 ^ 256) (hkt : (a + b) / 2 ^ 256 < lent ((a + b) % 2 ^ 256) m) : Calls Tryd.prog 39 #[num a, num b, .pointer (some ⟨g, 0, none⟩)] w fun e w' => e = .returned (num ((a + b) % m)) ∧ Below w.heap.size w w' := by
  have HG := hid (Env.one hg)
  obtain ⟨s, es⟩ : ∃ z, (a + b) % 2 ^ 256 = z := ⟨_, rfl⟩
  obtain ⟨k, ek⟩ : ∃ z, (a + b) / 2 ^ 256 = z := ⟨_, rfl⟩
  obtain ⟨d, ed⟩ : ∃ z, dif s m = z := ⟨_, rfl⟩
  obtain ⟨t, et⟩ : ∃ z, lent s m = z := ⟨_, rfl⟩
  have hr := round_add ha hb hm es ed
  rw [ek, et] at hr
  rw [es, ek, et] at hkt
  have hsl : s < 2 ^ 256 := by rw [← es]; exact Nat.mod_lt _ (Nat.two_pow_pos _)
  have SL := hid hsl
  have A1 := hid (Nat.lt_trans ha hm)
  have B1 := hid (Nat.lt_trans hb hm)
  have M1 := hid hm
  have E1 := hid es
  have E2 := hid (show (((a + b) / 2 ^ 256 : Nat) : Int) = (k : Int) by rw [ek])
  have E3 := hid ed
  have E4 := hid (show ((lent s m : Nat) : Int) = (t : Int) by rw [et])
  have hlt : (k : Int) < (t : Int) := by omega
  rw [if_pos hkt] at hr
  have HR := hid hr
  clear hr es ek ed et hsl ha hb hm hkt hg
  have H0 := hid (((((HG.out).new a).new b).zero).perm (l' := [(w.heap.size + 1 + 1, 0), (w.heap.size + 1, b), (w.heap.size, a), (g, m)]) (by simp))
  have DZ := hid (show w.heap.size ≤ w.heap.size + 1 + 1 by omega)
  go_enter Tryd.func39, Tryd.ntmps39
  go_wp2_with fail
  generalize ((w.alloc (.cells (cls a) 24)).alloc (.cells (cls b) 24)).alloc (.cells #[.int .u64 0, .int .u64 0, .int .u64 0, .int .u64 0] 24) = w0 at *
  generalize w.heap.size + 1 + 1 = g_z at *
  generalize w.heap.size + 1 = g_b at *
  generalize hzg_a : w.heap.size = g_a at *
  obtain ⟨c0x0a, c0x0b, c0x0c, c0x0d⟩ := H0.out.cell (g_a) (a) (by simp)
  have c0x0l := H0.out.lt (g_a) (a) (by simp)
  have c0x0m := Nat.le_of_lt c0x0l
  obtain ⟨c6x0a, c6x0b, c6x0c, c6x0d⟩ := H0.out.cell (g_b) (b) (by simp)
  have c6x0l := H0.out.lt (g_b) (b) (by simp)
  have c6x0m := Nat.le_of_lt c6x0l
  go_wp2_with fail
  clear c0x0a c0x0b c0x0c c0x0d c0x0l c0x0m c6x0a c6x0b c6x0c c6x0d c6x0l c6x0m
  refine (add_at a b s k H0.out A1.out B1.out E1.out E2.out).mono ?_
  rintro e w1 ⟨rfl, h⟩
  have H1 := hid h
  clear h H0
  obtain ⟨c0x1a, c0x1b, c0x1c, c0x1d⟩ := H1.out.cell (g) (m) (by simp)
  have c0x1l := H1.out.lt (g) (m) (by simp)
  have c0x1m := Nat.le_of_lt c0x1l
  go_wp2_with fail
  clear c0x1a c0x1b c0x1c c0x1d c0x1l c0x1m
  have H1b := hid (H1.out.new s)
  clear H1
  generalize w1.alloc (.cells (cls s) 24) = w1b at *
  generalize w1.heap.size = g6 at *
  refine (sub_at s m d t H1b.out SL.out M1.out E3.out E4.out).mono ?_
  rintro e w2 ⟨rfl, h⟩
  have H2 := hid h
  clear h H1b
  go_upto_region 3 with fail
  have H2b := hid (H2.out.new d)
  clear H2
  generalize w2.alloc (.cells (cls d) 24) = w2b at *
  generalize w2.heap.size = g8 at *
  obtain ⟨c0x2a, c0x2b, c0x2c, c0x2d⟩ := H2b.out.cell (g6) (s) (by simp)
  have c0x2l := H2b.out.lt (g6) (s) (by simp)
  have c0x2m := Nat.le_of_lt c0x2l
  obtain ⟨z0, z1, z2, z3⟩ := H2b.out.cell g_z 0 (by simp)
  have zl := H2b.out.lt g_z 0 (by simp)
  have zf := H2b.out.frozen g_z 0 (by simp)
  have HZ := hid (H2b.out.set g_z 0 (s) [] (by simp) (by rw [hzg_a]; exact DZ.out) (by simp))
  go_wp2
  clear z0 z1 z2 z3 zl zf
  try rw [Exit.noGoto_ret]
  change bodyPost _ _ _ _ _ (fil w2b g_z (s))
  generalize fil w2b g_z (s) = wz at *
  obtain ⟨k0, k1, k2, k3⟩ := HZ.out.cell g_z (s) (by simp)
  exact bodyPost_ret (v := num (s)) (by simp [results, Tryd.results39, go_sem, k0, k1, k2, k3]) rfl ⟨by rw [← HR.out], HZ.out.1⟩
set_option maxRecDepth 100000 in
set_option maxHeartbeats 4000000 in
theorem radd_no (a b m g : Nat) (w : World) (hg : Nm w g m) (ha : a < m) (hb : b < m) (hm : m < 2 ^ 256) (hkt : ¬ (a + b) / 2 ^ 256 < lent ((a + b) % 2 ^ 256) m) : Calls Tryd.prog 39 #[num a, num b, .pointer (some ⟨g, 0, none⟩)] w fun e w' => e = .returned (num ((a + b) % m)) ∧ Below w.heap.size w w' := by
  have HG := hid (Env.one hg)
  obtain ⟨s, es⟩ : ∃ z, (a + b) % 2 ^ 256 = z := ⟨_, rfl⟩
  obtain ⟨k, ek⟩ : ∃ z, (a + b) / 2 ^ 256 = z := ⟨_, rfl⟩
  obtain ⟨d, ed⟩ : ∃ z, dif s m = z := ⟨_, rfl⟩
  obtain ⟨t, et⟩ : ∃ z, lent s m = z := ⟨_, rfl⟩
  have hr := round_add ha hb hm es ed
  rw [ek, et] at hr
  rw [es, ek, et] at hkt
  have hsl : s < 2 ^ 256 := by rw [← es]; exact Nat.mod_lt _ (Nat.two_pow_pos _)
  have SL := hid hsl
  have A1 := hid (Nat.lt_trans ha hm)
  have B1 := hid (Nat.lt_trans hb hm)
  have M1 := hid hm
  have E1 := hid es
  have E2 := hid (show (((a + b) / 2 ^ 256 : Nat) : Int) = (k : Int) by rw [ek])
  have E3 := hid ed
  have E4 := hid (show ((lent s m : Nat) : Int) = (t : Int) by rw [et])
  have hlt : ¬ (k : Int) < (t : Int) := by omega
  rw [if_neg hkt] at hr
  have HR := hid hr
  clear hr es ek ed et hsl ha hb hm hkt hg
  have H0 := hid (((((HG.out).new a).new b).zero).perm (l' := [(w.heap.size + 1 + 1, 0), (w.heap.size + 1, b), (w.heap.size, a), (g, m)]) (by simp))
  have DZ := hid (show w.heap.size ≤ w.heap.size + 1 + 1 by omega)
  go_enter Tryd.func39, Tryd.ntmps39
  go_wp2_with fail
  generalize ((w.alloc (.cells (cls a) 24)).alloc (.cells (cls b) 24)).alloc (.cells #[.int .u64 0, .int .u64 0, .int .u64 0, .int .u64 0] 24) = w0 at *
  generalize w.heap.size + 1 + 1 = g_z at *
  generalize w.heap.size + 1 = g_b at *
  generalize hzg_a : w.heap.size = g_a at *
  obtain ⟨c0x0a, c0x0b, c0x0c, c0x0d⟩ := H0.out.cell (g_a) (a) (by simp)
  have c0x0l := H0.out.lt (g_a) (a) (by simp)
  have c0x0m := Nat.le_of_lt c0x0l
  obtain ⟨c6x0a, c6x0b, c6x0c, c6x0d⟩ := H0.out.cell (g_b) (b) (by simp)
  have c6x0l := H0.out.lt (g_b) (b) (by simp)
  have c6x0m := Nat.le_of_lt c6x0l
  go_wp2_with fail
  clear c0x0a c0x0b c0x0c c0x0d c0x0l c0x0m c6x0a c6x0b c6x0c c6x0d c6x0l c6x0m
  refine (add_at a b s k H0.out A1.out B1.out E1.out E2.out).mono ?_
  rintro e w1 ⟨rfl, h⟩
  have H1 := hid h
  clear h H0
  obtain ⟨c0x1a, c0x1b, c0x1c, c0x1d⟩ := H1.out.cell (g) (m) (by simp)
  have c0x1l := H1.out.lt (g) (m) (by simp)
  have c0x1m := Nat.le_of_lt c0x1l
  go_wp2_with fail
  clear c0x1a c0x1b c0x1c c0x1d c0x1l c0x1m
  have H1b := hid (H1.out.new s)
  clear H1
  generalize w1.alloc (.cells (cls s) 24) = w1b at *
  generalize w1.heap.size = g6 at *
  refine (sub_at s m d t H1b.out SL.out M1.out E3.out E4.out).mono ?_
  rintro e w2 ⟨rfl, h⟩
  have H2 := hid h
  clear h H1b
  go_upto_region 3 with fail
  have H2b := hid (H2.out.new d)
  clear H2
  generalize w2.alloc (.cells (cls d) 24) = w2b at *
  generalize w2.heap.size = g8 at *
  obtain ⟨c0x2a, c0x2b, c0x2c, c0x2d⟩ := H2b.out.cell (g8) (d) (by simp)
  have c0x2l := H2b.out.lt (g8) (d) (by simp)
  have c0x2m := Nat.le_of_lt c0x2l
  obtain ⟨z0, z1, z2, z3⟩ := H2b.out.cell g_z 0 (by simp)
  have zl := H2b.out.lt g_z 0 (by simp)
  have zf := H2b.out.frozen g_z 0 (by simp)
  have HZ := hid (H2b.out.set g_z 0 (d) [] (by simp) (by rw [hzg_a]; exact DZ.out) (by simp))
  go_wp2
  clear z0 z1 z2 z3 zl zf
  try rw [Exit.noGoto_ret]
  change bodyPost _ _ _ _ _ (fil w2b g_z (d))
  generalize fil w2b g_z (d) = wz at *
  obtain ⟨k0, k1, k2, k3⟩ := HZ.out.cell g_z (d) (by simp)
  exact bodyPost_ret (v := num (d)) (by simp [results, Tryd.results39, go_sem, k0, k1, k2, k3]) rfl ⟨by rw [← HR.out], HZ.out.1⟩
theorem radd_any (a b m g : Nat) (w : World) (hg : Nm w g m) (ha : a < m) (hb : b < m) (hm : m < 2 ^ 256) : Calls Tryd.prog 39 #[num a, num b, .pointer (some ⟨g, 0, none⟩)] w fun e w' => e = .returned (num ((a + b) % m)) ∧ Below w.heap.size w w' := by
  by_cases h : (a + b) / 2 ^ 256 < lent ((a + b) % 2 ^ 256) m
  · exact radd_yes a b m g w hg ha hb hm h
  · exact radd_no a b m g w hg ha hb hm h
set_option maxRecDepth 100000 in
set_option maxHeartbeats 4000000 in
theorem rsub_yes (a b m g : Nat) (w : World) (hg : Nm w g m) (ha : a < m) (hb : b < m) (hm : m < 2 ^ 256) (hab : a < b) : Calls Tryd.prog 40 #[num a, num b, .pointer (some ⟨g, 0, none⟩)] w fun e w' => e = .returned (num ((a + (m - b)) % m)) ∧ Below w.heap.size w w' := by
  have HG := hid (Env.one hg)
  obtain ⟨d, ed⟩ : ∃ z, dif a b = z := ⟨_, rfl⟩
  obtain ⟨t, et⟩ : ∃ z, lent a b = z := ⟨_, rfl⟩
  have hr := (round_sub ha hb).resolve_right (by omega)
  rw [if_pos hab, ed] at hr
  have hdl : d < 2 ^ 256 := by rw [← ed]; exact dif_lt (Nat.lt_trans ha hm) (Nat.lt_trans hb hm)
  have DL := hid hdl
  have A1 := hid (Nat.lt_trans ha hm)
  have B1 := hid (Nat.lt_trans hb hm)
  have M1 := hid hm
  have E3 := hid ed
  have E4 : Hid (((lent a b : Nat) : Int) = 1) := hid (by unfold lent; rw [if_pos hab]; rfl)
  obtain ⟨y, ey⟩ : ∃ z, (d + m) % 2 ^ 256 = z := ⟨_, rfl⟩
  obtain ⟨k, ek⟩ : ∃ z, (d + m) / 2 ^ 256 = z := ⟨_, rfl⟩
  rw [ey] at hr
  have E5 := hid ey
  have E6 := hid (show (((d + m) / 2 ^ 256 : Nat) : Int) = (k : Int) by rw [ek])
  have HR := hid hr
  clear hr ed et hdl ha hb hm hab hg ey ek
  have H0 := hid (((((HG.out).new a).new b).zero).perm (l' := [(w.heap.size + 1 + 1, 0), (w.heap.size + 1, b), (w.heap.size, a), (g, m)]) (by simp))
  have DZ := hid (show w.heap.size ≤ w.heap.size + 1 + 1 by omega)
  go_enter Tryd.func40, Tryd.ntmps40
  go_wp2_with fail
  generalize ((w.alloc (.cells (cls a) 24)).alloc (.cells (cls b) 24)).alloc (.cells #[.int .u64 0, .int .u64 0, .int .u64 0, .int .u64 0] 24) = w0 at *
  generalize w.heap.size + 1 + 1 = g_z at *
  generalize w.heap.size + 1 = g_b at *
  generalize hzg_a : w.heap.size = g_a at *
  obtain ⟨c0x0a, c0x0b, c0x0c, c0x0d⟩ := H0.out.cell (g_a) (a) (by simp)
  have c0x0l := H0.out.lt (g_a) (a) (by simp)
  have c0x0m := Nat.le_of_lt c0x0l
  obtain ⟨c6x0a, c6x0b, c6x0c, c6x0d⟩ := H0.out.cell (g_b) (b) (by simp)
  have c6x0l := H0.out.lt (g_b) (b) (by simp)
  have c6x0m := Nat.le_of_lt c6x0l
  go_wp2_with fail
  clear c0x0a c0x0b c0x0c c0x0d c0x0l c0x0m c6x0a c6x0b c6x0c c6x0d c6x0l c6x0m
  refine (sub_at a b d 1 H0.out A1.out B1.out E3.out E4.out).mono ?_
  rintro e w1 ⟨rfl, h⟩
  have H1 := hid h
  clear h H0
  have HF := hid H1.out.fresh
  obtain ⟨c0x1a, c0x1b, c0x1c, c0x1d⟩ := H1.out.cell (g) (m) (by simp)
  have c0x1l := H1.out.lt (g) (m) (by simp)
  have c0x1m := Nat.le_of_lt c0x1l
  go_wp2_with fail
  clear c0x1a c0x1b c0x1c c0x1d c0x1l c0x1m
  have H1b := hid (H1.out.new d)
  clear H1
  generalize w1.alloc (.cells (cls d) 24) = w1b at *
  generalize w1.heap.size = g6 at *
  refine (add_at d m y k H1b.out DL.out M1.out E5.out E6.out).mono ?_
  rintro e w2 ⟨rfl, h⟩
  have H2 := hid h
  clear h H1b
  obtain ⟨c0x2a, c0x2b, c0x2c, c0x2d⟩ := H2.out.cell (g6) (d) (by simp)
  have c0x2l := H2.out.lt (g6) (d) (by simp)
  have c0x2m := Nat.le_of_lt c0x2l
  obtain ⟨c6x2a, c6x2b, c6x2c, c6x2d⟩ := H2.out.cell (g_z) (0) (by simp)
  have c6x2l := H2.out.lt (g_z) (0) (by simp)
  have c6x2m := Nat.le_of_lt c6x2l
  have f12x2 := H2.out.frozen g6 d (by simp)
  have f13x2 := H2.out.frozen g_z 0 (by simp)
  have d1 : g_z ≠ g6 := HF.out.2 (g_z, 0) (by simp)
  have d2 : g6 ≠ g_z := Ne.symm d1
  have HZ := hid ((H2.out.set g6 d y [(g_z, 0)] (by simp) HF.out.1 (fun p hp => ⟨by simp at hp; subst hp; simp, HF.out.2 p (by simp at hp; subst hp; simp)⟩)).set g_z 0 y [] (by simp) (by rw [hzg_a]; exact DZ.out) (by simp))
  go_wp2
  clear c0x2a c0x2b c0x2c c0x2d c0x2l c0x2m c6x2a c6x2b c6x2c c6x2d c6x2l c6x2m f12x2 f13x2
  try rw [Exit.noGoto_ret]
  change bodyPost _ _ _ _ _ (fil (fil w2 g6 y) g_z y)
  generalize fil (fil w2 g6 y) g_z y = wz at *
  obtain ⟨k0, k1, k2, k3⟩ := HZ.out.cell g_z y (by simp)
  exact bodyPost_ret (v := num y) (by simp [results, Tryd.results40, go_sem, k0, k1, k2, k3]) rfl ⟨by rw [← HR.out], HZ.out.1⟩
set_option maxRecDepth 100000 in
set_option maxHeartbeats 4000000 in
theorem rsub_no (a b m g : Nat) (w : World) (hg : Nm w g m) (ha : a < m) (hb : b < m) (hm : m < 2 ^ 256) (hab : ¬ a < b) : Calls Tryd.prog 40 #[num a, num b, .pointer (some ⟨g, 0, none⟩)] w fun e w' => e = .returned (num ((a + (m - b)) % m)) ∧ Below w.heap.size w w' := by
  have HG := hid (Env.one hg)
  obtain ⟨d, ed⟩ : ∃ z, dif a b = z := ⟨_, rfl⟩
  obtain ⟨t, et⟩ : ∃ z, lent a b = z := ⟨_, rfl⟩
  have hr := (round_sub ha hb).resolve_right (by omega)
  rw [if_neg hab, ed] at hr
  have hdl : d < 2 ^ 256 := by rw [← ed]; exact dif_lt (Nat.lt_trans ha hm) (Nat.lt_trans hb hm)
  have DL := hid hdl
  have A1 := hid (Nat.lt_trans ha hm)
  have B1 := hid (Nat.lt_trans hb hm)
  have M1 := hid hm
  have E3 := hid ed
  have E4 : Hid (((lent a b : Nat) : Int) = 0) := hid (by unfold lent; rw [if_neg hab]; rfl)
  have HR := hid hr
  clear hr ed et hdl ha hb hm hab hg
  have H0 := hid (((((HG.out).new a).new b).zero).perm (l' := [(w.heap.size + 1 + 1, 0), (w.heap.size + 1, b), (w.heap.size, a), (g, m)]) (by simp))
  have DZ := hid (show w.heap.size ≤ w.heap.size + 1 + 1 by omega)
  go_enter Tryd.func40, Tryd.ntmps40
  go_wp2_with fail
  generalize ((w.alloc (.cells (cls a) 24)).alloc (.cells (cls b) 24)).alloc (.cells #[.int .u64 0, .int .u64 0, .int .u64 0, .int .u64 0] 24) = w0 at *
  generalize w.heap.size + 1 + 1 = g_z at *
  generalize w.heap.size + 1 = g_b at *
  generalize hzg_a : w.heap.size = g_a at *
  obtain ⟨c0x0a, c0x0b, c0x0c, c0x0d⟩ := H0.out.cell (g_a) (a) (by simp)
  have c0x0l := H0.out.lt (g_a) (a) (by simp)
  have c0x0m := Nat.le_of_lt c0x0l
  obtain ⟨c6x0a, c6x0b, c6x0c, c6x0d⟩ := H0.out.cell (g_b) (b) (by simp)
  have c6x0l := H0.out.lt (g_b) (b) (by simp)
  have c6x0m := Nat.le_of_lt c6x0l
  go_wp2_with fail
  clear c0x0a c0x0b c0x0c c0x0d c0x0l c0x0m c6x0a c6x0b c6x0c c6x0d c6x0l c6x0m
  refine (sub_at a b d 0 H0.out A1.out B1.out E3.out E4.out).mono ?_
  rintro e w1 ⟨rfl, h⟩
  have H1 := hid h
  clear h H0
  go_upto_region 4 with fail
  have H1b := hid (H1.out.new d)
  clear H1
  generalize w1.alloc (.cells (cls d) 24) = w1b at *
  generalize w1.heap.size = g6 at *
  obtain ⟨c0x1a, c0x1b, c0x1c, c0x1d⟩ := H1b.out.cell (g6) (d) (by simp)
  have c0x1l := H1b.out.lt (g6) (d) (by simp)
  have c0x1m := Nat.le_of_lt c0x1l
  obtain ⟨z0, z1, z2, z3⟩ := H1b.out.cell g_z 0 (by simp)
  have zl := H1b.out.lt g_z 0 (by simp)
  have zf := H1b.out.frozen g_z 0 (by simp)
  have HZ := hid (H1b.out.set g_z 0 (d) [] (by simp) (by rw [hzg_a]; exact DZ.out) (by simp))
  go_wp2
  clear z0 z1 z2 z3 zl zf
  try rw [Exit.noGoto_ret]
  change bodyPost _ _ _ _ _ (fil w1b g_z (d))
  generalize fil w1b g_z (d) = wz at *
  obtain ⟨k0, k1, k2, k3⟩ := HZ.out.cell g_z (d) (by simp)
  exact bodyPost_ret (v := num (d)) (by simp [results, Tryd.results40, go_sem, k0, k1, k2, k3]) rfl ⟨by rw [← HR.out], HZ.out.1⟩
theorem rsub_any (a b m g : Nat) (w : World) (hg : Nm w g m) (ha : a < m) (hb : b < m) (hm : m < 2 ^ 256) : Calls Tryd.prog 40 #[num a, num b, .pointer (some ⟨g, 0, none⟩)] w fun e w' => e = .returned (num ((a + (m - b)) % m)) ∧ Below w.heap.size w w' := by
  by_cases h : a < b
  · exact rsub_yes a b m g w hg ha hb hm h
  · exact rsub_no a b m g w hg ha hb hm h
set_option maxRecDepth 100000 in
set_option maxHeartbeats 4000000 in
theorem rmul_any (a b m g : Nat) (w : World) (hg : Nm w g m) (ha : a < 2 ^ 256) (hb : b < 2 ^ 256) (hm : m < 2 ^ 256) (h0 : m ≠ 0) : Calls Tryd.prog 41 #[num a, num b, .pointer (some ⟨g, 0, none⟩)] w fun e w' => e = .returned (num (a * b % m)) ∧ Below w.heap.size w w' := by
  have HG := hid (Env.one hg)
  obtain ⟨lo, elo⟩ : ∃ z, a * b % 2 ^ 256 = z := ⟨_, rfl⟩
  obtain ⟨hi, ehi⟩ : ∃ z, a * b / 2 ^ 256 = z := ⟨_, rfl⟩
  have hw := wid_mul a b m
  rw [elo, ehi] at hw
  have LL : Hid (lo < 2 ^ 256) := hid (by rw [← elo]; exact Nat.mod_lt _ (Nat.two_pow_pos _))
  have HL : Hid (hi < 2 ^ 256) := hid (by rw [← ehi]; exact Nat.div_lt_of_lt_mul (Nat.mul_lt_mul'' ha hb))
  obtain ⟨r, er⟩ : ∃ z, a * b % m = z := ⟨_, rfl⟩
  rw [er] at hw
  have A1 := hid ha
  have B1 := hid hb
  have M1 := hid hm
  have M0 := hid h0
  have E1 := hid elo
  have E2 := hid ehi
  have HW := hid hw
  have ER := hid er
  clear ha hb hm h0 elo ehi hw er hg
  have H0 := hid (((((HG.out).new a).new b).zero).perm (l' := [(w.heap.size + 1 + 1, 0), (w.heap.size + 1, b), (w.heap.size, a), (g, m)]) (by simp))
  have DZ := hid (show w.heap.size ≤ w.heap.size + 1 + 1 by omega)
  go_enter Tryd.func41, Tryd.ntmps41
  go_wp2_with fail
  generalize ((w.alloc (.cells (cls a) 24)).alloc (.cells (cls b) 24)).alloc (.cells #[.int .u64 0, .int .u64 0, .int .u64 0, .int .u64 0] 24) = w0 at *
  generalize w.heap.size + 1 + 1 = g_z at *
  generalize w.heap.size + 1 = g_b at *
  generalize hzg_a : w.heap.size = g_a at *
  obtain ⟨c0x0a, c0x0b, c0x0c, c0x0d⟩ := H0.out.cell (g_a) (a) (by simp)
  have c0x0l := H0.out.lt (g_a) (a) (by simp)
  have c0x0m := Nat.le_of_lt c0x0l
  obtain ⟨c6x0a, c6x0b, c6x0c, c6x0d⟩ := H0.out.cell (g_b) (b) (by simp)
  have c6x0l := H0.out.lt (g_b) (b) (by simp)
  have c6x0m := Nat.le_of_lt c6x0l
  go_wp2_with fail
  clear c0x0a c0x0b c0x0c c0x0d c0x0l c0x0m c6x0a c6x0b c6x0c c6x0d c6x0l c6x0m
  refine (mul_at a b lo hi H0.out A1.out B1.out E1.out E2.out).mono ?_
  rintro e w1 ⟨rfl, h⟩
  have H1 := hid h
  clear h H0
  obtain ⟨c0x1a, c0x1b, c0x1c, c0x1d⟩ := H1.out.cell (g) (m) (by simp)
  have c0x1l := H1.out.lt (g) (m) (by simp)
  have c0x1m := Nat.le_of_lt c0x1l
  go_wp2_with fail
  clear c0x1a c0x1b c0x1c c0x1d c0x1l c0x1m
  have H1b := hid (H1.out.new2 lo hi)
  clear H1
  generalize (w1.alloc (.cells (cls lo) 24)).alloc (.cells (cls hi) 24) = w1b at *
  generalize w1.heap.size + 1 = g6s at *
  generalize w1.heap.size = g6 at *
  refine (wide_at lo hi m r H1b.out LL.out HL.out M1.out M0.out HW.out).mono ?_
  rintro e w2 ⟨rfl, h⟩
  have H2 := hid h
  clear h H1b
  go_upto_region 3 with fail
  have H2b := hid (H2.out.new r)
  clear H2
  generalize w2.alloc (.cells (cls r) 24) = w2b at *
  generalize w2.heap.size = g8 at *
  obtain ⟨c0x2a, c0x2b, c0x2c, c0x2d⟩ := H2b.out.cell (g8) (r) (by simp)
  have c0x2l := H2b.out.lt (g8) (r) (by simp)
  have c0x2m := Nat.le_of_lt c0x2l
  obtain ⟨z0, z1, z2, z3⟩ := H2b.out.cell g_z 0 (by simp)
  have zl := H2b.out.lt g_z 0 (by simp)
  have zf := H2b.out.frozen g_z 0 (by simp)
  have HZ := hid (H2b.out.set g_z 0 (r) [] (by simp) (by rw [hzg_a]; exact DZ.out) (by simp))
  go_wp2
  clear z0 z1 z2 z3 zl zf
  try rw [Exit.noGoto_ret]
  change bodyPost _ _ _ _ _ (fil w2b g_z (r))
  generalize fil w2b g_z (r) = wz at *
  obtain ⟨k0, k1, k2, k3⟩ := HZ.out.cell g_z (r) (by simp)
  exact bodyPost_ret (v := num (r)) (by simp [results, Tryd.results41, go_sem, k0, k1, k2, k3]) rfl ⟨by rw [ER.out], HZ.out.1⟩
end Go.Proofs.YtioebjbjpjbodaaDoor

/-
  mods.Inv, walked: the one whose product is 1, or none. Conditions: none.
-/
import Derived.Test.YtaggegknnnembaaAsm
import Derived.Test.YtaggegknnnembaaOrd
import Derived.Deep.LoopGhost
namespace Go.Proofs.Ytaggegknnnembaa
open Go.RowKit
set_option linter.unusedVariables false

theorem Env.below {w w' : World} {l : List (Nat × Nat)} (h : Env w l w') : Below w.heap.size w w' := h.1
/-- two boxes are filled anew, in whatever order -/
theorem Env.two {w w' : World} {l : List (Nat × Nat)} (h : Env w l w') (g1 x1 y1 g2 x2 y2 : Nat) (l' : List (Nat × Nat)) (h1 : (g1, x1) ∈ l) (h2 : (g2, x2) ∈ l) (b1 : w.heap.size ≤ g1) (b2 : w.heap.size ≤ g2) (hne : g1 ≠ g2) (hl : ∀ p ∈ l', p ∈ l ∧ p.1 ≠ g1 ∧ p.1 ≠ g2) :
    Env w ((g1, y1) :: (g2, y2) :: l') (fil (fil w' g1 y1) g2 y2) ∧ Env w ((g1, y1) :: (g2, y2) :: l') (fil (fil w' g2 y2) g1 y1) ∧ Env w ((g1, y1) :: (g2, x2) :: l') (fil w' g1 y1) ∧ Env w ((g2, y2) :: (g1, x1) :: l') (fil w' g2 y2) := by
  have A : Env w ((g1, y1) :: (g2, x2) :: l') (fil w' g1 y1) := h.set g1 x1 y1 ((g2, x2) :: l') h1 b1 (fun p hp => by
    rcases List.mem_cons.1 hp with rfl | hp
    · exact ⟨h2, Ne.symm hne⟩
    · exact ⟨(hl p hp).1, (hl p hp).2.1⟩)
  have B : Env w ((g2, y2) :: (g1, x1) :: l') (fil w' g2 y2) := h.set g2 x2 y2 ((g1, x1) :: l') h2 b2 (fun p hp => by
    rcases List.mem_cons.1 hp with rfl | hp
    · exact ⟨h1, hne⟩
    · exact ⟨(hl p hp).1, (hl p hp).2.2⟩)
  refine ⟨?_, ?_, A, B⟩
  · exact (A.set g2 x2 y2 ((g1, y1) :: l') (by simp) b2 (fun p hp => by
      rcases List.mem_cons.1 hp with rfl | hp
      · exact ⟨by simp, hne⟩
      · exact ⟨by simp [hp], (hl p hp).2.2⟩)).perm (by intro p hp; simp only [List.mem_cons] at hp ⊢; rcases hp with h | h | h <;> simp [h])
  · exact B.set g1 x1 y1 ((g2, y2) :: l') (by simp) b1 (fun p hp => by
      rcases List.mem_cons.1 hp with rfl | hp
      · exact ⟨by simp, Ne.symm hne⟩
      · exact ⟨by simp [hp], (hl p hp).2.1⟩)
/-- what a round of Inv carries -/
def InvP (a m wh re la ne : Nat) : Prop := re < wh ∧ wh ≤ m ∧ la < m ∧ ne < m ∧ Cg m ((a : Int) * la) wh ∧ Cg m ((a : Int) * ne) re ∧ Nat.gcd wh re = Nat.gcd a m ∧ wh ≠ 1
theorem InvP.start {a m : Nat} (h1 : 1 < m) (ha : a < m) : InvP a m m a 0 1 :=
  ⟨ha, Nat.le_refl _, by omega, h1, ⟨-1, by simp; omega⟩, ⟨0, by simp⟩, Nat.gcd_comm _ _, by omega⟩
theorem InvP.step {a m wh re la ne t z : Nat} (h : InvP a m wh re la ne) (h0 : re ≠ 0) (h1 : re ≠ 1) (ht : wh / re * ne % m = t) (hz : (la + (m - t)) % m = z) : InvP a m re (wh % re) ne z := by
  obtain ⟨p1, p2, p3, p4, p5, p6, p7, p8⟩ := h
  have hm : 0 < m := by omega
  refine ⟨Nat.mod_lt _ (by omega), by omega, p4, by rw [← hz]; exact Nat.mod_lt _ hm, p6, ?_, by rw [gcd_step]; exact p7, h1⟩
  refine ivs_step p5 p6 ht.symm ?_
  rw [← hz]
  exact Cg.of_sub (by rw [← ht]; exact Nat.le_of_lt (Nat.mod_lt _ hm))
theorem InvP.yes {a m wh la ne : Nat} (h : InvP a m wh 1 la ne) (h1 : 1 < m) : Ivs a m ne := Ivs.of h1 h.2.2.2.1 (by simpa using h.2.2.2.2.2.1)
theorem InvP.no {a m wh la ne : Nat} (h : InvP a m wh 0 la ne) : Nat.gcd a m ≠ 1 := by
  rw [← h.2.2.2.2.2.2.1, Nat.gcd_zero_right]; exact h.2.2.2.2.2.2.2
/-- what Inv answers -/
def InvE (a m : Nat) (e : Ending) : Prop := (∃ v, Ivs a m v ∧ e = .returned (.tuple #[num v, .int .i64 0])) ∨ (Nat.gcd a m ≠ 1 ∧ e = .returned (.tuple #[num 0, .int .i64 7]))
theorem rsub_b (a b m r g : Nat) (w : World) (hg : Nm w g m) (ha : a < m) (hb : b < m) (hm : m < 2 ^ 256) (hr : (a + (m - b)) % m = r) : Calls Try.prog 61 #[num a, num b, .pointer (some ⟨g, 0, none⟩)] w fun e w' => e = .returned (num r) ∧ Below w.heap.size w w' := by
  subst hr; exact rsub_any a b m g w hg ha hb hm
theorem rmul_b (a b m r g : Nat) (w : World) (hg : Nm w g m) (ha : a < 2 ^ 256) (hb : b < 2 ^ 256) (hm : m < 2 ^ 256) (h0 : m ≠ 0) (hr : a * b % m = r) : Calls Try.prog 62 #[num a, num b, .pointer (some ⟨g, 0, none⟩)] w fun e w' => e = .returned (num r) ∧ Below w.heap.size w w' := by
  subst hr; exact rmul_any a b m g w hg ha hb hm h0
theorem Env.zero2 {w w' : World} {l : List (Nat × Nat)} (h : Env w l w') : Env w ((w'.heap.size + 1, 0) :: (w'.heap.size, 0) :: l) ((w'.alloc (.cells #[.int .u64 0, .int .u64 0, .int .u64 0, .int .u64 0] 24)).alloc (.cells #[.int .u64 0, .int .u64 0, .int .u64 0, .int .u64 0] 24)) := by
  rw [cls_zero]; exact h.new2 0 0
set_option maxRecDepth 100000 in
set_option maxHeartbeats 4000000 in
theorem minv_arg (a m : Nat) (w : World) (ha : a < 2 ^ 256) (hm : m < 2 ^ 256) (hv : ¬ (1 < m ∧ a < m)) : Calls Try.prog 26 #[num a, num m] w fun e w' => e = .returned (.tuple #[num 0, .int .i64 1]) ∧ Below w.heap.size w w' := by
  have AL := hid ha
  have ML := hid hm
  have HV : Hid (decide (1 < m ∧ a < m) = false) := hid (by simpa using hv)
  clear ha hm hv
  have H0 := hid (((((Env.refl w).new a).new m).zero).perm (l' := [(w.heap.size + 1 + 1, 0), (w.heap.size + 1, m), (w.heap.size, a)]) (by simp))
  have DZ := hid (show w.heap.size ≤ w.heap.size + 1 + 1 by omega)
  have DN := hid (show ∀ p ∈ [(w.heap.size, a), (w.heap.size + 1, m)], p.1 ≠ w.heap.size + 1 + 1 by simp; try omega)
  go_enter Try.func26, Try.ntmps26
  go_wp2_with fail
  have hs0 : (((w.alloc (.cells (cls a) 24)).alloc (.cells (cls m) 24)).alloc (.cells #[.int .u64 0, .int .u64 0, .int .u64 0, .int .u64 0] 24)).heap.size = w.heap.size + 1 + 1 + 1 := by simp only [show ∀ (w : World) (o : Obj), (w.alloc o).heap.size = w.heap.size + 1 from fun w o => Array.size_push _]
  generalize ((w.alloc (.cells (cls a) 24)).alloc (.cells (cls m) 24)).alloc (.cells #[.int .u64 0, .int .u64 0, .int .u64 0, .int .u64 0] 24) = w0 at *
  generalize w.heap.size + 1 + 1 + 1 = g_s at *
  generalize w.heap.size + 1 + 1 = g_z at *
  generalize w.heap.size + 1 = g_b at *
  generalize hzg_a : w.heap.size = g_a at *
  have HSL : Hid (Sl1 (w0.alloc (.cells #[.int .u64 (wd a 0 : Int), .int .u64 (wd a 1 : Int), .int .u64 (wd a 2 : Int), .int .u64 (wd a 3 : Int)] 24)) g_s a) := hid (by rw [← hs0]; exact heap_alloc_new _ _)
  have H0s := hid (H0.out.alloc (.cells #[.int .u64 (wd a 0 : Int), .int .u64 (wd a 1 : Int), .int .u64 (wd a 2 : Int), .int .u64 (wd a 3 : Int)] 24))
  clear H0 hs0
  generalize w0.alloc (.cells #[.int .u64 (wd a 0 : Int), .int .u64 (wd a 1 : Int), .int .u64 (wd a 2 : Int), .int .u64 (wd a 3 : Int)] 24) = w0s at *
  refine (env_of (gor1_b m a g_s false w0s HSL.out ML.out AL.out HV.out) H0s.out).mono ?_
  rintro e w1 ⟨rfl, h⟩
  have H1 := hid h
  clear h H0s
  obtain ⟨z0, z1, z2, z3⟩ := H1.out.cell g_z 0 (by simp)
  have zl := H1.out.lt g_z 0 (by simp)
  have zf := H1.out.frozen g_z 0 (by simp)
  have HZ := hid (H1.out.set g_z 0 (0) [] (by simp) (by rw [hzg_a]; exact DZ.out) (by simp))
  go_wp2
  clear z0 z1 z2 z3 zl zf
  try rw [Exit.noGoto_ret]
  change bodyPost _ _ _ _ _ (fil w1 g_z (0))
  generalize fil w1 g_z (0) = wz at *
  obtain ⟨k0, k1, k2, k3⟩ := HZ.out.cell g_z (0) (by simp)
  exact bodyPost_ret (v := .tuple #[num (0), .int .i64 1]) (by simp [results, Try.results26, go_sem, k0, k1, k2, k3]) rfl ⟨rfl, HZ.out.1⟩
set_option maxRecDepth 100000 in
set_option maxHeartbeats 4000000 in
theorem minv_walk (a m : Nat) (w : World) (hm : m < 2 ^ 256) (hv : 1 < m ∧ a < m) : Calls Try.prog 26 #[num a, num m] w fun e w' => InvE a m e ∧ Below w.heap.size w w' := by
  have AL := hid (Nat.lt_trans hv.2 hm)
  have ML := hid hm
  have M1 := hid hv.1
  have AM := hid hv.2
  have HV : Hid (decide (1 < m ∧ a < m) = true) := hid (by simpa using hv)
  have hmf : ∀ (fn : Fn) (first cap : Array Value) (w : World), (Instr.makeFunc fn first cap).run Try.prog w = .ok (.func fn first cap) w := fun _ _ _ _ => rfl
  clear hm hv
  have H0 := hid (((((Env.refl w).new a).new m).zero).perm (l' := [(w.heap.size + 1 + 1, 0), (w.heap.size + 1, m), (w.heap.size, a)]) (by simp))
  have DZ := hid (show w.heap.size ≤ w.heap.size + 1 + 1 by omega)
  have DN := hid (show ∀ p ∈ [(w.heap.size, a), (w.heap.size + 1, m)], p.1 ≠ w.heap.size + 1 + 1 by simp; try omega)
  go_enter Try.func26, Try.ntmps26
  go_wp2_with fail
  have hs0 : (((w.alloc (.cells (cls a) 24)).alloc (.cells (cls m) 24)).alloc (.cells #[.int .u64 0, .int .u64 0, .int .u64 0, .int .u64 0] 24)).heap.size = w.heap.size + 1 + 1 + 1 := by simp only [show ∀ (w : World) (o : Obj), (w.alloc o).heap.size = w.heap.size + 1 from fun w o => Array.size_push _]
  generalize ((w.alloc (.cells (cls a) 24)).alloc (.cells (cls m) 24)).alloc (.cells #[.int .u64 0, .int .u64 0, .int .u64 0, .int .u64 0] 24) = w0 at *
  generalize w.heap.size + 1 + 1 + 1 = g_s at *
  generalize w.heap.size + 1 + 1 = g_z at *
  generalize w.heap.size + 1 = g_b at *
  generalize hzg_a : w.heap.size = g_a at *
  have HSL : Hid (Sl1 (w0.alloc (.cells #[.int .u64 (wd a 0 : Int), .int .u64 (wd a 1 : Int), .int .u64 (wd a 2 : Int), .int .u64 (wd a 3 : Int)] 24)) g_s a) := hid (by rw [← hs0]; exact heap_alloc_new _ _)
  have H0s := hid (H0.out.alloc (.cells #[.int .u64 (wd a 0 : Int), .int .u64 (wd a 1 : Int), .int .u64 (wd a 2 : Int), .int .u64 (wd a 3 : Int)] 24))
  clear H0 hs0
  generalize w0.alloc (.cells #[.int .u64 (wd a 0 : Int), .int .u64 (wd a 1 : Int), .int .u64 (wd a 2 : Int), .int .u64 (wd a 3 : Int)] 24) = w0s at *
  refine (env_of (gor1_b m a g_s true w0s HSL.out ML.out AL.out HV.out) H0s.out).mono ?_
  rintro e w1 ⟨rfl, h⟩
  have H1 := hid h
  clear h H0s
  obtain ⟨c0x1a, c0x1b, c0x1c, c0x1d⟩ := H1.out.cell (g_b) (m) (by simp)
  have c0x1l := H1.out.lt (g_b) (m) (by simp)
  have c0x1m := Nat.le_of_lt c0x1l
  go_wp2_with fail
  clear c0x1a c0x1b c0x1c c0x1d c0x1l c0x1m
  refine (by_at m H1.out).mono ?_
  rintro e w2 ⟨gb, rfl, h⟩
  have H2 := hid h
  clear h H1 HSL
  go_upto_region 4 with fail
  have R1 := hid (R3.new w2 58 (.func (.func 59) #[] #[.pointer (some ⟨gb, 0, none⟩)]) (.func (.func 61) #[] #[.pointer (some ⟨gb, 0, none⟩)]) (.func (.func 62) #[] #[.pointer (some ⟨gb, 0, none⟩)]))
  have E1 := hid (H2.out.alloc (.cells #[.func (.func 59) #[] #[.pointer (some ⟨gb, 0, none⟩)], .func (.func 61) #[] #[.pointer (some ⟨gb, 0, none⟩)], .func (.func 62) #[] #[.pointer (some ⟨gb, 0, none⟩)]] 58))
  clear H2
  generalize w2.alloc (.cells #[.func (.func 59) #[] #[.pointer (some ⟨gb, 0, none⟩)], .func (.func 61) #[] #[.pointer (some ⟨gb, 0, none⟩)], .func (.func 62) #[] #[.pointer (some ⟨gb, 0, none⟩)]] 58) = wv at *
  generalize w2.heap.size = gr at *
  go_cut [7, 8] (fun s7 s8 wx => ∃ g7 g8 : Nat, s7 = .pointer (some ⟨g7, 0, none⟩) ∧ s8 = .pointer (some ⟨g8, 0, none⟩) ∧ Hid (Env wv [(g7, m), (g8, a)] wx) ∧ Hid (wv.heap.size ≤ g7 ∧ wv.heap.size ≤ g8 ∧ g7 ≠ g8))
  case first =>
    have hs := Env.refl wv
    go_region_held3 (fun w' => (w'.cell? ⟨g_b, 0, none⟩ = some (.int .u64 (wd (m) 0 : Int)) ∧ w'.cell? ⟨g_b, 1, none⟩ = some (.int .u64 (wd (m) 1 : Int)) ∧ w'.cell? ⟨g_b, 2, none⟩ = some (.int .u64 (wd (m) 2 : Int)) ∧ w'.cell? ⟨g_b, 3, none⟩ = some (.int .u64 (wd (m) 3 : Int))) ∧ (w'.cell? ⟨g_a, 0, none⟩ = some (.int .u64 (wd (a) 0 : Int)) ∧ w'.cell? ⟨g_a, 1, none⟩ = some (.int .u64 (wd (a) 1 : Int)) ∧ w'.cell? ⟨g_a, 2, none⟩ = some (.int .u64 (wd (a) 2 : Int)) ∧ w'.cell? ⟨g_a, 3, none⟩ = some (.int .u64 (wd (a) 3 : Int)))) (first | (with_reducible exact ⟨(E1.out.on ((hs).drew).below).cell _ _ (by simp), (E1.out.on ((hs).drew).below).cell _ _ (by simp)⟩) | (with_reducible exact ⟨(E1.out.on ((hs.zero).drew).below).cell _ _ (by simp), (E1.out.on ((hs.zero).drew).below).cell _ _ (by simp)⟩) | (with_reducible exact ⟨(E1.out.on ((hs.zero2).drew).below).cell _ _ (by simp), (E1.out.on ((hs.zero2).drew).below).cell _ _ (by simp)⟩) | (with_reducible exact ⟨(E1.out.on ((hs.new m).drew).below).cell _ _ (by simp), (E1.out.on ((hs.new m).drew).below).cell _ _ (by simp)⟩) | (with_reducible exact ⟨(E1.out.on ((hs.new a).drew).below).cell _ _ (by simp), (E1.out.on ((hs.new a).drew).below).cell _ _ (by simp)⟩) | (with_reducible exact ⟨(E1.out.on (((hs.new m).zero).drew).below).cell _ _ (by simp), (E1.out.on (((hs.new m).zero).drew).below).cell _ _ (by simp)⟩) | (with_reducible exact ⟨(E1.out.on (((hs.new a).zero).drew).below).cell _ _ (by simp), (E1.out.on (((hs.new a).zero).drew).below).cell _ _ (by simp)⟩) | (with_reducible exact ⟨(E1.out.on ((hs.zero.new a).drew).below).cell _ _ (by simp), (E1.out.on ((hs.zero.new a).drew).below).cell _ _ (by simp)⟩) | (with_reducible exact ⟨(E1.out.on ((hs.zero.new m).drew).below).cell _ _ (by simp), (E1.out.on ((hs.zero.new m).drew).below).cell _ _ (by simp)⟩) | (with_reducible exact ⟨(E1.out.on ((hs.new2 m a).drew).below).cell _ _ (by simp), (E1.out.on ((hs.new2 m a).drew).below).cell _ _ (by simp)⟩) | (with_reducible exact ⟨(E1.out.on ((hs.new2 a m).drew).below).cell _ _ (by simp), (E1.out.on ((hs.new2 a m).drew).below).cell _ _ (by simp)⟩)) (fail)
    all_goals
      go_wp2_with fail
      go_meet
      first | (with_reducible exact ⟨_, _, rfl, rfl, hid ((hs.new2 m a).drew.perm (by simp)), hid (by simp)⟩) | (with_reducible exact ⟨_, _, rfl, rfl, hid ((hs.new2 a m).drew.perm (by simp)), hid (by simp)⟩)
  case rest =>
    obtain ⟨g7, g8, rfl, rfl, H3, D78⟩ := hcut
    go_wp2_with fail
    refine (of_at 0 0 H3.out (by decide) (by decide)).mono ?_
    rintro e w2 ⟨rfl, h⟩
    have H2 := hid h
    clear h H3
    go_wp2_with fail
    refine (of_at 1 1 H2.out (by decide) (by decide)).mono ?_
    rintro e w3 ⟨rfl, h⟩
    have H3 := hid h
    clear h H2
    go_wp2_with fail
    have HF9 := hid H3.out.fresh
    have HF10 := hid (H3.out.fresh2 0)
    have H3b := hid (H3.out.new2 0 1)
    clear H3
    generalize (w3.alloc (.cells (cls 0) 24)).alloc (.cells (cls 1) 24) = w3b at *
    generalize w3.heap.size + 1 = g9s at *
    generalize w3.heap.size = g9 at *
    have DD : Hid (wv.heap.size ≤ g7 ∧ wv.heap.size ≤ g8 ∧ wv.heap.size ≤ g9 ∧ wv.heap.size ≤ g9s ∧ g7 ≠ g8 ∧ g7 ≠ g9 ∧ g7 ≠ g9s ∧ g8 ≠ g9 ∧ g8 ≠ g9s ∧ g9 ≠ g9s) := hid ⟨D78.out.1, D78.out.2.1, HF9.out.1, HF10.out.1, D78.out.2.2, HF9.out.2 (g7, m) (by simp), HF10.out.2 (g7, m) (by simp), HF9.out.2 (g8, a) (by simp), HF10.out.2 (g8, a) (by simp), HF10.out.2 (g9, 0) (by simp)⟩
    clear D78 HF9 HF10
    go_loopg [] a (fun n wr => ∃ wh re la ne : Nat, re = n ∧ Hid (InvP a m wh re la ne) ∧ Hid (Env wv [(g9s, ne), (g9, la), (g8, re), (g7, wh)] wr))
    case atStart => exact ⟨m, a, 0, 1, rfl, hid (InvP.start M1.out AM.out), hid (H3b.out.perm (by simp))⟩
    case round =>
      obtain ⟨wh, re, la, ne, hn, P, H⟩ := hrel
      clear H3b
      have NL := hid (Nat.lt_trans (Nat.lt_of_lt_of_le P.out.1 P.out.2.1) ML.out)
      have WL := hid (Nat.lt_of_le_of_lt P.out.2.1 ML.out)
      by_cases h1 : re = 1
      · subst h1
        clear hn
        have qq := eq_yes 1 1 rfl
        go_upto_region 6 with fail
        have hs := H.out.drew
        go_region_held3 (fun w' => (w'.cell? ⟨g8, 0, none⟩ = some (.int .u64 (wd (1) 0 : Int)) ∧ w'.cell? ⟨g8, 1, none⟩ = some (.int .u64 (wd (1) 1 : Int)) ∧ w'.cell? ⟨g8, 2, none⟩ = some (.int .u64 (wd (1) 2 : Int)) ∧ w'.cell? ⟨g8, 3, none⟩ = some (.int .u64 (wd (1) 3 : Int)))) (exact Env.cell (by assumption) _ _ (by simp)) (first | ((go_at_call 20); (with_reducible refine (of_at 1 1 (by assumption) (by decide) (by decide)).mono ?_); rintro e wn ⟨rfl, hs⟩))
        have H1 := hid hs
        clear hs H
        have HQ := hid (E1.out.on H1.out.1)
        clear qq
        obtain ⟨c0x1a, c0x1b, c0x1c, c0x1d⟩ := H1.out.cell (g9s) (ne) (by simp)
        have c0x1l := H1.out.lt (g9s) (ne) (by simp)
        have c0x1m := Nat.le_of_lt c0x1l
        obtain ⟨z0, z1, z2, z3⟩ := HQ.out.cell g_z 0 (by simp)
        have zl := HQ.out.lt g_z 0 (by simp)
        have zf := HQ.out.frozen g_z 0 (by simp)
        have HZ := hid (HQ.out.set g_z 0 (ne) [] (by simp) (by rw [hzg_a]; exact DZ.out) (by simp))
        go_wp2
        clear z0 z1 z2 z3 zl zf
        try rw [Exit.noGoto_ret]
        change bodyPost _ _ _ _ _ (fil wn g_z (ne))
        generalize fil wn g_z (ne) = wz at *
        obtain ⟨k0, k1, k2, k3⟩ := HZ.out.cell g_z (ne) (by simp)
        exact bodyPost_ret (v := .tuple #[num (ne), .int .i64 0]) (by simp [results, Try.results26, go_sem, k0, k1, k2, k3]) rfl ⟨Or.inl ⟨ne, P.out.yes M1.out, rfl⟩, HZ.out.1⟩
      have qq := eq_no re 1 NL.out (by decide) h1
      by_cases h0 : re = 0
      · subst h0
        clear hn
        go_upto_region 6 with fail
        have hs := H.out.drew
        go_region_held3 (fun w' => (w'.cell? ⟨g8, 0, none⟩ = some (.int .u64 (wd (0) 0 : Int)) ∧ w'.cell? ⟨g8, 1, none⟩ = some (.int .u64 (wd (0) 1 : Int)) ∧ w'.cell? ⟨g8, 2, none⟩ = some (.int .u64 (wd (0) 2 : Int)) ∧ w'.cell? ⟨g8, 3, none⟩ = some (.int .u64 (wd (0) 3 : Int)))) (exact Env.cell (by assumption) _ _ (by simp)) (first | ((go_at_call 20); (with_reducible refine (of_at 1 1 (by assumption) (by decide) (by decide)).mono ?_); rintro e wn ⟨rfl, hs⟩))
        have H1 := hid hs
        clear hs H
        obtain ⟨c0x1a, c0x1b, c0x1c, c0x1d⟩ := H1.out.cell (g7) (wh) (by simp)
        have c0x1l := H1.out.lt (g7) (wh) (by simp)
        have c0x1m := Nat.le_of_lt c0x1l
        obtain ⟨c6x1a, c6x1b, c6x1c, c6x1d⟩ := H1.out.cell (g8) (0) (by simp)
        have c6x1l := H1.out.lt (g8) (0) (by simp)
        have c6x1m := Nat.le_of_lt c6x1l
        go_wp2_with fail
        clear c0x1a c0x1b c0x1c c0x1d c0x1l c0x1m c6x1a c6x1b c6x1c c6x1d c6x1l c6x1m
        refine (div_none_at wh H1.out).mono ?_
        rintro e w2 ⟨rfl, h⟩
        have H2 := hid h
        clear h H1
        go_upto_region 8 with fail
        have H2b := hid (H2.out.new2 0 0)
        clear H2
        generalize (w2.alloc (.cells (cls 0) 24)).alloc (.cells (cls 0) 24) = w2b at *
        generalize w2.heap.size + 1 = g11s at *
        generalize w2.heap.size = g11 at *
        have HQ := hid (E1.out.on H2b.out.1)
        obtain ⟨z0, z1, z2, z3⟩ := HQ.out.cell g_z 0 (by simp)
        have zl := HQ.out.lt g_z 0 (by simp)
        have zf := HQ.out.frozen g_z 0 (by simp)
        have HZ := hid (HQ.out.set g_z 0 (0) [] (by simp) (by rw [hzg_a]; exact DZ.out) (by simp))
        go_wp2
        clear z0 z1 z2 z3 zl zf
        try rw [Exit.noGoto_ret]
        change bodyPost _ _ _ _ _ (fil w2b g_z (0))
        generalize fil w2b g_z (0) = wz at *
        obtain ⟨k0, k1, k2, k3⟩ := HZ.out.cell g_z (0) (by simp)
        exact bodyPost_ret (v := .tuple #[num (0), .int .i64 7]) (by simp [results, Try.results26, go_sem, k0, k1, k2, k3]) rfl ⟨Or.inr ⟨P.out.no, rfl⟩, HZ.out.1⟩
      obtain ⟨q, eq⟩ : ∃ x, wh / re = x := ⟨_, rfl⟩
      obtain ⟨r, er⟩ : ∃ x, wh % re = x := ⟨_, rfl⟩
      obtain ⟨t, et⟩ : ∃ x, wh / re * ne % m = x := ⟨_, rfl⟩
      obtain ⟨z, ez⟩ : ∃ x, (la + (m - wh / re * ne % m)) % m = x := ⟨_, rfl⟩
      rw [et] at ez
      have hP := P.out.step h0 h1 et ez
      rw [er] at hP
      rw [eq] at et
      have hq : q < 2 ^ 256 := by rw [← eq]; exact Nat.lt_of_le_of_lt (Nat.div_le_self _ _) WL.out
      have ht : t < m := by rw [← et]; exact Nat.mod_lt _ (by have := M1.out; omega)
      have EQ := hid eq
      have ER := hid er
      have ET := hid et
      have EZ := hid ez
      have P2 := hid hP
      have QL := hid hq
      have TL := hid ht
      have R0 := hid h0
      have RE := hid (show r < gk by rw [← hn]; exact P2.out.1)
      have LA := hid P.out.2.2.1
      have NEL := hid (Nat.lt_trans P.out.2.2.2.1 ML.out)
      clear eq er et ez hP hq ht h0 h1 hn
      go_upto_region 6 with fail
      have hs := H.out.drew
      go_region_held3 (fun w' => (w'.cell? ⟨g8, 0, none⟩ = some (.int .u64 (wd (re) 0 : Int)) ∧ w'.cell? ⟨g8, 1, none⟩ = some (.int .u64 (wd (re) 1 : Int)) ∧ w'.cell? ⟨g8, 2, none⟩ = some (.int .u64 (wd (re) 2 : Int)) ∧ w'.cell? ⟨g8, 3, none⟩ = some (.int .u64 (wd (re) 3 : Int)))) (exact Env.cell (by assumption) _ _ (by simp)) (first | ((go_at_call 20); (with_reducible refine (of_at 1 1 (by assumption) (by decide) (by decide)).mono ?_); rintro e wn ⟨rfl, hs⟩))
      have H1 := hid hs
      clear hs H
      obtain ⟨c0x1a, c0x1b, c0x1c, c0x1d⟩ := H1.out.cell (g7) (wh) (by simp)
      have c0x1l := H1.out.lt (g7) (wh) (by simp)
      have c0x1m := Nat.le_of_lt c0x1l
      obtain ⟨c6x1a, c6x1b, c6x1c, c6x1d⟩ := H1.out.cell (g8) (re) (by simp)
      have c6x1l := H1.out.lt (g8) (re) (by simp)
      have c6x1m := Nat.le_of_lt c6x1l
      go_wp2_with fail
      clear c0x1a c0x1b c0x1c c0x1d c0x1l c0x1m c6x1a c6x1b c6x1c c6x1d c6x1l c6x1m
      refine (div_at wh re q r H1.out WL.out NL.out R0.out EQ.out ER.out).mono ?_
      rintro e w2 ⟨rfl, h⟩
      have H2 := hid h
      clear h H1
      go_upto_region 10 with fail
      have HF := hid H2.out.fresh
      have HFF := hid (H2.out.fresh2 q)
      have H2b := hid (H2.out.new2 q r)
      clear H2
      generalize (w2.alloc (.cells (cls q) 24)).alloc (.cells (cls r) 24) = w2b at *
      generalize w2.heap.size + 1 = g11s at *
      generalize w2.heap.size = g11 at *
      have x7 := HFF.out.2 (g7, wh) (by simp)
      have x8 := HFF.out.2 (g8, re) (by simp)
      have x7' := Ne.symm x7
      have x8' := Ne.symm x8
      clear HFF
      obtain ⟨b7, b8, b9, b10, d1, d2, d3, d4, d5, d6⟩ := DD.out
      have f1 := HF.out.2 (g7, wh) (by simp)
      have f2 := HF.out.2 (g8, re) (by simp)
      have f3 := HF.out.2 (g9, la) (by simp)
      have f4 := HF.out.2 (g9s, ne) (by simp)
      have DF := hid (show g7 ≠ g11 ∧ g8 ≠ g11 ∧ g9 ≠ g11 ∧ g9s ≠ g11 from ⟨f1, f2, f3, f4⟩)
      have TW := hid (H2b.out.two g7 wh re g8 re r [(g9s, ne), (g9, la), (g11, q)] (by simp) (by simp) b7 b8 d1 (by intro p hp; simp only [List.mem_cons, List.not_mem_nil, or_false] at hp; rcases hp with rfl | rfl | rfl <;> exact ⟨by simp, (by first | assumption | exact Ne.symm (by assumption)), (by first | assumption | exact Ne.symm (by assumption))⟩))
      have d1' := Ne.symm d1
      clear f1 f2 f3 f4 d2 d3 d4 d5 d6 b7 b8 b9 b10
      go_cut [] (fun wx => Hid (Env wv [(g7, re), (g8, r), (g9s, ne), (g9, la), (g11, q)] wx))
      case first =>
        have hs := H2b.out
        obtain ⟨a0, a1, a2, a3⟩ := hs.cell g7 wh (by simp)
        have l7 := hs.lt g7 wh (by simp)
        have z7 := hs.frozen g7 wh (by simp)
        obtain ⟨c0, c1, c2, c3⟩ := hs.cell g8 re (by simp)
        have l8 := hs.lt g8 re (by simp)
        have z8 := hs.frozen g8 re (by simp)
        obtain ⟨e0, e1, e2, e3⟩ := hs.cell g11s r (by simp)
        have l12 := hs.lt g11s r (by simp)
        go_region
        all_goals
          go_wp2_with fail
          go_meet
          first | exact hid TW.out.1.drew | exact hid TW.out.2.1.drew
      case rest =>
        clear x7 x8 x7' x8' d1 d1'
        have H4 : Hid (Env wv [(g7, re), (g8, r), (g9s, ne), (g9, la), (g11, q)] wc) := hcut
        clear TW hcut H2b
        obtain ⟨b7, b8, b9, b10, d1, d2, d3, d4, d5, d6⟩ := DD.out
        obtain ⟨f1, f2, f3, f4⟩ := DF.out
        have TW : ∀ wn, Env wv [(g7, re), (g8, r), (g9s, ne), (g9, la), (g11, q)] wn → _ := fun wn (hs : Env wv [(g7, re), (g8, r), (g9s, ne), (g9, la), (g11, q)] wn) => hs.two g9 la ne g9s ne z [(g7, re), (g8, r), (g11, q)] (by simp) (by simp) b9 b10 d6 (by intro p hp; simp only [List.mem_cons, List.not_mem_nil, or_false] at hp; rcases hp with rfl | rfl | rfl <;> exact ⟨by simp, (by first | assumption | exact Ne.symm (by assumption)), (by first | assumption | exact Ne.symm (by assumption))⟩)
        have HW := hid TW
        have d6' := Ne.symm d6
        clear TW d1 d2 d3 d4 d5 f1 f2 f3 f4 b7 b8 b9 b10
        go_upto_region 11 with fail
        have hs := H4.out.drew
        obtain ⟨a0, a1, a2, a3⟩ := hs.cell g9 la (by simp); have l9 := hs.lt g9 la (by simp); have z9 := hs.frozen g9 la (by simp); obtain ⟨c0, c1, c2, c3⟩ := hs.cell g9s ne (by simp); have l10 := hs.lt g9s ne (by simp); have z10 := hs.frozen g9s ne (by simp)
        refine wp_region_noPanic ?_
        refine Goes.region (fun (L : Array Bool) (w' : World) => (L.getD 10 true = false → (w'.cell? ⟨g9, 0, none⟩ = some (.int .u64 (wd (la) 0 : Int)) ∧ w'.cell? ⟨g9, 1, none⟩ = some (.int .u64 (wd (la) 1 : Int)) ∧ w'.cell? ⟨g9, 2, none⟩ = some (.int .u64 (wd (la) 2 : Int)) ∧ w'.cell? ⟨g9, 3, none⟩ = some (.int .u64 (wd (la) 3 : Int)))) ∧ (L.getD 11 true = false → (w'.cell? ⟨g9s, 0, none⟩ = some (.int .u64 (wd (ne) 0 : Int)) ∧ w'.cell? ⟨g9s, 1, none⟩ = some (.int .u64 (wd (ne) 1 : Int)) ∧ w'.cell? ⟨g9s, 2, none⟩ = some (.int .u64 (wd (ne) 2 : Int)) ∧ w'.cell? ⟨g9s, 3, none⟩ = some (.int .u64 (wd (ne) 3 : Int)))) ∧ (w'.cell? ⟨g11, 0, none⟩ = some (.int .u64 (wd (q) 0 : Int)) ∧ w'.cell? ⟨g11, 1, none⟩ = some (.int .u64 (wd (q) 1 : Int)) ∧ w'.cell? ⟨g11, 2, none⟩ = some (.int .u64 (wd (q) 2 : Int)) ∧ w'.cell? ⟨g11, 3, none⟩ = some (.int .u64 (wd (q) 3 : Int))) ∧ w'.cell? ⟨gr, 1, none⟩ = some (.func (.func 61) #[] #[.pointer (some ⟨gb, 0, none⟩)]) ∧ w'.cell? ⟨gr, 2, none⟩ = some (.func (.func 62) #[] #[.pointer (some ⟨gb, 0, none⟩)])) (by kernel_rfl) ?_
        refine Goes.take (i := 0) (o := ⟨some 41, _, _, _, _, _⟩) (v := ?_) [11] rfl (by kernel_rfl) (by kernel_rfl) (by kernel_rfl) (fun _ _ _ h => h) (by kernel_rfl) (fun L u h => ⟨fun e => h.1 (by rw [getD_set_ne true (by decide)]; exact e), fun e => h.2.1 (by rw [getD_set_ne true (by decide)]; exact e), h.2.2⟩) (Or.inl ⟨by rfl, ?_⟩) ⟨fun _ => (hs).cell g9 la (by simp), fun _ => (hs).cell g9s ne (by simp), (hs).cell g11 q (by simp), (R1.out.on (hs).below).cell.2.1, (R1.out.on (hs).below).cell.2.2⟩ ?_
        rotate_left
        · intro w hY; obtain ⟨up, hL⟩ := hY; have hX := hL.2.2.1 (hL.1 11 (by simp)); clear hL; (try dsimp only at hX); go_simp; try with_reducible rfl
        try simp only [putz]
        refine Goes.take (i := 1) (o := ⟨some 42, _, _, _, _, _⟩) (v := ?_) [] rfl (by kernel_rfl) (by kernel_rfl) (by kernel_rfl) (fun _ _ _ h => h) (by kernel_rfl) (fun L u h => ⟨fun e => h.1 (by rw [getD_set_ne true (by decide)]; exact e), fun e => h.2.1 (by rw [getD_set_ne true (by decide)]; exact e), h.2.2⟩) (Or.inl ⟨by rfl, ?_⟩) ⟨fun _ => (hs).cell g9 la (by simp), fun _ => (hs).cell g9s ne (by simp), (hs).cell g11 q (by simp), (R1.out.on (hs).below).cell.2.1, (R1.out.on (hs).below).cell.2.2⟩ ?_
        rotate_left
        · intro w hY; go_simp; try with_reducible rfl
        try simp only [putz]
        refine Goes.take (i := 2) (o := ⟨some 43, _, _, _, _, _⟩) (v := ?_) [] rfl (by kernel_rfl) (by kernel_rfl) (by kernel_rfl) (fun _ _ _ h => h) (by kernel_rfl) (fun L u h => ⟨fun e => h.1 (by rw [getD_set_ne true (by decide)]; exact e), fun e => h.2.1 (by rw [getD_set_ne true (by decide)]; exact e), h.2.2⟩) (Or.inl ⟨by rfl, ?_⟩) ⟨fun _ => (hs).cell g9 la (by simp), fun _ => (hs).cell g9s ne (by simp), (hs).cell g11 q (by simp), (R1.out.on (hs).below).cell.2.1, (R1.out.on (hs).below).cell.2.2⟩ ?_
        rotate_left
        · intro w hY; obtain ⟨up, hL⟩ := hY; have hX := hL.2.2.2.2.1; clear hL; (try dsimp only at hX); go_simp; try with_reducible rfl
        try simp only [putz]
        refine Goes.take (i := 3) (o := ⟨some 44, _, _, _, _, _⟩) (v := ?_) [10] rfl (by kernel_rfl) (by kernel_rfl) (by kernel_rfl) (fun _ _ _ h => h) (by kernel_rfl) (fun L u h => ⟨fun e => h.1 (by rw [getD_set_ne true (by decide)]; exact e), fun e => h.2.1 (by rw [getD_set_ne true (by decide)]; exact e), h.2.2⟩) (Or.inl ⟨by rfl, ?_⟩) ⟨fun _ => (hs).cell g9 la (by simp), fun _ => (hs).cell g9s ne (by simp), (hs).cell g11 q (by simp), (R1.out.on (hs).below).cell.2.1, (R1.out.on (hs).below).cell.2.2⟩ ?_
        rotate_left
        · intro w hY; obtain ⟨up, hL⟩ := hY; have hX := hL.2.1 (hL.1 10 (by simp)); clear hL; (try dsimp only at hX); go_simp; try with_reducible rfl
        try simp only [putz]
        refine Goes.take (i := 4) (o := ⟨some 45, _, _, _, _, _⟩) (v := ?_) [] rfl (by kernel_rfl) (by kernel_rfl) (by kernel_rfl) (fun _ _ _ h => h) (by kernel_rfl) (fun L u h => ⟨fun e => h.1 (by rw [getD_set_ne true (by decide)]; exact e), fun e => h.2.1 (by rw [getD_set_ne true (by decide)]; exact e), h.2.2⟩) (Or.inl ⟨by rfl, ?_⟩) ⟨fun _ => (hs).cell g9 la (by simp), fun _ => (hs).cell g9s ne (by simp), (hs).cell g11 q (by simp), (R1.out.on (hs).below).cell.2.1, (R1.out.on (hs).below).cell.2.2⟩ ?_
        rotate_left
        · intro w hY; go_simp; try with_reducible rfl
        try simp only [putz]
        refine Goes.take (i := 5) (o := ⟨some 46, _, _, _, _, _⟩) (v := ?_) [] rfl (by kernel_rfl) (by kernel_rfl) (by kernel_rfl) (fun _ _ _ h => h) (by kernel_rfl) (fun L u h => ⟨fun e => h.1 (by rw [getD_set_ne true (by decide)]; exact e), fun e => h.2.1 (by rw [getD_set_ne true (by decide)]; exact e), h.2.2⟩) (Or.inl ⟨by rfl, ?_⟩) ⟨fun _ => (hs).cell g9 la (by simp), fun _ => (hs).cell g9s ne (by simp), (hs).cell g11 q (by simp), (R1.out.on (hs).below).cell.2.1, (R1.out.on (hs).below).cell.2.2⟩ ?_
        rotate_left
        · intro w hY; obtain ⟨up, hL⟩ := hY; have hX := hL.2.2.2.2.2; clear hL; (try dsimp only at hX); go_simp; try with_reducible rfl
        try simp only [putz]
        refine Goes.take (i := 6) (o := ⟨some 47, _, _, _, _, _⟩) (v := ?_) [] rfl (by kernel_rfl) (by kernel_rfl) (by kernel_rfl) (fun _ _ _ h => h) (by kernel_rfl) (fun L u h => ⟨fun e => h.1 (by rw [getD_set_ne true (by decide)]; exact e), fun e => h.2.1 (by rw [getD_set_ne true (by decide)]; exact e), h.2.2⟩) (Or.inl ⟨by rfl, ?_⟩) ⟨fun _ => (hs).cell g9 la (by simp), fun _ => (hs).cell g9s ne (by simp), (hs).cell g11 q (by simp), (R1.out.on (hs).below).cell.2.1, (R1.out.on (hs).below).cell.2.2⟩ ?_
        rotate_left
        · intro w hY; obtain ⟨up, hL⟩ := hY; have hX := hL.2.2.2.1; clear hL; (try dsimp only at hX); go_simp; try with_reducible rfl
        try simp only [putz]
        refine Goes.take (i := 7) (o := ⟨some 48, _, _, _, _, _⟩) (v := ?_) [11] rfl (by kernel_rfl) (by kernel_rfl) (by kernel_rfl) (fun _ _ _ h => h) (by kernel_rfl) (fun L u h => ⟨fun e => h.1 (by rw [getD_set_ne true (by decide)]; exact e), fun e => h.2.1 (by rw [getD_set_ne true (by decide)]; exact e), h.2.2⟩) (Or.inl ⟨by rfl, ?_⟩) ⟨fun _ => (hs).cell g9 la (by simp), fun _ => (hs).cell g9s ne (by simp), (hs).cell g11 q (by simp), (R1.out.on (hs).below).cell.2.1, (R1.out.on (hs).below).cell.2.2⟩ ?_
        rotate_left
        · intro w hY; obtain ⟨up, hL⟩ := hY; have hX := hL.2.2.1 (hL.1 11 (by simp)); clear hL; (try dsimp only at hX); go_simp; try with_reducible rfl
        try simp only [putz]
        refine Goes.one (i := 8) (o := ⟨some 49, _, _, _, _, _⟩) (by kernel_rfl) rfl (fun K hK => ?_)
        go_simp
        with_reducible refine (env_of (rmul_b q ne m t gb _ ((E1.out.on hs.below).nm gb m (by simp)) QL.out NEL.out ML.out (by have := M1.out; omega) ET.out) hs).mono ?_
        rintro e wn ⟨rfl, hs⟩
        obtain ⟨a0, a1, a2, a3⟩ := hs.cell g9 la (by simp); have l9 := hs.lt g9 la (by simp); have z9 := hs.frozen g9 la (by simp); obtain ⟨c0, c1, c2, c3⟩ := hs.cell g9s ne (by simp); have l10 := hs.lt g9s ne (by simp); have z10 := hs.frozen g9s ne (by simp)
        go_wp2_with fail
        refine hK.out _ _ ⟨fun _ => (hs).cell g9 la (by simp), fun _ => (hs).cell g9s ne (by simp), (hs).cell g11 q (by simp), (R1.out.on (hs).below).cell.2.1, (R1.out.on (hs).below).cell.2.2⟩ ?_
        clear hK K
        try simp only [putz]
        refine Goes.one (i := 9) (o := ⟨some 50, _, _, _, _, _⟩) (by kernel_rfl) rfl (fun K hK => ?_)
        go_simp
        with_reducible refine (env_of (rsub_b la t m z gb _ ((E1.out.on hs.below).nm gb m (by simp)) LA.out TL.out ML.out EZ.out) hs).mono ?_
        rintro e wn ⟨rfl, hs⟩
        obtain ⟨a0, a1, a2, a3⟩ := hs.cell g9 la (by simp); have l9 := hs.lt g9 la (by simp); have z9 := hs.frozen g9 la (by simp); obtain ⟨c0, c1, c2, c3⟩ := hs.cell g9s ne (by simp); have l10 := hs.lt g9s ne (by simp); have z10 := hs.frozen g9s ne (by simp)
        go_wp2_with fail
        refine hK.out _ _ ⟨fun _ => (hs).cell g9 la (by simp), fun _ => (hs).cell g9s ne (by simp), (hs).cell g11 q (by simp), (R1.out.on (hs).below).cell.2.1, (R1.out.on (hs).below).cell.2.2⟩ ?_
        clear hK K
        try simp only [putz]
        refine Goes.one (i := 10) (o := ⟨none, _, _, _, _, _⟩) (by kernel_rfl) rfl (fun K hK => ?_)
        go_simp
        refine hK.out _ _ ⟨fun h => absurd h (by decide), fun _ => ((HW.out _ hs).2.2.1).cell g9s ne (by simp), ((HW.out _ hs).2.2.1).cell g11 q (by simp), (R1.out.on ((HW.out _ hs).2.2.1).below).cell.2.1, (R1.out.on ((HW.out _ hs).2.2.1).below).cell.2.2⟩ ?_
        clear hK K
        try simp only [putz]
        refine Goes.one (i := 11) (o := ⟨none, _, _, _, _, _⟩) (by kernel_rfl) rfl (fun K hK => ?_)
        go_simp
        refine hK.out _ _ ⟨fun h => absurd h (by decide), fun h => absurd h (by decide), ((HW.out _ hs).1).cell g11 q (by simp), (R1.out.on ((HW.out _ hs).1).below).cell.2.1, (R1.out.on ((HW.out _ hs).1).below).cell.2.2⟩ ?_
        clear hK K
        try simp only [putz]
        refine Goes.done (by kernel_rfl) ?_ _
        refine NoPanic.normal ?_
        have HZ := hid (HW.out _ hs)
        clear a0 a1 a2 a3 l9 z9 c0 c1 c2 c3 l10 z10
        go_wp2_with fail
        go_roundg r
        case measure => exact RE.out
        case rel => first | exact ⟨re, r, ne, z, rfl, P2, hid (HZ.out.1.perm (by simp))⟩ | exact ⟨re, r, ne, z, rfl, P2, hid (HZ.out.2.1.perm (by simp))⟩
theorem minv_yes_at (a m v : Nat) {w w' : World} {l : List (Nat × Nat)} (h : Env w l w') (hm : m < 2 ^ 256) (h1 : 1 < m) (ha : a < m) (hv : Ivs a m v) : Calls Try.prog 26 #[num a, num m] w' fun e w2 => e = .returned (.tuple #[num v, .int .i64 0]) ∧ Env w l w2 :=
  (minv_walk a m w' hm ⟨h1, ha⟩).mono fun e w2 ⟨he, hb⟩ => ⟨by
    rcases he with ⟨u, hu, he⟩ | ⟨hg, he⟩
    · rw [he, hu.unique hv]
    · exact absurd hv.gcd hg, h.on hb⟩
theorem minv_no_at (a m : Nat) {w w' : World} {l : List (Nat × Nat)} (h : Env w l w') (hm : m < 2 ^ 256) (h1 : 1 < m) (ha : a < m) (hg : Nat.gcd a m ≠ 1) : Calls Try.prog 26 #[num a, num m] w' fun e w2 => e = .returned (.tuple #[num 0, .int .i64 7]) ∧ Env w l w2 :=
  (minv_walk a m w' hm ⟨h1, ha⟩).mono fun e w2 ⟨he, hb⟩ => ⟨by
    rcases he with ⟨u, hu, he⟩ | ⟨hg2, he⟩
    · exact absurd hu.gcd hg
    · exact he, h.on hb⟩
theorem minv_arg_at (a m : Nat) {w w' : World} {l : List (Nat × Nat)} (h : Env w l w') (ha : a < 2 ^ 256) (hm : m < 2 ^ 256) (hv : ¬ (1 < m ∧ a < m)) : Calls Try.prog 26 #[num a, num m] w' fun e w2 => e = .returned (.tuple #[num 0, .int .i64 1]) ∧ Env w l w2 :=
  env_of (minv_arg a m w' ha hm hv) h
end Go.Proofs.Ytaggegknnnembaa

/-
  mods.goRound, walked: whether numbers may go round. Conditions: none.
-/
import Derived.Test.YtioebjbjpjbodaaDoorPkRing
import Derived.LoopN
namespace Go.Proofs.YtioebjbjpjbodaaDoor
open Go.RowKit
set_option linter.unusedVariables false

/-- the numbers of a list, in a block of its lown -/
def Sl1 (w : World) (g a : Nat) : Prop := w.heap[g]? = some (.cells #[.int .u64 (wd a 0 : Int), .int .u64 (wd a 1 : Int), .int .u64 (wd a 2 : Int), .int .u64 (wd a 3 : Int)] 24 (0, 0))
def Sl2 (w : World) (g a b : Nat) : Prop := w.heap[g]? = some (.cells #[.int .u64 (wd a 0 : Int), .int .u64 (wd a 1 : Int), .int .u64 (wd a 2 : Int), .int .u64 (wd a 3 : Int), .int .u64 (wd b 0 : Int), .int .u64 (wd b 1 : Int), .int .u64 (wd b 2 : Int), .int .u64 (wd b 3 : Int)] 24 (0, 0))
theorem Sl1.at {w w' : World} {g a : Nat} (h : Sl1 w g a) (hb : Below w.heap.size w w') : w'.cell? ⟨g, 0, none⟩ = some (.int .u64 (wd a 0 : Int)) ∧ w'.cell? ⟨g, 1, none⟩ = some (.int .u64 (wd a 1 : Int)) ∧ w'.cell? ⟨g, 2, none⟩ = some (.int .u64 (wd a 2 : Int)) ∧ w'.cell? ⟨g, 3, none⟩ = some (.int .u64 (wd a 3 : Int)) ∧ g < w'.heap.size := by
  have hl : g < w.heap.size := lt_of_block h
  have h2 := (hb.block g hl).trans h
  refine ⟨?_, ?_, ?_, ?_, lt_of_block h2⟩ <;> (rw [cell_of_row w' g _ _ 24 (0, 0) h2]; rfl)
theorem Sl2.at {w w' : World} {g a b : Nat} (h : Sl2 w g a b) (hb : Below w.heap.size w w') : w'.cell? ⟨g, 0, none⟩ = some (.int .u64 (wd a 0 : Int)) ∧ w'.cell? ⟨g, 1, none⟩ = some (.int .u64 (wd a 1 : Int)) ∧ w'.cell? ⟨g, 2, none⟩ = some (.int .u64 (wd a 2 : Int)) ∧ w'.cell? ⟨g, 3, none⟩ = some (.int .u64 (wd a 3 : Int)) ∧ w'.cell? ⟨g, 4, none⟩ = some (.int .u64 (wd b 0 : Int)) ∧ w'.cell? ⟨g, 5, none⟩ = some (.int .u64 (wd b 1 : Int)) ∧ w'.cell? ⟨g, 6, none⟩ = some (.int .u64 (wd b 2 : Int)) ∧ w'.cell? ⟨g, 7, none⟩ = some (.int .u64 (wd b 3 : Int)) ∧ g < w'.heap.size := by
  have hl : g < w.heap.size := lt_of_block h
  have h2 := (hb.block g hl).trans h
  refine ⟨?_, ?_, ?_, ?_, ?_, ?_, ?_, ?_, lt_of_block h2⟩ <;> (rw [cell_of_row w' g _ _ 24 (0, 0) h2]; rfl)
theorem nbits_above (m : Nat) : 1 < nbits m ↔ 1 < m := by
  constructor
  · intro h
    rcases Nat.lt_or_ge 1 m with g | g
    · exact g
    · have := nbits_up m 1 (by omega); omega
  · intro h
    have h1 := nbits_le m (by omega)
    rcases Nat.lt_or_ge 1 (nbits m) with g | g
    · exact g
    · have h2 := nbits_lt m
      have h3 : 2 ^ nbits m ≤ 2 ^ 1 := Nat.pow_le_pow_right (by omega) g
      omega
set_option maxRecDepth 100000 in
set_option maxHeartbeats 4000000 in
theorem gor1_no0 (m a g : Nat) (w : World) (hS : Sl1 w g a) (hm : m < 2 ^ 256) (ha : a < 2 ^ 256) (h0 : ¬ a < m) : Calls Tryd.prog 29 #[num m, .slice (some ⟨g, 0, none⟩) 1 1] w fun e w' => e = .returned (.bool false) ∧ Below w.heap.size w w' := by
  have AL := hid ha
  have ML := hid hm
  obtain ⟨c, ec⟩ : ∃ c, cmpN a m = c := ⟨_, rfl⟩
  have hc0 : 0 ≤ c := by rw [← ec]; unfold cmpN; split <;> (try split) <;> omega
  have EB := hid ec
  clear ec
  have HS := hid hS
  clear ha hm hS h0
  have H0 := hid (((Env.refl w).new m).perm (l' := [(w.heap.size, m)]) (by simp))
  go_enter Tryd.func29, Tryd.ntmps29
  go_wp2_with fail
  generalize w.alloc (.cells (cls m) 24) = w0 at *
  generalize hzg_a : w.heap.size = g_a at *
  refine wp_loop_rounds 2 ?_
  rw [rounds_succ]
  obtain ⟨s0, s1, s2, s3, sl⟩ := HS.out.at H0.out.1
  obtain ⟨c0x0a, c0x0b, c0x0c, c0x0d⟩ := H0.out.cell (g_a) (m) (by simp)
  have c0x0l := H0.out.lt (g_a) (m) (by simp)
  have c0x0m := Nat.le_of_lt c0x0l
  go_wp2_with fail
  clear c0x0a c0x0b c0x0c c0x0d c0x0l c0x0m
  clear s0 s1 s2 s3 sl
  have H0b := hid (H0.out.new a)
  clear H0
  generalize w0.alloc (.cells (cls a) 24) = w0b at *
  generalize w0.heap.size = g60 at *
  refine (cmp_at a m c H0b.out AL.out ML.out EB.out).mono ?_
  rintro e w1 ⟨rfl, h⟩
  have H1 := hid h
  clear h H0b
  obtain ⟨c0x1a, c0x1b, c0x1c, c0x1d⟩ := H1.out.cell (g_a) (m) (by simp)
  have c0x1l := H1.out.lt (g_a) (m) (by simp)
  have c0x1m := Nat.le_of_lt c0x1l
  go_wp2_with fail
  clear c0x1a c0x1b c0x1c c0x1d c0x1l c0x1m
  try rw [Exit.noGoto_ret]
  exact bodyPost_ret (v := .bool false) (by simp [results, Tryd.results29, go_sem]) rfl ⟨rfl, H1.out.1⟩
set_option maxRecDepth 100000 in
set_option maxHeartbeats 4000000 in
theorem gor1_all (m a g : Nat) (w : World) (hS : Sl1 w g a) (hm : m < 2 ^ 256) (ha : a < 2 ^ 256) (h0 : a < m) : Calls Tryd.prog 29 #[num m, .slice (some ⟨g, 0, none⟩) 1 1] w fun e w' => e = .returned (.bool (decide (1 < m))) ∧ Below w.heap.size w w' := by
  have AL := hid ha
  have ML := hid hm
  have E0 : Hid (cmpN a m = -1) := hid (by unfold cmpN; rw [if_pos h0])
  obtain ⟨n, en⟩ : ∃ n, nbits m = n := ⟨_, rfl⟩
  have EN := hid (show (nbits m : Int) = (n : Int) by rw [en])
  have hn : 1 < n ↔ 1 < m := by rw [← en]; exact nbits_above m
  have HS := hid hS
  clear ha hm hS h0 en
  have H0 := hid (((Env.refl w).new m).perm (l' := [(w.heap.size, m)]) (by simp))
  go_enter Tryd.func29, Tryd.ntmps29
  go_wp2_with fail
  generalize w.alloc (.cells (cls m) 24) = w0 at *
  generalize hzg_a : w.heap.size = g_a at *
  refine wp_loop_rounds 2 ?_
  rw [rounds_succ]
  obtain ⟨s0, s1, s2, s3, sl⟩ := HS.out.at H0.out.1
  obtain ⟨c0x0a, c0x0b, c0x0c, c0x0d⟩ := H0.out.cell (g_a) (m) (by simp)
  have c0x0l := H0.out.lt (g_a) (m) (by simp)
  have c0x0m := Nat.le_of_lt c0x0l
  go_wp2_with fail
  clear c0x0a c0x0b c0x0c c0x0d c0x0l c0x0m
  clear s0 s1 s2 s3 sl
  have H0b := hid (H0.out.new a)
  clear H0
  generalize w0.alloc (.cells (cls a) 24) = w0b at *
  generalize w0.heap.size = g60 at *
  refine (cmp_at a m (-1) H0b.out AL.out ML.out E0.out).mono ?_
  rintro e w1 ⟨rfl, h⟩
  have H1 := hid h
  clear h H0b
  obtain ⟨c0x1a, c0x1b, c0x1c, c0x1d⟩ := H1.out.cell (g_a) (m) (by simp)
  have c0x1l := H1.out.lt (g_a) (m) (by simp)
  have c0x1m := Nat.le_of_lt c0x1l
  go_wp2_with fail
  clear c0x1a c0x1b c0x1c c0x1d c0x1l c0x1m
  rw [rounds_succ]
  obtain ⟨c0x1a, c0x1b, c0x1c, c0x1d⟩ := H1.out.cell (g_a) (m) (by simp)
  have c0x1l := H1.out.lt (g_a) (m) (by simp)
  have c0x1m := Nat.le_of_lt c0x1l
  go_wp2_with fail
  clear c0x1a c0x1b c0x1c c0x1d c0x1l c0x1m
  refine (bits_at m (n : Int) H1.out ML.out EN.out).mono ?_
  rintro e w2 ⟨rfl, h⟩
  have H2 := hid h
  clear h H1
  go_wp2
  exact bodyPost_ret (v := .bool (decide ((n : Int) > 1))) (by simp [results, Tryd.results29, go_sem]) rfl ⟨by simp; omega, H2.out.1⟩
set_option maxRecDepth 100000 in
set_option maxHeartbeats 4000000 in
theorem gor2_no0 (m a b g : Nat) (w : World) (hS : Sl2 w g a b) (hm : m < 2 ^ 256) (ha : a < 2 ^ 256) (hb : b < 2 ^ 256) (h0 : ¬ a < m) : Calls Tryd.prog 29 #[num m, .slice (some ⟨g, 0, none⟩) 2 2] w fun e w' => e = .returned (.bool false) ∧ Below w.heap.size w w' := by
  have AL := hid ha
  have BL := hid hb
  have ML := hid hm
  obtain ⟨c, ec⟩ : ∃ c, cmpN a m = c := ⟨_, rfl⟩
  have hc0 : 0 ≤ c := by rw [← ec]; unfold cmpN; split <;> (try split) <;> omega
  have EB := hid ec
  clear ec
  have HS := hid hS
  clear ha hb hm hS h0
  have H0 := hid (((Env.refl w).new m).perm (l' := [(w.heap.size, m)]) (by simp))
  go_enter Tryd.func29, Tryd.ntmps29
  go_wp2_with fail
  generalize w.alloc (.cells (cls m) 24) = w0 at *
  generalize hzg_a : w.heap.size = g_a at *
  refine wp_loop_rounds 3 ?_
  rw [rounds_succ]
  obtain ⟨s0, s1, s2, s3, s4, s5, s6, s7, sl⟩ := HS.out.at H0.out.1
  obtain ⟨c0x0a, c0x0b, c0x0c, c0x0d⟩ := H0.out.cell (g_a) (m) (by simp)
  have c0x0l := H0.out.lt (g_a) (m) (by simp)
  have c0x0m := Nat.le_of_lt c0x0l
  go_wp2_with fail
  clear c0x0a c0x0b c0x0c c0x0d c0x0l c0x0m
  clear s0 s1 s2 s3 sl s4 s5 s6 s7
  have H0b := hid (H0.out.new a)
  clear H0
  generalize w0.alloc (.cells (cls a) 24) = w0b at *
  generalize w0.heap.size = g60 at *
  refine (cmp_at a m c H0b.out AL.out ML.out EB.out).mono ?_
  rintro e w1 ⟨rfl, h⟩
  have H1 := hid h
  clear h H0b
  obtain ⟨c0x1a, c0x1b, c0x1c, c0x1d⟩ := H1.out.cell (g_a) (m) (by simp)
  have c0x1l := H1.out.lt (g_a) (m) (by simp)
  have c0x1m := Nat.le_of_lt c0x1l
  go_wp2_with fail
  clear c0x1a c0x1b c0x1c c0x1d c0x1l c0x1m
  try rw [Exit.noGoto_ret]
  exact bodyPost_ret (v := .bool false) (by simp [results, Tryd.results29, go_sem]) rfl ⟨rfl, H1.out.1⟩
set_option maxRecDepth 100000 in
set_option maxHeartbeats 4000000 in
theorem gor2_no1 (m a b g : Nat) (w : World) (hS : Sl2 w g a b) (hm : m < 2 ^ 256) (ha : a < 2 ^ 256) (hb : b < 2 ^ 256) (h0 : a < m) (h1 : ¬ b < m) : Calls Tryd.prog 29 #[num m, .slice (some ⟨g, 0, none⟩) 2 2] w fun e w' => e = .returned (.bool false) ∧ Below w.heap.size w w' := by
  have AL := hid ha
  have BL := hid hb
  have ML := hid hm
  have E0 : Hid (cmpN a m = -1) := hid (by unfold cmpN; rw [if_pos h0])
  obtain ⟨c, ec⟩ : ∃ c, cmpN b m = c := ⟨_, rfl⟩
  have hc0 : 0 ≤ c := by rw [← ec]; unfold cmpN; split <;> (try split) <;> omega
  have EB := hid ec
  clear ec
  have HS := hid hS
  clear ha hb hm hS h0 h1
  have H0 := hid (((Env.refl w).new m).perm (l' := [(w.heap.size, m)]) (by simp))
  go_enter Tryd.func29, Tryd.ntmps29
  go_wp2_with fail
  generalize w.alloc (.cells (cls m) 24) = w0 at *
  generalize hzg_a : w.heap.size = g_a at *
  refine wp_loop_rounds 3 ?_
  rw [rounds_succ]
  obtain ⟨s0, s1, s2, s3, s4, s5, s6, s7, sl⟩ := HS.out.at H0.out.1
  obtain ⟨c0x0a, c0x0b, c0x0c, c0x0d⟩ := H0.out.cell (g_a) (m) (by simp)
  have c0x0l := H0.out.lt (g_a) (m) (by simp)
  have c0x0m := Nat.le_of_lt c0x0l
  go_wp2_with fail
  clear c0x0a c0x0b c0x0c c0x0d c0x0l c0x0m
  clear s0 s1 s2 s3 sl s4 s5 s6 s7
  have H0b := hid (H0.out.new a)
  clear H0
  generalize w0.alloc (.cells (cls a) 24) = w0b at *
  generalize w0.heap.size = g60 at *
  refine (cmp_at a m (-1) H0b.out AL.out ML.out E0.out).mono ?_
  rintro e w1 ⟨rfl, h⟩
  have H1 := hid h
  clear h H0b
  obtain ⟨c0x1a, c0x1b, c0x1c, c0x1d⟩ := H1.out.cell (g_a) (m) (by simp)
  have c0x1l := H1.out.lt (g_a) (m) (by simp)
  have c0x1m := Nat.le_of_lt c0x1l
  go_wp2_with fail
  clear c0x1a c0x1b c0x1c c0x1d c0x1l c0x1m
  rw [rounds_succ]
  obtain ⟨s0, s1, s2, s3, s4, s5, s6, s7, sl⟩ := HS.out.at H1.out.1
  obtain ⟨c0x1a, c0x1b, c0x1c, c0x1d⟩ := H1.out.cell (g_a) (m) (by simp)
  have c0x1l := H1.out.lt (g_a) (m) (by simp)
  have c0x1m := Nat.le_of_lt c0x1l
  go_wp2_with fail
  clear c0x1a c0x1b c0x1c c0x1d c0x1l c0x1m
  clear s0 s1 s2 s3 sl s4 s5 s6 s7
  have H1b := hid (H1.out.new b)
  clear H1
  generalize w1.alloc (.cells (cls b) 24) = w1b at *
  generalize w1.heap.size = g61 at *
  refine (cmp_at b m c H1b.out BL.out ML.out EB.out).mono ?_
  rintro e w2 ⟨rfl, h⟩
  have H2 := hid h
  clear h H1b
  obtain ⟨c0x2a, c0x2b, c0x2c, c0x2d⟩ := H2.out.cell (g_a) (m) (by simp)
  have c0x2l := H2.out.lt (g_a) (m) (by simp)
  have c0x2m := Nat.le_of_lt c0x2l
  go_wp2_with fail
  clear c0x2a c0x2b c0x2c c0x2d c0x2l c0x2m
  try rw [Exit.noGoto_ret]
  exact bodyPost_ret (v := .bool false) (by simp [results, Tryd.results29, go_sem]) rfl ⟨rfl, H2.out.1⟩
set_option maxRecDepth 100000 in
set_option maxHeartbeats 4000000 in
theorem gor2_all (m a b g : Nat) (w : World) (hS : Sl2 w g a b) (hm : m < 2 ^ 256) (ha : a < 2 ^ 256) (hb : b < 2 ^ 256) (h0 : a < m) (h1 : b < m) : Calls Tryd.prog 29 #[num m, .slice (some ⟨g, 0, none⟩) 2 2] w fun e w' => e = .returned (.bool (decide (1 < m))) ∧ Below w.heap.size w w' := by
  have AL := hid ha
  have BL := hid hb
  have ML := hid hm
  have E0 : Hid (cmpN a m = -1) := hid (by unfold cmpN; rw [if_pos h0])
  have E1 : Hid (cmpN b m = -1) := hid (by unfold cmpN; rw [if_pos h1])
  obtain ⟨n, en⟩ : ∃ n, nbits m = n := ⟨_, rfl⟩
  have EN := hid (show (nbits m : Int) = (n : Int) by rw [en])
  have hn : 1 < n ↔ 1 < m := by rw [← en]; exact nbits_above m
  have HS := hid hS
  clear ha hb hm hS h0 h1 en
  have H0 := hid (((Env.refl w).new m).perm (l' := [(w.heap.size, m)]) (by simp))
  go_enter Tryd.func29, Tryd.ntmps29
  go_wp2_with fail
  generalize w.alloc (.cells (cls m) 24) = w0 at *
  generalize hzg_a : w.heap.size = g_a at *
  refine wp_loop_rounds 3 ?_
  rw [rounds_succ]
  obtain ⟨s0, s1, s2, s3, s4, s5, s6, s7, sl⟩ := HS.out.at H0.out.1
  obtain ⟨c0x0a, c0x0b, c0x0c, c0x0d⟩ := H0.out.cell (g_a) (m) (by simp)
  have c0x0l := H0.out.lt (g_a) (m) (by simp)
  have c0x0m := Nat.le_of_lt c0x0l
  go_wp2_with fail
  clear c0x0a c0x0b c0x0c c0x0d c0x0l c0x0m
  clear s0 s1 s2 s3 sl s4 s5 s6 s7
  have H0b := hid (H0.out.new a)
  clear H0
  generalize w0.alloc (.cells (cls a) 24) = w0b at *
  generalize w0.heap.size = g60 at *
  refine (cmp_at a m (-1) H0b.out AL.out ML.out E0.out).mono ?_
  rintro e w1 ⟨rfl, h⟩
  have H1 := hid h
  clear h H0b
  obtain ⟨c0x1a, c0x1b, c0x1c, c0x1d⟩ := H1.out.cell (g_a) (m) (by simp)
  have c0x1l := H1.out.lt (g_a) (m) (by simp)
  have c0x1m := Nat.le_of_lt c0x1l
  go_wp2_with fail
  clear c0x1a c0x1b c0x1c c0x1d c0x1l c0x1m
  rw [rounds_succ]
  obtain ⟨s0, s1, s2, s3, s4, s5, s6, s7, sl⟩ := HS.out.at H1.out.1
  obtain ⟨c0x1a, c0x1b, c0x1c, c0x1d⟩ := H1.out.cell (g_a) (m) (by simp)
  have c0x1l := H1.out.lt (g_a) (m) (by simp)
  have c0x1m := Nat.le_of_lt c0x1l
  go_wp2_with fail
  clear c0x1a c0x1b c0x1c c0x1d c0x1l c0x1m
  clear s0 s1 s2 s3 sl s4 s5 s6 s7
  have H1b := hid (H1.out.new b)
  clear H1
  generalize w1.alloc (.cells (cls b) 24) = w1b at *
  generalize w1.heap.size = g61 at *
  refine (cmp_at b m (-1) H1b.out BL.out ML.out E1.out).mono ?_
  rintro e w2 ⟨rfl, h⟩
  have H2 := hid h
  clear h H1b
  obtain ⟨c0x2a, c0x2b, c0x2c, c0x2d⟩ := H2.out.cell (g_a) (m) (by simp)
  have c0x2l := H2.out.lt (g_a) (m) (by simp)
  have c0x2m := Nat.le_of_lt c0x2l
  go_wp2_with fail
  clear c0x2a c0x2b c0x2c c0x2d c0x2l c0x2m
  rw [rounds_succ]
  obtain ⟨c0x2a, c0x2b, c0x2c, c0x2d⟩ := H2.out.cell (g_a) (m) (by simp)
  have c0x2l := H2.out.lt (g_a) (m) (by simp)
  have c0x2m := Nat.le_of_lt c0x2l
  go_wp2_with fail
  clear c0x2a c0x2b c0x2c c0x2d c0x2l c0x2m
  refine (bits_at m (n : Int) H2.out ML.out EN.out).mono ?_
  rintro e w3 ⟨rfl, h⟩
  have H3 := hid h
  clear h H2
  go_wp2
  exact bodyPost_ret (v := .bool (decide ((n : Int) > 1))) (by simp [results, Tryd.results29, go_sem]) rfl ⟨by simp; omega, H3.out.1⟩
/-- may they go round? -/
theorem gor1_any (m a g : Nat) (w : World) (hS : Sl1 w g a) (hm : m < 2 ^ 256) (ha : a < 2 ^ 256) : Calls Tryd.prog 29 #[num m, .slice (some ⟨g, 0, none⟩) 1 1] w fun e w' => e = .returned (.bool (decide (1 < m ∧ a < m))) ∧ Below w.heap.size w w' := by
  by_cases h0 : a < m
  · have e : decide (1 < m ∧ a < m) = decide (1 < m) := by simp [h0]
    rw [e]; exact gor1_all m a g w hS hm ha h0
  · have e : decide (1 < m ∧ a < m) = false := by simp [h0]
    rw [e]; exact gor1_no0 m a g w hS hm ha h0
theorem gor2_any (m a b g : Nat) (w : World) (hS : Sl2 w g a b) (hm : m < 2 ^ 256) (ha : a < 2 ^ 256) (hb : b < 2 ^ 256) : Calls Tryd.prog 29 #[num m, .slice (some ⟨g, 0, none⟩) 2 2] w fun e w' => e = .returned (.bool (decide (1 < m ∧ a < m ∧ b < m))) ∧ Below w.heap.size w w' := by
  by_cases h0 : a < m
  · by_cases h1 : b < m
    · have e : decide (1 < m ∧ a < m ∧ b < m) = decide (1 < m) := by simp [h0, h1]
      rw [e]; exact gor2_all m a b g w hS hm ha hb h0 h1
    · have e : decide (1 < m ∧ a < m ∧ b < m) = false := by simp [h1]
      rw [e]; exact gor2_no1 m a b g w hS hm ha hb h0 h1
  · have e : decide (1 < m ∧ a < m ∧ b < m) = false := by simp [h0]
    rw [e]; exact gor2_no0 m a b g w hS hm ha hb h0
end Go.Proofs.YtioebjbjpjbodaaDoor

/-
  burrowlaw04.ModsRound, walked: it answers true at any two long numbers. Conditions: none.
-/
import Derived.Test.YtmeofgnmmbcklaaAlf
namespace Go.Proofs.Ytmeofgnmmbcklaa
open Go.RowKit
set_option linter.unusedVariables false

set_option maxRecDepth 100000 in
set_option maxHeartbeats 4000000 in
theorem round_low (x m : Nat) (w : World) (hx : x < 2 ^ 256) (hm : m < 2 ^ 256) (h1 : m ≤ 1) : Calls Try.prog 4 #[num x, num m] w fun e w' => e = .returned (.bool true) ∧ Below w.heap.size w w' := by
  have HV : Hid (decide (m ≤ 1) = true) := hid (by simpa using h1)
  have ML := hid hm
  clear hx hm h1
  have H0 := hid ((((Env.refl w).new x).new m).perm (l' := [(w.heap.size + 1, m), (w.heap.size, x)]) (by simp))
  go_enter Try.func4, Try.ntmps4
  go_wp2_with fail
  generalize (w.alloc (.cells (cls x) 24)).alloc (.cells (cls m) 24) = w0 at *
  generalize w.heap.size + 1 = g_b at *
  generalize hzg_a : w.heap.size = g_a at *
  refine (low_at m true H0.out ML.out HV.out).mono ?_
  rintro e w1 ⟨rfl, h⟩
  have H1 := hid h
  clear h H0
  go_wp2_with fail
  refine (alive_at H1.out).mono ?_
  rintro e w2 ⟨rfl, h⟩
  have H2 := hid h
  clear h H1
  go_wp2
  go_ret
  exact ⟨rfl, H2.out.1⟩
set_option maxRecDepth 100000 in
set_option maxHeartbeats 4000000 in
theorem round_some (x m : Nat) (w : World) (hx : x < 2 ^ 256) (hm : m < 2 ^ 256) (h1 : 1 < m) : Calls Try.prog 4 #[num x, num m] w fun e w' => e = .returned (.bool true) ∧ Below w.heap.size w w' := by
  have HV : Hid (decide (m ≤ 1) = false) := hid (by simpa using h1)
  have M1 := hid h1
  have ML := hid hm
  have XL := hid hx
  have M0 := hid (show m ≠ 0 by omega)
  obtain ⟨a, ea⟩ : ∃ z, x % m = z := ⟨_, rfl⟩
  have ha : a < m := by rw [← ea]; exact Nat.mod_lt _ (by omega)
  have hback := law_back ha
  have htw := law_twice a m
  obtain ⟨mi, emi⟩ : ∃ z, (0 + (m - a)) % m = z := ⟨_, rfl⟩
  obtain ⟨la, ela⟩ : ∃ z, m - 1 = z := ⟨_, rfl⟩
  obtain ⟨le, ele⟩ : ∃ z, (a + (m - 1)) % m = z := ⟨_, rfl⟩
  obtain ⟨tw, etw⟩ : ∃ z, (a + a) % m = z := ⟨_, rfl⟩
  obtain ⟨t2, et2⟩ : ∃ z, 2 % m = z := ⟨_, rfl⟩
  rw [emi] at hback
  rw [etw, et2] at htw
  have EA := hid ea
  have AM := hid ha
  have AL := hid (Nat.lt_trans ha hm)
  have MI := hid emi
  have BK := hid hback
  have LE := hid ele
  have TW := hid etw
  have T2 := hid et2
  have TM := hid htw.symm
  have MIL := hid (show mi < m by rw [← emi]; exact Nat.mod_lt _ (by omega))
  have LA : Hid (dif m 1 = la) := hid (by unfold dif; rw [if_neg (by omega)]; exact ela)
  have LB : Hid (((lent m 1 : Nat) : Int) = 0) := hid (by unfold lent; rw [if_neg (by omega)]; rfl)
  have LAL := hid (show la < m by omega)
  have LE2 := hid (show (a + la) % m = le by rw [← ela]; exact ele)
  have T2L := hid (show t2 < m by rw [← et2]; exact Nat.mod_lt _ (by omega))
  have q0 := eq_yes 0 0 rfl
  have ql := eq_yes le le rfl
  have qt := eq_yes tw tw rfl
  clear hx hm h1 ha hback htw ea emi ela ele etw et2
  have H0 := hid ((((Env.refl w).new x).new m).perm (l' := [(w.heap.size + 1, m), (w.heap.size, x)]) (by simp))
  go_enter Try.func4, Try.ntmps4
  go_wp2_with fail
  generalize (w.alloc (.cells (cls x) 24)).alloc (.cells (cls m) 24) = w0 at *
  generalize w.heap.size + 1 = g_b at *
  generalize hzg_a : w.heap.size = g_a at *
  refine (low_at m false H0.out ML.out HV.out).mono ?_
  rintro e w1 ⟨rfl, h⟩
  have H1 := hid h
  clear h H0
  obtain ⟨c0x1a, c0x1b, c0x1c, c0x1d⟩ := H1.out.cell (g_a) (x) (by simp)
  have c0x1l := H1.out.lt (g_a) (x) (by simp)
  have c0x1m := Nat.le_of_lt c0x1l
  obtain ⟨c6x1a, c6x1b, c6x1c, c6x1d⟩ := H1.out.cell (g_b) (m) (by simp)
  have c6x1l := H1.out.lt (g_b) (m) (by simp)
  have c6x1m := Nat.le_of_lt c6x1l
  go_wp2_with fail
  clear c0x1a c0x1b c0x1c c0x1d c0x1l c0x1m c6x1a c6x1b c6x1c c6x1d c6x1l c6x1m
  refine (rest_at x m a H1.out XL.out ML.out M0.out EA.out).mono ?_
  rintro e w2 ⟨rfl, h⟩
  have H2 := hid h
  clear h H1
  go_upto_region 4 with fail
  have H2b := hid (H2.out.new a)
  clear H2
  generalize w2.alloc (.cells (cls a) 24) = w2b at *
  generalize w2.heap.size = g5 at *
  go_upto_region 4 with fail
  go_cut [6, 7] (fun s6 s7 wx => ∃ g6 : Nat, s6 = .pointer (some ⟨g6, 0, none⟩) ∧ s7 = .int .i64 0 ∧ Hid (Env w [(g6, mi), (g5, a), (g_b, m), (g_a, x)] wx))
  case first =>
    have hs := H2b.out.drew
    refine wp_region_noPanic ?_
    refine Goes.region (fun (L : Array Bool) (w' : World) => (w'.cell? ⟨g5, 0, none⟩ = some (.int .u64 (wd (a) 0 : Int)) ∧ w'.cell? ⟨g5, 1, none⟩ = some (.int .u64 (wd (a) 1 : Int)) ∧ w'.cell? ⟨g5, 2, none⟩ = some (.int .u64 (wd (a) 2 : Int)) ∧ w'.cell? ⟨g5, 3, none⟩ = some (.int .u64 (wd (a) 3 : Int))) ∧ (w'.cell? ⟨g_b, 0, none⟩ = some (.int .u64 (wd (m) 0 : Int)) ∧ w'.cell? ⟨g_b, 1, none⟩ = some (.int .u64 (wd (m) 1 : Int)) ∧ w'.cell? ⟨g_b, 2, none⟩ = some (.int .u64 (wd (m) 2 : Int)) ∧ w'.cell? ⟨g_b, 3, none⟩ = some (.int .u64 (wd (m) 3 : Int)))) (by kernel_rfl) ?_
    generalize w2b.drew = wd at *
    refine Goes.take (i := 1) (o := { dst := some 28, op := _, type := _, pos := _, after := _, guard := _ }) (v := ?_) [] rfl (by kernel_rfl) (by kernel_rfl) (by kernel_rfl) (fun _ _ _ h => h) (by kernel_rfl) (fun L u h => h) (Or.inl ⟨by rfl, ?_⟩) (⟨Env.cell (hs) g5 (a) (by simp), Env.cell (hs) g_b (m) (by simp)⟩) ?_
    rotate_left
    · intro w hY; obtain ⟨up, hL⟩ := hY; have hX := hL.2.1; clear hL; (try dsimp only at hX); go_simp; try with_reducible rfl
    try simp only [Act.put, List.setIfInBounds_toArray, List.set_cons_zero, List.set_cons_succ]
    refine Goes.take (i := 2) (o := { dst := some 29, op := _, type := _, pos := _, after := _, guard := _ }) (v := ?_) [] rfl (by kernel_rfl) (by kernel_rfl) (by kernel_rfl) (fun _ _ _ h => h) (by kernel_rfl) (fun L u h => h) (Or.inl ⟨by rfl, ?_⟩) (⟨Env.cell (hs) g5 (a) (by simp), Env.cell (hs) g_b (m) (by simp)⟩) ?_
    rotate_left
    · intro w hY; obtain ⟨up, hL⟩ := hY; have hX := hL.2.2; clear hL; (try dsimp only at hX); go_simp; try with_reducible rfl
    try simp only [Act.put, List.setIfInBounds_toArray, List.set_cons_zero, List.set_cons_succ]
    refine Goes.two (i := 0) (j := 7) (o := { dst := some 27, op := _, type := _, pos := _, after := _, guard := _ }) (p := { dst := some 6, op := _, type := _, pos := _, after := _, guard := _ }) (by kernel_rfl) rfl rfl (fun K hK => ?_) (fun K hK => ?_)
    · skip
      go_simp
      with_reducible refine (none_at hs).mono ?_
      rintro e wn1 ⟨rfl, hs1⟩
      go_wp2_with fail
      refine hK.out _ _ (⟨Env.cell (hs1) g5 (a) (by simp), Env.cell (hs1) g_b (m) (by simp)⟩) ?_
      clear hK K
      try simp only [Act.put, List.setIfInBounds_toArray, List.set_cons_zero, List.set_cons_succ]
      clear hs
      have hs := hs1
      clear hs1
      refine Goes.two (i := 3) (j := 7) (o := { dst := some 30, op := _, type := _, pos := _, after := _, guard := _ }) (p := { dst := some 6, op := _, type := _, pos := _, after := _, guard := _ }) (by kernel_rfl) rfl rfl (fun K hK => ?_) (fun K hK => ?_)
      · skip
        go_simp
        with_reducible refine (msub_at 0 a m mi hs ML.out M1.out (by have := M1.out; omega) AM.out MI.out).mono ?_
        rintro e wn2 ⟨rfl, hs2⟩
        go_wp2_with fail
        refine hK.out _ _ (⟨Env.cell (hs2) g5 (a) (by simp), Env.cell (hs2) g_b (m) (by simp)⟩) ?_
        clear hK K
        try simp only [Act.put, List.setIfInBounds_toArray, List.set_cons_zero, List.set_cons_succ]
        clear hs
        have hs := hs2
        clear hs2
        refine Goes.take (i := 4) (o := { dst := some 26, op := _, type := _, pos := _, after := _, guard := _ }) (v := ?_) [] rfl (by kernel_rfl) (by kernel_rfl) (by kernel_rfl) (fun _ _ _ h => h) (by kernel_rfl) (fun L u h => h) (Or.inl ⟨by rfl, ?_⟩) (⟨Env.cell (hs) g5 (a) (by simp), Env.cell (hs) g_b (m) (by simp)⟩) ?_
        rotate_left
        · intro w hY; go_simp; try with_reducible rfl
        try simp only [Act.put, List.setIfInBounds_toArray, List.set_cons_zero, List.set_cons_succ]
        refine Goes.take (i := 5) (o := { dst := some 31, op := _, type := _, pos := _, after := _, guard := _ }) (v := ?_) [] rfl (by kernel_rfl) (by kernel_rfl) (by kernel_rfl) (fun _ _ _ h => h) (by kernel_rfl) (fun L u h => h) (Or.inl ⟨by rfl, ?_⟩) (⟨Env.cell (hs) g5 (a) (by simp), Env.cell (hs) g_b (m) (by simp)⟩) ?_
        rotate_left
        · intro w hY; go_simp; try with_reducible rfl
        try simp only [Act.put, List.setIfInBounds_toArray, List.set_cons_zero, List.set_cons_succ]
        refine Goes.take (i := 6) (o := { dst := some 32, op := _, type := _, pos := _, after := _, guard := _ }) (v := ?_) [] rfl (by kernel_rfl) (by kernel_rfl) (by kernel_rfl) (fun _ _ _ h => h) (by kernel_rfl) (fun L u h => h) (Or.inl ⟨by rfl, ?_⟩) (⟨Env.cell (hs) g5 (a) (by simp), Env.cell (hs) g_b (m) (by simp)⟩) ?_
        rotate_left
        · intro w hY; go_simp; try with_reducible rfl
        try simp only [Act.put, List.setIfInBounds_toArray, List.set_cons_zero, List.set_cons_succ]
        refine Goes.one (i := 7) (o := { dst := some 6, op := _, type := _, pos := _, after := _, guard := _ }) (by kernel_rfl) rfl (fun K hK => ?_)
        go_simp
        refine hK.out _ _ (⟨Env.cell (hs.zero) g5 (a) (by simp), Env.cell (hs.zero) g_b (m) (by simp)⟩) ?_
        clear hK K
        try simp only [Act.put, List.setIfInBounds_toArray, List.set_cons_zero, List.set_cons_succ]
        have Fg6 := hid hs.fresh
        have hs3 := hs.zero
        clear hs
        generalize wn2.alloc (.cells #[.int .u64 0, .int .u64 0, .int .u64 0, .int .u64 0] 24) = wn3 at *
        generalize wn2.heap.size = g6 at *
        have hs := hs3
        clear hs3
        refine Goes.one (i := 8) (o := { dst := none, op := _, type := _, pos := _, after := _, guard := _ }) (by kernel_rfl) rfl (fun K hK => ?_)
        obtain ⟨z0, z1, z2, z3⟩ := hs.cell g6 0 (by simp)
        have zl := hs.lt g6 0 (by simp)
        have zf := hs.frozen g6 0 (by simp)
        have hs4 := hs.set g6 0 (mi) [(g5, a), (g_b, m), (g_a, x)] (by simp) Fg6.out.1 (fun p hp => by simp only [List.mem_cons, List.not_mem_nil, or_false] at hp; rcases hp with rfl | rfl | rfl <;> first | exact ⟨by simp, (Fg6.out.2 (g5, a) (by simp))⟩ | exact ⟨by simp, (Fg6.out.2 (g_b, m) (by simp))⟩ | exact ⟨by simp, (Fg6.out.2 (g_a, x) (by simp))⟩)
        go_simp
        refine hK.out _ _ (⟨Env.cell (hs4) g5 (a) (by simp), Env.cell (hs4) g_b (m) (by simp)⟩) ?_
        clear hK K
        try simp only [Act.put, List.setIfInBounds_toArray, List.set_cons_zero, List.set_cons_succ]
        clear hs z0 z1 z2 z3 zl zf
        change Goes _ _ _ _ _ _ _ _ (fil wn3 g6 (mi))
        generalize fil wn3 g6 (mi) = wn4 at *
        have hs := hs4
        clear hs4
        refine Goes.take (i := 9) (o := { dst := some 7, op := _, type := _, pos := _, after := _, guard := _ }) (v := ?_) [] rfl (by kernel_rfl) (by kernel_rfl) (by kernel_rfl) (fun _ _ _ h => h) (by kernel_rfl) (fun L u h => h) (Or.inl ⟨by rfl, ?_⟩) (⟨Env.cell (hs) g5 (a) (by simp), Env.cell (hs) g_b (m) (by simp)⟩) ?_
        rotate_left
        · intro w hY; go_simp; try with_reducible rfl
        try simp only [Act.put, List.setIfInBounds_toArray, List.set_cons_zero, List.set_cons_succ]
        refine Goes.done (by kernel_rfl) ?_ _
        refine NoPanic.normal ?_
        go_wp2_with fail
        go_meet
        exact ⟨_, rfl, rfl, hid (hs.perm (by simp))⟩
      · skip
        go_simp
        refine hK.out _ _ (⟨Env.cell (hs.zero) g5 (a) (by simp), Env.cell (hs.zero) g_b (m) (by simp)⟩) ?_
        clear hK K
        try simp only [Act.put, List.setIfInBounds_toArray, List.set_cons_zero, List.set_cons_succ]
        have Fg6 := hid hs.fresh
        have hs5 := hs.zero
        clear hs
        generalize wn1.alloc (.cells #[.int .u64 0, .int .u64 0, .int .u64 0, .int .u64 0] 24) = wn5 at *
        generalize wn1.heap.size = g6 at *
        have hs := hs5
        clear hs5
        refine Goes.one (i := 3) (o := { dst := some 30, op := _, type := _, pos := _, after := _, guard := _ }) (by kernel_rfl) rfl (fun K hK => ?_)
        go_simp
        with_reducible refine (msub_at 0 a m mi hs ML.out M1.out (by have := M1.out; omega) AM.out MI.out).mono ?_
        rintro e wn6 ⟨rfl, hs6⟩
        go_wp2_with fail
        refine hK.out _ _ (⟨Env.cell (hs6) g5 (a) (by simp), Env.cell (hs6) g_b (m) (by simp)⟩) ?_
        clear hK K
        try simp only [Act.put, List.setIfInBounds_toArray, List.set_cons_zero, List.set_cons_succ]
        clear hs
        have hs := hs6
        clear hs6
        refine Goes.take (i := 4) (o := { dst := some 26, op := _, type := _, pos := _, after := _, guard := _ }) (v := ?_) [] rfl (by kernel_rfl) (by kernel_rfl) (by kernel_rfl) (fun _ _ _ h => h) (by kernel_rfl) (fun L u h => h) (Or.inl ⟨by rfl, ?_⟩) (⟨Env.cell (hs) g5 (a) (by simp), Env.cell (hs) g_b (m) (by simp)⟩) ?_
        rotate_left
        · intro w hY; go_simp; try with_reducible rfl
        try simp only [Act.put, List.setIfInBounds_toArray, List.set_cons_zero, List.set_cons_succ]
        refine Goes.take (i := 5) (o := { dst := some 31, op := _, type := _, pos := _, after := _, guard := _ }) (v := ?_) [] rfl (by kernel_rfl) (by kernel_rfl) (by kernel_rfl) (fun _ _ _ h => h) (by kernel_rfl) (fun L u h => h) (Or.inl ⟨by rfl, ?_⟩) (⟨Env.cell (hs) g5 (a) (by simp), Env.cell (hs) g_b (m) (by simp)⟩) ?_
        rotate_left
        · intro w hY; go_simp; try with_reducible rfl
        try simp only [Act.put, List.setIfInBounds_toArray, List.set_cons_zero, List.set_cons_succ]
        refine Goes.take (i := 6) (o := { dst := some 32, op := _, type := _, pos := _, after := _, guard := _ }) (v := ?_) [] rfl (by kernel_rfl) (by kernel_rfl) (by kernel_rfl) (fun _ _ _ h => h) (by kernel_rfl) (fun L u h => h) (Or.inl ⟨by rfl, ?_⟩) (⟨Env.cell (hs) g5 (a) (by simp), Env.cell (hs) g_b (m) (by simp)⟩) ?_
        rotate_left
        · intro w hY; go_simp; try with_reducible rfl
        try simp only [Act.put, List.setIfInBounds_toArray, List.set_cons_zero, List.set_cons_succ]
        refine Goes.one (i := 8) (o := { dst := none, op := _, type := _, pos := _, after := _, guard := _ }) (by kernel_rfl) rfl (fun K hK => ?_)
        obtain ⟨z0, z1, z2, z3⟩ := hs.cell g6 0 (by simp)
        have zl := hs.lt g6 0 (by simp)
        have zf := hs.frozen g6 0 (by simp)
        have hs7 := hs.set g6 0 (mi) [(g5, a), (g_b, m), (g_a, x)] (by simp) Fg6.out.1 (fun p hp => by simp only [List.mem_cons, List.not_mem_nil, or_false] at hp; rcases hp with rfl | rfl | rfl <;> first | exact ⟨by simp, (Fg6.out.2 (g5, a) (by simp))⟩ | exact ⟨by simp, (Fg6.out.2 (g_b, m) (by simp))⟩ | exact ⟨by simp, (Fg6.out.2 (g_a, x) (by simp))⟩)
        go_simp
        refine hK.out _ _ (⟨Env.cell (hs7) g5 (a) (by simp), Env.cell (hs7) g_b (m) (by simp)⟩) ?_
        clear hK K
        try simp only [Act.put, List.setIfInBounds_toArray, List.set_cons_zero, List.set_cons_succ]
        clear hs z0 z1 z2 z3 zl zf
        change Goes _ _ _ _ _ _ _ _ (fil wn6 g6 (mi))
        generalize fil wn6 g6 (mi) = wn7 at *
        have hs := hs7
        clear hs7
        refine Goes.take (i := 9) (o := { dst := some 7, op := _, type := _, pos := _, after := _, guard := _ }) (v := ?_) [] rfl (by kernel_rfl) (by kernel_rfl) (by kernel_rfl) (fun _ _ _ h => h) (by kernel_rfl) (fun L u h => h) (Or.inl ⟨by rfl, ?_⟩) (⟨Env.cell (hs) g5 (a) (by simp), Env.cell (hs) g_b (m) (by simp)⟩) ?_
        rotate_left
        · intro w hY; go_simp; try with_reducible rfl
        try simp only [Act.put, List.setIfInBounds_toArray, List.set_cons_zero, List.set_cons_succ]
        refine Goes.done (by kernel_rfl) ?_ _
        refine NoPanic.normal ?_
        go_wp2_with fail
        go_meet
        exact ⟨_, rfl, rfl, hid (hs.perm (by simp))⟩
    · skip
      go_simp
      refine hK.out _ _ (⟨Env.cell (hs.zero) g5 (a) (by simp), Env.cell (hs.zero) g_b (m) (by simp)⟩) ?_
      clear hK K
      try simp only [Act.put, List.setIfInBounds_toArray, List.set_cons_zero, List.set_cons_succ]
      have Fg6 := hid hs.fresh
      have hs8 := hs.zero
      clear hs
      generalize wd.alloc (.cells #[.int .u64 0, .int .u64 0, .int .u64 0, .int .u64 0] 24) = wn8 at *
      generalize wd.heap.size = g6 at *
      have hs := hs8
      clear hs8
      refine Goes.one (i := 0) (o := { dst := some 27, op := _, type := _, pos := _, after := _, guard := _ }) (by kernel_rfl) rfl (fun K hK => ?_)
      go_simp
      with_reducible refine (none_at hs).mono ?_
      rintro e wn9 ⟨rfl, hs9⟩
      go_wp2_with fail
      refine hK.out _ _ (⟨Env.cell (hs9) g5 (a) (by simp), Env.cell (hs9) g_b (m) (by simp)⟩) ?_
      clear hK K
      try simp only [Act.put, List.setIfInBounds_toArray, List.set_cons_zero, List.set_cons_succ]
      clear hs
      have hs := hs9
      clear hs9
      refine Goes.one (i := 3) (o := { dst := some 30, op := _, type := _, pos := _, after := _, guard := _ }) (by kernel_rfl) rfl (fun K hK => ?_)
      go_simp
      with_reducible refine (msub_at 0 a m mi hs ML.out M1.out (by have := M1.out; omega) AM.out MI.out).mono ?_
      rintro e wn10 ⟨rfl, hs10⟩
      go_wp2_with fail
      refine hK.out _ _ (⟨Env.cell (hs10) g5 (a) (by simp), Env.cell (hs10) g_b (m) (by simp)⟩) ?_
      clear hK K
      try simp only [Act.put, List.setIfInBounds_toArray, List.set_cons_zero, List.set_cons_succ]
      clear hs
      have hs := hs10
      clear hs10
      refine Goes.take (i := 4) (o := { dst := some 26, op := _, type := _, pos := _, after := _, guard := _ }) (v := ?_) [] rfl (by kernel_rfl) (by kernel_rfl) (by kernel_rfl) (fun _ _ _ h => h) (by kernel_rfl) (fun L u h => h) (Or.inl ⟨by rfl, ?_⟩) (⟨Env.cell (hs) g5 (a) (by simp), Env.cell (hs) g_b (m) (by simp)⟩) ?_
      rotate_left
      · intro w hY; go_simp; try with_reducible rfl
      try simp only [Act.put, List.setIfInBounds_toArray, List.set_cons_zero, List.set_cons_succ]
      refine Goes.take (i := 5) (o := { dst := some 31, op := _, type := _, pos := _, after := _, guard := _ }) (v := ?_) [] rfl (by kernel_rfl) (by kernel_rfl) (by kernel_rfl) (fun _ _ _ h => h) (by kernel_rfl) (fun L u h => h) (Or.inl ⟨by rfl, ?_⟩) (⟨Env.cell (hs) g5 (a) (by simp), Env.cell (hs) g_b (m) (by simp)⟩) ?_
      rotate_left
      · intro w hY; go_simp; try with_reducible rfl
      try simp only [Act.put, List.setIfInBounds_toArray, List.set_cons_zero, List.set_cons_succ]
      refine Goes.take (i := 6) (o := { dst := some 32, op := _, type := _, pos := _, after := _, guard := _ }) (v := ?_) [] rfl (by kernel_rfl) (by kernel_rfl) (by kernel_rfl) (fun _ _ _ h => h) (by kernel_rfl) (fun L u h => h) (Or.inl ⟨by rfl, ?_⟩) (⟨Env.cell (hs) g5 (a) (by simp), Env.cell (hs) g_b (m) (by simp)⟩) ?_
      rotate_left
      · intro w hY; go_simp; try with_reducible rfl
      try simp only [Act.put, List.setIfInBounds_toArray, List.set_cons_zero, List.set_cons_succ]
      refine Goes.one (i := 8) (o := { dst := none, op := _, type := _, pos := _, after := _, guard := _ }) (by kernel_rfl) rfl (fun K hK => ?_)
      obtain ⟨z0, z1, z2, z3⟩ := hs.cell g6 0 (by simp)
      have zl := hs.lt g6 0 (by simp)
      have zf := hs.frozen g6 0 (by simp)
      have hs11 := hs.set g6 0 (mi) [(g5, a), (g_b, m), (g_a, x)] (by simp) Fg6.out.1 (fun p hp => by simp only [List.mem_cons, List.not_mem_nil, or_false] at hp; rcases hp with rfl | rfl | rfl <;> first | exact ⟨by simp, (Fg6.out.2 (g5, a) (by simp))⟩ | exact ⟨by simp, (Fg6.out.2 (g_b, m) (by simp))⟩ | exact ⟨by simp, (Fg6.out.2 (g_a, x) (by simp))⟩)
      go_simp
      refine hK.out _ _ (⟨Env.cell (hs11) g5 (a) (by simp), Env.cell (hs11) g_b (m) (by simp)⟩) ?_
      clear hK K
      try simp only [Act.put, List.setIfInBounds_toArray, List.set_cons_zero, List.set_cons_succ]
      clear hs z0 z1 z2 z3 zl zf
      change Goes _ _ _ _ _ _ _ _ (fil wn10 g6 (mi))
      generalize fil wn10 g6 (mi) = wn11 at *
      have hs := hs11
      clear hs11
      refine Goes.take (i := 9) (o := { dst := some 7, op := _, type := _, pos := _, after := _, guard := _ }) (v := ?_) [] rfl (by kernel_rfl) (by kernel_rfl) (by kernel_rfl) (fun _ _ _ h => h) (by kernel_rfl) (fun L u h => h) (Or.inl ⟨by rfl, ?_⟩) (⟨Env.cell (hs) g5 (a) (by simp), Env.cell (hs) g_b (m) (by simp)⟩) ?_
      rotate_left
      · intro w hY; go_simp; try with_reducible rfl
      try simp only [Act.put, List.setIfInBounds_toArray, List.set_cons_zero, List.set_cons_succ]
      refine Goes.done (by kernel_rfl) ?_ _
      refine NoPanic.normal ?_
      go_wp2_with fail
      go_meet
      exact ⟨_, rfl, rfl, hid (hs.perm (by simp))⟩
  case rest =>
    obtain ⟨g6, rfl, rfl, H3c⟩ := hcut
    clear H2b
    obtain ⟨c0x3a, c0x3b, c0x3c, c0x3d⟩ := H3c.out.cell (g5) (a) (by simp)
    have c0x3l := H3c.out.lt (g5) (a) (by simp)
    have c0x3m := Nat.le_of_lt c0x3l
    obtain ⟨c6x3a, c6x3b, c6x3c, c6x3d⟩ := H3c.out.cell (g6) (mi) (by simp)
    have c6x3l := H3c.out.lt (g6) (mi) (by simp)
    have c6x3m := Nat.le_of_lt c6x3l
    obtain ⟨c12x3a, c12x3b, c12x3c, c12x3d⟩ := H3c.out.cell (g_b) (m) (by simp)
    have c12x3l := H3c.out.lt (g_b) (m) (by simp)
    have c12x3m := Nat.le_of_lt c12x3l
    go_wp2_with fail
    clear c0x3a c0x3b c0x3c c0x3d c0x3l c0x3m c6x3a c6x3b c6x3c c6x3d c6x3l c6x3m c12x3a c12x3b c12x3c c12x3d c12x3l c12x3m
    refine (madd_at a mi m 0 H3c.out ML.out M1.out AM.out MIL.out BK.out).mono ?_
    rintro e w4 ⟨rfl, h⟩
    have H4 := hid h
    clear h H3c
    go_upto_region 6 with fail
    have H4b := hid (H4.out.new 0)
    clear H4
    generalize w4.alloc (.cells (cls 0) 24) = w4b at *
    generalize w4.heap.size = g8 at *
    go_upto_region 6 with fail
    go_cut [10, 11] (fun s10 s11 wx => ∃ g10 : Nat, s10 = .pointer (some ⟨g10, 0, none⟩) ∧ s11 = .int .u64 0 ∧ Hid (Env w [(g10, la), (g8, 0), (g6, mi), (g5, a), (g_b, m), (g_a, x)] wx))
    case first =>
      have hs := H4b.out.drew
      refine wp_region_noPanic ?_
      refine Goes.region (fun (L : Array Bool) (w' : World) => (w'.cell? ⟨g_b, 0, none⟩ = some (.int .u64 (wd (m) 0 : Int)) ∧ w'.cell? ⟨g_b, 1, none⟩ = some (.int .u64 (wd (m) 1 : Int)) ∧ w'.cell? ⟨g_b, 2, none⟩ = some (.int .u64 (wd (m) 2 : Int)) ∧ w'.cell? ⟨g_b, 3, none⟩ = some (.int .u64 (wd (m) 3 : Int)))) (by kernel_rfl) ?_
      generalize w4b.drew = wd at *
      refine Goes.take (i := 0) (o := { dst := some 41, op := _, type := _, pos := _, after := _, guard := _ }) (v := ?_) [] rfl (by kernel_rfl) (by kernel_rfl) (by kernel_rfl) (fun _ _ _ h => h) (by kernel_rfl) (fun L u h => h) (Or.inl ⟨by rfl, ?_⟩) (Env.cell (hs) g_b (m) (by simp)) ?_
      rotate_left
      · intro w hY; obtain ⟨up, hL⟩ := hY; have hX := hL.2; clear hL; (try dsimp only at hX); go_simp; try with_reducible rfl
      try simp only [Act.put, List.setIfInBounds_toArray, List.set_cons_zero, List.set_cons_succ]
      refine Goes.two (i := 1) (j := 6) (o := { dst := some 42, op := _, type := _, pos := _, after := _, guard := _ }) (p := { dst := some 10, op := _, type := _, pos := _, after := _, guard := _ }) (by kernel_rfl) rfl rfl (fun K hK => ?_) (fun K hK => ?_)
      · skip
        go_simp
        with_reducible refine (ofl_at 1 1 hs (by decide) (by decide)).mono ?_
        rintro e wn1 ⟨rfl, hs1⟩
        go_wp2_with fail
        refine hK.out _ _ (Env.cell (hs1) g_b (m) (by simp)) ?_
        clear hK K
        try simp only [Act.put, List.setIfInBounds_toArray, List.set_cons_zero, List.set_cons_succ]
        clear hs
        have hs := hs1
        clear hs1
        refine Goes.two (i := 2) (j := 6) (o := { dst := some 43, op := _, type := _, pos := _, after := _, guard := _ }) (p := { dst := some 10, op := _, type := _, pos := _, after := _, guard := _ }) (by kernel_rfl) rfl rfl (fun K hK => ?_) (fun K hK => ?_)
        · skip
          go_simp
          with_reducible refine (sub_at m 1 la 0 hs ML.out (by decide) LA.out LB.out).mono ?_
          rintro e wn2 ⟨rfl, hs2⟩
          go_wp2_with fail
          refine hK.out _ _ (Env.cell (hs2) g_b (m) (by simp)) ?_
          clear hK K
          try simp only [Act.put, List.setIfInBounds_toArray, List.set_cons_zero, List.set_cons_succ]
          clear hs
          have hs := hs2
          clear hs2
          refine Goes.take (i := 3) (o := { dst := some 40, op := _, type := _, pos := _, after := _, guard := _ }) (v := ?_) [] rfl (by kernel_rfl) (by kernel_rfl) (by kernel_rfl) (fun _ _ _ h => h) (by kernel_rfl) (fun L u h => h) (Or.inl ⟨by rfl, ?_⟩) (Env.cell (hs) g_b (m) (by simp)) ?_
          rotate_left
          · intro w hY; go_simp; try with_reducible rfl
          try simp only [Act.put, List.setIfInBounds_toArray, List.set_cons_zero, List.set_cons_succ]
          refine Goes.take (i := 4) (o := { dst := some 44, op := _, type := _, pos := _, after := _, guard := _ }) (v := ?_) [] rfl (by kernel_rfl) (by kernel_rfl) (by kernel_rfl) (fun _ _ _ h => h) (by kernel_rfl) (fun L u h => h) (Or.inl ⟨by rfl, ?_⟩) (Env.cell (hs) g_b (m) (by simp)) ?_
          rotate_left
          · intro w hY; go_simp; try with_reducible rfl
          try simp only [Act.put, List.setIfInBounds_toArray, List.set_cons_zero, List.set_cons_succ]
          refine Goes.take (i := 5) (o := { dst := some 45, op := _, type := _, pos := _, after := _, guard := _ }) (v := ?_) [] rfl (by kernel_rfl) (by kernel_rfl) (by kernel_rfl) (fun _ _ _ h => h) (by kernel_rfl) (fun L u h => h) (Or.inl ⟨by rfl, ?_⟩) (Env.cell (hs) g_b (m) (by simp)) ?_
          rotate_left
          · intro w hY; go_simp; try with_reducible rfl
          try simp only [Act.put, List.setIfInBounds_toArray, List.set_cons_zero, List.set_cons_succ]
          refine Goes.one (i := 6) (o := { dst := some 10, op := _, type := _, pos := _, after := _, guard := _ }) (by kernel_rfl) rfl (fun K hK => ?_)
          go_simp
          refine hK.out _ _ (Env.cell (hs.zero) g_b (m) (by simp)) ?_
          clear hK K
          try simp only [Act.put, List.setIfInBounds_toArray, List.set_cons_zero, List.set_cons_succ]
          have Fg10 := hid hs.fresh
          have hs3 := hs.zero
          clear hs
          generalize wn2.alloc (.cells #[.int .u64 0, .int .u64 0, .int .u64 0, .int .u64 0] 24) = wn3 at *
          generalize wn2.heap.size = g10 at *
          have hs := hs3
          clear hs3
          refine Goes.one (i := 7) (o := { dst := none, op := _, type := _, pos := _, after := _, guard := _ }) (by kernel_rfl) rfl (fun K hK => ?_)
          obtain ⟨z0, z1, z2, z3⟩ := hs.cell g10 0 (by simp)
          have zl := hs.lt g10 0 (by simp)
          have zf := hs.frozen g10 0 (by simp)
          have hs4 := hs.set g10 0 (la) [(g8, 0), (g6, mi), (g5, a), (g_b, m), (g_a, x)] (by simp) Fg10.out.1 (fun p hp => by simp only [List.mem_cons, List.not_mem_nil, or_false] at hp; rcases hp with rfl | rfl | rfl | rfl | rfl <;> first | exact ⟨by simp, (Fg10.out.2 (g8, 0) (by simp))⟩ | exact ⟨by simp, (Fg10.out.2 (g6, mi) (by simp))⟩ | exact ⟨by simp, (Fg10.out.2 (g5, a) (by simp))⟩ | exact ⟨by simp, (Fg10.out.2 (g_b, m) (by simp))⟩ | exact ⟨by simp, (Fg10.out.2 (g_a, x) (by simp))⟩)
          go_simp
          refine hK.out _ _ (Env.cell (hs4) g_b (m) (by simp)) ?_
          clear hK K
          try simp only [Act.put, List.setIfInBounds_toArray, List.set_cons_zero, List.set_cons_succ]
          clear hs z0 z1 z2 z3 zl zf
          change Goes _ _ _ _ _ _ _ _ (fil wn3 g10 (la))
          generalize fil wn3 g10 (la) = wn4 at *
          have hs := hs4
          clear hs4
          refine Goes.take (i := 8) (o := { dst := some 11, op := _, type := _, pos := _, after := _, guard := _ }) (v := ?_) [] rfl (by kernel_rfl) (by kernel_rfl) (by kernel_rfl) (fun _ _ _ h => h) (by kernel_rfl) (fun L u h => h) (Or.inl ⟨by rfl, ?_⟩) (Env.cell (hs) g_b (m) (by simp)) ?_
          rotate_left
          · intro w hY; go_simp; try with_reducible rfl
          try simp only [Act.put, List.setIfInBounds_toArray, List.set_cons_zero, List.set_cons_succ]
          refine Goes.done (by kernel_rfl) ?_ _
          refine NoPanic.normal ?_
          go_wp2_with fail
          go_meet
          exact ⟨_, rfl, rfl, hid (hs.perm (by simp))⟩
        · skip
          go_simp
          refine hK.out _ _ (Env.cell (hs.zero) g_b (m) (by simp)) ?_
          clear hK K
          try simp only [Act.put, List.setIfInBounds_toArray, List.set_cons_zero, List.set_cons_succ]
          have Fg10 := hid hs.fresh
          have hs5 := hs.zero
          clear hs
          generalize wn1.alloc (.cells #[.int .u64 0, .int .u64 0, .int .u64 0, .int .u64 0] 24) = wn5 at *
          generalize wn1.heap.size = g10 at *
          have hs := hs5
          clear hs5
          refine Goes.one (i := 2) (o := { dst := some 43, op := _, type := _, pos := _, after := _, guard := _ }) (by kernel_rfl) rfl (fun K hK => ?_)
          go_simp
          with_reducible refine (sub_at m 1 la 0 hs ML.out (by decide) LA.out LB.out).mono ?_
          rintro e wn6 ⟨rfl, hs6⟩
          go_wp2_with fail
          refine hK.out _ _ (Env.cell (hs6) g_b (m) (by simp)) ?_
          clear hK K
          try simp only [Act.put, List.setIfInBounds_toArray, List.set_cons_zero, List.set_cons_succ]
          clear hs
          have hs := hs6
          clear hs6
          refine Goes.take (i := 3) (o := { dst := some 40, op := _, type := _, pos := _, after := _, guard := _ }) (v := ?_) [] rfl (by kernel_rfl) (by kernel_rfl) (by kernel_rfl) (fun _ _ _ h => h) (by kernel_rfl) (fun L u h => h) (Or.inl ⟨by rfl, ?_⟩) (Env.cell (hs) g_b (m) (by simp)) ?_
          rotate_left
          · intro w hY; go_simp; try with_reducible rfl
          try simp only [Act.put, List.setIfInBounds_toArray, List.set_cons_zero, List.set_cons_succ]
          refine Goes.take (i := 4) (o := { dst := some 44, op := _, type := _, pos := _, after := _, guard := _ }) (v := ?_) [] rfl (by kernel_rfl) (by kernel_rfl) (by kernel_rfl) (fun _ _ _ h => h) (by kernel_rfl) (fun L u h => h) (Or.inl ⟨by rfl, ?_⟩) (Env.cell (hs) g_b (m) (by simp)) ?_
          rotate_left
          · intro w hY; go_simp; try with_reducible rfl
          try simp only [Act.put, List.setIfInBounds_toArray, List.set_cons_zero, List.set_cons_succ]
          refine Goes.take (i := 5) (o := { dst := some 45, op := _, type := _, pos := _, after := _, guard := _ }) (v := ?_) [] rfl (by kernel_rfl) (by kernel_rfl) (by kernel_rfl) (fun _ _ _ h => h) (by kernel_rfl) (fun L u h => h) (Or.inl ⟨by rfl, ?_⟩) (Env.cell (hs) g_b (m) (by simp)) ?_
          rotate_left
          · intro w hY; go_simp; try with_reducible rfl
          try simp only [Act.put, List.setIfInBounds_toArray, List.set_cons_zero, List.set_cons_succ]
          refine Goes.one (i := 7) (o := { dst := none, op := _, type := _, pos := _, after := _, guard := _ }) (by kernel_rfl) rfl (fun K hK => ?_)
          obtain ⟨z0, z1, z2, z3⟩ := hs.cell g10 0 (by simp)
          have zl := hs.lt g10 0 (by simp)
          have zf := hs.frozen g10 0 (by simp)
          have hs7 := hs.set g10 0 (la) [(g8, 0), (g6, mi), (g5, a), (g_b, m), (g_a, x)] (by simp) Fg10.out.1 (fun p hp => by simp only [List.mem_cons, List.not_mem_nil, or_false] at hp; rcases hp with rfl | rfl | rfl | rfl | rfl <;> first | exact ⟨by simp, (Fg10.out.2 (g8, 0) (by simp))⟩ | exact ⟨by simp, (Fg10.out.2 (g6, mi) (by simp))⟩ | exact ⟨by simp, (Fg10.out.2 (g5, a) (by simp))⟩ | exact ⟨by simp, (Fg10.out.2 (g_b, m) (by simp))⟩ | exact ⟨by simp, (Fg10.out.2 (g_a, x) (by simp))⟩)
          go_simp
          refine hK.out _ _ (Env.cell (hs7) g_b (m) (by simp)) ?_
          clear hK K
          try simp only [Act.put, List.setIfInBounds_toArray, List.set_cons_zero, List.set_cons_succ]
          clear hs z0 z1 z2 z3 zl zf
          change Goes _ _ _ _ _ _ _ _ (fil wn6 g10 (la))
          generalize fil wn6 g10 (la) = wn7 at *
          have hs := hs7
          clear hs7
          refine Goes.take (i := 8) (o := { dst := some 11, op := _, type := _, pos := _, after := _, guard := _ }) (v := ?_) [] rfl (by kernel_rfl) (by kernel_rfl) (by kernel_rfl) (fun _ _ _ h => h) (by kernel_rfl) (fun L u h => h) (Or.inl ⟨by rfl, ?_⟩) (Env.cell (hs) g_b (m) (by simp)) ?_
          rotate_left
          · intro w hY; go_simp; try with_reducible rfl
          try simp only [Act.put, List.setIfInBounds_toArray, List.set_cons_zero, List.set_cons_succ]
          refine Goes.done (by kernel_rfl) ?_ _
          refine NoPanic.normal ?_
          go_wp2_with fail
          go_meet
          exact ⟨_, rfl, rfl, hid (hs.perm (by simp))⟩
      · skip
        go_simp
        refine hK.out _ _ (Env.cell (hs.zero) g_b (m) (by simp)) ?_
        clear hK K
        try simp only [Act.put, List.setIfInBounds_toArray, List.set_cons_zero, List.set_cons_succ]
        have Fg10 := hid hs.fresh
        have hs8 := hs.zero
        clear hs
        generalize wd.alloc (.cells #[.int .u64 0, .int .u64 0, .int .u64 0, .int .u64 0] 24) = wn8 at *
        generalize wd.heap.size = g10 at *
        have hs := hs8
        clear hs8
        refine Goes.one (i := 1) (o := { dst := some 42, op := _, type := _, pos := _, after := _, guard := _ }) (by kernel_rfl) rfl (fun K hK => ?_)
        go_simp
        with_reducible refine (ofl_at 1 1 hs (by decide) (by decide)).mono ?_
        rintro e wn9 ⟨rfl, hs9⟩
        go_wp2_with fail
        refine hK.out _ _ (Env.cell (hs9) g_b (m) (by simp)) ?_
        clear hK K
        try simp only [Act.put, List.setIfInBounds_toArray, List.set_cons_zero, List.set_cons_succ]
        clear hs
        have hs := hs9
        clear hs9
        refine Goes.one (i := 2) (o := { dst := some 43, op := _, type := _, pos := _, after := _, guard := _ }) (by kernel_rfl) rfl (fun K hK => ?_)
        go_simp
        with_reducible refine (sub_at m 1 la 0 hs ML.out (by decide) LA.out LB.out).mono ?_
        rintro e wn10 ⟨rfl, hs10⟩
        go_wp2_with fail
        refine hK.out _ _ (Env.cell (hs10) g_b (m) (by simp)) ?_
        clear hK K
        try simp only [Act.put, List.setIfInBounds_toArray, List.set_cons_zero, List.set_cons_succ]
        clear hs
        have hs := hs10
        clear hs10
        refine Goes.take (i := 3) (o := { dst := some 40, op := _, type := _, pos := _, after := _, guard := _ }) (v := ?_) [] rfl (by kernel_rfl) (by kernel_rfl) (by kernel_rfl) (fun _ _ _ h => h) (by kernel_rfl) (fun L u h => h) (Or.inl ⟨by rfl, ?_⟩) (Env.cell (hs) g_b (m) (by simp)) ?_
        rotate_left
        · intro w hY; go_simp; try with_reducible rfl
        try simp only [Act.put, List.setIfInBounds_toArray, List.set_cons_zero, List.set_cons_succ]
        refine Goes.take (i := 4) (o := { dst := some 44, op := _, type := _, pos := _, after := _, guard := _ }) (v := ?_) [] rfl (by kernel_rfl) (by kernel_rfl) (by kernel_rfl) (fun _ _ _ h => h) (by kernel_rfl) (fun L u h => h) (Or.inl ⟨by rfl, ?_⟩) (Env.cell (hs) g_b (m) (by simp)) ?_
        rotate_left
        · intro w hY; go_simp; try with_reducible rfl
        try simp only [Act.put, List.setIfInBounds_toArray, List.set_cons_zero, List.set_cons_succ]
        refine Goes.take (i := 5) (o := { dst := some 45, op := _, type := _, pos := _, after := _, guard := _ }) (v := ?_) [] rfl (by kernel_rfl) (by kernel_rfl) (by kernel_rfl) (fun _ _ _ h => h) (by kernel_rfl) (fun L u h => h) (Or.inl ⟨by rfl, ?_⟩) (Env.cell (hs) g_b (m) (by simp)) ?_
        rotate_left
        · intro w hY; go_simp; try with_reducible rfl
        try simp only [Act.put, List.setIfInBounds_toArray, List.set_cons_zero, List.set_cons_succ]
        refine Goes.one (i := 7) (o := { dst := none, op := _, type := _, pos := _, after := _, guard := _ }) (by kernel_rfl) rfl (fun K hK => ?_)
        obtain ⟨z0, z1, z2, z3⟩ := hs.cell g10 0 (by simp)
        have zl := hs.lt g10 0 (by simp)
        have zf := hs.frozen g10 0 (by simp)
        have hs11 := hs.set g10 0 (la) [(g8, 0), (g6, mi), (g5, a), (g_b, m), (g_a, x)] (by simp) Fg10.out.1 (fun p hp => by simp only [List.mem_cons, List.not_mem_nil, or_false] at hp; rcases hp with rfl | rfl | rfl | rfl | rfl <;> first | exact ⟨by simp, (Fg10.out.2 (g8, 0) (by simp))⟩ | exact ⟨by simp, (Fg10.out.2 (g6, mi) (by simp))⟩ | exact ⟨by simp, (Fg10.out.2 (g5, a) (by simp))⟩ | exact ⟨by simp, (Fg10.out.2 (g_b, m) (by simp))⟩ | exact ⟨by simp, (Fg10.out.2 (g_a, x) (by simp))⟩)
        go_simp
        refine hK.out _ _ (Env.cell (hs11) g_b (m) (by simp)) ?_
        clear hK K
        try simp only [Act.put, List.setIfInBounds_toArray, List.set_cons_zero, List.set_cons_succ]
        clear hs z0 z1 z2 z3 zl zf
        change Goes _ _ _ _ _ _ _ _ (fil wn10 g10 (la))
        generalize fil wn10 g10 (la) = wn11 at *
        have hs := hs11
        clear hs11
        refine Goes.take (i := 8) (o := { dst := some 11, op := _, type := _, pos := _, after := _, guard := _ }) (v := ?_) [] rfl (by kernel_rfl) (by kernel_rfl) (by kernel_rfl) (fun _ _ _ h => h) (by kernel_rfl) (fun L u h => h) (Or.inl ⟨by rfl, ?_⟩) (Env.cell (hs) g_b (m) (by simp)) ?_
        rotate_left
        · intro w hY; go_simp; try with_reducible rfl
        try simp only [Act.put, List.setIfInBounds_toArray, List.set_cons_zero, List.set_cons_succ]
        refine Goes.done (by kernel_rfl) ?_ _
        refine NoPanic.normal ?_
        go_wp2_with fail
        go_meet
        exact ⟨_, rfl, rfl, hid (hs.perm (by simp))⟩
    case rest =>
      obtain ⟨g10, rfl, rfl, H5c⟩ := hcut
      clear H4b
      obtain ⟨c0x5a, c0x5b, c0x5c, c0x5d⟩ := H5c.out.cell (g5) (a) (by simp)
      have c0x5l := H5c.out.lt (g5) (a) (by simp)
      have c0x5m := Nat.le_of_lt c0x5l
      obtain ⟨c6x5a, c6x5b, c6x5c, c6x5d⟩ := H5c.out.cell (g10) (la) (by simp)
      have c6x5l := H5c.out.lt (g10) (la) (by simp)
      have c6x5m := Nat.le_of_lt c6x5l
      obtain ⟨c12x5a, c12x5b, c12x5c, c12x5d⟩ := H5c.out.cell (g_b) (m) (by simp)
      have c12x5l := H5c.out.lt (g_b) (m) (by simp)
      have c12x5m := Nat.le_of_lt c12x5l
      go_wp2_with fail
      clear c0x5a c0x5b c0x5c c0x5d c0x5l c0x5m c6x5a c6x5b c6x5c c6x5d c6x5l c6x5m c12x5a c12x5b c12x5c c12x5d c12x5l c12x5m
      refine (madd_at a la m le H5c.out ML.out M1.out AM.out LAL.out LE2.out).mono ?_
      rintro e w6 ⟨rfl, h⟩
      have H6 := hid h
      clear h H5c
      go_upto_region 8 with fail
      have H6b := hid (H6.out.new le)
      clear H6
      generalize w6.alloc (.cells (cls le) 24) = w6b at *
      generalize w6.heap.size = g12 at *
      go_upto_region 8 with fail
      go_cut [14, 15] (fun s14 s15 wx => ∃ g14 : Nat, s14 = .pointer (some ⟨g14, 0, none⟩) ∧ s15 = .int .i64 0 ∧ Hid (Env w [(g14, le), (g12, le), (g10, la), (g8, 0), (g6, mi), (g5, a), (g_b, m), (g_a, x)] wx))
      case first =>
        have hs := H6b.out.drew
        refine wp_region_noPanic ?_
        refine Goes.region (fun (L : Array Bool) (w' : World) => (w'.cell? ⟨g5, 0, none⟩ = some (.int .u64 (wd (a) 0 : Int)) ∧ w'.cell? ⟨g5, 1, none⟩ = some (.int .u64 (wd (a) 1 : Int)) ∧ w'.cell? ⟨g5, 2, none⟩ = some (.int .u64 (wd (a) 2 : Int)) ∧ w'.cell? ⟨g5, 3, none⟩ = some (.int .u64 (wd (a) 3 : Int))) ∧ (w'.cell? ⟨g_b, 0, none⟩ = some (.int .u64 (wd (m) 0 : Int)) ∧ w'.cell? ⟨g_b, 1, none⟩ = some (.int .u64 (wd (m) 1 : Int)) ∧ w'.cell? ⟨g_b, 2, none⟩ = some (.int .u64 (wd (m) 2 : Int)) ∧ w'.cell? ⟨g_b, 3, none⟩ = some (.int .u64 (wd (m) 3 : Int)))) (by kernel_rfl) ?_
        generalize w6b.drew = wd at *
        refine Goes.take (i := 0) (o := { dst := some 54, op := _, type := _, pos := _, after := _, guard := _ }) (v := ?_) [] rfl (by kernel_rfl) (by kernel_rfl) (by kernel_rfl) (fun _ _ _ h => h) (by kernel_rfl) (fun L u h => h) (Or.inl ⟨by rfl, ?_⟩) (⟨Env.cell (hs) g5 (a) (by simp), Env.cell (hs) g_b (m) (by simp)⟩) ?_
        rotate_left
        · intro w hY; obtain ⟨up, hL⟩ := hY; have hX := hL.2.1; clear hL; (try dsimp only at hX); go_simp; try with_reducible rfl
        try simp only [Act.put, List.setIfInBounds_toArray, List.set_cons_zero, List.set_cons_succ]
        refine Goes.take (i := 2) (o := { dst := some 56, op := _, type := _, pos := _, after := _, guard := _ }) (v := ?_) [] rfl (by kernel_rfl) (by kernel_rfl) (by kernel_rfl) (fun _ _ _ h => h) (by kernel_rfl) (fun L u h => h) (Or.inl ⟨by rfl, ?_⟩) (⟨Env.cell (hs) g5 (a) (by simp), Env.cell (hs) g_b (m) (by simp)⟩) ?_
        rotate_left
        · intro w hY; obtain ⟨up, hL⟩ := hY; have hX := hL.2.2; clear hL; (try dsimp only at hX); go_simp; try with_reducible rfl
        try simp only [Act.put, List.setIfInBounds_toArray, List.set_cons_zero, List.set_cons_succ]
        refine Goes.two (i := 1) (j := 7) (o := { dst := some 55, op := _, type := _, pos := _, after := _, guard := _ }) (p := { dst := some 14, op := _, type := _, pos := _, after := _, guard := _ }) (by kernel_rfl) rfl rfl (fun K hK => ?_) (fun K hK => ?_)
        · skip
          go_simp
          with_reducible refine (ofl_at 1 1 hs (by decide) (by decide)).mono ?_
          rintro e wn1 ⟨rfl, hs1⟩
          go_wp2_with fail
          refine hK.out _ _ (⟨Env.cell (hs1) g5 (a) (by simp), Env.cell (hs1) g_b (m) (by simp)⟩) ?_
          clear hK K
          try simp only [Act.put, List.setIfInBounds_toArray, List.set_cons_zero, List.set_cons_succ]
          clear hs
          have hs := hs1
          clear hs1
          refine Goes.two (i := 3) (j := 7) (o := { dst := some 57, op := _, type := _, pos := _, after := _, guard := _ }) (p := { dst := some 14, op := _, type := _, pos := _, after := _, guard := _ }) (by kernel_rfl) rfl rfl (fun K hK => ?_) (fun K hK => ?_)
          · skip
            go_simp
            with_reducible refine (msub_at a 1 m le hs ML.out M1.out AM.out M1.out LE.out).mono ?_
            rintro e wn2 ⟨rfl, hs2⟩
            go_wp2_with fail
            refine hK.out _ _ (⟨Env.cell (hs2) g5 (a) (by simp), Env.cell (hs2) g_b (m) (by simp)⟩) ?_
            clear hK K
            try simp only [Act.put, List.setIfInBounds_toArray, List.set_cons_zero, List.set_cons_succ]
            clear hs
            have hs := hs2
            clear hs2
            refine Goes.take (i := 4) (o := { dst := some 53, op := _, type := _, pos := _, after := _, guard := _ }) (v := ?_) [] rfl (by kernel_rfl) (by kernel_rfl) (by kernel_rfl) (fun _ _ _ h => h) (by kernel_rfl) (fun L u h => h) (Or.inl ⟨by rfl, ?_⟩) (⟨Env.cell (hs) g5 (a) (by simp), Env.cell (hs) g_b (m) (by simp)⟩) ?_
            rotate_left
            · intro w hY; go_simp; try with_reducible rfl
            try simp only [Act.put, List.setIfInBounds_toArray, List.set_cons_zero, List.set_cons_succ]
            refine Goes.take (i := 5) (o := { dst := some 58, op := _, type := _, pos := _, after := _, guard := _ }) (v := ?_) [] rfl (by kernel_rfl) (by kernel_rfl) (by kernel_rfl) (fun _ _ _ h => h) (by kernel_rfl) (fun L u h => h) (Or.inl ⟨by rfl, ?_⟩) (⟨Env.cell (hs) g5 (a) (by simp), Env.cell (hs) g_b (m) (by simp)⟩) ?_
            rotate_left
            · intro w hY; go_simp; try with_reducible rfl
            try simp only [Act.put, List.setIfInBounds_toArray, List.set_cons_zero, List.set_cons_succ]
            refine Goes.take (i := 6) (o := { dst := some 59, op := _, type := _, pos := _, after := _, guard := _ }) (v := ?_) [] rfl (by kernel_rfl) (by kernel_rfl) (by kernel_rfl) (fun _ _ _ h => h) (by kernel_rfl) (fun L u h => h) (Or.inl ⟨by rfl, ?_⟩) (⟨Env.cell (hs) g5 (a) (by simp), Env.cell (hs) g_b (m) (by simp)⟩) ?_
            rotate_left
            · intro w hY; go_simp; try with_reducible rfl
            try simp only [Act.put, List.setIfInBounds_toArray, List.set_cons_zero, List.set_cons_succ]
            refine Goes.one (i := 7) (o := { dst := some 14, op := _, type := _, pos := _, after := _, guard := _ }) (by kernel_rfl) rfl (fun K hK => ?_)
            go_simp
            refine hK.out _ _ (⟨Env.cell (hs.zero) g5 (a) (by simp), Env.cell (hs.zero) g_b (m) (by simp)⟩) ?_
            clear hK K
            try simp only [Act.put, List.setIfInBounds_toArray, List.set_cons_zero, List.set_cons_succ]
            have Fg14 := hid hs.fresh
            have hs3 := hs.zero
            clear hs
            generalize wn2.alloc (.cells #[.int .u64 0, .int .u64 0, .int .u64 0, .int .u64 0] 24) = wn3 at *
            generalize wn2.heap.size = g14 at *
            have hs := hs3
            clear hs3
            refine Goes.one (i := 8) (o := { dst := none, op := _, type := _, pos := _, after := _, guard := _ }) (by kernel_rfl) rfl (fun K hK => ?_)
            obtain ⟨z0, z1, z2, z3⟩ := hs.cell g14 0 (by simp)
            have zl := hs.lt g14 0 (by simp)
            have zf := hs.frozen g14 0 (by simp)
            have hs4 := hs.set g14 0 (le) [(g12, le), (g10, la), (g8, 0), (g6, mi), (g5, a), (g_b, m), (g_a, x)] (by simp) Fg14.out.1 (fun p hp => by simp only [List.mem_cons, List.not_mem_nil, or_false] at hp; rcases hp with rfl | rfl | rfl | rfl | rfl | rfl | rfl <;> first | exact ⟨by simp, (Fg14.out.2 (g12, le) (by simp))⟩ | exact ⟨by simp, (Fg14.out.2 (g10, la) (by simp))⟩ | exact ⟨by simp, (Fg14.out.2 (g8, 0) (by simp))⟩ | exact ⟨by simp, (Fg14.out.2 (g6, mi) (by simp))⟩ | exact ⟨by simp, (Fg14.out.2 (g5, a) (by simp))⟩ | exact ⟨by simp, (Fg14.out.2 (g_b, m) (by simp))⟩ | exact ⟨by simp, (Fg14.out.2 (g_a, x) (by simp))⟩)
            go_simp
            refine hK.out _ _ (⟨Env.cell (hs4) g5 (a) (by simp), Env.cell (hs4) g_b (m) (by simp)⟩) ?_
            clear hK K
            try simp only [Act.put, List.setIfInBounds_toArray, List.set_cons_zero, List.set_cons_succ]
            clear hs z0 z1 z2 z3 zl zf
            change Goes _ _ _ _ _ _ _ _ (fil wn3 g14 (le))
            generalize fil wn3 g14 (le) = wn4 at *
            have hs := hs4
            clear hs4
            refine Goes.take (i := 9) (o := { dst := some 15, op := _, type := _, pos := _, after := _, guard := _ }) (v := ?_) [] rfl (by kernel_rfl) (by kernel_rfl) (by kernel_rfl) (fun _ _ _ h => h) (by kernel_rfl) (fun L u h => h) (Or.inl ⟨by rfl, ?_⟩) (⟨Env.cell (hs) g5 (a) (by simp), Env.cell (hs) g_b (m) (by simp)⟩) ?_
            rotate_left
            · intro w hY; go_simp; try with_reducible rfl
            try simp only [Act.put, List.setIfInBounds_toArray, List.set_cons_zero, List.set_cons_succ]
            refine Goes.done (by kernel_rfl) ?_ _
            refine NoPanic.normal ?_
            go_wp2_with fail
            go_meet
            exact ⟨_, rfl, rfl, hid (hs.perm (by simp))⟩
          · skip
            go_simp
            refine hK.out _ _ (⟨Env.cell (hs.zero) g5 (a) (by simp), Env.cell (hs.zero) g_b (m) (by simp)⟩) ?_
            clear hK K
            try simp only [Act.put, List.setIfInBounds_toArray, List.set_cons_zero, List.set_cons_succ]
            have Fg14 := hid hs.fresh
            have hs5 := hs.zero
            clear hs
            generalize wn1.alloc (.cells #[.int .u64 0, .int .u64 0, .int .u64 0, .int .u64 0] 24) = wn5 at *
            generalize wn1.heap.size = g14 at *
            have hs := hs5
            clear hs5
            refine Goes.one (i := 3) (o := { dst := some 57, op := _, type := _, pos := _, after := _, guard := _ }) (by kernel_rfl) rfl (fun K hK => ?_)
            go_simp
            with_reducible refine (msub_at a 1 m le hs ML.out M1.out AM.out M1.out LE.out).mono ?_
            rintro e wn6 ⟨rfl, hs6⟩
            go_wp2_with fail
            refine hK.out _ _ (⟨Env.cell (hs6) g5 (a) (by simp), Env.cell (hs6) g_b (m) (by simp)⟩) ?_
            clear hK K
            try simp only [Act.put, List.setIfInBounds_toArray, List.set_cons_zero, List.set_cons_succ]
            clear hs
            have hs := hs6
            clear hs6
            refine Goes.take (i := 4) (o := { dst := some 53, op := _, type := _, pos := _, after := _, guard := _ }) (v := ?_) [] rfl (by kernel_rfl) (by kernel_rfl) (by kernel_rfl) (fun _ _ _ h => h) (by kernel_rfl) (fun L u h => h) (Or.inl ⟨by rfl, ?_⟩) (⟨Env.cell (hs) g5 (a) (by simp), Env.cell (hs) g_b (m) (by simp)⟩) ?_
            rotate_left
            · intro w hY; go_simp; try with_reducible rfl
            try simp only [Act.put, List.setIfInBounds_toArray, List.set_cons_zero, List.set_cons_succ]
            refine Goes.take (i := 5) (o := { dst := some 58, op := _, type := _, pos := _, after := _, guard := _ }) (v := ?_) [] rfl (by kernel_rfl) (by kernel_rfl) (by kernel_rfl) (fun _ _ _ h => h) (by kernel_rfl) (fun L u h => h) (Or.inl ⟨by rfl, ?_⟩) (⟨Env.cell (hs) g5 (a) (by simp), Env.cell (hs) g_b (m) (by simp)⟩) ?_
            rotate_left
            · intro w hY; go_simp; try with_reducible rfl
            try simp only [Act.put, List.setIfInBounds_toArray, List.set_cons_zero, List.set_cons_succ]
            refine Goes.take (i := 6) (o := { dst := some 59, op := _, type := _, pos := _, after := _, guard := _ }) (v := ?_) [] rfl (by kernel_rfl) (by kernel_rfl) (by kernel_rfl) (fun _ _ _ h => h) (by kernel_rfl) (fun L u h => h) (Or.inl ⟨by rfl, ?_⟩) (⟨Env.cell (hs) g5 (a) (by simp), Env.cell (hs) g_b (m) (by simp)⟩) ?_
            rotate_left
            · intro w hY; go_simp; try with_reducible rfl
            try simp only [Act.put, List.setIfInBounds_toArray, List.set_cons_zero, List.set_cons_succ]
            refine Goes.one (i := 8) (o := { dst := none, op := _, type := _, pos := _, after := _, guard := _ }) (by kernel_rfl) rfl (fun K hK => ?_)
            obtain ⟨z0, z1, z2, z3⟩ := hs.cell g14 0 (by simp)
            have zl := hs.lt g14 0 (by simp)
            have zf := hs.frozen g14 0 (by simp)
            have hs7 := hs.set g14 0 (le) [(g12, le), (g10, la), (g8, 0), (g6, mi), (g5, a), (g_b, m), (g_a, x)] (by simp) Fg14.out.1 (fun p hp => by simp only [List.mem_cons, List.not_mem_nil, or_false] at hp; rcases hp with rfl | rfl | rfl | rfl | rfl | rfl | rfl <;> first | exact ⟨by simp, (Fg14.out.2 (g12, le) (by simp))⟩ | exact ⟨by simp, (Fg14.out.2 (g10, la) (by simp))⟩ | exact ⟨by simp, (Fg14.out.2 (g8, 0) (by simp))⟩ | exact ⟨by simp, (Fg14.out.2 (g6, mi) (by simp))⟩ | exact ⟨by simp, (Fg14.out.2 (g5, a) (by simp))⟩ | exact ⟨by simp, (Fg14.out.2 (g_b, m) (by simp))⟩ | exact ⟨by simp, (Fg14.out.2 (g_a, x) (by simp))⟩)
            go_simp
            refine hK.out _ _ (⟨Env.cell (hs7) g5 (a) (by simp), Env.cell (hs7) g_b (m) (by simp)⟩) ?_
            clear hK K
            try simp only [Act.put, List.setIfInBounds_toArray, List.set_cons_zero, List.set_cons_succ]
            clear hs z0 z1 z2 z3 zl zf
            change Goes _ _ _ _ _ _ _ _ (fil wn6 g14 (le))
            generalize fil wn6 g14 (le) = wn7 at *
            have hs := hs7
            clear hs7
            refine Goes.take (i := 9) (o := { dst := some 15, op := _, type := _, pos := _, after := _, guard := _ }) (v := ?_) [] rfl (by kernel_rfl) (by kernel_rfl) (by kernel_rfl) (fun _ _ _ h => h) (by kernel_rfl) (fun L u h => h) (Or.inl ⟨by rfl, ?_⟩) (⟨Env.cell (hs) g5 (a) (by simp), Env.cell (hs) g_b (m) (by simp)⟩) ?_
            rotate_left
            · intro w hY; go_simp; try with_reducible rfl
            try simp only [Act.put, List.setIfInBounds_toArray, List.set_cons_zero, List.set_cons_succ]
            refine Goes.done (by kernel_rfl) ?_ _
            refine NoPanic.normal ?_
            go_wp2_with fail
            go_meet
            exact ⟨_, rfl, rfl, hid (hs.perm (by simp))⟩
        · skip
          go_simp
          refine hK.out _ _ (⟨Env.cell (hs.zero) g5 (a) (by simp), Env.cell (hs.zero) g_b (m) (by simp)⟩) ?_
          clear hK K
          try simp only [Act.put, List.setIfInBounds_toArray, List.set_cons_zero, List.set_cons_succ]
          have Fg14 := hid hs.fresh
          have hs8 := hs.zero
          clear hs
          generalize wd.alloc (.cells #[.int .u64 0, .int .u64 0, .int .u64 0, .int .u64 0] 24) = wn8 at *
          generalize wd.heap.size = g14 at *
          have hs := hs8
          clear hs8
          refine Goes.one (i := 1) (o := { dst := some 55, op := _, type := _, pos := _, after := _, guard := _ }) (by kernel_rfl) rfl (fun K hK => ?_)
          go_simp
          with_reducible refine (ofl_at 1 1 hs (by decide) (by decide)).mono ?_
          rintro e wn9 ⟨rfl, hs9⟩
          go_wp2_with fail
          refine hK.out _ _ (⟨Env.cell (hs9) g5 (a) (by simp), Env.cell (hs9) g_b (m) (by simp)⟩) ?_
          clear hK K
          try simp only [Act.put, List.setIfInBounds_toArray, List.set_cons_zero, List.set_cons_succ]
          clear hs
          have hs := hs9
          clear hs9
          refine Goes.one (i := 3) (o := { dst := some 57, op := _, type := _, pos := _, after := _, guard := _ }) (by kernel_rfl) rfl (fun K hK => ?_)
          go_simp
          with_reducible refine (msub_at a 1 m le hs ML.out M1.out AM.out M1.out LE.out).mono ?_
          rintro e wn10 ⟨rfl, hs10⟩
          go_wp2_with fail
          refine hK.out _ _ (⟨Env.cell (hs10) g5 (a) (by simp), Env.cell (hs10) g_b (m) (by simp)⟩) ?_
          clear hK K
          try simp only [Act.put, List.setIfInBounds_toArray, List.set_cons_zero, List.set_cons_succ]
          clear hs
          have hs := hs10
          clear hs10
          refine Goes.take (i := 4) (o := { dst := some 53, op := _, type := _, pos := _, after := _, guard := _ }) (v := ?_) [] rfl (by kernel_rfl) (by kernel_rfl) (by kernel_rfl) (fun _ _ _ h => h) (by kernel_rfl) (fun L u h => h) (Or.inl ⟨by rfl, ?_⟩) (⟨Env.cell (hs) g5 (a) (by simp), Env.cell (hs) g_b (m) (by simp)⟩) ?_
          rotate_left
          · intro w hY; go_simp; try with_reducible rfl
          try simp only [Act.put, List.setIfInBounds_toArray, List.set_cons_zero, List.set_cons_succ]
          refine Goes.take (i := 5) (o := { dst := some 58, op := _, type := _, pos := _, after := _, guard := _ }) (v := ?_) [] rfl (by kernel_rfl) (by kernel_rfl) (by kernel_rfl) (fun _ _ _ h => h) (by kernel_rfl) (fun L u h => h) (Or.inl ⟨by rfl, ?_⟩) (⟨Env.cell (hs) g5 (a) (by simp), Env.cell (hs) g_b (m) (by simp)⟩) ?_
          rotate_left
          · intro w hY; go_simp; try with_reducible rfl
          try simp only [Act.put, List.setIfInBounds_toArray, List.set_cons_zero, List.set_cons_succ]
          refine Goes.take (i := 6) (o := { dst := some 59, op := _, type := _, pos := _, after := _, guard := _ }) (v := ?_) [] rfl (by kernel_rfl) (by kernel_rfl) (by kernel_rfl) (fun _ _ _ h => h) (by kernel_rfl) (fun L u h => h) (Or.inl ⟨by rfl, ?_⟩) (⟨Env.cell (hs) g5 (a) (by simp), Env.cell (hs) g_b (m) (by simp)⟩) ?_
          rotate_left
          · intro w hY; go_simp; try with_reducible rfl
          try simp only [Act.put, List.setIfInBounds_toArray, List.set_cons_zero, List.set_cons_succ]
          refine Goes.one (i := 8) (o := { dst := none, op := _, type := _, pos := _, after := _, guard := _ }) (by kernel_rfl) rfl (fun K hK => ?_)
          obtain ⟨z0, z1, z2, z3⟩ := hs.cell g14 0 (by simp)
          have zl := hs.lt g14 0 (by simp)
          have zf := hs.frozen g14 0 (by simp)
          have hs11 := hs.set g14 0 (le) [(g12, le), (g10, la), (g8, 0), (g6, mi), (g5, a), (g_b, m), (g_a, x)] (by simp) Fg14.out.1 (fun p hp => by simp only [List.mem_cons, List.not_mem_nil, or_false] at hp; rcases hp with rfl | rfl | rfl | rfl | rfl | rfl | rfl <;> first | exact ⟨by simp, (Fg14.out.2 (g12, le) (by simp))⟩ | exact ⟨by simp, (Fg14.out.2 (g10, la) (by simp))⟩ | exact ⟨by simp, (Fg14.out.2 (g8, 0) (by simp))⟩ | exact ⟨by simp, (Fg14.out.2 (g6, mi) (by simp))⟩ | exact ⟨by simp, (Fg14.out.2 (g5, a) (by simp))⟩ | exact ⟨by simp, (Fg14.out.2 (g_b, m) (by simp))⟩ | exact ⟨by simp, (Fg14.out.2 (g_a, x) (by simp))⟩)
          go_simp
          refine hK.out _ _ (⟨Env.cell (hs11) g5 (a) (by simp), Env.cell (hs11) g_b (m) (by simp)⟩) ?_
          clear hK K
          try simp only [Act.put, List.setIfInBounds_toArray, List.set_cons_zero, List.set_cons_succ]
          clear hs z0 z1 z2 z3 zl zf
          change Goes _ _ _ _ _ _ _ _ (fil wn10 g14 (le))
          generalize fil wn10 g14 (le) = wn11 at *
          have hs := hs11
          clear hs11
          refine Goes.take (i := 9) (o := { dst := some 15, op := _, type := _, pos := _, after := _, guard := _ }) (v := ?_) [] rfl (by kernel_rfl) (by kernel_rfl) (by kernel_rfl) (fun _ _ _ h => h) (by kernel_rfl) (fun L u h => h) (Or.inl ⟨by rfl, ?_⟩) (⟨Env.cell (hs) g5 (a) (by simp), Env.cell (hs) g_b (m) (by simp)⟩) ?_
          rotate_left
          · intro w hY; go_simp; try with_reducible rfl
          try simp only [Act.put, List.setIfInBounds_toArray, List.set_cons_zero, List.set_cons_succ]
          refine Goes.done (by kernel_rfl) ?_ _
          refine NoPanic.normal ?_
          go_wp2_with fail
          go_meet
          exact ⟨_, rfl, rfl, hid (hs.perm (by simp))⟩
      case rest =>
        obtain ⟨g14, rfl, rfl, H7c⟩ := hcut
        clear H6b
        obtain ⟨c0x7a, c0x7b, c0x7c, c0x7d⟩ := H7c.out.cell (g5) (a) (by simp)
        have c0x7l := H7c.out.lt (g5) (a) (by simp)
        have c0x7m := Nat.le_of_lt c0x7l
        obtain ⟨c6x7a, c6x7b, c6x7c, c6x7d⟩ := H7c.out.cell (g_b) (m) (by simp)
        have c6x7l := H7c.out.lt (g_b) (m) (by simp)
        have c6x7m := Nat.le_of_lt c6x7l
        go_wp2_with fail
        clear c0x7a c0x7b c0x7c c0x7d c0x7l c0x7m c6x7a c6x7b c6x7c c6x7d c6x7l c6x7m
        refine (madd_at a a m tw H7c.out ML.out M1.out AM.out AM.out TW.out).mono ?_
        rintro e w8 ⟨rfl, h⟩
        have H8 := hid h
        clear h H7c
        go_upto_region 10 with fail
        have H8b := hid (H8.out.new tw)
        clear H8
        generalize w8.alloc (.cells (cls tw) 24) = w8b at *
        generalize w8.heap.size = g16 at *
        go_upto_region 10 with fail
        go_cut [18, 19] (fun s18 s19 wx => ∃ g18 : Nat, s18 = .pointer (some ⟨g18, 0, none⟩) ∧ s19 = .int .i64 0 ∧ Hid (Env w [(g18, tw), (g16, tw), (g14, le), (g12, le), (g10, la), (g8, 0), (g6, mi), (g5, a), (g_b, m), (g_a, x)] wx))
        case first =>
          have hs := H8b.out.drew
          refine wp_region_noPanic ?_
          refine Goes.region (fun (L : Array Bool) (w' : World) => (w'.cell? ⟨g5, 0, none⟩ = some (.int .u64 (wd (a) 0 : Int)) ∧ w'.cell? ⟨g5, 1, none⟩ = some (.int .u64 (wd (a) 1 : Int)) ∧ w'.cell? ⟨g5, 2, none⟩ = some (.int .u64 (wd (a) 2 : Int)) ∧ w'.cell? ⟨g5, 3, none⟩ = some (.int .u64 (wd (a) 3 : Int))) ∧ (w'.cell? ⟨g_b, 0, none⟩ = some (.int .u64 (wd (m) 0 : Int)) ∧ w'.cell? ⟨g_b, 1, none⟩ = some (.int .u64 (wd (m) 1 : Int)) ∧ w'.cell? ⟨g_b, 2, none⟩ = some (.int .u64 (wd (m) 2 : Int)) ∧ w'.cell? ⟨g_b, 3, none⟩ = some (.int .u64 (wd (m) 3 : Int)))) (by kernel_rfl) ?_
          generalize w8b.drew = wd at *
          refine Goes.take (i := 0) (o := { dst := some 68, op := _, type := _, pos := _, after := _, guard := _ }) (v := ?_) [] rfl (by kernel_rfl) (by kernel_rfl) (by kernel_rfl) (fun _ _ _ h => h) (by kernel_rfl) (fun L u h => h) (Or.inl ⟨by rfl, ?_⟩) (⟨Env.cell (hs) g5 (a) (by simp), Env.cell (hs) g_b (m) (by simp)⟩) ?_
          rotate_left
          · intro w hY; obtain ⟨up, hL⟩ := hY; have hX := hL.2.1; clear hL; (try dsimp only at hX); go_simp; try with_reducible rfl
          try simp only [Act.put, List.setIfInBounds_toArray, List.set_cons_zero, List.set_cons_succ]
          refine Goes.take (i := 2) (o := { dst := some 70, op := _, type := _, pos := _, after := _, guard := _ }) (v := ?_) [] rfl (by kernel_rfl) (by kernel_rfl) (by kernel_rfl) (fun _ _ _ h => h) (by kernel_rfl) (fun L u h => h) (Or.inl ⟨by rfl, ?_⟩) (⟨Env.cell (hs) g5 (a) (by simp), Env.cell (hs) g_b (m) (by simp)⟩) ?_
          rotate_left
          · intro w hY; obtain ⟨up, hL⟩ := hY; have hX := hL.2.2; clear hL; (try dsimp only at hX); go_simp; try with_reducible rfl
          try simp only [Act.put, List.setIfInBounds_toArray, List.set_cons_zero, List.set_cons_succ]
          refine Goes.take (i := 4) (o := { dst := some 72, op := _, type := _, pos := _, after := _, guard := _ }) (v := ?_) [] rfl (by kernel_rfl) (by kernel_rfl) (by kernel_rfl) (fun _ _ _ h => h) (by kernel_rfl) (fun L u h => h) (Or.inl ⟨by rfl, ?_⟩) (⟨Env.cell (hs) g5 (a) (by simp), Env.cell (hs) g_b (m) (by simp)⟩) ?_
          rotate_left
          · intro w hY; obtain ⟨up, hL⟩ := hY; have hX := hL.2.2; clear hL; (try dsimp only at hX); go_simp; try with_reducible rfl
          try simp only [Act.put, List.setIfInBounds_toArray, List.set_cons_zero, List.set_cons_succ]
          refine Goes.two (i := 1) (j := 9) (o := { dst := some 69, op := _, type := _, pos := _, after := _, guard := _ }) (p := { dst := some 18, op := _, type := _, pos := _, after := _, guard := _ }) (by kernel_rfl) rfl rfl (fun K hK => ?_) (fun K hK => ?_)
          · skip
            go_simp
            with_reducible refine (ofl_at 2 2 hs (by decide) (by decide)).mono ?_
            rintro e wn1 ⟨rfl, hs1⟩
            go_wp2_with fail
            refine hK.out _ _ (⟨Env.cell (hs1) g5 (a) (by simp), Env.cell (hs1) g_b (m) (by simp)⟩) ?_
            clear hK K
            try simp only [Act.put, List.setIfInBounds_toArray, List.set_cons_zero, List.set_cons_succ]
            clear hs
            have hs := hs1
            clear hs1
            refine Goes.two (i := 3) (j := 9) (o := { dst := some 71, op := _, type := _, pos := _, after := _, guard := _ }) (p := { dst := some 18, op := _, type := _, pos := _, after := _, guard := _ }) (by kernel_rfl) rfl rfl (fun K hK => ?_) (fun K hK => ?_)
            · skip
              go_simp
              with_reducible refine (rest_at 2 m t2 hs (by decide) ML.out M0.out T2.out).mono ?_
              rintro e wn2 ⟨rfl, hs2⟩
              go_wp2_with fail
              refine hK.out _ _ (⟨Env.cell (hs2) g5 (a) (by simp), Env.cell (hs2) g_b (m) (by simp)⟩) ?_
              clear hK K
              try simp only [Act.put, List.setIfInBounds_toArray, List.set_cons_zero, List.set_cons_succ]
              clear hs
              have hs := hs2
              clear hs2
              refine Goes.two (i := 5) (j := 9) (o := { dst := some 73, op := _, type := _, pos := _, after := _, guard := _ }) (p := { dst := some 18, op := _, type := _, pos := _, after := _, guard := _ }) (by kernel_rfl) rfl rfl (fun K hK => ?_) (fun K hK => ?_)
              · skip
                go_simp
                with_reducible refine (mmul_at a t2 m tw hs ML.out M1.out AM.out T2L.out TM.out).mono ?_
                rintro e wn3 ⟨rfl, hs3⟩
                go_wp2_with fail
                refine hK.out _ _ (⟨Env.cell (hs3) g5 (a) (by simp), Env.cell (hs3) g_b (m) (by simp)⟩) ?_
                clear hK K
                try simp only [Act.put, List.setIfInBounds_toArray, List.set_cons_zero, List.set_cons_succ]
                clear hs
                have hs := hs3
                clear hs3
                refine Goes.take (i := 6) (o := { dst := some 67, op := _, type := _, pos := _, after := _, guard := _ }) (v := ?_) [] rfl (by kernel_rfl) (by kernel_rfl) (by kernel_rfl) (fun _ _ _ h => h) (by kernel_rfl) (fun L u h => h) (Or.inl ⟨by rfl, ?_⟩) (⟨Env.cell (hs) g5 (a) (by simp), Env.cell (hs) g_b (m) (by simp)⟩) ?_
                rotate_left
                · intro w hY; go_simp; try with_reducible rfl
                try simp only [Act.put, List.setIfInBounds_toArray, List.set_cons_zero, List.set_cons_succ]
                refine Goes.take (i := 7) (o := { dst := some 74, op := _, type := _, pos := _, after := _, guard := _ }) (v := ?_) [] rfl (by kernel_rfl) (by kernel_rfl) (by kernel_rfl) (fun _ _ _ h => h) (by kernel_rfl) (fun L u h => h) (Or.inl ⟨by rfl, ?_⟩) (⟨Env.cell (hs) g5 (a) (by simp), Env.cell (hs) g_b (m) (by simp)⟩) ?_
                rotate_left
                · intro w hY; go_simp; try with_reducible rfl
                try simp only [Act.put, List.setIfInBounds_toArray, List.set_cons_zero, List.set_cons_succ]
                refine Goes.take (i := 8) (o := { dst := some 75, op := _, type := _, pos := _, after := _, guard := _ }) (v := ?_) [] rfl (by kernel_rfl) (by kernel_rfl) (by kernel_rfl) (fun _ _ _ h => h) (by kernel_rfl) (fun L u h => h) (Or.inl ⟨by rfl, ?_⟩) (⟨Env.cell (hs) g5 (a) (by simp), Env.cell (hs) g_b (m) (by simp)⟩) ?_
                rotate_left
                · intro w hY; go_simp; try with_reducible rfl
                try simp only [Act.put, List.setIfInBounds_toArray, List.set_cons_zero, List.set_cons_succ]
                refine Goes.one (i := 9) (o := { dst := some 18, op := _, type := _, pos := _, after := _, guard := _ }) (by kernel_rfl) rfl (fun K hK => ?_)
                go_simp
                refine hK.out _ _ (⟨Env.cell (hs.zero) g5 (a) (by simp), Env.cell (hs.zero) g_b (m) (by simp)⟩) ?_
                clear hK K
                try simp only [Act.put, List.setIfInBounds_toArray, List.set_cons_zero, List.set_cons_succ]
                have Fg18 := hid hs.fresh
                have hs4 := hs.zero
                clear hs
                generalize wn3.alloc (.cells #[.int .u64 0, .int .u64 0, .int .u64 0, .int .u64 0] 24) = wn4 at *
                generalize wn3.heap.size = g18 at *
                have hs := hs4
                clear hs4
                refine Goes.one (i := 10) (o := { dst := none, op := _, type := _, pos := _, after := _, guard := _ }) (by kernel_rfl) rfl (fun K hK => ?_)
                obtain ⟨z0, z1, z2, z3⟩ := hs.cell g18 0 (by simp)
                have zl := hs.lt g18 0 (by simp)
                have zf := hs.frozen g18 0 (by simp)
                have hs5 := hs.set g18 0 (tw) [(g16, tw), (g14, le), (g12, le), (g10, la), (g8, 0), (g6, mi), (g5, a), (g_b, m), (g_a, x)] (by simp) Fg18.out.1 (fun p hp => by simp only [List.mem_cons, List.not_mem_nil, or_false] at hp; rcases hp with rfl | rfl | rfl | rfl | rfl | rfl | rfl | rfl | rfl <;> first | exact ⟨by simp, (Fg18.out.2 (g16, tw) (by simp))⟩ | exact ⟨by simp, (Fg18.out.2 (g14, le) (by simp))⟩ | exact ⟨by simp, (Fg18.out.2 (g12, le) (by simp))⟩ | exact ⟨by simp, (Fg18.out.2 (g10, la) (by simp))⟩ | exact ⟨by simp, (Fg18.out.2 (g8, 0) (by simp))⟩ | exact ⟨by simp, (Fg18.out.2 (g6, mi) (by simp))⟩ | exact ⟨by simp, (Fg18.out.2 (g5, a) (by simp))⟩ | exact ⟨by simp, (Fg18.out.2 (g_b, m) (by simp))⟩ | exact ⟨by simp, (Fg18.out.2 (g_a, x) (by simp))⟩)
                go_simp
                refine hK.out _ _ (⟨Env.cell (hs5) g5 (a) (by simp), Env.cell (hs5) g_b (m) (by simp)⟩) ?_
                clear hK K
                try simp only [Act.put, List.setIfInBounds_toArray, List.set_cons_zero, List.set_cons_succ]
                clear hs z0 z1 z2 z3 zl zf
                change Goes _ _ _ _ _ _ _ _ (fil wn4 g18 (tw))
                generalize fil wn4 g18 (tw) = wn5 at *
                have hs := hs5
                clear hs5
                refine Goes.take (i := 11) (o := { dst := some 19, op := _, type := _, pos := _, after := _, guard := _ }) (v := ?_) [] rfl (by kernel_rfl) (by kernel_rfl) (by kernel_rfl) (fun _ _ _ h => h) (by kernel_rfl) (fun L u h => h) (Or.inl ⟨by rfl, ?_⟩) (⟨Env.cell (hs) g5 (a) (by simp), Env.cell (hs) g_b (m) (by simp)⟩) ?_
                rotate_left
                · intro w hY; go_simp; try with_reducible rfl
                try simp only [Act.put, List.setIfInBounds_toArray, List.set_cons_zero, List.set_cons_succ]
                refine Goes.done (by kernel_rfl) ?_ _
                refine NoPanic.normal ?_
                go_wp2_with fail
                go_meet
                exact ⟨_, rfl, rfl, hid (hs.perm (by simp))⟩
              · skip
                go_simp
                refine hK.out _ _ (⟨Env.cell (hs.zero) g5 (a) (by simp), Env.cell (hs.zero) g_b (m) (by simp)⟩) ?_
                clear hK K
                try simp only [Act.put, List.setIfInBounds_toArray, List.set_cons_zero, List.set_cons_succ]
                have Fg18 := hid hs.fresh
                have hs6 := hs.zero
                clear hs
                generalize wn2.alloc (.cells #[.int .u64 0, .int .u64 0, .int .u64 0, .int .u64 0] 24) = wn6 at *
                generalize wn2.heap.size = g18 at *
                have hs := hs6
                clear hs6
                refine Goes.one (i := 5) (o := { dst := some 73, op := _, type := _, pos := _, after := _, guard := _ }) (by kernel_rfl) rfl (fun K hK => ?_)
                go_simp
                with_reducible refine (mmul_at a t2 m tw hs ML.out M1.out AM.out T2L.out TM.out).mono ?_
                rintro e wn7 ⟨rfl, hs7⟩
                go_wp2_with fail
                refine hK.out _ _ (⟨Env.cell (hs7) g5 (a) (by simp), Env.cell (hs7) g_b (m) (by simp)⟩) ?_
                clear hK K
                try simp only [Act.put, List.setIfInBounds_toArray, List.set_cons_zero, List.set_cons_succ]
                clear hs
                have hs := hs7
                clear hs7
                refine Goes.take (i := 6) (o := { dst := some 67, op := _, type := _, pos := _, after := _, guard := _ }) (v := ?_) [] rfl (by kernel_rfl) (by kernel_rfl) (by kernel_rfl) (fun _ _ _ h => h) (by kernel_rfl) (fun L u h => h) (Or.inl ⟨by rfl, ?_⟩) (⟨Env.cell (hs) g5 (a) (by simp), Env.cell (hs) g_b (m) (by simp)⟩) ?_
                rotate_left
                · intro w hY; go_simp; try with_reducible rfl
                try simp only [Act.put, List.setIfInBounds_toArray, List.set_cons_zero, List.set_cons_succ]
                refine Goes.take (i := 7) (o := { dst := some 74, op := _, type := _, pos := _, after := _, guard := _ }) (v := ?_) [] rfl (by kernel_rfl) (by kernel_rfl) (by kernel_rfl) (fun _ _ _ h => h) (by kernel_rfl) (fun L u h => h) (Or.inl ⟨by rfl, ?_⟩) (⟨Env.cell (hs) g5 (a) (by simp), Env.cell (hs) g_b (m) (by simp)⟩) ?_
                rotate_left
                · intro w hY; go_simp; try with_reducible rfl
                try simp only [Act.put, List.setIfInBounds_toArray, List.set_cons_zero, List.set_cons_succ]
                refine Goes.take (i := 8) (o := { dst := some 75, op := _, type := _, pos := _, after := _, guard := _ }) (v := ?_) [] rfl (by kernel_rfl) (by kernel_rfl) (by kernel_rfl) (fun _ _ _ h => h) (by kernel_rfl) (fun L u h => h) (Or.inl ⟨by rfl, ?_⟩) (⟨Env.cell (hs) g5 (a) (by simp), Env.cell (hs) g_b (m) (by simp)⟩) ?_
                rotate_left
                · intro w hY; go_simp; try with_reducible rfl
                try simp only [Act.put, List.setIfInBounds_toArray, List.set_cons_zero, List.set_cons_succ]
                refine Goes.one (i := 10) (o := { dst := none, op := _, type := _, pos := _, after := _, guard := _ }) (by kernel_rfl) rfl (fun K hK => ?_)
                obtain ⟨z0, z1, z2, z3⟩ := hs.cell g18 0 (by simp)
                have zl := hs.lt g18 0 (by simp)
                have zf := hs.frozen g18 0 (by simp)
                have hs8 := hs.set g18 0 (tw) [(g16, tw), (g14, le), (g12, le), (g10, la), (g8, 0), (g6, mi), (g5, a), (g_b, m), (g_a, x)] (by simp) Fg18.out.1 (fun p hp => by simp only [List.mem_cons, List.not_mem_nil, or_false] at hp; rcases hp with rfl | rfl | rfl | rfl | rfl | rfl | rfl | rfl | rfl <;> first | exact ⟨by simp, (Fg18.out.2 (g16, tw) (by simp))⟩ | exact ⟨by simp, (Fg18.out.2 (g14, le) (by simp))⟩ | exact ⟨by simp, (Fg18.out.2 (g12, le) (by simp))⟩ | exact ⟨by simp, (Fg18.out.2 (g10, la) (by simp))⟩ | exact ⟨by simp, (Fg18.out.2 (g8, 0) (by simp))⟩ | exact ⟨by simp, (Fg18.out.2 (g6, mi) (by simp))⟩ | exact ⟨by simp, (Fg18.out.2 (g5, a) (by simp))⟩ | exact ⟨by simp, (Fg18.out.2 (g_b, m) (by simp))⟩ | exact ⟨by simp, (Fg18.out.2 (g_a, x) (by simp))⟩)
                go_simp
                refine hK.out _ _ (⟨Env.cell (hs8) g5 (a) (by simp), Env.cell (hs8) g_b (m) (by simp)⟩) ?_
                clear hK K
                try simp only [Act.put, List.setIfInBounds_toArray, List.set_cons_zero, List.set_cons_succ]
                clear hs z0 z1 z2 z3 zl zf
                change Goes _ _ _ _ _ _ _ _ (fil wn7 g18 (tw))
                generalize fil wn7 g18 (tw) = wn8 at *
                have hs := hs8
                clear hs8
                refine Goes.take (i := 11) (o := { dst := some 19, op := _, type := _, pos := _, after := _, guard := _ }) (v := ?_) [] rfl (by kernel_rfl) (by kernel_rfl) (by kernel_rfl) (fun _ _ _ h => h) (by kernel_rfl) (fun L u h => h) (Or.inl ⟨by rfl, ?_⟩) (⟨Env.cell (hs) g5 (a) (by simp), Env.cell (hs) g_b (m) (by simp)⟩) ?_
                rotate_left
                · intro w hY; go_simp; try with_reducible rfl
                try simp only [Act.put, List.setIfInBounds_toArray, List.set_cons_zero, List.set_cons_succ]
                refine Goes.done (by kernel_rfl) ?_ _
                refine NoPanic.normal ?_
                go_wp2_with fail
                go_meet
                exact ⟨_, rfl, rfl, hid (hs.perm (by simp))⟩
            · skip
              go_simp
              refine hK.out _ _ (⟨Env.cell (hs.zero) g5 (a) (by simp), Env.cell (hs.zero) g_b (m) (by simp)⟩) ?_
              clear hK K
              try simp only [Act.put, List.setIfInBounds_toArray, List.set_cons_zero, List.set_cons_succ]
              have Fg18 := hid hs.fresh
              have hs9 := hs.zero
              clear hs
              generalize wn1.alloc (.cells #[.int .u64 0, .int .u64 0, .int .u64 0, .int .u64 0] 24) = wn9 at *
              generalize wn1.heap.size = g18 at *
              have hs := hs9
              clear hs9
              refine Goes.one (i := 3) (o := { dst := some 71, op := _, type := _, pos := _, after := _, guard := _ }) (by kernel_rfl) rfl (fun K hK => ?_)
              go_simp
              with_reducible refine (rest_at 2 m t2 hs (by decide) ML.out M0.out T2.out).mono ?_
              rintro e wn10 ⟨rfl, hs10⟩
              go_wp2_with fail
              refine hK.out _ _ (⟨Env.cell (hs10) g5 (a) (by simp), Env.cell (hs10) g_b (m) (by simp)⟩) ?_
              clear hK K
              try simp only [Act.put, List.setIfInBounds_toArray, List.set_cons_zero, List.set_cons_succ]
              clear hs
              have hs := hs10
              clear hs10
              refine Goes.one (i := 5) (o := { dst := some 73, op := _, type := _, pos := _, after := _, guard := _ }) (by kernel_rfl) rfl (fun K hK => ?_)
              go_simp
              with_reducible refine (mmul_at a t2 m tw hs ML.out M1.out AM.out T2L.out TM.out).mono ?_
              rintro e wn11 ⟨rfl, hs11⟩
              go_wp2_with fail
              refine hK.out _ _ (⟨Env.cell (hs11) g5 (a) (by simp), Env.cell (hs11) g_b (m) (by simp)⟩) ?_
              clear hK K
              try simp only [Act.put, List.setIfInBounds_toArray, List.set_cons_zero, List.set_cons_succ]
              clear hs
              have hs := hs11
              clear hs11
              refine Goes.take (i := 6) (o := { dst := some 67, op := _, type := _, pos := _, after := _, guard := _ }) (v := ?_) [] rfl (by kernel_rfl) (by kernel_rfl) (by kernel_rfl) (fun _ _ _ h => h) (by kernel_rfl) (fun L u h => h) (Or.inl ⟨by rfl, ?_⟩) (⟨Env.cell (hs) g5 (a) (by simp), Env.cell (hs) g_b (m) (by simp)⟩) ?_
              rotate_left
              · intro w hY; go_simp; try with_reducible rfl
              try simp only [Act.put, List.setIfInBounds_toArray, List.set_cons_zero, List.set_cons_succ]
              refine Goes.take (i := 7) (o := { dst := some 74, op := _, type := _, pos := _, after := _, guard := _ }) (v := ?_) [] rfl (by kernel_rfl) (by kernel_rfl) (by kernel_rfl) (fun _ _ _ h => h) (by kernel_rfl) (fun L u h => h) (Or.inl ⟨by rfl, ?_⟩) (⟨Env.cell (hs) g5 (a) (by simp), Env.cell (hs) g_b (m) (by simp)⟩) ?_
              rotate_left
              · intro w hY; go_simp; try with_reducible rfl
              try simp only [Act.put, List.setIfInBounds_toArray, List.set_cons_zero, List.set_cons_succ]
              refine Goes.take (i := 8) (o := { dst := some 75, op := _, type := _, pos := _, after := _, guard := _ }) (v := ?_) [] rfl (by kernel_rfl) (by kernel_rfl) (by kernel_rfl) (fun _ _ _ h => h) (by kernel_rfl) (fun L u h => h) (Or.inl ⟨by rfl, ?_⟩) (⟨Env.cell (hs) g5 (a) (by simp), Env.cell (hs) g_b (m) (by simp)⟩) ?_
              rotate_left
              · intro w hY; go_simp; try with_reducible rfl
              try simp only [Act.put, List.setIfInBounds_toArray, List.set_cons_zero, List.set_cons_succ]
              refine Goes.one (i := 10) (o := { dst := none, op := _, type := _, pos := _, after := _, guard := _ }) (by kernel_rfl) rfl (fun K hK => ?_)
              obtain ⟨z0, z1, z2, z3⟩ := hs.cell g18 0 (by simp)
              have zl := hs.lt g18 0 (by simp)
              have zf := hs.frozen g18 0 (by simp)
              have hs12 := hs.set g18 0 (tw) [(g16, tw), (g14, le), (g12, le), (g10, la), (g8, 0), (g6, mi), (g5, a), (g_b, m), (g_a, x)] (by simp) Fg18.out.1 (fun p hp => by simp only [List.mem_cons, List.not_mem_nil, or_false] at hp; rcases hp with rfl | rfl | rfl | rfl | rfl | rfl | rfl | rfl | rfl <;> first | exact ⟨by simp, (Fg18.out.2 (g16, tw) (by simp))⟩ | exact ⟨by simp, (Fg18.out.2 (g14, le) (by simp))⟩ | exact ⟨by simp, (Fg18.out.2 (g12, le) (by simp))⟩ | exact ⟨by simp, (Fg18.out.2 (g10, la) (by simp))⟩ | exact ⟨by simp, (Fg18.out.2 (g8, 0) (by simp))⟩ | exact ⟨by simp, (Fg18.out.2 (g6, mi) (by simp))⟩ | exact ⟨by simp, (Fg18.out.2 (g5, a) (by simp))⟩ | exact ⟨by simp, (Fg18.out.2 (g_b, m) (by simp))⟩ | exact ⟨by simp, (Fg18.out.2 (g_a, x) (by simp))⟩)
              go_simp
              refine hK.out _ _ (⟨Env.cell (hs12) g5 (a) (by simp), Env.cell (hs12) g_b (m) (by simp)⟩) ?_
              clear hK K
              try simp only [Act.put, List.setIfInBounds_toArray, List.set_cons_zero, List.set_cons_succ]
              clear hs z0 z1 z2 z3 zl zf
              change Goes _ _ _ _ _ _ _ _ (fil wn11 g18 (tw))
              generalize fil wn11 g18 (tw) = wn12 at *
              have hs := hs12
              clear hs12
              refine Goes.take (i := 11) (o := { dst := some 19, op := _, type := _, pos := _, after := _, guard := _ }) (v := ?_) [] rfl (by kernel_rfl) (by kernel_rfl) (by kernel_rfl) (fun _ _ _ h => h) (by kernel_rfl) (fun L u h => h) (Or.inl ⟨by rfl, ?_⟩) (⟨Env.cell (hs) g5 (a) (by simp), Env.cell (hs) g_b (m) (by simp)⟩) ?_
              rotate_left
              · intro w hY; go_simp; try with_reducible rfl
              try simp only [Act.put, List.setIfInBounds_toArray, List.set_cons_zero, List.set_cons_succ]
              refine Goes.done (by kernel_rfl) ?_ _
              refine NoPanic.normal ?_
              go_wp2_with fail
              go_meet
              exact ⟨_, rfl, rfl, hid (hs.perm (by simp))⟩
          · skip
            go_simp
            refine hK.out _ _ (⟨Env.cell (hs.zero) g5 (a) (by simp), Env.cell (hs.zero) g_b (m) (by simp)⟩) ?_
            clear hK K
            try simp only [Act.put, List.setIfInBounds_toArray, List.set_cons_zero, List.set_cons_succ]
            have Fg18 := hid hs.fresh
            have hs13 := hs.zero
            clear hs
            generalize wd.alloc (.cells #[.int .u64 0, .int .u64 0, .int .u64 0, .int .u64 0] 24) = wn13 at *
            generalize wd.heap.size = g18 at *
            have hs := hs13
            clear hs13
            refine Goes.one (i := 1) (o := { dst := some 69, op := _, type := _, pos := _, after := _, guard := _ }) (by kernel_rfl) rfl (fun K hK => ?_)
            go_simp
            with_reducible refine (ofl_at 2 2 hs (by decide) (by decide)).mono ?_
            rintro e wn14 ⟨rfl, hs14⟩
            go_wp2_with fail
            refine hK.out _ _ (⟨Env.cell (hs14) g5 (a) (by simp), Env.cell (hs14) g_b (m) (by simp)⟩) ?_
            clear hK K
            try simp only [Act.put, List.setIfInBounds_toArray, List.set_cons_zero, List.set_cons_succ]
            clear hs
            have hs := hs14
            clear hs14
            refine Goes.one (i := 3) (o := { dst := some 71, op := _, type := _, pos := _, after := _, guard := _ }) (by kernel_rfl) rfl (fun K hK => ?_)
            go_simp
            with_reducible refine (rest_at 2 m t2 hs (by decide) ML.out M0.out T2.out).mono ?_
            rintro e wn15 ⟨rfl, hs15⟩
            go_wp2_with fail
            refine hK.out _ _ (⟨Env.cell (hs15) g5 (a) (by simp), Env.cell (hs15) g_b (m) (by simp)⟩) ?_
            clear hK K
            try simp only [Act.put, List.setIfInBounds_toArray, List.set_cons_zero, List.set_cons_succ]
            clear hs
            have hs := hs15
            clear hs15
            refine Goes.one (i := 5) (o := { dst := some 73, op := _, type := _, pos := _, after := _, guard := _ }) (by kernel_rfl) rfl (fun K hK => ?_)
            go_simp
            with_reducible refine (mmul_at a t2 m tw hs ML.out M1.out AM.out T2L.out TM.out).mono ?_
            rintro e wn16 ⟨rfl, hs16⟩
            go_wp2_with fail
            refine hK.out _ _ (⟨Env.cell (hs16) g5 (a) (by simp), Env.cell (hs16) g_b (m) (by simp)⟩) ?_
            clear hK K
            try simp only [Act.put, List.setIfInBounds_toArray, List.set_cons_zero, List.set_cons_succ]
            clear hs
            have hs := hs16
            clear hs16
            refine Goes.take (i := 6) (o := { dst := some 67, op := _, type := _, pos := _, after := _, guard := _ }) (v := ?_) [] rfl (by kernel_rfl) (by kernel_rfl) (by kernel_rfl) (fun _ _ _ h => h) (by kernel_rfl) (fun L u h => h) (Or.inl ⟨by rfl, ?_⟩) (⟨Env.cell (hs) g5 (a) (by simp), Env.cell (hs) g_b (m) (by simp)⟩) ?_
            rotate_left
            · intro w hY; go_simp; try with_reducible rfl
            try simp only [Act.put, List.setIfInBounds_toArray, List.set_cons_zero, List.set_cons_succ]
            refine Goes.take (i := 7) (o := { dst := some 74, op := _, type := _, pos := _, after := _, guard := _ }) (v := ?_) [] rfl (by kernel_rfl) (by kernel_rfl) (by kernel_rfl) (fun _ _ _ h => h) (by kernel_rfl) (fun L u h => h) (Or.inl ⟨by rfl, ?_⟩) (⟨Env.cell (hs) g5 (a) (by simp), Env.cell (hs) g_b (m) (by simp)⟩) ?_
            rotate_left
            · intro w hY; go_simp; try with_reducible rfl
            try simp only [Act.put, List.setIfInBounds_toArray, List.set_cons_zero, List.set_cons_succ]
            refine Goes.take (i := 8) (o := { dst := some 75, op := _, type := _, pos := _, after := _, guard := _ }) (v := ?_) [] rfl (by kernel_rfl) (by kernel_rfl) (by kernel_rfl) (fun _ _ _ h => h) (by kernel_rfl) (fun L u h => h) (Or.inl ⟨by rfl, ?_⟩) (⟨Env.cell (hs) g5 (a) (by simp), Env.cell (hs) g_b (m) (by simp)⟩) ?_
            rotate_left
            · intro w hY; go_simp; try with_reducible rfl
            try simp only [Act.put, List.setIfInBounds_toArray, List.set_cons_zero, List.set_cons_succ]
            refine Goes.one (i := 10) (o := { dst := none, op := _, type := _, pos := _, after := _, guard := _ }) (by kernel_rfl) rfl (fun K hK => ?_)
            obtain ⟨z0, z1, z2, z3⟩ := hs.cell g18 0 (by simp)
            have zl := hs.lt g18 0 (by simp)
            have zf := hs.frozen g18 0 (by simp)
            have hs17 := hs.set g18 0 (tw) [(g16, tw), (g14, le), (g12, le), (g10, la), (g8, 0), (g6, mi), (g5, a), (g_b, m), (g_a, x)] (by simp) Fg18.out.1 (fun p hp => by simp only [List.mem_cons, List.not_mem_nil, or_false] at hp; rcases hp with rfl | rfl | rfl | rfl | rfl | rfl | rfl | rfl | rfl <;> first | exact ⟨by simp, (Fg18.out.2 (g16, tw) (by simp))⟩ | exact ⟨by simp, (Fg18.out.2 (g14, le) (by simp))⟩ | exact ⟨by simp, (Fg18.out.2 (g12, le) (by simp))⟩ | exact ⟨by simp, (Fg18.out.2 (g10, la) (by simp))⟩ | exact ⟨by simp, (Fg18.out.2 (g8, 0) (by simp))⟩ | exact ⟨by simp, (Fg18.out.2 (g6, mi) (by simp))⟩ | exact ⟨by simp, (Fg18.out.2 (g5, a) (by simp))⟩ | exact ⟨by simp, (Fg18.out.2 (g_b, m) (by simp))⟩ | exact ⟨by simp, (Fg18.out.2 (g_a, x) (by simp))⟩)
            go_simp
            refine hK.out _ _ (⟨Env.cell (hs17) g5 (a) (by simp), Env.cell (hs17) g_b (m) (by simp)⟩) ?_
            clear hK K
            try simp only [Act.put, List.setIfInBounds_toArray, List.set_cons_zero, List.set_cons_succ]
            clear hs z0 z1 z2 z3 zl zf
            change Goes _ _ _ _ _ _ _ _ (fil wn16 g18 (tw))
            generalize fil wn16 g18 (tw) = wn17 at *
            have hs := hs17
            clear hs17
            refine Goes.take (i := 11) (o := { dst := some 19, op := _, type := _, pos := _, after := _, guard := _ }) (v := ?_) [] rfl (by kernel_rfl) (by kernel_rfl) (by kernel_rfl) (fun _ _ _ h => h) (by kernel_rfl) (fun L u h => h) (Or.inl ⟨by rfl, ?_⟩) (⟨Env.cell (hs) g5 (a) (by simp), Env.cell (hs) g_b (m) (by simp)⟩) ?_
            rotate_left
            · intro w hY; go_simp; try with_reducible rfl
            try simp only [Act.put, List.setIfInBounds_toArray, List.set_cons_zero, List.set_cons_succ]
            refine Goes.done (by kernel_rfl) ?_ _
            refine NoPanic.normal ?_
            go_wp2_with fail
            go_meet
            exact ⟨_, rfl, rfl, hid (hs.perm (by simp))⟩
        case rest =>
          obtain ⟨g18, rfl, rfl, H9c⟩ := hcut
          clear H8b
          go_upto_region 11 with fail
          have hs := H9c.out.drew
          go_region_held3 (fun w' => (w'.cell? ⟨g8, 0, none⟩ = some (.int .u64 (wd (0) 0 : Int)) ∧ w'.cell? ⟨g8, 1, none⟩ = some (.int .u64 (wd (0) 1 : Int)) ∧ w'.cell? ⟨g8, 2, none⟩ = some (.int .u64 (wd (0) 2 : Int)) ∧ w'.cell? ⟨g8, 3, none⟩ = some (.int .u64 (wd (0) 3 : Int))) ∧ (w'.cell? ⟨g12, 0, none⟩ = some (.int .u64 (wd (le) 0 : Int)) ∧ w'.cell? ⟨g12, 1, none⟩ = some (.int .u64 (wd (le) 1 : Int)) ∧ w'.cell? ⟨g12, 2, none⟩ = some (.int .u64 (wd (le) 2 : Int)) ∧ w'.cell? ⟨g12, 3, none⟩ = some (.int .u64 (wd (le) 3 : Int))) ∧ (w'.cell? ⟨g14, 0, none⟩ = some (.int .u64 (wd (le) 0 : Int)) ∧ w'.cell? ⟨g14, 1, none⟩ = some (.int .u64 (wd (le) 1 : Int)) ∧ w'.cell? ⟨g14, 2, none⟩ = some (.int .u64 (wd (le) 2 : Int)) ∧ w'.cell? ⟨g14, 3, none⟩ = some (.int .u64 (wd (le) 3 : Int))) ∧ (w'.cell? ⟨g16, 0, none⟩ = some (.int .u64 (wd (tw) 0 : Int)) ∧ w'.cell? ⟨g16, 1, none⟩ = some (.int .u64 (wd (tw) 1 : Int)) ∧ w'.cell? ⟨g16, 2, none⟩ = some (.int .u64 (wd (tw) 2 : Int)) ∧ w'.cell? ⟨g16, 3, none⟩ = some (.int .u64 (wd (tw) 3 : Int))) ∧ (w'.cell? ⟨g18, 0, none⟩ = some (.int .u64 (wd (tw) 0 : Int)) ∧ w'.cell? ⟨g18, 1, none⟩ = some (.int .u64 (wd (tw) 1 : Int)) ∧ w'.cell? ⟨g18, 2, none⟩ = some (.int .u64 (wd (tw) 2 : Int)) ∧ w'.cell? ⟨g18, 3, none⟩ = some (.int .u64 (wd (tw) 3 : Int)))) (exact ⟨Env.cell (by assumption) _ _ (by simp), Env.cell (by assumption) _ _ (by simp), Env.cell (by assumption) _ _ (by simp), Env.cell (by assumption) _ _ (by simp), Env.cell (by assumption) _ _ (by simp)⟩) (first | ((go_at_call 20); (with_reducible refine (alive_at (by assumption)).mono ?_); rintro e wn ⟨rfl, hs⟩) | ((go_at_call 22); (with_reducible refine (none_at (by assumption)).mono ?_); rintro e wn ⟨rfl, hs⟩))
          go_wp2
          go_ret
          exact ⟨rfl, hs.1⟩
theorem roundLaw_any (x m : Nat) (w : World) (hx : x < 2 ^ 256) (hm : m < 2 ^ 256) : Calls Try.prog 4 #[num x, num m] w fun e w' => e = .returned (.bool true) ∧ Below w.heap.size w w' := by
  rcases Nat.lt_or_ge 1 m with h | h
  · exact round_some x m w hx hm h
  · exact round_low x m w hx hm h
end Go.Proofs.Ytmeofgnmmbcklaa

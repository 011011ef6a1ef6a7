/-
  burrowlaw04.ModsSteps, walked: it answers true at any three long numbers. Conditions: none.
-/
import Derived.Test.YtmeofgnmmbcklaaExf
namespace Go.Proofs.Ytmeofgnmmbcklaa
open Go.RowKit
set_option linter.unusedVariables false

theorem shf_half (n : Nat) : shf n (-1) = n / 2 := by
  unfold shf; rw [if_neg (by decide)]; show n / 2 ^ 1 = n / 2; rw [Nat.pow_one]
theorem shf_two (k : Nat) (h : k * 2 < 2 ^ 256) : shf k 1 = k * 2 := by
  unfold shf; rw [if_pos (by decide)]; show k * 2 ^ 1 % 2 ^ 256 = k * 2; rw [Nat.pow_one, Nat.mod_eq_of_lt h]
set_option maxRecDepth 100000 in
set_option maxHeartbeats 4000000 in
theorem steps_low (x n m : Nat) (w : World) (hx : x < 2 ^ 256) (hn : n < 2 ^ 256) (hm : m < 2 ^ 256) (h1 : m ≤ 1) : Calls Try.prog 6 #[num x, num n, num m] w fun e w' => e = .returned (.bool true) ∧ Below w.heap.size w w' := by
  have HV : Hid (decide (m ≤ 1) = true) := hid (by simpa using h1)
  have ML := hid hm
  clear hx hn hm h1
  have H0 := hid (((((Env.refl w).new x).new n).new m).perm (l' := [(w.heap.size + 1 + 1, m), (w.heap.size + 1, n), (w.heap.size, x)]) (by simp))
  go_enter Try.func6, Try.ntmps6
  go_wp2_with fail
  generalize ((w.alloc (.cells (cls x) 24)).alloc (.cells (cls n) 24)).alloc (.cells (cls m) 24) = w0 at *
  generalize w.heap.size + 1 + 1 = g_c at *
  generalize w.heap.size + 1 = g_b at *
  generalize hzg_a : w.heap.size = g_a at *
  refine (low_at m true H0.out ML.out HV.out).mono ?_
  rintro e w1 ⟨rfl, h⟩
  have H1 := hid h
  clear h H0
  go_wp2_with fail
  refine (alive_at H1.out).mono ?_
  rintro e w2 ⟨rfl, h⟩
  have H2 := hid h
  clear h H1
  go_wp2
  go_ret
  exact ⟨rfl, H2.out.1⟩
set_option maxRecDepth 100000 in
set_option maxHeartbeats 4000000 in
theorem steps_some (x n m : Nat) (w : World) (hx : x < 2 ^ 256) (hn : n < 2 ^ 256) (hm : m < 2 ^ 256) (h1 : 1 < m) : Calls Try.prog 6 #[num x, num n, num m] w fun e w' => e = .returned (.bool true) ∧ Below w.heap.size w w' := by
  have HV : Hid (decide (m ≤ 1) = false) := hid (by simpa using h1)
  have M1 := hid h1
  have ML := hid hm
  have XL := hid hx
  have NL := hid hn
  have M0 := hid (show m ≠ 0 by omega)
  obtain ⟨a, ea⟩ : ∃ z, x % m = z := ⟨_, rfl⟩
  have ha : a < m := by rw [← ea]; exact Nat.mod_lt _ (by omega)
  obtain ⟨k, ek⟩ : ∃ z, n / 2 = z := ⟨_, rfl⟩
  obtain ⟨nx, enx⟩ : ∃ z, k + 1 = z := ⟨_, rfl⟩
  obtain ⟨k2, ek2⟩ : ∃ z, k * 2 = z := ⟨_, rfl⟩
  have hk2 : k2 < 2 ^ 256 := by omega
  have hnx : nx < 2 ^ 256 := by rw [p256] at *; omega
  have hkl : k < 2 ^ 256 := by omega
  have hup := law_up a k m
  have hsq := law_sq a k m
  have hone := law_one n h1
  have hno := law_nought k m
  rw [enx] at hup hno
  rw [ek2] at hsq
  obtain ⟨p, ep⟩ : ∃ z, a ^ k % m = z := ⟨_, rfl⟩
  obtain ⟨q, eq⟩ : ∃ z, a ^ nx % m = z := ⟨_, rfl⟩
  obtain ⟨r, er⟩ : ∃ z, a ^ k2 % m = z := ⟨_, rfl⟩
  rw [ep, eq] at hup
  rw [ep, er] at hsq
  have hp : p < m := by rw [← ep]; exact Nat.mod_lt _ (by omega)
  have EA := hid ea
  have AM := hid ha
  have KL := hid hkl
  have K2L := hid hk2
  have NXL := hid hnx
  have UP := hid hup
  have SQ := hid hsq
  have ON := hid hone
  have NO := hid hno
  have EP := hid ep
  have EQ := hid eq
  have ER := hid er
  have PM := hid hp
  have SH1 := hid (show shf n (-1) = k by rw [shf_half, ek])
  have SH2 := hid (show shf k 1 = k2 by rw [shf_two k (by omega), ek2])
  have AD := hid (show (k + 1) % 2 ^ 256 = nx by rw [enx]; exact Nat.mod_eq_of_lt hnx)
  have AC := hid (show (((k + 1) / 2 ^ 256 : Nat) : Int) = 0 by rw [enx, Nat.div_eq_of_lt hnx]; rfl)
  have q0 := eq_yes 0 0 rfl
  have q1 := eq_yes 1 1 rfl
  have qq := eq_yes q q rfl
  have qr := eq_yes r r rfl
  clear hx hn hm h1 ha ea ek enx ek2 hk2 hnx hkl hup hsq hone hno ep eq er hp
  have H0 := hid (((((Env.refl w).new x).new n).new m).perm (l' := [(w.heap.size + 1 + 1, m), (w.heap.size + 1, n), (w.heap.size, x)]) (by simp))
  go_enter Try.func6, Try.ntmps6
  go_wp2_with fail
  generalize ((w.alloc (.cells (cls x) 24)).alloc (.cells (cls n) 24)).alloc (.cells (cls m) 24) = w0 at *
  generalize w.heap.size + 1 + 1 = g_c at *
  generalize w.heap.size + 1 = g_b at *
  generalize hzg_a : w.heap.size = g_a at *
  refine (low_at m false H0.out ML.out HV.out).mono ?_
  rintro e w1 ⟨rfl, h⟩
  have H1 := hid h
  clear h H0
  obtain ⟨c0x1a, c0x1b, c0x1c, c0x1d⟩ := H1.out.cell (g_a) (x) (by simp)
  have c0x1l := H1.out.lt (g_a) (x) (by simp)
  have c0x1m := Nat.le_of_lt c0x1l
  obtain ⟨c6x1a, c6x1b, c6x1c, c6x1d⟩ := H1.out.cell (g_c) (m) (by simp)
  have c6x1l := H1.out.lt (g_c) (m) (by simp)
  have c6x1m := Nat.le_of_lt c6x1l
  go_wp2_with fail
  clear c0x1a c0x1b c0x1c c0x1d c0x1l c0x1m c6x1a c6x1b c6x1c c6x1d c6x1l c6x1m
  refine (rest_at x m a H1.out XL.out ML.out M0.out EA.out).mono ?_
  rintro e w2 ⟨rfl, h⟩
  have H2 := hid h
  clear h H1
  obtain ⟨c0x2a, c0x2b, c0x2c, c0x2d⟩ := H2.out.cell (g_b) (n) (by simp)
  have c0x2l := H2.out.lt (g_b) (n) (by simp)
  have c0x2m := Nat.le_of_lt c0x2l
  go_wp2_with fail
  clear c0x2a c0x2b c0x2c c0x2d c0x2l c0x2m
  have H2b := hid (H2.out.new a)
  clear H2
  generalize w2.alloc (.cells (cls a) 24) = w2b at *
  generalize w2.heap.size = g7 at *
  refine (shift_at n k (-1) H2b.out NL.out (by decide) (by decide) SH1.out).mono ?_
  rintro e w3 ⟨rfl, h⟩
  have H3 := hid h
  clear h H2b
  go_upto_region 5 with fail
  have H3b := hid (H3.out.new k)
  clear H3
  generalize w3.alloc (.cells (cls k) 24) = w3b at *
  generalize w3.heap.size = g8 at *
  go_upto_region 5 with fail
  go_cut [9, 10] (fun s9 s10 wx => ∃ g9 : Nat, s9 = .pointer (some ⟨g9, 0, none⟩) ∧ s10 = .int .u64 0 ∧ Hid (Env w [(g9, nx), (g8, k), (g7, a), (g_c, m), (g_b, n), (g_a, x)] wx))
  case first =>
    have hs := H3b.out.drew
    refine wp_region_noPanic ?_
    refine Goes.region (fun (L : Array Bool) (w' : World) => (w'.cell? ⟨g8, 0, none⟩ = some (.int .u64 (wd (k) 0 : Int)) ∧ w'.cell? ⟨g8, 1, none⟩ = some (.int .u64 (wd (k) 1 : Int)) ∧ w'.cell? ⟨g8, 2, none⟩ = some (.int .u64 (wd (k) 2 : Int)) ∧ w'.cell? ⟨g8, 3, none⟩ = some (.int .u64 (wd (k) 3 : Int)))) (by kernel_rfl) ?_
    generalize w3b.drew = wd at *
    refine Goes.take (i := 0) (o := { dst := some 34, op := _, type := _, pos := _, after := _, guard := _ }) (v := ?_) [] rfl (by kernel_rfl) (by kernel_rfl) (by kernel_rfl) (fun _ _ _ h => h) (by kernel_rfl) (fun L u h => h) (Or.inl ⟨by rfl, ?_⟩) (Env.cell (hs) g8 (k) (by simp)) ?_
    rotate_left
    · intro w hY; obtain ⟨up, hL⟩ := hY; have hX := hL.2; clear hL; (try dsimp only at hX); go_simp; try with_reducible rfl
    try simp only [Act.put, List.setIfInBounds_toArray, List.set_cons_zero, List.set_cons_succ]
    refine Goes.two (i := 1) (j := 6) (o := { dst := some 35, op := _, type := _, pos := _, after := _, guard := _ }) (p := { dst := some 9, op := _, type := _, pos := _, after := _, guard := _ }) (by kernel_rfl) rfl rfl (fun K hK => ?_) (fun K hK => ?_)
    · skip
      go_simp
      with_reducible refine (ofl_at 1 1 hs (by decide) (by decide)).mono ?_
      rintro e wn1 ⟨rfl, hs1⟩
      go_wp2_with fail
      refine hK.out _ _ (Env.cell (hs1) g8 (k) (by simp)) ?_
      clear hK K
      try simp only [Act.put, List.setIfInBounds_toArray, List.set_cons_zero, List.set_cons_succ]
      clear hs
      have hs := hs1
      clear hs1
      refine Goes.two (i := 2) (j := 6) (o := { dst := some 36, op := _, type := _, pos := _, after := _, guard := _ }) (p := { dst := some 9, op := _, type := _, pos := _, after := _, guard := _ }) (by kernel_rfl) rfl rfl (fun K hK => ?_) (fun K hK => ?_)
      · skip
        go_simp
        with_reducible refine (add_at k 1 nx 0 hs KL.out (by decide) AD.out AC.out).mono ?_
        rintro e wn2 ⟨rfl, hs2⟩
        go_wp2_with fail
        refine hK.out _ _ (Env.cell (hs2) g8 (k) (by simp)) ?_
        clear hK K
        try simp only [Act.put, List.setIfInBounds_toArray, List.set_cons_zero, List.set_cons_succ]
        clear hs
        have hs := hs2
        clear hs2
        refine Goes.take (i := 3) (o := { dst := some 33, op := _, type := _, pos := _, after := _, guard := _ }) (v := ?_) [] rfl (by kernel_rfl) (by kernel_rfl) (by kernel_rfl) (fun _ _ _ h => h) (by kernel_rfl) (fun L u h => h) (Or.inl ⟨by rfl, ?_⟩) (Env.cell (hs) g8 (k) (by simp)) ?_
        rotate_left
        · intro w hY; go_simp; try with_reducible rfl
        try simp only [Act.put, List.setIfInBounds_toArray, List.set_cons_zero, List.set_cons_succ]
        refine Goes.take (i := 4) (o := { dst := some 37, op := _, type := _, pos := _, after := _, guard := _ }) (v := ?_) [] rfl (by kernel_rfl) (by kernel_rfl) (by kernel_rfl) (fun _ _ _ h => h) (by kernel_rfl) (fun L u h => h) (Or.inl ⟨by rfl, ?_⟩) (Env.cell (hs) g8 (k) (by simp)) ?_
        rotate_left
        · intro w hY; go_simp; try with_reducible rfl
        try simp only [Act.put, List.setIfInBounds_toArray, List.set_cons_zero, List.set_cons_succ]
        refine Goes.take (i := 5) (o := { dst := some 38, op := _, type := _, pos := _, after := _, guard := _ }) (v := ?_) [] rfl (by kernel_rfl) (by kernel_rfl) (by kernel_rfl) (fun _ _ _ h => h) (by kernel_rfl) (fun L u h => h) (Or.inl ⟨by rfl, ?_⟩) (Env.cell (hs) g8 (k) (by simp)) ?_
        rotate_left
        · intro w hY; go_simp; try with_reducible rfl
        try simp only [Act.put, List.setIfInBounds_toArray, List.set_cons_zero, List.set_cons_succ]
        refine Goes.one (i := 6) (o := { dst := some 9, op := _, type := _, pos := _, after := _, guard := _ }) (by kernel_rfl) rfl (fun K hK => ?_)
        go_simp
        refine hK.out _ _ (Env.cell (hs.zero) g8 (k) (by simp)) ?_
        clear hK K
        try simp only [Act.put, List.setIfInBounds_toArray, List.set_cons_zero, List.set_cons_succ]
        have Fg9 := hid hs.fresh
        have hs3 := hs.zero
        clear hs
        generalize wn2.alloc (.cells #[.int .u64 0, .int .u64 0, .int .u64 0, .int .u64 0] 24) = wn3 at *
        generalize wn2.heap.size = g9 at *
        have hs := hs3
        clear hs3
        refine Goes.one (i := 7) (o := { dst := none, op := _, type := _, pos := _, after := _, guard := _ }) (by kernel_rfl) rfl (fun K hK => ?_)
        obtain ⟨z0, z1, z2, z3⟩ := hs.cell g9 0 (by simp)
        have zl := hs.lt g9 0 (by simp)
        have zf := hs.frozen g9 0 (by simp)
        have hs4 := hs.set g9 0 (nx) [(g8, k), (g7, a), (g_c, m), (g_b, n), (g_a, x)] (by simp) Fg9.out.1 (fun p hp => by simp only [List.mem_cons, List.not_mem_nil, or_false] at hp; rcases hp with rfl | rfl | rfl | rfl | rfl <;> first | exact ⟨by simp, (Fg9.out.2 (g8, k) (by simp))⟩ | exact ⟨by simp, (Fg9.out.2 (g7, a) (by simp))⟩ | exact ⟨by simp, (Fg9.out.2 (g_c, m) (by simp))⟩ | exact ⟨by simp, (Fg9.out.2 (g_b, n) (by simp))⟩ | exact ⟨by simp, (Fg9.out.2 (g_a, x) (by simp))⟩)
        go_simp
        refine hK.out _ _ (Env.cell (hs4) g8 (k) (by simp)) ?_
        clear hK K
        try simp only [Act.put, List.setIfInBounds_toArray, List.set_cons_zero, List.set_cons_succ]
        clear hs z0 z1 z2 z3 zl zf
        change Goes _ _ _ _ _ _ _ _ (fil wn3 g9 (nx))
        generalize fil wn3 g9 (nx) = wn4 at *
        have hs := hs4
        clear hs4
        refine Goes.take (i := 8) (o := { dst := some 10, op := _, type := _, pos := _, after := _, guard := _ }) (v := ?_) [] rfl (by kernel_rfl) (by kernel_rfl) (by kernel_rfl) (fun _ _ _ h => h) (by kernel_rfl) (fun L u h => h) (Or.inl ⟨by rfl, ?_⟩) (Env.cell (hs) g8 (k) (by simp)) ?_
        rotate_left
        · intro w hY; go_simp; try with_reducible rfl
        try simp only [Act.put, List.setIfInBounds_toArray, List.set_cons_zero, List.set_cons_succ]
        refine Goes.done (by kernel_rfl) ?_ _
        refine NoPanic.normal ?_
        go_wp2_with fail
        go_meet
        exact ⟨_, rfl, rfl, hid (hs.perm (by simp))⟩
      · skip
        go_simp
        refine hK.out _ _ (Env.cell (hs.zero) g8 (k) (by simp)) ?_
        clear hK K
        try simp only [Act.put, List.setIfInBounds_toArray, List.set_cons_zero, List.set_cons_succ]
        have Fg9 := hid hs.fresh
        have hs5 := hs.zero
        clear hs
        generalize wn1.alloc (.cells #[.int .u64 0, .int .u64 0, .int .u64 0, .int .u64 0] 24) = wn5 at *
        generalize wn1.heap.size = g9 at *
        have hs := hs5
        clear hs5
        refine Goes.one (i := 2) (o := { dst := some 36, op := _, type := _, pos := _, after := _, guard := _ }) (by kernel_rfl) rfl (fun K hK => ?_)
        go_simp
        with_reducible refine (add_at k 1 nx 0 hs KL.out (by decide) AD.out AC.out).mono ?_
        rintro e wn6 ⟨rfl, hs6⟩
        go_wp2_with fail
        refine hK.out _ _ (Env.cell (hs6) g8 (k) (by simp)) ?_
        clear hK K
        try simp only [Act.put, List.setIfInBounds_toArray, List.set_cons_zero, List.set_cons_succ]
        clear hs
        have hs := hs6
        clear hs6
        refine Goes.take (i := 3) (o := { dst := some 33, op := _, type := _, pos := _, after := _, guard := _ }) (v := ?_) [] rfl (by kernel_rfl) (by kernel_rfl) (by kernel_rfl) (fun _ _ _ h => h) (by kernel_rfl) (fun L u h => h) (Or.inl ⟨by rfl, ?_⟩) (Env.cell (hs) g8 (k) (by simp)) ?_
        rotate_left
        · intro w hY; go_simp; try with_reducible rfl
        try simp only [Act.put, List.setIfInBounds_toArray, List.set_cons_zero, List.set_cons_succ]
        refine Goes.take (i := 4) (o := { dst := some 37, op := _, type := _, pos := _, after := _, guard := _ }) (v := ?_) [] rfl (by kernel_rfl) (by kernel_rfl) (by kernel_rfl) (fun _ _ _ h => h) (by kernel_rfl) (fun L u h => h) (Or.inl ⟨by rfl, ?_⟩) (Env.cell (hs) g8 (k) (by simp)) ?_
        rotate_left
        · intro w hY; go_simp; try with_reducible rfl
        try simp only [Act.put, List.setIfInBounds_toArray, List.set_cons_zero, List.set_cons_succ]
        refine Goes.take (i := 5) (o := { dst := some 38, op := _, type := _, pos := _, after := _, guard := _ }) (v := ?_) [] rfl (by kernel_rfl) (by kernel_rfl) (by kernel_rfl) (fun _ _ _ h => h) (by kernel_rfl) (fun L u h => h) (Or.inl ⟨by rfl, ?_⟩) (Env.cell (hs) g8 (k) (by simp)) ?_
        rotate_left
        · intro w hY; go_simp; try with_reducible rfl
        try simp only [Act.put, List.setIfInBounds_toArray, List.set_cons_zero, List.set_cons_succ]
        refine Goes.one (i := 7) (o := { dst := none, op := _, type := _, pos := _, after := _, guard := _ }) (by kernel_rfl) rfl (fun K hK => ?_)
        obtain ⟨z0, z1, z2, z3⟩ := hs.cell g9 0 (by simp)
        have zl := hs.lt g9 0 (by simp)
        have zf := hs.frozen g9 0 (by simp)
        have hs7 := hs.set g9 0 (nx) [(g8, k), (g7, a), (g_c, m), (g_b, n), (g_a, x)] (by simp) Fg9.out.1 (fun p hp => by simp only [List.mem_cons, List.not_mem_nil, or_false] at hp; rcases hp with rfl | rfl | rfl | rfl | rfl <;> first | exact ⟨by simp, (Fg9.out.2 (g8, k) (by simp))⟩ | exact ⟨by simp, (Fg9.out.2 (g7, a) (by simp))⟩ | exact ⟨by simp, (Fg9.out.2 (g_c, m) (by simp))⟩ | exact ⟨by simp, (Fg9.out.2 (g_b, n) (by simp))⟩ | exact ⟨by simp, (Fg9.out.2 (g_a, x) (by simp))⟩)
        go_simp
        refine hK.out _ _ (Env.cell (hs7) g8 (k) (by simp)) ?_
        clear hK K
        try simp only [Act.put, List.setIfInBounds_toArray, List.set_cons_zero, List.set_cons_succ]
        clear hs z0 z1 z2 z3 zl zf
        change Goes _ _ _ _ _ _ _ _ (fil wn6 g9 (nx))
        generalize fil wn6 g9 (nx) = wn7 at *
        have hs := hs7
        clear hs7
        refine Goes.take (i := 8) (o := { dst := some 10, op := _, type := _, pos := _, after := _, guard := _ }) (v := ?_) [] rfl (by kernel_rfl) (by kernel_rfl) (by kernel_rfl) (fun _ _ _ h => h) (by kernel_rfl) (fun L u h => h) (Or.inl ⟨by rfl, ?_⟩) (Env.cell (hs) g8 (k) (by simp)) ?_
        rotate_left
        · intro w hY; go_simp; try with_reducible rfl
        try simp only [Act.put, List.setIfInBounds_toArray, List.set_cons_zero, List.set_cons_succ]
        refine Goes.done (by kernel_rfl) ?_ _
        refine NoPanic.normal ?_
        go_wp2_with fail
        go_meet
        exact ⟨_, rfl, rfl, hid (hs.perm (by simp))⟩
    · skip
      go_simp
      refine hK.out _ _ (Env.cell (hs.zero) g8 (k) (by simp)) ?_
      clear hK K
      try simp only [Act.put, List.setIfInBounds_toArray, List.set_cons_zero, List.set_cons_succ]
      have Fg9 := hid hs.fresh
      have hs8 := hs.zero
      clear hs
      generalize wd.alloc (.cells #[.int .u64 0, .int .u64 0, .int .u64 0, .int .u64 0] 24) = wn8 at *
      generalize wd.heap.size = g9 at *
      have hs := hs8
      clear hs8
      refine Goes.one (i := 1) (o := { dst := some 35, op := _, type := _, pos := _, after := _, guard := _ }) (by kernel_rfl) rfl (fun K hK => ?_)
      go_simp
      with_reducible refine (ofl_at 1 1 hs (by decide) (by decide)).mono ?_
      rintro e wn9 ⟨rfl, hs9⟩
      go_wp2_with fail
      refine hK.out _ _ (Env.cell (hs9) g8 (k) (by simp)) ?_
      clear hK K
      try simp only [Act.put, List.setIfInBounds_toArray, List.set_cons_zero, List.set_cons_succ]
      clear hs
      have hs := hs9
      clear hs9
      refine Goes.one (i := 2) (o := { dst := some 36, op := _, type := _, pos := _, after := _, guard := _ }) (by kernel_rfl) rfl (fun K hK => ?_)
      go_simp
      with_reducible refine (add_at k 1 nx 0 hs KL.out (by decide) AD.out AC.out).mono ?_
      rintro e wn10 ⟨rfl, hs10⟩
      go_wp2_with fail
      refine hK.out _ _ (Env.cell (hs10) g8 (k) (by simp)) ?_
      clear hK K
      try simp only [Act.put, List.setIfInBounds_toArray, List.set_cons_zero, List.set_cons_succ]
      clear hs
      have hs := hs10
      clear hs10
      refine Goes.take (i := 3) (o := { dst := some 33, op := _, type := _, pos := _, after := _, guard := _ }) (v := ?_) [] rfl (by kernel_rfl) (by kernel_rfl) (by kernel_rfl) (fun _ _ _ h => h) (by kernel_rfl) (fun L u h => h) (Or.inl ⟨by rfl, ?_⟩) (Env.cell (hs) g8 (k) (by simp)) ?_
      rotate_left
      · intro w hY; go_simp; try with_reducible rfl
      try simp only [Act.put, List.setIfInBounds_toArray, List.set_cons_zero, List.set_cons_succ]
      refine Goes.take (i := 4) (o := { dst := some 37, op := _, type := _, pos := _, after := _, guard := _ }) (v := ?_) [] rfl (by kernel_rfl) (by kernel_rfl) (by kernel_rfl) (fun _ _ _ h => h) (by kernel_rfl) (fun L u h => h) (Or.inl ⟨by rfl, ?_⟩) (Env.cell (hs) g8 (k) (by simp)) ?_
      rotate_left
      · intro w hY; go_simp; try with_reducible rfl
      try simp only [Act.put, List.setIfInBounds_toArray, List.set_cons_zero, List.set_cons_succ]
      refine Goes.take (i := 5) (o := { dst := some 38, op := _, type := _, pos := _, after := _, guard := _ }) (v := ?_) [] rfl (by kernel_rfl) (by kernel_rfl) (by kernel_rfl) (fun _ _ _ h => h) (by kernel_rfl) (fun L u h => h) (Or.inl ⟨by rfl, ?_⟩) (Env.cell (hs) g8 (k) (by simp)) ?_
      rotate_left
      · intro w hY; go_simp; try with_reducible rfl
      try simp only [Act.put, List.setIfInBounds_toArray, List.set_cons_zero, List.set_cons_succ]
      refine Goes.one (i := 7) (o := { dst := none, op := _, type := _, pos := _, after := _, guard := _ }) (by kernel_rfl) rfl (fun K hK => ?_)
      obtain ⟨z0, z1, z2, z3⟩ := hs.cell g9 0 (by simp)
      have zl := hs.lt g9 0 (by simp)
      have zf := hs.frozen g9 0 (by simp)
      have hs11 := hs.set g9 0 (nx) [(g8, k), (g7, a), (g_c, m), (g_b, n), (g_a, x)] (by simp) Fg9.out.1 (fun p hp => by simp only [List.mem_cons, List.not_mem_nil, or_false] at hp; rcases hp with rfl | rfl | rfl | rfl | rfl <;> first | exact ⟨by simp, (Fg9.out.2 (g8, k) (by simp))⟩ | exact ⟨by simp, (Fg9.out.2 (g7, a) (by simp))⟩ | exact ⟨by simp, (Fg9.out.2 (g_c, m) (by simp))⟩ | exact ⟨by simp, (Fg9.out.2 (g_b, n) (by simp))⟩ | exact ⟨by simp, (Fg9.out.2 (g_a, x) (by simp))⟩)
      go_simp
      refine hK.out _ _ (Env.cell (hs11) g8 (k) (by simp)) ?_
      clear hK K
      try simp only [Act.put, List.setIfInBounds_toArray, List.set_cons_zero, List.set_cons_succ]
      clear hs z0 z1 z2 z3 zl zf
      change Goes _ _ _ _ _ _ _ _ (fil wn10 g9 (nx))
      generalize fil wn10 g9 (nx) = wn11 at *
      have hs := hs11
      clear hs11
      refine Goes.take (i := 8) (o := { dst := some 10, op := _, type := _, pos := _, after := _, guard := _ }) (v := ?_) [] rfl (by kernel_rfl) (by kernel_rfl) (by kernel_rfl) (fun _ _ _ h => h) (by kernel_rfl) (fun L u h => h) (Or.inl ⟨by rfl, ?_⟩) (Env.cell (hs) g8 (k) (by simp)) ?_
      rotate_left
      · intro w hY; go_simp; try with_reducible rfl
      try simp only [Act.put, List.setIfInBounds_toArray, List.set_cons_zero, List.set_cons_succ]
      refine Goes.done (by kernel_rfl) ?_ _
      refine NoPanic.normal ?_
      go_wp2_with fail
      go_meet
      exact ⟨_, rfl, rfl, hid (hs.perm (by simp))⟩
  case rest =>
    obtain ⟨g9, rfl, rfl, H4c⟩ := hcut
    clear H3b
    obtain ⟨c0x4a, c0x4b, c0x4c, c0x4d⟩ := H4c.out.cell (g7) (a) (by simp)
    have c0x4l := H4c.out.lt (g7) (a) (by simp)
    have c0x4m := Nat.le_of_lt c0x4l
    obtain ⟨c6x4a, c6x4b, c6x4c, c6x4d⟩ := H4c.out.cell (g8) (k) (by simp)
    have c6x4l := H4c.out.lt (g8) (k) (by simp)
    have c6x4m := Nat.le_of_lt c6x4l
    obtain ⟨c12x4a, c12x4b, c12x4c, c12x4d⟩ := H4c.out.cell (g_c) (m) (by simp)
    have c12x4l := H4c.out.lt (g_c) (m) (by simp)
    have c12x4m := Nat.le_of_lt c12x4l
    go_wp2_with fail
    clear c0x4a c0x4b c0x4c c0x4d c0x4l c0x4m c6x4a c6x4b c6x4c c6x4d c6x4l c6x4m c12x4a c12x4b c12x4c c12x4d c12x4l c12x4m
    refine (mexp_full_at a k m p H4c.out KL.out ML.out M1.out AM.out EP.out).mono ?_
    rintro e w5 ⟨rfl, h⟩
    have H5 := hid h
    clear h H4c
    obtain ⟨c0x5a, c0x5b, c0x5c, c0x5d⟩ := H5.out.cell (g7) (a) (by simp)
    have c0x5l := H5.out.lt (g7) (a) (by simp)
    have c0x5m := Nat.le_of_lt c0x5l
    obtain ⟨c6x5a, c6x5b, c6x5c, c6x5d⟩ := H5.out.cell (g9) (nx) (by simp)
    have c6x5l := H5.out.lt (g9) (nx) (by simp)
    have c6x5m := Nat.le_of_lt c6x5l
    obtain ⟨c12x5a, c12x5b, c12x5c, c12x5d⟩ := H5.out.cell (g_c) (m) (by simp)
    have c12x5l := H5.out.lt (g_c) (m) (by simp)
    have c12x5m := Nat.le_of_lt c12x5l
    go_wp2_with fail
    clear c0x5a c0x5b c0x5c c0x5d c0x5l c0x5m c6x5a c6x5b c6x5c c6x5d c6x5l c6x5m c12x5a c12x5b c12x5c c12x5d c12x5l c12x5m
    have H5b := hid (H5.out.new p)
    clear H5
    generalize w5.alloc (.cells (cls p) 24) = w5b at *
    generalize w5.heap.size = g11 at *
    refine (mexp_full_at a nx m q H5b.out NXL.out ML.out M1.out AM.out EQ.out).mono ?_
    rintro e w6 ⟨rfl, h⟩
    have H6 := hid h
    clear h H5b
    go_upto_region 8 with fail
    have H6b := hid (H6.out.new q)
    clear H6
    generalize w6.alloc (.cells (cls q) 24) = w6b at *
    generalize w6.heap.size = g13 at *
    go_upto_region 8 with fail
    go_cut [15, 16] (fun s15 s16 wx => ∃ g15 : Nat, s15 = .pointer (some ⟨g15, 0, none⟩) ∧ s16 = .int .i64 0 ∧ Hid (Env w [(g15, r), (g13, q), (g11, p), (g9, nx), (g8, k), (g7, a), (g_c, m), (g_b, n), (g_a, x)] wx))
    case first =>
      have hs := H6b.out.drew
      refine wp_region_noPanic ?_
      refine Goes.region (fun (L : Array Bool) (w' : World) => (w'.cell? ⟨g7, 0, none⟩ = some (.int .u64 (wd (a) 0 : Int)) ∧ w'.cell? ⟨g7, 1, none⟩ = some (.int .u64 (wd (a) 1 : Int)) ∧ w'.cell? ⟨g7, 2, none⟩ = some (.int .u64 (wd (a) 2 : Int)) ∧ w'.cell? ⟨g7, 3, none⟩ = some (.int .u64 (wd (a) 3 : Int))) ∧ (w'.cell? ⟨g8, 0, none⟩ = some (.int .u64 (wd (k) 0 : Int)) ∧ w'.cell? ⟨g8, 1, none⟩ = some (.int .u64 (wd (k) 1 : Int)) ∧ w'.cell? ⟨g8, 2, none⟩ = some (.int .u64 (wd (k) 2 : Int)) ∧ w'.cell? ⟨g8, 3, none⟩ = some (.int .u64 (wd (k) 3 : Int))) ∧ (w'.cell? ⟨g_c, 0, none⟩ = some (.int .u64 (wd (m) 0 : Int)) ∧ w'.cell? ⟨g_c, 1, none⟩ = some (.int .u64 (wd (m) 1 : Int)) ∧ w'.cell? ⟨g_c, 2, none⟩ = some (.int .u64 (wd (m) 2 : Int)) ∧ w'.cell? ⟨g_c, 3, none⟩ = some (.int .u64 (wd (m) 3 : Int)))) (by kernel_rfl) ?_
      generalize w6b.drew = wd at *
      refine Goes.take (i := 0) (o := { dst := some 54, op := _, type := _, pos := _, after := _, guard := _ }) (v := ?_) [] rfl (by kernel_rfl) (by kernel_rfl) (by kernel_rfl) (fun _ _ _ h => h) (by kernel_rfl) (fun L u h => h) (Or.inl ⟨by rfl, ?_⟩) (⟨Env.cell (hs) g7 (a) (by simp), Env.cell (hs) g8 (k) (by simp), Env.cell (hs) g_c (m) (by simp)⟩) ?_
      rotate_left
      · intro w hY; obtain ⟨up, hL⟩ := hY; have hX := hL.2.1; clear hL; (try dsimp only at hX); go_simp; try with_reducible rfl
      try simp only [Act.put, List.setIfInBounds_toArray, List.set_cons_zero, List.set_cons_succ]
      refine Goes.take (i := 1) (o := { dst := some 55, op := _, type := _, pos := _, after := _, guard := _ }) (v := ?_) [] rfl (by kernel_rfl) (by kernel_rfl) (by kernel_rfl) (fun _ _ _ h => h) (by kernel_rfl) (fun L u h => h) (Or.inl ⟨by rfl, ?_⟩) (⟨Env.cell (hs) g7 (a) (by simp), Env.cell (hs) g8 (k) (by simp), Env.cell (hs) g_c (m) (by simp)⟩) ?_
      rotate_left
      · intro w hY; obtain ⟨up, hL⟩ := hY; have hX := hL.2.2.1; clear hL; (try dsimp only at hX); go_simp; try with_reducible rfl
      try simp only [Act.put, List.setIfInBounds_toArray, List.set_cons_zero, List.set_cons_succ]
      refine Goes.take (i := 3) (o := { dst := some 57, op := _, type := _, pos := _, after := _, guard := _ }) (v := ?_) [] rfl (by kernel_rfl) (by kernel_rfl) (by kernel_rfl) (fun _ _ _ h => h) (by kernel_rfl) (fun L u h => h) (Or.inl ⟨by rfl, ?_⟩) (⟨Env.cell (hs) g7 (a) (by simp), Env.cell (hs) g8 (k) (by simp), Env.cell (hs) g_c (m) (by simp)⟩) ?_
      rotate_left
      · intro w hY; obtain ⟨up, hL⟩ := hY; have hX := hL.2.2.2; clear hL; (try dsimp only at hX); go_simp; try with_reducible rfl
      try simp only [Act.put, List.setIfInBounds_toArray, List.set_cons_zero, List.set_cons_succ]
      refine Goes.two (i := 2) (j := 8) (o := { dst := some 56, op := _, type := _, pos := _, after := _, guard := _ }) (p := { dst := some 15, op := _, type := _, pos := _, after := _, guard := _ }) (by kernel_rfl) rfl rfl (fun K hK => ?_) (fun K hK => ?_)
      · skip
        go_simp
        with_reducible refine (shift_at k k2 1 hs KL.out (by decide) (by decide) SH2.out).mono ?_
        rintro e wn1 ⟨rfl, hs1⟩
        go_wp2_with fail
        refine hK.out _ _ (⟨Env.cell (hs1) g7 (a) (by simp), Env.cell (hs1) g8 (k) (by simp), Env.cell (hs1) g_c (m) (by simp)⟩) ?_
        clear hK K
        try simp only [Act.put, List.setIfInBounds_toArray, List.set_cons_zero, List.set_cons_succ]
        clear hs
        have hs := hs1
        clear hs1
        refine Goes.two (i := 4) (j := 8) (o := { dst := some 58, op := _, type := _, pos := _, after := _, guard := _ }) (p := { dst := some 15, op := _, type := _, pos := _, after := _, guard := _ }) (by kernel_rfl) rfl rfl (fun K hK => ?_) (fun K hK => ?_)
        · skip
          go_simp
          with_reducible refine (mexp_full_at a k2 m r hs K2L.out ML.out M1.out AM.out ER.out).mono ?_
          rintro e wn2 ⟨rfl, hs2⟩
          go_wp2_with fail
          refine hK.out _ _ (⟨Env.cell (hs2) g7 (a) (by simp), Env.cell (hs2) g8 (k) (by simp), Env.cell (hs2) g_c (m) (by simp)⟩) ?_
          clear hK K
          try simp only [Act.put, List.setIfInBounds_toArray, List.set_cons_zero, List.set_cons_succ]
          clear hs
          have hs := hs2
          clear hs2
          refine Goes.take (i := 5) (o := { dst := some 53, op := _, type := _, pos := _, after := _, guard := _ }) (v := ?_) [] rfl (by kernel_rfl) (by kernel_rfl) (by kernel_rfl) (fun _ _ _ h => h) (by kernel_rfl) (fun L u h => h) (Or.inl ⟨by rfl, ?_⟩) (⟨Env.cell (hs) g7 (a) (by simp), Env.cell (hs) g8 (k) (by simp), Env.cell (hs) g_c (m) (by simp)⟩) ?_
          rotate_left
          · intro w hY; go_simp; try with_reducible rfl
          try simp only [Act.put, List.setIfInBounds_toArray, List.set_cons_zero, List.set_cons_succ]
          refine Goes.take (i := 6) (o := { dst := some 59, op := _, type := _, pos := _, after := _, guard := _ }) (v := ?_) [] rfl (by kernel_rfl) (by kernel_rfl) (by kernel_rfl) (fun _ _ _ h => h) (by kernel_rfl) (fun L u h => h) (Or.inl ⟨by rfl, ?_⟩) (⟨Env.cell (hs) g7 (a) (by simp), Env.cell (hs) g8 (k) (by simp), Env.cell (hs) g_c (m) (by simp)⟩) ?_
          rotate_left
          · intro w hY; go_simp; try with_reducible rfl
          try simp only [Act.put, List.setIfInBounds_toArray, List.set_cons_zero, List.set_cons_succ]
          refine Goes.take (i := 7) (o := { dst := some 60, op := _, type := _, pos := _, after := _, guard := _ }) (v := ?_) [] rfl (by kernel_rfl) (by kernel_rfl) (by kernel_rfl) (fun _ _ _ h => h) (by kernel_rfl) (fun L u h => h) (Or.inl ⟨by rfl, ?_⟩) (⟨Env.cell (hs) g7 (a) (by simp), Env.cell (hs) g8 (k) (by simp), Env.cell (hs) g_c (m) (by simp)⟩) ?_
          rotate_left
          · intro w hY; go_simp; try with_reducible rfl
          try simp only [Act.put, List.setIfInBounds_toArray, List.set_cons_zero, List.set_cons_succ]
          refine Goes.one (i := 8) (o := { dst := some 15, op := _, type := _, pos := _, after := _, guard := _ }) (by kernel_rfl) rfl (fun K hK => ?_)
          go_simp
          refine hK.out _ _ (⟨Env.cell (hs.zero) g7 (a) (by simp), Env.cell (hs.zero) g8 (k) (by simp), Env.cell (hs.zero) g_c (m) (by simp)⟩) ?_
          clear hK K
          try simp only [Act.put, List.setIfInBounds_toArray, List.set_cons_zero, List.set_cons_succ]
          have Fg15 := hid hs.fresh
          have hs3 := hs.zero
          clear hs
          generalize wn2.alloc (.cells #[.int .u64 0, .int .u64 0, .int .u64 0, .int .u64 0] 24) = wn3 at *
          generalize wn2.heap.size = g15 at *
          have hs := hs3
          clear hs3
          refine Goes.one (i := 9) (o := { dst := none, op := _, type := _, pos := _, after := _, guard := _ }) (by kernel_rfl) rfl (fun K hK => ?_)
          obtain ⟨z0, z1, z2, z3⟩ := hs.cell g15 0 (by simp)
          have zl := hs.lt g15 0 (by simp)
          have zf := hs.frozen g15 0 (by simp)
          have hs4 := hs.set g15 0 (r) [(g13, q), (g11, p), (g9, nx), (g8, k), (g7, a), (g_c, m), (g_b, n), (g_a, x)] (by simp) Fg15.out.1 (fun p hp => by simp only [List.mem_cons, List.not_mem_nil, or_false] at hp; rcases hp with rfl | rfl | rfl | rfl | rfl | rfl | rfl | rfl <;> first | exact ⟨by simp, (Fg15.out.2 (g13, q) (by simp))⟩ | exact ⟨by simp, (Fg15.out.2 (g11, p) (by simp))⟩ | exact ⟨by simp, (Fg15.out.2 (g9, nx) (by simp))⟩ | exact ⟨by simp, (Fg15.out.2 (g8, k) (by simp))⟩ | exact ⟨by simp, (Fg15.out.2 (g7, a) (by simp))⟩ | exact ⟨by simp, (Fg15.out.2 (g_c, m) (by simp))⟩ | exact ⟨by simp, (Fg15.out.2 (g_b, n) (by simp))⟩ | exact ⟨by simp, (Fg15.out.2 (g_a, x) (by simp))⟩)
          go_simp
          refine hK.out _ _ (⟨Env.cell (hs4) g7 (a) (by simp), Env.cell (hs4) g8 (k) (by simp), Env.cell (hs4) g_c (m) (by simp)⟩) ?_
          clear hK K
          try simp only [Act.put, List.setIfInBounds_toArray, List.set_cons_zero, List.set_cons_succ]
          clear hs z0 z1 z2 z3 zl zf
          change Goes _ _ _ _ _ _ _ _ (fil wn3 g15 (r))
          generalize fil wn3 g15 (r) = wn4 at *
          have hs := hs4
          clear hs4
          refine Goes.take (i := 10) (o := { dst := some 16, op := _, type := _, pos := _, after := _, guard := _ }) (v := ?_) [] rfl (by kernel_rfl) (by kernel_rfl) (by kernel_rfl) (fun _ _ _ h => h) (by kernel_rfl) (fun L u h => h) (Or.inl ⟨by rfl, ?_⟩) (⟨Env.cell (hs) g7 (a) (by simp), Env.cell (hs) g8 (k) (by simp), Env.cell (hs) g_c (m) (by simp)⟩) ?_
          rotate_left
          · intro w hY; go_simp; try with_reducible rfl
          try simp only [Act.put, List.setIfInBounds_toArray, List.set_cons_zero, List.set_cons_succ]
          refine Goes.done (by kernel_rfl) ?_ _
          refine NoPanic.normal ?_
          go_wp2_with fail
          go_meet
          exact ⟨_, rfl, rfl, hid (hs.perm (by simp))⟩
        · skip
          go_simp
          refine hK.out _ _ (⟨Env.cell (hs.zero) g7 (a) (by simp), Env.cell (hs.zero) g8 (k) (by simp), Env.cell (hs.zero) g_c (m) (by simp)⟩) ?_
          clear hK K
          try simp only [Act.put, List.setIfInBounds_toArray, List.set_cons_zero, List.set_cons_succ]
          have Fg15 := hid hs.fresh
          have hs5 := hs.zero
          clear hs
          generalize wn1.alloc (.cells #[.int .u64 0, .int .u64 0, .int .u64 0, .int .u64 0] 24) = wn5 at *
          generalize wn1.heap.size = g15 at *
          have hs := hs5
          clear hs5
          refine Goes.one (i := 4) (o := { dst := some 58, op := _, type := _, pos := _, after := _, guard := _ }) (by kernel_rfl) rfl (fun K hK => ?_)
          go_simp
          with_reducible refine (mexp_full_at a k2 m r hs K2L.out ML.out M1.out AM.out ER.out).mono ?_
          rintro e wn6 ⟨rfl, hs6⟩
          go_wp2_with fail
          refine hK.out _ _ (⟨Env.cell (hs6) g7 (a) (by simp), Env.cell (hs6) g8 (k) (by simp), Env.cell (hs6) g_c (m) (by simp)⟩) ?_
          clear hK K
          try simp only [Act.put, List.setIfInBounds_toArray, List.set_cons_zero, List.set_cons_succ]
          clear hs
          have hs := hs6
          clear hs6
          refine Goes.take (i := 5) (o := { dst := some 53, op := _, type := _, pos := _, after := _, guard := _ }) (v := ?_) [] rfl (by kernel_rfl) (by kernel_rfl) (by kernel_rfl) (fun _ _ _ h => h) (by kernel_rfl) (fun L u h => h) (Or.inl ⟨by rfl, ?_⟩) (⟨Env.cell (hs) g7 (a) (by simp), Env.cell (hs) g8 (k) (by simp), Env.cell (hs) g_c (m) (by simp)⟩) ?_
          rotate_left
          · intro w hY; go_simp; try with_reducible rfl
          try simp only [Act.put, List.setIfInBounds_toArray, List.set_cons_zero, List.set_cons_succ]
          refine Goes.take (i := 6) (o := { dst := some 59, op := _, type := _, pos := _, after := _, guard := _ }) (v := ?_) [] rfl (by kernel_rfl) (by kernel_rfl) (by kernel_rfl) (fun _ _ _ h => h) (by kernel_rfl) (fun L u h => h) (Or.inl ⟨by rfl, ?_⟩) (⟨Env.cell (hs) g7 (a) (by simp), Env.cell (hs) g8 (k) (by simp), Env.cell (hs) g_c (m) (by simp)⟩) ?_
          rotate_left
          · intro w hY; go_simp; try with_reducible rfl
          try simp only [Act.put, List.setIfInBounds_toArray, List.set_cons_zero, List.set_cons_succ]
          refine Goes.take (i := 7) (o := { dst := some 60, op := _, type := _, pos := _, after := _, guard := _ }) (v := ?_) [] rfl (by kernel_rfl) (by kernel_rfl) (by kernel_rfl) (fun _ _ _ h => h) (by kernel_rfl) (fun L u h => h) (Or.inl ⟨by rfl, ?_⟩) (⟨Env.cell (hs) g7 (a) (by simp), Env.cell (hs) g8 (k) (by simp), Env.cell (hs) g_c (m) (by simp)⟩) ?_
          rotate_left
          · intro w hY; go_simp; try with_reducible rfl
          try simp only [Act.put, List.setIfInBounds_toArray, List.set_cons_zero, List.set_cons_succ]
          refine Goes.one (i := 9) (o := { dst := none, op := _, type := _, pos := _, after := _, guard := _ }) (by kernel_rfl) rfl (fun K hK => ?_)
          obtain ⟨z0, z1, z2, z3⟩ := hs.cell g15 0 (by simp)
          have zl := hs.lt g15 0 (by simp)
          have zf := hs.frozen g15 0 (by simp)
          have hs7 := hs.set g15 0 (r) [(g13, q), (g11, p), (g9, nx), (g8, k), (g7, a), (g_c, m), (g_b, n), (g_a, x)] (by simp) Fg15.out.1 (fun p hp => by simp only [List.mem_cons, List.not_mem_nil, or_false] at hp; rcases hp with rfl | rfl | rfl | rfl | rfl | rfl | rfl | rfl <;> first | exact ⟨by simp, (Fg15.out.2 (g13, q) (by simp))⟩ | exact ⟨by simp, (Fg15.out.2 (g11, p) (by simp))⟩ | exact ⟨by simp, (Fg15.out.2 (g9, nx) (by simp))⟩ | exact ⟨by simp, (Fg15.out.2 (g8, k) (by simp))⟩ | exact ⟨by simp, (Fg15.out.2 (g7, a) (by simp))⟩ | exact ⟨by simp, (Fg15.out.2 (g_c, m) (by simp))⟩ | exact ⟨by simp, (Fg15.out.2 (g_b, n) (by simp))⟩ | exact ⟨by simp, (Fg15.out.2 (g_a, x) (by simp))⟩)
          go_simp
          refine hK.out _ _ (⟨Env.cell (hs7) g7 (a) (by simp), Env.cell (hs7) g8 (k) (by simp), Env.cell (hs7) g_c (m) (by simp)⟩) ?_
          clear hK K
          try simp only [Act.put, List.setIfInBounds_toArray, List.set_cons_zero, List.set_cons_succ]
          clear hs z0 z1 z2 z3 zl zf
          change Goes _ _ _ _ _ _ _ _ (fil wn6 g15 (r))
          generalize fil wn6 g15 (r) = wn7 at *
          have hs := hs7
          clear hs7
          refine Goes.take (i := 10) (o := { dst := some 16, op := _, type := _, pos := _, after := _, guard := _ }) (v := ?_) [] rfl (by kernel_rfl) (by kernel_rfl) (by kernel_rfl) (fun _ _ _ h => h) (by kernel_rfl) (fun L u h => h) (Or.inl ⟨by rfl, ?_⟩) (⟨Env.cell (hs) g7 (a) (by simp), Env.cell (hs) g8 (k) (by simp), Env.cell (hs) g_c (m) (by simp)⟩) ?_
          rotate_left
          · intro w hY; go_simp; try with_reducible rfl
          try simp only [Act.put, List.setIfInBounds_toArray, List.set_cons_zero, List.set_cons_succ]
          refine Goes.done (by kernel_rfl) ?_ _
          refine NoPanic.normal ?_
          go_wp2_with fail
          go_meet
          exact ⟨_, rfl, rfl, hid (hs.perm (by simp))⟩
      · skip
        go_simp
        refine hK.out _ _ (⟨Env.cell (hs.zero) g7 (a) (by simp), Env.cell (hs.zero) g8 (k) (by simp), Env.cell (hs.zero) g_c (m) (by simp)⟩) ?_
        clear hK K
        try simp only [Act.put, List.setIfInBounds_toArray, List.set_cons_zero, List.set_cons_succ]
        have Fg15 := hid hs.fresh
        have hs8 := hs.zero
        clear hs
        generalize wd.alloc (.cells #[.int .u64 0, .int .u64 0, .int .u64 0, .int .u64 0] 24) = wn8 at *
        generalize wd.heap.size = g15 at *
        have hs := hs8
        clear hs8
        refine Goes.one (i := 2) (o := { dst := some 56, op := _, type := _, pos := _, after := _, guard := _ }) (by kernel_rfl) rfl (fun K hK => ?_)
        go_simp
        with_reducible refine (shift_at k k2 1 hs KL.out (by decide) (by decide) SH2.out).mono ?_
        rintro e wn9 ⟨rfl, hs9⟩
        go_wp2_with fail
        refine hK.out _ _ (⟨Env.cell (hs9) g7 (a) (by simp), Env.cell (hs9) g8 (k) (by simp), Env.cell (hs9) g_c (m) (by simp)⟩) ?_
        clear hK K
        try simp only [Act.put, List.setIfInBounds_toArray, List.set_cons_zero, List.set_cons_succ]
        clear hs
        have hs := hs9
        clear hs9
        refine Goes.one (i := 4) (o := { dst := some 58, op := _, type := _, pos := _, after := _, guard := _ }) (by kernel_rfl) rfl (fun K hK => ?_)
        go_simp
        with_reducible refine (mexp_full_at a k2 m r hs K2L.out ML.out M1.out AM.out ER.out).mono ?_
        rintro e wn10 ⟨rfl, hs10⟩
        go_wp2_with fail
        refine hK.out _ _ (⟨Env.cell (hs10) g7 (a) (by simp), Env.cell (hs10) g8 (k) (by simp), Env.cell (hs10) g_c (m) (by simp)⟩) ?_
        clear hK K
        try simp only [Act.put, List.setIfInBounds_toArray, List.set_cons_zero, List.set_cons_succ]
        clear hs
        have hs := hs10
        clear hs10
        refine Goes.take (i := 5) (o := { dst := some 53, op := _, type := _, pos := _, after := _, guard := _ }) (v := ?_) [] rfl (by kernel_rfl) (by kernel_rfl) (by kernel_rfl) (fun _ _ _ h => h) (by kernel_rfl) (fun L u h => h) (Or.inl ⟨by rfl, ?_⟩) (⟨Env.cell (hs) g7 (a) (by simp), Env.cell (hs) g8 (k) (by simp), Env.cell (hs) g_c (m) (by simp)⟩) ?_
        rotate_left
        · intro w hY; go_simp; try with_reducible rfl
        try simp only [Act.put, List.setIfInBounds_toArray, List.set_cons_zero, List.set_cons_succ]
        refine Goes.take (i := 6) (o := { dst := some 59, op := _, type := _, pos := _, after := _, guard := _ }) (v := ?_) [] rfl (by kernel_rfl) (by kernel_rfl) (by kernel_rfl) (fun _ _ _ h => h) (by kernel_rfl) (fun L u h => h) (Or.inl ⟨by rfl, ?_⟩) (⟨Env.cell (hs) g7 (a) (by simp), Env.cell (hs) g8 (k) (by simp), Env.cell (hs) g_c (m) (by simp)⟩) ?_
        rotate_left
        · intro w hY; go_simp; try with_reducible rfl
        try simp only [Act.put, List.setIfInBounds_toArray, List.set_cons_zero, List.set_cons_succ]
        refine Goes.take (i := 7) (o := { dst := some 60, op := _, type := _, pos := _, after := _, guard := _ }) (v := ?_) [] rfl (by kernel_rfl) (by kernel_rfl) (by kernel_rfl) (fun _ _ _ h => h) (by kernel_rfl) (fun L u h => h) (Or.inl ⟨by rfl, ?_⟩) (⟨Env.cell (hs) g7 (a) (by simp), Env.cell (hs) g8 (k) (by simp), Env.cell (hs) g_c (m) (by simp)⟩) ?_
        rotate_left
        · intro w hY; go_simp; try with_reducible rfl
        try simp only [Act.put, List.setIfInBounds_toArray, List.set_cons_zero, List.set_cons_succ]
        refine Goes.one (i := 9) (o := { dst := none, op := _, type := _, pos := _, after := _, guard := _ }) (by kernel_rfl) rfl (fun K hK => ?_)
        obtain ⟨z0, z1, z2, z3⟩ := hs.cell g15 0 (by simp)
        have zl := hs.lt g15 0 (by simp)
        have zf := hs.frozen g15 0 (by simp)
        have hs11 := hs.set g15 0 (r) [(g13, q), (g11, p), (g9, nx), (g8, k), (g7, a), (g_c, m), (g_b, n), (g_a, x)] (by simp) Fg15.out.1 (fun p hp => by simp only [List.mem_cons, List.not_mem_nil, or_false] at hp; rcases hp with rfl | rfl | rfl | rfl | rfl | rfl | rfl | rfl <;> first | exact ⟨by simp, (Fg15.out.2 (g13, q) (by simp))⟩ | exact ⟨by simp, (Fg15.out.2 (g11, p) (by simp))⟩ | exact ⟨by simp, (Fg15.out.2 (g9, nx) (by simp))⟩ | exact ⟨by simp, (Fg15.out.2 (g8, k) (by simp))⟩ | exact ⟨by simp, (Fg15.out.2 (g7, a) (by simp))⟩ | exact ⟨by simp, (Fg15.out.2 (g_c, m) (by simp))⟩ | exact ⟨by simp, (Fg15.out.2 (g_b, n) (by simp))⟩ | exact ⟨by simp, (Fg15.out.2 (g_a, x) (by simp))⟩)
        go_simp
        refine hK.out _ _ (⟨Env.cell (hs11) g7 (a) (by simp), Env.cell (hs11) g8 (k) (by simp), Env.cell (hs11) g_c (m) (by simp)⟩) ?_
        clear hK K
        try simp only [Act.put, List.setIfInBounds_toArray, List.set_cons_zero, List.set_cons_succ]
        clear hs z0 z1 z2 z3 zl zf
        change Goes _ _ _ _ _ _ _ _ (fil wn10 g15 (r))
        generalize fil wn10 g15 (r) = wn11 at *
        have hs := hs11
        clear hs11
        refine Goes.take (i := 10) (o := { dst := some 16, op := _, type := _, pos := _, after := _, guard := _ }) (v := ?_) [] rfl (by kernel_rfl) (by kernel_rfl) (by kernel_rfl) (fun _ _ _ h => h) (by kernel_rfl) (fun L u h => h) (Or.inl ⟨by rfl, ?_⟩) (⟨Env.cell (hs) g7 (a) (by simp), Env.cell (hs) g8 (k) (by simp), Env.cell (hs) g_c (m) (by simp)⟩) ?_
        rotate_left
        · intro w hY; go_simp; try with_reducible rfl
        try simp only [Act.put, List.setIfInBounds_toArray, List.set_cons_zero, List.set_cons_succ]
        refine Goes.done (by kernel_rfl) ?_ _
        refine NoPanic.normal ?_
        go_wp2_with fail
        go_meet
        exact ⟨_, rfl, rfl, hid (hs.perm (by simp))⟩
    case rest =>
      obtain ⟨g15, rfl, rfl, H7c⟩ := hcut
      clear H6b
      obtain ⟨c0x7a, c0x7b, c0x7c, c0x7d⟩ := H7c.out.cell (g11) (p) (by simp)
      have c0x7l := H7c.out.lt (g11) (p) (by simp)
      have c0x7m := Nat.le_of_lt c0x7l
      obtain ⟨c6x7a, c6x7b, c6x7c, c6x7d⟩ := H7c.out.cell (g7) (a) (by simp)
      have c6x7l := H7c.out.lt (g7) (a) (by simp)
      have c6x7m := Nat.le_of_lt c6x7l
      obtain ⟨c12x7a, c12x7b, c12x7c, c12x7d⟩ := H7c.out.cell (g_c) (m) (by simp)
      have c12x7l := H7c.out.lt (g_c) (m) (by simp)
      have c12x7m := Nat.le_of_lt c12x7l
      go_wp2_with fail
      clear c0x7a c0x7b c0x7c c0x7d c0x7l c0x7m c6x7a c6x7b c6x7c c6x7d c6x7l c6x7m c12x7a c12x7b c12x7c c12x7d c12x7l c12x7m
      refine (mmul_at p a m q H7c.out ML.out M1.out PM.out AM.out UP.out).mono ?_
      rintro e w8 ⟨rfl, h⟩
      have H8 := hid h
      clear h H7c
      obtain ⟨c0x8a, c0x8b, c0x8c, c0x8d⟩ := H8.out.cell (g11) (p) (by simp)
      have c0x8l := H8.out.lt (g11) (p) (by simp)
      have c0x8m := Nat.le_of_lt c0x8l
      obtain ⟨c6x8a, c6x8b, c6x8c, c6x8d⟩ := H8.out.cell (g_c) (m) (by simp)
      have c6x8l := H8.out.lt (g_c) (m) (by simp)
      have c6x8m := Nat.le_of_lt c6x8l
      go_wp2_with fail
      clear c0x8a c0x8b c0x8c c0x8d c0x8l c0x8m c6x8a c6x8b c6x8c c6x8d c6x8l c6x8m
      have H8b := hid (H8.out.new q)
      clear H8
      generalize w8.alloc (.cells (cls q) 24) = w8b at *
      generalize w8.heap.size = g17 at *
      refine (mmul_at p p m r H8b.out ML.out M1.out PM.out PM.out SQ.out).mono ?_
      rintro e w9 ⟨rfl, h⟩
      have H9 := hid h
      clear h H8b
      go_upto_region 11 with fail
      have H9b := hid (H9.out.new r)
      clear H9
      generalize w9.alloc (.cells (cls r) 24) = w9b at *
      generalize w9.heap.size = g19 at *
      go_upto_region 11 with fail
      go_cut [21, 22] (fun s21 s22 wx => ∃ g21 : Nat, s21 = .pointer (some ⟨g21, 0, none⟩) ∧ s22 = .int .i64 0 ∧ Hid (Env w [(g21, 1), (g19, r), (g17, q), (g15, r), (g13, q), (g11, p), (g9, nx), (g8, k), (g7, a), (g_c, m), (g_b, n), (g_a, x)] wx))
      case first =>
        have hs := H9b.out.drew
        refine wp_region_noPanic ?_
        refine Goes.region (fun (L : Array Bool) (w' : World) => (w'.cell? ⟨g_b, 0, none⟩ = some (.int .u64 (wd (n) 0 : Int)) ∧ w'.cell? ⟨g_b, 1, none⟩ = some (.int .u64 (wd (n) 1 : Int)) ∧ w'.cell? ⟨g_b, 2, none⟩ = some (.int .u64 (wd (n) 2 : Int)) ∧ w'.cell? ⟨g_b, 3, none⟩ = some (.int .u64 (wd (n) 3 : Int))) ∧ (w'.cell? ⟨g_c, 0, none⟩ = some (.int .u64 (wd (m) 0 : Int)) ∧ w'.cell? ⟨g_c, 1, none⟩ = some (.int .u64 (wd (m) 1 : Int)) ∧ w'.cell? ⟨g_c, 2, none⟩ = some (.int .u64 (wd (m) 2 : Int)) ∧ w'.cell? ⟨g_c, 3, none⟩ = some (.int .u64 (wd (m) 3 : Int)))) (by kernel_rfl) ?_
        generalize w9b.drew = wd at *
        refine Goes.take (i := 1) (o := { dst := some 77, op := _, type := _, pos := _, after := _, guard := _ }) (v := ?_) [] rfl (by kernel_rfl) (by kernel_rfl) (by kernel_rfl) (fun _ _ _ h => h) (by kernel_rfl) (fun L u h => h) (Or.inl ⟨by rfl, ?_⟩) (⟨Env.cell (hs) g_b (n) (by simp), Env.cell (hs) g_c (m) (by simp)⟩) ?_
        rotate_left
        · intro w hY; obtain ⟨up, hL⟩ := hY; have hX := hL.2.1; clear hL; (try dsimp only at hX); go_simp; try with_reducible rfl
        try simp only [Act.put, List.setIfInBounds_toArray, List.set_cons_zero, List.set_cons_succ]
        refine Goes.take (i := 2) (o := { dst := some 78, op := _, type := _, pos := _, after := _, guard := _ }) (v := ?_) [] rfl (by kernel_rfl) (by kernel_rfl) (by kernel_rfl) (fun _ _ _ h => h) (by kernel_rfl) (fun L u h => h) (Or.inl ⟨by rfl, ?_⟩) (⟨Env.cell (hs) g_b (n) (by simp), Env.cell (hs) g_c (m) (by simp)⟩) ?_
        rotate_left
        · intro w hY; obtain ⟨up, hL⟩ := hY; have hX := hL.2.2; clear hL; (try dsimp only at hX); go_simp; try with_reducible rfl
        try simp only [Act.put, List.setIfInBounds_toArray, List.set_cons_zero, List.set_cons_succ]
        refine Goes.two (i := 0) (j := 7) (o := { dst := some 76, op := _, type := _, pos := _, after := _, guard := _ }) (p := { dst := some 21, op := _, type := _, pos := _, after := _, guard := _ }) (by kernel_rfl) rfl rfl (fun K hK => ?_) (fun K hK => ?_)
        · skip
          go_simp
          with_reducible refine (ofl_at 1 1 hs (by decide) (by decide)).mono ?_
          rintro e wn1 ⟨rfl, hs1⟩
          go_wp2_with fail
          refine hK.out _ _ (⟨Env.cell (hs1) g_b (n) (by simp), Env.cell (hs1) g_c (m) (by simp)⟩) ?_
          clear hK K
          try simp only [Act.put, List.setIfInBounds_toArray, List.set_cons_zero, List.set_cons_succ]
          clear hs
          have hs := hs1
          clear hs1
          refine Goes.two (i := 3) (j := 7) (o := { dst := some 79, op := _, type := _, pos := _, after := _, guard := _ }) (p := { dst := some 21, op := _, type := _, pos := _, after := _, guard := _ }) (by kernel_rfl) rfl rfl (fun K hK => ?_) (fun K hK => ?_)
          · skip
            go_simp
            with_reducible refine (mexp_full_at 1 n m 1 hs NL.out ML.out M1.out M1.out ON.out).mono ?_
            rintro e wn2 ⟨rfl, hs2⟩
            go_wp2_with fail
            refine hK.out _ _ (⟨Env.cell (hs2) g_b (n) (by simp), Env.cell (hs2) g_c (m) (by simp)⟩) ?_
            clear hK K
            try simp only [Act.put, List.setIfInBounds_toArray, List.set_cons_zero, List.set_cons_succ]
            clear hs
            have hs := hs2
            clear hs2
            refine Goes.take (i := 4) (o := { dst := some 75, op := _, type := _, pos := _, after := _, guard := _ }) (v := ?_) [] rfl (by kernel_rfl) (by kernel_rfl) (by kernel_rfl) (fun _ _ _ h => h) (by kernel_rfl) (fun L u h => h) (Or.inl ⟨by rfl, ?_⟩) (⟨Env.cell (hs) g_b (n) (by simp), Env.cell (hs) g_c (m) (by simp)⟩) ?_
            rotate_left
            · intro w hY; go_simp; try with_reducible rfl
            try simp only [Act.put, List.setIfInBounds_toArray, List.set_cons_zero, List.set_cons_succ]
            refine Goes.take (i := 5) (o := { dst := some 80, op := _, type := _, pos := _, after := _, guard := _ }) (v := ?_) [] rfl (by kernel_rfl) (by kernel_rfl) (by kernel_rfl) (fun _ _ _ h => h) (by kernel_rfl) (fun L u h => h) (Or.inl ⟨by rfl, ?_⟩) (⟨Env.cell (hs) g_b (n) (by simp), Env.cell (hs) g_c (m) (by simp)⟩) ?_
            rotate_left
            · intro w hY; go_simp; try with_reducible rfl
            try simp only [Act.put, List.setIfInBounds_toArray, List.set_cons_zero, List.set_cons_succ]
            refine Goes.take (i := 6) (o := { dst := some 81, op := _, type := _, pos := _, after := _, guard := _ }) (v := ?_) [] rfl (by kernel_rfl) (by kernel_rfl) (by kernel_rfl) (fun _ _ _ h => h) (by kernel_rfl) (fun L u h => h) (Or.inl ⟨by rfl, ?_⟩) (⟨Env.cell (hs) g_b (n) (by simp), Env.cell (hs) g_c (m) (by simp)⟩) ?_
            rotate_left
            · intro w hY; go_simp; try with_reducible rfl
            try simp only [Act.put, List.setIfInBounds_toArray, List.set_cons_zero, List.set_cons_succ]
            refine Goes.one (i := 7) (o := { dst := some 21, op := _, type := _, pos := _, after := _, guard := _ }) (by kernel_rfl) rfl (fun K hK => ?_)
            go_simp
            refine hK.out _ _ (⟨Env.cell (hs.zero) g_b (n) (by simp), Env.cell (hs.zero) g_c (m) (by simp)⟩) ?_
            clear hK K
            try simp only [Act.put, List.setIfInBounds_toArray, List.set_cons_zero, List.set_cons_succ]
            have Fg21 := hid hs.fresh
            have hs3 := hs.zero
            clear hs
            generalize wn2.alloc (.cells #[.int .u64 0, .int .u64 0, .int .u64 0, .int .u64 0] 24) = wn3 at *
            generalize wn2.heap.size = g21 at *
            have hs := hs3
            clear hs3
            refine Goes.one (i := 8) (o := { dst := none, op := _, type := _, pos := _, after := _, guard := _ }) (by kernel_rfl) rfl (fun K hK => ?_)
            obtain ⟨z0, z1, z2, z3⟩ := hs.cell g21 0 (by simp)
            have zl := hs.lt g21 0 (by simp)
            have zf := hs.frozen g21 0 (by simp)
            have hs4 := hs.set g21 0 (1) [(g19, r), (g17, q), (g15, r), (g13, q), (g11, p), (g9, nx), (g8, k), (g7, a), (g_c, m), (g_b, n), (g_a, x)] (by simp) Fg21.out.1 (fun p hp => by simp only [List.mem_cons, List.not_mem_nil, or_false] at hp; rcases hp with rfl | rfl | rfl | rfl | rfl | rfl | rfl | rfl | rfl | rfl | rfl <;> first | exact ⟨by simp, (Fg21.out.2 (g19, r) (by simp))⟩ | exact ⟨by simp, (Fg21.out.2 (g17, q) (by simp))⟩ | exact ⟨by simp, (Fg21.out.2 (g15, r) (by simp))⟩ | exact ⟨by simp, (Fg21.out.2 (g13, q) (by simp))⟩ | exact ⟨by simp, (Fg21.out.2 (g11, p) (by simp))⟩ | exact ⟨by simp, (Fg21.out.2 (g9, nx) (by simp))⟩ | exact ⟨by simp, (Fg21.out.2 (g8, k) (by simp))⟩ | exact ⟨by simp, (Fg21.out.2 (g7, a) (by simp))⟩ | exact ⟨by simp, (Fg21.out.2 (g_c, m) (by simp))⟩ | exact ⟨by simp, (Fg21.out.2 (g_b, n) (by simp))⟩ | exact ⟨by simp, (Fg21.out.2 (g_a, x) (by simp))⟩)
            go_simp
            refine hK.out _ _ (⟨Env.cell (hs4) g_b (n) (by simp), Env.cell (hs4) g_c (m) (by simp)⟩) ?_
            clear hK K
            try simp only [Act.put, List.setIfInBounds_toArray, List.set_cons_zero, List.set_cons_succ]
            clear hs z0 z1 z2 z3 zl zf
            change Goes _ _ _ _ _ _ _ _ (fil wn3 g21 (1))
            generalize fil wn3 g21 (1) = wn4 at *
            have hs := hs4
            clear hs4
            refine Goes.take (i := 9) (o := { dst := some 22, op := _, type := _, pos := _, after := _, guard := _ }) (v := ?_) [] rfl (by kernel_rfl) (by kernel_rfl) (by kernel_rfl) (fun _ _ _ h => h) (by kernel_rfl) (fun L u h => h) (Or.inl ⟨by rfl, ?_⟩) (⟨Env.cell (hs) g_b (n) (by simp), Env.cell (hs) g_c (m) (by simp)⟩) ?_
            rotate_left
            · intro w hY; go_simp; try with_reducible rfl
            try simp only [Act.put, List.setIfInBounds_toArray, List.set_cons_zero, List.set_cons_succ]
            refine Goes.done (by kernel_rfl) ?_ _
            refine NoPanic.normal ?_
            go_wp2_with fail
            go_meet
            exact ⟨_, rfl, rfl, hid (hs.perm (by simp))⟩
          · skip
            go_simp
            refine hK.out _ _ (⟨Env.cell (hs.zero) g_b (n) (by simp), Env.cell (hs.zero) g_c (m) (by simp)⟩) ?_
            clear hK K
            try simp only [Act.put, List.setIfInBounds_toArray, List.set_cons_zero, List.set_cons_succ]
            have Fg21 := hid hs.fresh
            have hs5 := hs.zero
            clear hs
            generalize wn1.alloc (.cells #[.int .u64 0, .int .u64 0, .int .u64 0, .int .u64 0] 24) = wn5 at *
            generalize wn1.heap.size = g21 at *
            have hs := hs5
            clear hs5
            refine Goes.one (i := 3) (o := { dst := some 79, op := _, type := _, pos := _, after := _, guard := _ }) (by kernel_rfl) rfl (fun K hK => ?_)
            go_simp
            with_reducible refine (mexp_full_at 1 n m 1 hs NL.out ML.out M1.out M1.out ON.out).mono ?_
            rintro e wn6 ⟨rfl, hs6⟩
            go_wp2_with fail
            refine hK.out _ _ (⟨Env.cell (hs6) g_b (n) (by simp), Env.cell (hs6) g_c (m) (by simp)⟩) ?_
            clear hK K
            try simp only [Act.put, List.setIfInBounds_toArray, List.set_cons_zero, List.set_cons_succ]
            clear hs
            have hs := hs6
            clear hs6
            refine Goes.take (i := 4) (o := { dst := some 75, op := _, type := _, pos := _, after := _, guard := _ }) (v := ?_) [] rfl (by kernel_rfl) (by kernel_rfl) (by kernel_rfl) (fun _ _ _ h => h) (by kernel_rfl) (fun L u h => h) (Or.inl ⟨by rfl, ?_⟩) (⟨Env.cell (hs) g_b (n) (by simp), Env.cell (hs) g_c (m) (by simp)⟩) ?_
            rotate_left
            · intro w hY; go_simp; try with_reducible rfl
            try simp only [Act.put, List.setIfInBounds_toArray, List.set_cons_zero, List.set_cons_succ]
            refine Goes.take (i := 5) (o := { dst := some 80, op := _, type := _, pos := _, after := _, guard := _ }) (v := ?_) [] rfl (by kernel_rfl) (by kernel_rfl) (by kernel_rfl) (fun _ _ _ h => h) (by kernel_rfl) (fun L u h => h) (Or.inl ⟨by rfl, ?_⟩) (⟨Env.cell (hs) g_b (n) (by simp), Env.cell (hs) g_c (m) (by simp)⟩) ?_
            rotate_left
            · intro w hY; go_simp; try with_reducible rfl
            try simp only [Act.put, List.setIfInBounds_toArray, List.set_cons_zero, List.set_cons_succ]
            refine Goes.take (i := 6) (o := { dst := some 81, op := _, type := _, pos := _, after := _, guard := _ }) (v := ?_) [] rfl (by kernel_rfl) (by kernel_rfl) (by kernel_rfl) (fun _ _ _ h => h) (by kernel_rfl) (fun L u h => h) (Or.inl ⟨by rfl, ?_⟩) (⟨Env.cell (hs) g_b (n) (by simp), Env.cell (hs) g_c (m) (by simp)⟩) ?_
            rotate_left
            · intro w hY; go_simp; try with_reducible rfl
            try simp only [Act.put, List.setIfInBounds_toArray, List.set_cons_zero, List.set_cons_succ]
            refine Goes.one (i := 8) (o := { dst := none, op := _, type := _, pos := _, after := _, guard := _ }) (by kernel_rfl) rfl (fun K hK => ?_)
            obtain ⟨z0, z1, z2, z3⟩ := hs.cell g21 0 (by simp)
            have zl := hs.lt g21 0 (by simp)
            have zf := hs.frozen g21 0 (by simp)
            have hs7 := hs.set g21 0 (1) [(g19, r), (g17, q), (g15, r), (g13, q), (g11, p), (g9, nx), (g8, k), (g7, a), (g_c, m), (g_b, n), (g_a, x)] (by simp) Fg21.out.1 (fun p hp => by simp only [List.mem_cons, List.not_mem_nil, or_false] at hp; rcases hp with rfl | rfl | rfl | rfl | rfl | rfl | rfl | rfl | rfl | rfl | rfl <;> first | exact ⟨by simp, (Fg21.out.2 (g19, r) (by simp))⟩ | exact ⟨by simp, (Fg21.out.2 (g17, q) (by simp))⟩ | exact ⟨by simp, (Fg21.out.2 (g15, r) (by simp))⟩ | exact ⟨by simp, (Fg21.out.2 (g13, q) (by simp))⟩ | exact ⟨by simp, (Fg21.out.2 (g11, p) (by simp))⟩ | exact ⟨by simp, (Fg21.out.2 (g9, nx) (by simp))⟩ | exact ⟨by simp, (Fg21.out.2 (g8, k) (by simp))⟩ | exact ⟨by simp, (Fg21.out.2 (g7, a) (by simp))⟩ | exact ⟨by simp, (Fg21.out.2 (g_c, m) (by simp))⟩ | exact ⟨by simp, (Fg21.out.2 (g_b, n) (by simp))⟩ | exact ⟨by simp, (Fg21.out.2 (g_a, x) (by simp))⟩)
            go_simp
            refine hK.out _ _ (⟨Env.cell (hs7) g_b (n) (by simp), Env.cell (hs7) g_c (m) (by simp)⟩) ?_
            clear hK K
            try simp only [Act.put, List.setIfInBounds_toArray, List.set_cons_zero, List.set_cons_succ]
            clear hs z0 z1 z2 z3 zl zf
            change Goes _ _ _ _ _ _ _ _ (fil wn6 g21 (1))
            generalize fil wn6 g21 (1) = wn7 at *
            have hs := hs7
            clear hs7
            refine Goes.take (i := 9) (o := { dst := some 22, op := _, type := _, pos := _, after := _, guard := _ }) (v := ?_) [] rfl (by kernel_rfl) (by kernel_rfl) (by kernel_rfl) (fun _ _ _ h => h) (by kernel_rfl) (fun L u h => h) (Or.inl ⟨by rfl, ?_⟩) (⟨Env.cell (hs) g_b (n) (by simp), Env.cell (hs) g_c (m) (by simp)⟩) ?_
            rotate_left
            · intro w hY; go_simp; try with_reducible rfl
            try simp only [Act.put, List.setIfInBounds_toArray, List.set_cons_zero, List.set_cons_succ]
            refine Goes.done (by kernel_rfl) ?_ _
            refine NoPanic.normal ?_
            go_wp2_with fail
            go_meet
            exact ⟨_, rfl, rfl, hid (hs.perm (by simp))⟩
        · skip
          go_simp
          refine hK.out _ _ (⟨Env.cell (hs.zero) g_b (n) (by simp), Env.cell (hs.zero) g_c (m) (by simp)⟩) ?_
          clear hK K
          try simp only [Act.put, List.setIfInBounds_toArray, List.set_cons_zero, List.set_cons_succ]
          have Fg21 := hid hs.fresh
          have hs8 := hs.zero
          clear hs
          generalize wd.alloc (.cells #[.int .u64 0, .int .u64 0, .int .u64 0, .int .u64 0] 24) = wn8 at *
          generalize wd.heap.size = g21 at *
          have hs := hs8
          clear hs8
          refine Goes.one (i := 0) (o := { dst := some 76, op := _, type := _, pos := _, after := _, guard := _ }) (by kernel_rfl) rfl (fun K hK => ?_)
          go_simp
          with_reducible refine (ofl_at 1 1 hs (by decide) (by decide)).mono ?_
          rintro e wn9 ⟨rfl, hs9⟩
          go_wp2_with fail
          refine hK.out _ _ (⟨Env.cell (hs9) g_b (n) (by simp), Env.cell (hs9) g_c (m) (by simp)⟩) ?_
          clear hK K
          try simp only [Act.put, List.setIfInBounds_toArray, List.set_cons_zero, List.set_cons_succ]
          clear hs
          have hs := hs9
          clear hs9
          refine Goes.one (i := 3) (o := { dst := some 79, op := _, type := _, pos := _, after := _, guard := _ }) (by kernel_rfl) rfl (fun K hK => ?_)
          go_simp
          with_reducible refine (mexp_full_at 1 n m 1 hs NL.out ML.out M1.out M1.out ON.out).mono ?_
          rintro e wn10 ⟨rfl, hs10⟩
          go_wp2_with fail
          refine hK.out _ _ (⟨Env.cell (hs10) g_b (n) (by simp), Env.cell (hs10) g_c (m) (by simp)⟩) ?_
          clear hK K
          try simp only [Act.put, List.setIfInBounds_toArray, List.set_cons_zero, List.set_cons_succ]
          clear hs
          have hs := hs10
          clear hs10
          refine Goes.take (i := 4) (o := { dst := some 75, op := _, type := _, pos := _, after := _, guard := _ }) (v := ?_) [] rfl (by kernel_rfl) (by kernel_rfl) (by kernel_rfl) (fun _ _ _ h => h) (by kernel_rfl) (fun L u h => h) (Or.inl ⟨by rfl, ?_⟩) (⟨Env.cell (hs) g_b (n) (by simp), Env.cell (hs) g_c (m) (by simp)⟩) ?_
          rotate_left
          · intro w hY; go_simp; try with_reducible rfl
          try simp only [Act.put, List.setIfInBounds_toArray, List.set_cons_zero, List.set_cons_succ]
          refine Goes.take (i := 5) (o := { dst := some 80, op := _, type := _, pos := _, after := _, guard := _ }) (v := ?_) [] rfl (by kernel_rfl) (by kernel_rfl) (by kernel_rfl) (fun _ _ _ h => h) (by kernel_rfl) (fun L u h => h) (Or.inl ⟨by rfl, ?_⟩) (⟨Env.cell (hs) g_b (n) (by simp), Env.cell (hs) g_c (m) (by simp)⟩) ?_
          rotate_left
          · intro w hY; go_simp; try with_reducible rfl
          try simp only [Act.put, List.setIfInBounds_toArray, List.set_cons_zero, List.set_cons_succ]
          refine Goes.take (i := 6) (o := { dst := some 81, op := _, type := _, pos := _, after := _, guard := _ }) (v := ?_) [] rfl (by kernel_rfl) (by kernel_rfl) (by kernel_rfl) (fun _ _ _ h => h) (by kernel_rfl) (fun L u h => h) (Or.inl ⟨by rfl, ?_⟩) (⟨Env.cell (hs) g_b (n) (by simp), Env.cell (hs) g_c (m) (by simp)⟩) ?_
          rotate_left
          · intro w hY; go_simp; try with_reducible rfl
          try simp only [Act.put, List.setIfInBounds_toArray, List.set_cons_zero, List.set_cons_succ]
          refine Goes.one (i := 8) (o := { dst := none, op := _, type := _, pos := _, after := _, guard := _ }) (by kernel_rfl) rfl (fun K hK => ?_)
          obtain ⟨z0, z1, z2, z3⟩ := hs.cell g21 0 (by simp)
          have zl := hs.lt g21 0 (by simp)
          have zf := hs.frozen g21 0 (by simp)
          have hs11 := hs.set g21 0 (1) [(g19, r), (g17, q), (g15, r), (g13, q), (g11, p), (g9, nx), (g8, k), (g7, a), (g_c, m), (g_b, n), (g_a, x)] (by simp) Fg21.out.1 (fun p hp => by simp only [List.mem_cons, List.not_mem_nil, or_false] at hp; rcases hp with rfl | rfl | rfl | rfl | rfl | rfl | rfl | rfl | rfl | rfl | rfl <;> first | exact ⟨by simp, (Fg21.out.2 (g19, r) (by simp))⟩ | exact ⟨by simp, (Fg21.out.2 (g17, q) (by simp))⟩ | exact ⟨by simp, (Fg21.out.2 (g15, r) (by simp))⟩ | exact ⟨by simp, (Fg21.out.2 (g13, q) (by simp))⟩ | exact ⟨by simp, (Fg21.out.2 (g11, p) (by simp))⟩ | exact ⟨by simp, (Fg21.out.2 (g9, nx) (by simp))⟩ | exact ⟨by simp, (Fg21.out.2 (g8, k) (by simp))⟩ | exact ⟨by simp, (Fg21.out.2 (g7, a) (by simp))⟩ | exact ⟨by simp, (Fg21.out.2 (g_c, m) (by simp))⟩ | exact ⟨by simp, (Fg21.out.2 (g_b, n) (by simp))⟩ | exact ⟨by simp, (Fg21.out.2 (g_a, x) (by simp))⟩)
          go_simp
          refine hK.out _ _ (⟨Env.cell (hs11) g_b (n) (by simp), Env.cell (hs11) g_c (m) (by simp)⟩) ?_
          clear hK K
          try simp only [Act.put, List.setIfInBounds_toArray, List.set_cons_zero, List.set_cons_succ]
          clear hs z0 z1 z2 z3 zl zf
          change Goes _ _ _ _ _ _ _ _ (fil wn10 g21 (1))
          generalize fil wn10 g21 (1) = wn11 at *
          have hs := hs11
          clear hs11
          refine Goes.take (i := 9) (o := { dst := some 22, op := _, type := _, pos := _, after := _, guard := _ }) (v := ?_) [] rfl (by kernel_rfl) (by kernel_rfl) (by kernel_rfl) (fun _ _ _ h => h) (by kernel_rfl) (fun L u h => h) (Or.inl ⟨by rfl, ?_⟩) (⟨Env.cell (hs) g_b (n) (by simp), Env.cell (hs) g_c (m) (by simp)⟩) ?_
          rotate_left
          · intro w hY; go_simp; try with_reducible rfl
          try simp only [Act.put, List.setIfInBounds_toArray, List.set_cons_zero, List.set_cons_succ]
          refine Goes.done (by kernel_rfl) ?_ _
          refine NoPanic.normal ?_
          go_wp2_with fail
          go_meet
          exact ⟨_, rfl, rfl, hid (hs.perm (by simp))⟩
      case rest =>
        obtain ⟨g21, rfl, rfl, H10c⟩ := hcut
        clear H9b
        go_upto_region 12 with fail
        go_cut [23, 24] (fun s23 s24 wx => ∃ g23 : Nat, s23 = .pointer (some ⟨g23, 0, none⟩) ∧ s24 = .int .i64 0 ∧ Hid (Env w [(g23, 0), (g21, 1), (g19, r), (g17, q), (g15, r), (g13, q), (g11, p), (g9, nx), (g8, k), (g7, a), (g_c, m), (g_b, n), (g_a, x)] wx))
        case first =>
          have hs := H10c.out.drew
          refine wp_region_noPanic ?_
          refine Goes.region (fun (L : Array Bool) (w' : World) => (w'.cell? ⟨g9, 0, none⟩ = some (.int .u64 (wd (nx) 0 : Int)) ∧ w'.cell? ⟨g9, 1, none⟩ = some (.int .u64 (wd (nx) 1 : Int)) ∧ w'.cell? ⟨g9, 2, none⟩ = some (.int .u64 (wd (nx) 2 : Int)) ∧ w'.cell? ⟨g9, 3, none⟩ = some (.int .u64 (wd (nx) 3 : Int))) ∧ (w'.cell? ⟨g_c, 0, none⟩ = some (.int .u64 (wd (m) 0 : Int)) ∧ w'.cell? ⟨g_c, 1, none⟩ = some (.int .u64 (wd (m) 1 : Int)) ∧ w'.cell? ⟨g_c, 2, none⟩ = some (.int .u64 (wd (m) 2 : Int)) ∧ w'.cell? ⟨g_c, 3, none⟩ = some (.int .u64 (wd (m) 3 : Int)))) (by kernel_rfl) ?_
          generalize wc.drew = wd at *
          refine Goes.take (i := 1) (o := { dst := some 84, op := _, type := _, pos := _, after := _, guard := _ }) (v := ?_) [] rfl (by kernel_rfl) (by kernel_rfl) (by kernel_rfl) (fun _ _ _ h => h) (by kernel_rfl) (fun L u h => h) (Or.inl ⟨by rfl, ?_⟩) (⟨Env.cell (hs) g9 (nx) (by simp), Env.cell (hs) g_c (m) (by simp)⟩) ?_
          rotate_left
          · intro w hY; obtain ⟨up, hL⟩ := hY; have hX := hL.2.1; clear hL; (try dsimp only at hX); go_simp; try with_reducible rfl
          try simp only [Act.put, List.setIfInBounds_toArray, List.set_cons_zero, List.set_cons_succ]
          refine Goes.take (i := 2) (o := { dst := some 85, op := _, type := _, pos := _, after := _, guard := _ }) (v := ?_) [] rfl (by kernel_rfl) (by kernel_rfl) (by kernel_rfl) (fun _ _ _ h => h) (by kernel_rfl) (fun L u h => h) (Or.inl ⟨by rfl, ?_⟩) (⟨Env.cell (hs) g9 (nx) (by simp), Env.cell (hs) g_c (m) (by simp)⟩) ?_
          rotate_left
          · intro w hY; obtain ⟨up, hL⟩ := hY; have hX := hL.2.2; clear hL; (try dsimp only at hX); go_simp; try with_reducible rfl
          try simp only [Act.put, List.setIfInBounds_toArray, List.set_cons_zero, List.set_cons_succ]
          refine Goes.two (i := 0) (j := 7) (o := { dst := some 83, op := _, type := _, pos := _, after := _, guard := _ }) (p := { dst := some 23, op := _, type := _, pos := _, after := _, guard := _ }) (by kernel_rfl) rfl rfl (fun K hK => ?_) (fun K hK => ?_)
          · skip
            go_simp
            with_reducible refine (none_at hs).mono ?_
            rintro e wn1 ⟨rfl, hs1⟩
            go_wp2_with fail
            refine hK.out _ _ (⟨Env.cell (hs1) g9 (nx) (by simp), Env.cell (hs1) g_c (m) (by simp)⟩) ?_
            clear hK K
            try simp only [Act.put, List.setIfInBounds_toArray, List.set_cons_zero, List.set_cons_succ]
            clear hs
            have hs := hs1
            clear hs1
            refine Goes.two (i := 3) (j := 7) (o := { dst := some 86, op := _, type := _, pos := _, after := _, guard := _ }) (p := { dst := some 23, op := _, type := _, pos := _, after := _, guard := _ }) (by kernel_rfl) rfl rfl (fun K hK => ?_) (fun K hK => ?_)
            · skip
              go_simp
              with_reducible refine (mexp_full_at 0 nx m 0 hs NXL.out ML.out M1.out (by have := M1.out; omega) NO.out).mono ?_
              rintro e wn2 ⟨rfl, hs2⟩
              go_wp2_with fail
              refine hK.out _ _ (⟨Env.cell (hs2) g9 (nx) (by simp), Env.cell (hs2) g_c (m) (by simp)⟩) ?_
              clear hK K
              try simp only [Act.put, List.setIfInBounds_toArray, List.set_cons_zero, List.set_cons_succ]
              clear hs
              have hs := hs2
              clear hs2
              refine Goes.take (i := 4) (o := { dst := some 82, op := _, type := _, pos := _, after := _, guard := _ }) (v := ?_) [] rfl (by kernel_rfl) (by kernel_rfl) (by kernel_rfl) (fun _ _ _ h => h) (by kernel_rfl) (fun L u h => h) (Or.inl ⟨by rfl, ?_⟩) (⟨Env.cell (hs) g9 (nx) (by simp), Env.cell (hs) g_c (m) (by simp)⟩) ?_
              rotate_left
              · intro w hY; go_simp; try with_reducible rfl
              try simp only [Act.put, List.setIfInBounds_toArray, List.set_cons_zero, List.set_cons_succ]
              refine Goes.take (i := 5) (o := { dst := some 87, op := _, type := _, pos := _, after := _, guard := _ }) (v := ?_) [] rfl (by kernel_rfl) (by kernel_rfl) (by kernel_rfl) (fun _ _ _ h => h) (by kernel_rfl) (fun L u h => h) (Or.inl ⟨by rfl, ?_⟩) (⟨Env.cell (hs) g9 (nx) (by simp), Env.cell (hs) g_c (m) (by simp)⟩) ?_
              rotate_left
              · intro w hY; go_simp; try with_reducible rfl
              try simp only [Act.put, List.setIfInBounds_toArray, List.set_cons_zero, List.set_cons_succ]
              refine Goes.take (i := 6) (o := { dst := some 88, op := _, type := _, pos := _, after := _, guard := _ }) (v := ?_) [] rfl (by kernel_rfl) (by kernel_rfl) (by kernel_rfl) (fun _ _ _ h => h) (by kernel_rfl) (fun L u h => h) (Or.inl ⟨by rfl, ?_⟩) (⟨Env.cell (hs) g9 (nx) (by simp), Env.cell (hs) g_c (m) (by simp)⟩) ?_
              rotate_left
              · intro w hY; go_simp; try with_reducible rfl
              try simp only [Act.put, List.setIfInBounds_toArray, List.set_cons_zero, List.set_cons_succ]
              refine Goes.one (i := 7) (o := { dst := some 23, op := _, type := _, pos := _, after := _, guard := _ }) (by kernel_rfl) rfl (fun K hK => ?_)
              go_simp
              refine hK.out _ _ (⟨Env.cell (hs.zero) g9 (nx) (by simp), Env.cell (hs.zero) g_c (m) (by simp)⟩) ?_
              clear hK K
              try simp only [Act.put, List.setIfInBounds_toArray, List.set_cons_zero, List.set_cons_succ]
              have Fg23 := hid hs.fresh
              have hs3 := hs.zero
              clear hs
              generalize wn2.alloc (.cells #[.int .u64 0, .int .u64 0, .int .u64 0, .int .u64 0] 24) = wn3 at *
              generalize wn2.heap.size = g23 at *
              have hs := hs3
              clear hs3
              refine Goes.one (i := 8) (o := { dst := none, op := _, type := _, pos := _, after := _, guard := _ }) (by kernel_rfl) rfl (fun K hK => ?_)
              obtain ⟨z0, z1, z2, z3⟩ := hs.cell g23 0 (by simp)
              have zl := hs.lt g23 0 (by simp)
              have zf := hs.frozen g23 0 (by simp)
              have hs4 := hs.set g23 0 (0) [(g21, 1), (g19, r), (g17, q), (g15, r), (g13, q), (g11, p), (g9, nx), (g8, k), (g7, a), (g_c, m), (g_b, n), (g_a, x)] (by simp) Fg23.out.1 (fun p hp => by simp only [List.mem_cons, List.not_mem_nil, or_false] at hp; rcases hp with rfl | rfl | rfl | rfl | rfl | rfl | rfl | rfl | rfl | rfl | rfl | rfl <;> first | exact ⟨by simp, (Fg23.out.2 (g21, 1) (by simp))⟩ | exact ⟨by simp, (Fg23.out.2 (g19, r) (by simp))⟩ | exact ⟨by simp, (Fg23.out.2 (g17, q) (by simp))⟩ | exact ⟨by simp, (Fg23.out.2 (g15, r) (by simp))⟩ | exact ⟨by simp, (Fg23.out.2 (g13, q) (by simp))⟩ | exact ⟨by simp, (Fg23.out.2 (g11, p) (by simp))⟩ | exact ⟨by simp, (Fg23.out.2 (g9, nx) (by simp))⟩ | exact ⟨by simp, (Fg23.out.2 (g8, k) (by simp))⟩ | exact ⟨by simp, (Fg23.out.2 (g7, a) (by simp))⟩ | exact ⟨by simp, (Fg23.out.2 (g_c, m) (by simp))⟩ | exact ⟨by simp, (Fg23.out.2 (g_b, n) (by simp))⟩ | exact ⟨by simp, (Fg23.out.2 (g_a, x) (by simp))⟩)
              go_simp
              refine hK.out _ _ (⟨Env.cell (hs4) g9 (nx) (by simp), Env.cell (hs4) g_c (m) (by simp)⟩) ?_
              clear hK K
              try simp only [Act.put, List.setIfInBounds_toArray, List.set_cons_zero, List.set_cons_succ]
              clear hs z0 z1 z2 z3 zl zf
              change Goes _ _ _ _ _ _ _ _ (fil wn3 g23 (0))
              generalize fil wn3 g23 (0) = wn4 at *
              have hs := hs4
              clear hs4
              refine Goes.take (i := 9) (o := { dst := some 24, op := _, type := _, pos := _, after := _, guard := _ }) (v := ?_) [] rfl (by kernel_rfl) (by kernel_rfl) (by kernel_rfl) (fun _ _ _ h => h) (by kernel_rfl) (fun L u h => h) (Or.inl ⟨by rfl, ?_⟩) (⟨Env.cell (hs) g9 (nx) (by simp), Env.cell (hs) g_c (m) (by simp)⟩) ?_
              rotate_left
              · intro w hY; go_simp; try with_reducible rfl
              try simp only [Act.put, List.setIfInBounds_toArray, List.set_cons_zero, List.set_cons_succ]
              refine Goes.done (by kernel_rfl) ?_ _
              refine NoPanic.normal ?_
              go_wp2_with fail
              go_meet
              exact ⟨_, rfl, rfl, hid (hs.perm (by simp))⟩
            · skip
              go_simp
              refine hK.out _ _ (⟨Env.cell (hs.zero) g9 (nx) (by simp), Env.cell (hs.zero) g_c (m) (by simp)⟩) ?_
              clear hK K
              try simp only [Act.put, List.setIfInBounds_toArray, List.set_cons_zero, List.set_cons_succ]
              have Fg23 := hid hs.fresh
              have hs5 := hs.zero
              clear hs
              generalize wn1.alloc (.cells #[.int .u64 0, .int .u64 0, .int .u64 0, .int .u64 0] 24) = wn5 at *
              generalize wn1.heap.size = g23 at *
              have hs := hs5
              clear hs5
              refine Goes.one (i := 3) (o := { dst := some 86, op := _, type := _, pos := _, after := _, guard := _ }) (by kernel_rfl) rfl (fun K hK => ?_)
              go_simp
              with_reducible refine (mexp_full_at 0 nx m 0 hs NXL.out ML.out M1.out (by have := M1.out; omega) NO.out).mono ?_
              rintro e wn6 ⟨rfl, hs6⟩
              go_wp2_with fail
              refine hK.out _ _ (⟨Env.cell (hs6) g9 (nx) (by simp), Env.cell (hs6) g_c (m) (by simp)⟩) ?_
              clear hK K
              try simp only [Act.put, List.setIfInBounds_toArray, List.set_cons_zero, List.set_cons_succ]
              clear hs
              have hs := hs6
              clear hs6
              refine Goes.take (i := 4) (o := { dst := some 82, op := _, type := _, pos := _, after := _, guard := _ }) (v := ?_) [] rfl (by kernel_rfl) (by kernel_rfl) (by kernel_rfl) (fun _ _ _ h => h) (by kernel_rfl) (fun L u h => h) (Or.inl ⟨by rfl, ?_⟩) (⟨Env.cell (hs) g9 (nx) (by simp), Env.cell (hs) g_c (m) (by simp)⟩) ?_
              rotate_left
              · intro w hY; go_simp; try with_reducible rfl
              try simp only [Act.put, List.setIfInBounds_toArray, List.set_cons_zero, List.set_cons_succ]
              refine Goes.take (i := 5) (o := { dst := some 87, op := _, type := _, pos := _, after := _, guard := _ }) (v := ?_) [] rfl (by kernel_rfl) (by kernel_rfl) (by kernel_rfl) (fun _ _ _ h => h) (by kernel_rfl) (fun L u h => h) (Or.inl ⟨by rfl, ?_⟩) (⟨Env.cell (hs) g9 (nx) (by simp), Env.cell (hs) g_c (m) (by simp)⟩) ?_
              rotate_left
              · intro w hY; go_simp; try with_reducible rfl
              try simp only [Act.put, List.setIfInBounds_toArray, List.set_cons_zero, List.set_cons_succ]
              refine Goes.take (i := 6) (o := { dst := some 88, op := _, type := _, pos := _, after := _, guard := _ }) (v := ?_) [] rfl (by kernel_rfl) (by kernel_rfl) (by kernel_rfl) (fun _ _ _ h => h) (by kernel_rfl) (fun L u h => h) (Or.inl ⟨by rfl, ?_⟩) (⟨Env.cell (hs) g9 (nx) (by simp), Env.cell (hs) g_c (m) (by simp)⟩) ?_
              rotate_left
              · intro w hY; go_simp; try with_reducible rfl
              try simp only [Act.put, List.setIfInBounds_toArray, List.set_cons_zero, List.set_cons_succ]
              refine Goes.one (i := 8) (o := { dst := none, op := _, type := _, pos := _, after := _, guard := _ }) (by kernel_rfl) rfl (fun K hK => ?_)
              obtain ⟨z0, z1, z2, z3⟩ := hs.cell g23 0 (by simp)
              have zl := hs.lt g23 0 (by simp)
              have zf := hs.frozen g23 0 (by simp)
              have hs7 := hs.set g23 0 (0) [(g21, 1), (g19, r), (g17, q), (g15, r), (g13, q), (g11, p), (g9, nx), (g8, k), (g7, a), (g_c, m), (g_b, n), (g_a, x)] (by simp) Fg23.out.1 (fun p hp => by simp only [List.mem_cons, List.not_mem_nil, or_false] at hp; rcases hp with rfl | rfl | rfl | rfl | rfl | rfl | rfl | rfl | rfl | rfl | rfl | rfl <;> first | exact ⟨by simp, (Fg23.out.2 (g21, 1) (by simp))⟩ | exact ⟨by simp, (Fg23.out.2 (g19, r) (by simp))⟩ | exact ⟨by simp, (Fg23.out.2 (g17, q) (by simp))⟩ | exact ⟨by simp, (Fg23.out.2 (g15, r) (by simp))⟩ | exact ⟨by simp, (Fg23.out.2 (g13, q) (by simp))⟩ | exact ⟨by simp, (Fg23.out.2 (g11, p) (by simp))⟩ | exact ⟨by simp, (Fg23.out.2 (g9, nx) (by simp))⟩ | exact ⟨by simp, (Fg23.out.2 (g8, k) (by simp))⟩ | exact ⟨by simp, (Fg23.out.2 (g7, a) (by simp))⟩ | exact ⟨by simp, (Fg23.out.2 (g_c, m) (by simp))⟩ | exact ⟨by simp, (Fg23.out.2 (g_b, n) (by simp))⟩ | exact ⟨by simp, (Fg23.out.2 (g_a, x) (by simp))⟩)
              go_simp
              refine hK.out _ _ (⟨Env.cell (hs7) g9 (nx) (by simp), Env.cell (hs7) g_c (m) (by simp)⟩) ?_
              clear hK K
              try simp only [Act.put, List.setIfInBounds_toArray, List.set_cons_zero, List.set_cons_succ]
              clear hs z0 z1 z2 z3 zl zf
              change Goes _ _ _ _ _ _ _ _ (fil wn6 g23 (0))
              generalize fil wn6 g23 (0) = wn7 at *
              have hs := hs7
              clear hs7
              refine Goes.take (i := 9) (o := { dst := some 24, op := _, type := _, pos := _, after := _, guard := _ }) (v := ?_) [] rfl (by kernel_rfl) (by kernel_rfl) (by kernel_rfl) (fun _ _ _ h => h) (by kernel_rfl) (fun L u h => h) (Or.inl ⟨by rfl, ?_⟩) (⟨Env.cell (hs) g9 (nx) (by simp), Env.cell (hs) g_c (m) (by simp)⟩) ?_
              rotate_left
              · intro w hY; go_simp; try with_reducible rfl
              try simp only [Act.put, List.setIfInBounds_toArray, List.set_cons_zero, List.set_cons_succ]
              refine Goes.done (by kernel_rfl) ?_ _
              refine NoPanic.normal ?_
              go_wp2_with fail
              go_meet
              exact ⟨_, rfl, rfl, hid (hs.perm (by simp))⟩
          · skip
            go_simp
            refine hK.out _ _ (⟨Env.cell (hs.zero) g9 (nx) (by simp), Env.cell (hs.zero) g_c (m) (by simp)⟩) ?_
            clear hK K
            try simp only [Act.put, List.setIfInBounds_toArray, List.set_cons_zero, List.set_cons_succ]
            have Fg23 := hid hs.fresh
            have hs8 := hs.zero
            clear hs
            generalize wd.alloc (.cells #[.int .u64 0, .int .u64 0, .int .u64 0, .int .u64 0] 24) = wn8 at *
            generalize wd.heap.size = g23 at *
            have hs := hs8
            clear hs8
            refine Goes.one (i := 0) (o := { dst := some 83, op := _, type := _, pos := _, after := _, guard := _ }) (by kernel_rfl) rfl (fun K hK => ?_)
            go_simp
            with_reducible refine (none_at hs).mono ?_
            rintro e wn9 ⟨rfl, hs9⟩
            go_wp2_with fail
            refine hK.out _ _ (⟨Env.cell (hs9) g9 (nx) (by simp), Env.cell (hs9) g_c (m) (by simp)⟩) ?_
            clear hK K
            try simp only [Act.put, List.setIfInBounds_toArray, List.set_cons_zero, List.set_cons_succ]
            clear hs
            have hs := hs9
            clear hs9
            refine Goes.one (i := 3) (o := { dst := some 86, op := _, type := _, pos := _, after := _, guard := _ }) (by kernel_rfl) rfl (fun K hK => ?_)
            go_simp
            with_reducible refine (mexp_full_at 0 nx m 0 hs NXL.out ML.out M1.out (by have := M1.out; omega) NO.out).mono ?_
            rintro e wn10 ⟨rfl, hs10⟩
            go_wp2_with fail
            refine hK.out _ _ (⟨Env.cell (hs10) g9 (nx) (by simp), Env.cell (hs10) g_c (m) (by simp)⟩) ?_
            clear hK K
            try simp only [Act.put, List.setIfInBounds_toArray, List.set_cons_zero, List.set_cons_succ]
            clear hs
            have hs := hs10
            clear hs10
            refine Goes.take (i := 4) (o := { dst := some 82, op := _, type := _, pos := _, after := _, guard := _ }) (v := ?_) [] rfl (by kernel_rfl) (by kernel_rfl) (by kernel_rfl) (fun _ _ _ h => h) (by kernel_rfl) (fun L u h => h) (Or.inl ⟨by rfl, ?_⟩) (⟨Env.cell (hs) g9 (nx) (by simp), Env.cell (hs) g_c (m) (by simp)⟩) ?_
            rotate_left
            · intro w hY; go_simp; try with_reducible rfl
            try simp only [Act.put, List.setIfInBounds_toArray, List.set_cons_zero, List.set_cons_succ]
            refine Goes.take (i := 5) (o := { dst := some 87, op := _, type := _, pos := _, after := _, guard := _ }) (v := ?_) [] rfl (by kernel_rfl) (by kernel_rfl) (by kernel_rfl) (fun _ _ _ h => h) (by kernel_rfl) (fun L u h => h) (Or.inl ⟨by rfl, ?_⟩) (⟨Env.cell (hs) g9 (nx) (by simp), Env.cell (hs) g_c (m) (by simp)⟩) ?_
            rotate_left
            · intro w hY; go_simp; try with_reducible rfl
            try simp only [Act.put, List.setIfInBounds_toArray, List.set_cons_zero, List.set_cons_succ]
            refine Goes.take (i := 6) (o := { dst := some 88, op := _, type := _, pos := _, after := _, guard := _ }) (v := ?_) [] rfl (by kernel_rfl) (by kernel_rfl) (by kernel_rfl) (fun _ _ _ h => h) (by kernel_rfl) (fun L u h => h) (Or.inl ⟨by rfl, ?_⟩) (⟨Env.cell (hs) g9 (nx) (by simp), Env.cell (hs) g_c (m) (by simp)⟩) ?_
            rotate_left
            · intro w hY; go_simp; try with_reducible rfl
            try simp only [Act.put, List.setIfInBounds_toArray, List.set_cons_zero, List.set_cons_succ]
            refine Goes.one (i := 8) (o := { dst := none, op := _, type := _, pos := _, after := _, guard := _ }) (by kernel_rfl) rfl (fun K hK => ?_)
            obtain ⟨z0, z1, z2, z3⟩ := hs.cell g23 0 (by simp)
            have zl := hs.lt g23 0 (by simp)
            have zf := hs.frozen g23 0 (by simp)
            have hs11 := hs.set g23 0 (0) [(g21, 1), (g19, r), (g17, q), (g15, r), (g13, q), (g11, p), (g9, nx), (g8, k), (g7, a), (g_c, m), (g_b, n), (g_a, x)] (by simp) Fg23.out.1 (fun p hp => by simp only [List.mem_cons, List.not_mem_nil, or_false] at hp; rcases hp with rfl | rfl | rfl | rfl | rfl | rfl | rfl | rfl | rfl | rfl | rfl | rfl <;> first | exact ⟨by simp, (Fg23.out.2 (g21, 1) (by simp))⟩ | exact ⟨by simp, (Fg23.out.2 (g19, r) (by simp))⟩ | exact ⟨by simp, (Fg23.out.2 (g17, q) (by simp))⟩ | exact ⟨by simp, (Fg23.out.2 (g15, r) (by simp))⟩ | exact ⟨by simp, (Fg23.out.2 (g13, q) (by simp))⟩ | exact ⟨by simp, (Fg23.out.2 (g11, p) (by simp))⟩ | exact ⟨by simp, (Fg23.out.2 (g9, nx) (by simp))⟩ | exact ⟨by simp, (Fg23.out.2 (g8, k) (by simp))⟩ | exact ⟨by simp, (Fg23.out.2 (g7, a) (by simp))⟩ | exact ⟨by simp, (Fg23.out.2 (g_c, m) (by simp))⟩ | exact ⟨by simp, (Fg23.out.2 (g_b, n) (by simp))⟩ | exact ⟨by simp, (Fg23.out.2 (g_a, x) (by simp))⟩)
            go_simp
            refine hK.out _ _ (⟨Env.cell (hs11) g9 (nx) (by simp), Env.cell (hs11) g_c (m) (by simp)⟩) ?_
            clear hK K
            try simp only [Act.put, List.setIfInBounds_toArray, List.set_cons_zero, List.set_cons_succ]
            clear hs z0 z1 z2 z3 zl zf
            change Goes _ _ _ _ _ _ _ _ (fil wn10 g23 (0))
            generalize fil wn10 g23 (0) = wn11 at *
            have hs := hs11
            clear hs11
            refine Goes.take (i := 9) (o := { dst := some 24, op := _, type := _, pos := _, after := _, guard := _ }) (v := ?_) [] rfl (by kernel_rfl) (by kernel_rfl) (by kernel_rfl) (fun _ _ _ h => h) (by kernel_rfl) (fun L u h => h) (Or.inl ⟨by rfl, ?_⟩) (⟨Env.cell (hs) g9 (nx) (by simp), Env.cell (hs) g_c (m) (by simp)⟩) ?_
            rotate_left
            · intro w hY; go_simp; try with_reducible rfl
            try simp only [Act.put, List.setIfInBounds_toArray, List.set_cons_zero, List.set_cons_succ]
            refine Goes.done (by kernel_rfl) ?_ _
            refine NoPanic.normal ?_
            go_wp2_with fail
            go_meet
            exact ⟨_, rfl, rfl, hid (hs.perm (by simp))⟩
        case rest =>
          obtain ⟨g23, rfl, rfl, H11c⟩ := hcut
          clear H10c
          go_upto_region 13 with fail
          have hs := H11c.out.drew
          go_region_held3 (fun w' => (w'.cell? ⟨g13, 0, none⟩ = some (.int .u64 (wd (q) 0 : Int)) ∧ w'.cell? ⟨g13, 1, none⟩ = some (.int .u64 (wd (q) 1 : Int)) ∧ w'.cell? ⟨g13, 2, none⟩ = some (.int .u64 (wd (q) 2 : Int)) ∧ w'.cell? ⟨g13, 3, none⟩ = some (.int .u64 (wd (q) 3 : Int))) ∧ (w'.cell? ⟨g17, 0, none⟩ = some (.int .u64 (wd (q) 0 : Int)) ∧ w'.cell? ⟨g17, 1, none⟩ = some (.int .u64 (wd (q) 1 : Int)) ∧ w'.cell? ⟨g17, 2, none⟩ = some (.int .u64 (wd (q) 2 : Int)) ∧ w'.cell? ⟨g17, 3, none⟩ = some (.int .u64 (wd (q) 3 : Int))) ∧ (w'.cell? ⟨g15, 0, none⟩ = some (.int .u64 (wd (r) 0 : Int)) ∧ w'.cell? ⟨g15, 1, none⟩ = some (.int .u64 (wd (r) 1 : Int)) ∧ w'.cell? ⟨g15, 2, none⟩ = some (.int .u64 (wd (r) 2 : Int)) ∧ w'.cell? ⟨g15, 3, none⟩ = some (.int .u64 (wd (r) 3 : Int))) ∧ (w'.cell? ⟨g19, 0, none⟩ = some (.int .u64 (wd (r) 0 : Int)) ∧ w'.cell? ⟨g19, 1, none⟩ = some (.int .u64 (wd (r) 1 : Int)) ∧ w'.cell? ⟨g19, 2, none⟩ = some (.int .u64 (wd (r) 2 : Int)) ∧ w'.cell? ⟨g19, 3, none⟩ = some (.int .u64 (wd (r) 3 : Int))) ∧ (w'.cell? ⟨g21, 0, none⟩ = some (.int .u64 (wd (1) 0 : Int)) ∧ w'.cell? ⟨g21, 1, none⟩ = some (.int .u64 (wd (1) 1 : Int)) ∧ w'.cell? ⟨g21, 2, none⟩ = some (.int .u64 (wd (1) 2 : Int)) ∧ w'.cell? ⟨g21, 3, none⟩ = some (.int .u64 (wd (1) 3 : Int))) ∧ (w'.cell? ⟨g23, 0, none⟩ = some (.int .u64 (wd (0) 0 : Int)) ∧ w'.cell? ⟨g23, 1, none⟩ = some (.int .u64 (wd (0) 1 : Int)) ∧ w'.cell? ⟨g23, 2, none⟩ = some (.int .u64 (wd (0) 2 : Int)) ∧ w'.cell? ⟨g23, 3, none⟩ = some (.int .u64 (wd (0) 3 : Int)))) (exact ⟨Env.cell (by assumption) _ _ (by simp), Env.cell (by assumption) _ _ (by simp), Env.cell (by assumption) _ _ (by simp), Env.cell (by assumption) _ _ (by simp), Env.cell (by assumption) _ _ (by simp), Env.cell (by assumption) _ _ (by simp)⟩) (first | ((go_at_call 20); (with_reducible refine (alive_at (by assumption)).mono ?_); rintro e wn ⟨rfl, hs⟩) | ((go_at_call 24); (with_reducible refine (ofl_at 1 1 (by assumption) (by decide) (by decide)).mono ?_); rintro e wn ⟨rfl, hs⟩) | ((go_at_call 22); (with_reducible refine (none_at (by assumption)).mono ?_); rintro e wn ⟨rfl, hs⟩))
          go_wp2
          go_ret
          exact ⟨rfl, hs.1⟩
theorem stepsLaw_any (x n m : Nat) (w : World) (hx : x < 2 ^ 256) (hn : n < 2 ^ 256) (hm : m < 2 ^ 256) : Calls Try.prog 6 #[num x, num n, num m] w fun e w' => e = .returned (.bool true) ∧ Below w.heap.size w w' := by
  rcases Nat.lt_or_ge 1 m with h | h
  · exact steps_some x n m w hx hn hm h
  · exact steps_low x n m w hx hn hm h
end Go.Proofs.Ytmeofgnmmbcklaa

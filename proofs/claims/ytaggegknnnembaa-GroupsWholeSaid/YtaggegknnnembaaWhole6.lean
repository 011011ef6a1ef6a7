/-
  burrowlaw06.GroupsWhole, walked: it answers true at any group and numbers. Conditions: none.
-/
import Derived.Test.YtaggegknnnembaaGma
namespace Go.Proofs.Ytaggegknnnembaa
open Go.RowKit
set_option linter.unusedVariables false

theorem Eg.fresh {w w' : World} {b t p q g : Nat} {l : List (Nat × Nat)} (h : Eg w b t p q g l w') : Fsh w l w'.heap.size ∧ b ≠ w'.heap.size := ⟨h.1.fresh, Nat.ne_of_lt h.2.lt⟩
set_option maxRecDepth 100000 in
set_option maxHeartbeats 4000000 in
theorem whole_all (p q g a b : Nat) (w : World) (hp : p < 2 ^ 256) (hq : q < 2 ^ 256) (hg : g < 2 ^ 256) (ha : a < 2 ^ 256) (hb : b < 2 ^ 256) (va : 0 < a ∧ a < p) (vb : 0 < b ∧ b < p) : Calls Try.prog 7 #[gv p q g, num a, num b] w fun e w' => e = .returned (.bool true) ∧ Below w.heap.size w w' := by
  have hp1 : 1 < p := by omega
  obtain ⟨x, ex⟩ : ∃ r, a * b % p = r := ⟨_, rfl⟩
  have ey : b * a % p = x := by rw [Nat.mul_comm]; exact ex
  have EX := hid ex
  have EY := hid ey
  have VA := hid va
  have VB := hid vb
  have P1 := hid hp1
  have E0 := hid (show a ^ 0 % p = 1 by rw [Nat.pow_zero, Nat.mod_eq_of_lt hp1])
  have E1 := hid (show a ^ 1 % p = a by rw [Nat.pow_one, Nat.mod_eq_of_lt va.2])
  have qx := eq_yes x x rfl
  have q1 := eq_yes 1 1 rfl
  have qa := eq_yes a a rfl
  clear ex ey va vb hp1
  have PL := hid hp
  have QL := hid hq
  have GL := hid hg
  have AL := hid ha
  have BL := hid hb
  clear hp hq hg ha hb
  have H0 := hid (((((Eg.of (Env.refl w) p q g 26)).new a).new b).perm (l' := [(w.heap.size + 1 + 1, b), (w.heap.size + 1, a)]) (by simp))
  go_enter Try.func7, Try.ntmps7
  go_wp2_with fail
  generalize ((w.alloc (.cells (gcs p q g) 26)).alloc (.cells (cls a) 24)).alloc (.cells (cls b) 24) = w0 at *
  generalize w.heap.size + 1 + 1 = g_b at *
  generalize w.heap.size + 1 = g_a at *
  generalize hzg_p : w.heap.size = g_p at *
  obtain ⟨ep0a, ep0b, ep0c, ep0d⟩ := H0.out.gp
  obtain ⟨eq0a, eq0b, eq0c, eq0d⟩ := H0.out.gq
  obtain ⟨eg0a, eg0b, eg0c, eg0d⟩ := H0.out.gg
  have eg0l := H0.out.gl
  have eg0m := Nat.le_of_lt eg0l
  obtain ⟨c14x0a, c14x0b, c14x0c, c14x0d⟩ := H0.out.cell (g_a) (a) (by simp)
  have c14x0l := H0.out.lt (g_a) (a) (by simp)
  have c14x0m := Nat.le_of_lt c14x0l
  obtain ⟨c20x0a, c20x0b, c20x0c, c20x0d⟩ := H0.out.cell (g_b) (b) (by simp)
  have c20x0l := H0.out.lt (g_b) (b) (by simp)
  have c20x0m := Nat.le_of_lt c20x0l
  go_wp2_with fail
  clear ep0a ep0b ep0c ep0d eq0a eq0b eq0c eq0d eg0a eg0b eg0c eg0d eg0l eg0m c14x0a c14x0b c14x0c c14x0d c14x0l c14x0m c20x0a c20x0b c20x0c c20x0d c20x0l c20x0m
  refine (eg_of (gmul_at p q g a b x _ PL.out VA.out VB.out EX.out) H0.out).mono ?_
  rintro e w1 ⟨rfl, h⟩
  have H1 := hid h
  clear h H0
  go_upto_region 2 with fail
  have H1b := hid (H1.out.new x)
  clear H1
  generalize w1.alloc (.cells (cls x) 24) = w1b at *
  generalize w1.heap.size = g7 at *
  obtain ⟨ep1a, ep1b, ep1c, ep1d⟩ := H1b.out.gp
  have eg1l := H1b.out.gl
  have eg1m := Nat.le_of_lt eg1l
  obtain ⟨c6x1a, c6x1b, c6x1c, c6x1d⟩ := H1b.out.cell (g_a) (a) (by simp)
  have c6x1l := H1b.out.lt (g_a) (a) (by simp)
  have c6x1m := Nat.le_of_lt c6x1l
  obtain ⟨c12x1a, c12x1b, c12x1c, c12x1d⟩ := H1b.out.cell (g_b) (b) (by simp)
  have c12x1l := H1b.out.lt (g_b) (b) (by simp)
  have c12x1m := Nat.le_of_lt c12x1l
  go_wp2_with fail
  clear ep1a ep1b ep1c ep1d eg1l eg1m c6x1a c6x1b c6x1c c6x1d c6x1l c6x1m c12x1a c12x1b c12x1c c12x1d c12x1l c12x1m
  refine (eg_at (mmul_at a b p x (Env.refl _) PL.out P1.out VA.out.2 VB.out.2 EX.out) H1b.out).mono ?_
  rintro e w2 ⟨rfl, h⟩
  have H2 := hid h
  clear h H1b
  go_upto_region 5 with fail
  have H2b := hid (H2.out.new x)
  clear H2
  generalize w2.alloc (.cells (cls x) 24) = w2b at *
  generalize w2.heap.size = g9 at *
  obtain ⟨ep2a, ep2b, ep2c, ep2d⟩ := H2b.out.gp
  have eg2l := H2b.out.gl
  have eg2m := Nat.le_of_lt eg2l
  obtain ⟨c6x2a, c6x2b, c6x2c, c6x2d⟩ := H2b.out.cell (g_b) (b) (by simp)
  have c6x2l := H2b.out.lt (g_b) (b) (by simp)
  have c6x2m := Nat.le_of_lt c6x2l
  obtain ⟨c12x2a, c12x2b, c12x2c, c12x2d⟩ := H2b.out.cell (g_a) (a) (by simp)
  have c12x2l := H2b.out.lt (g_a) (a) (by simp)
  have c12x2m := Nat.le_of_lt c12x2l
  go_wp2_with fail
  clear ep2a ep2b ep2c ep2d eg2l eg2m c6x2a c6x2b c6x2c c6x2d c6x2l c6x2m c12x2a c12x2b c12x2c c12x2d c12x2l c12x2m
  refine (eg_at (mmul_at b a p x (Env.refl _) PL.out P1.out VB.out.2 VA.out.2 EY.out) H2b.out).mono ?_
  rintro e w3 ⟨rfl, h⟩
  have H3 := hid h
  clear h H2b
  go_upto_region 6 with fail
  have H3b := hid (H3.out.new x)
  clear H3
  generalize w3.alloc (.cells (cls x) 24) = w3b at *
  generalize w3.heap.size = g11 at *
  obtain ⟨ep3a, ep3b, ep3c, ep3d⟩ := H3b.out.gp
  obtain ⟨eq3a, eq3b, eq3c, eq3d⟩ := H3b.out.gq
  obtain ⟨eg3a, eg3b, eg3c, eg3d⟩ := H3b.out.gg
  have eg3l := H3b.out.gl
  have eg3m := Nat.le_of_lt eg3l
  obtain ⟨c14x3a, c14x3b, c14x3c, c14x3d⟩ := H3b.out.cell (g_a) (a) (by simp)
  have c14x3l := H3b.out.lt (g_a) (a) (by simp)
  have c14x3m := Nat.le_of_lt c14x3l
  go_wp2_with fail
  clear ep3a ep3b ep3c ep3d eq3a eq3b eq3c eq3d eg3a eg3b eg3c eg3d eg3l eg3m c14x3a c14x3b c14x3c c14x3d c14x3l c14x3m
  refine (eg_of (gexp_any p q g a 0 1 _ PL.out (by decide) VA.out E0.out) H3b.out).mono ?_
  rintro e w4 ⟨rfl, h⟩
  have H4 := hid h
  clear h H3b
  go_upto_region 7 with fail
  have H4b := hid (H4.out.new 1)
  clear H4
  generalize w4.alloc (.cells (cls 1) 24) = w4b at *
  generalize w4.heap.size = g13 at *
  go_upto_region 7 with fail
  go_cut [15, 16] (fun s15 s16 wx => ∃ g15 : Nat, s15 = .pointer (some ⟨g15, 0, none⟩) ∧ s16 = .int .i64 0 ∧ Hid (Eg w g_p 26 p q g [(g15, a), (g13, 1), (g11, x), (g9, x), (g7, x), (g_b, b), (g_a, a)] wx))
  case first =>
    have hs := H4b.out.drew
    refine wp_region_noPanic ?_
    refine Goes.region (fun (L : Array Bool) (w' : World) => w'.cell? ⟨g_a, 0, none⟩ = some (.int .u64 (wd (a) 0 : Int)) ∧ w'.cell? ⟨g_a, 1, none⟩ = some (.int .u64 (wd (a) 1 : Int)) ∧ w'.cell? ⟨g_a, 2, none⟩ = some (.int .u64 (wd (a) 2 : Int)) ∧ w'.cell? ⟨g_a, 3, none⟩ = some (.int .u64 (wd (a) 3 : Int)) ∧ w'.cell? ⟨g_p, 0, none⟩ = some (.int .u64 (wd p 0 : Int)) ∧ w'.cell? ⟨g_p, 1, none⟩ = some (.int .u64 (wd p 1 : Int)) ∧ w'.cell? ⟨g_p, 2, none⟩ = some (.int .u64 (wd p 2 : Int)) ∧ w'.cell? ⟨g_p, 3, none⟩ = some (.int .u64 (wd p 3 : Int)) ∧ w'.cell? ⟨g_p, 4, none⟩ = some (.int .u64 (wd q 0 : Int)) ∧ w'.cell? ⟨g_p, 5, none⟩ = some (.int .u64 (wd q 1 : Int)) ∧ w'.cell? ⟨g_p, 6, none⟩ = some (.int .u64 (wd q 2 : Int)) ∧ w'.cell? ⟨g_p, 7, none⟩ = some (.int .u64 (wd q 3 : Int)) ∧ w'.cell? ⟨g_p, 8, none⟩ = some (.int .u64 (wd g 0 : Int)) ∧ w'.cell? ⟨g_p, 9, none⟩ = some (.int .u64 (wd g 1 : Int)) ∧ w'.cell? ⟨g_p, 10, none⟩ = some (.int .u64 (wd g 2 : Int)) ∧ w'.cell? ⟨g_p, 11, none⟩ = some (.int .u64 (wd g 3 : Int))) (by kernel_rfl) ?_
    generalize w4b.drew = wd at *
    refine Goes.take (i := 0) (o := { dst := some 60, op := _, type := _, pos := _, after := _, guard := _ }) (v := ?_) [] rfl (by kernel_rfl) (by kernel_rfl) (by kernel_rfl) (fun _ _ _ h => h) (by kernel_rfl) (fun L u h => h) (Or.inl ⟨by rfl, ?_⟩) (⟨(Eg.cell hs g_a (a) (by simp)).1, (Eg.cell hs g_a (a) (by simp)).2.1, (Eg.cell hs g_a (a) (by simp)).2.2.1, (Eg.cell hs g_a (a) (by simp)).2.2.2, (Eg.gp hs).1, (Eg.gp hs).2.1, (Eg.gp hs).2.2.1, (Eg.gp hs).2.2.2, (Eg.gq hs).1, (Eg.gq hs).2.1, (Eg.gq hs).2.2.1, (Eg.gq hs).2.2.2, (Eg.gg hs).1, (Eg.gg hs).2.1, (Eg.gg hs).2.2.1, (Eg.gg hs).2.2.2⟩) ?_
    rotate_left
    · intro w hY; obtain ⟨up, hL⟩ := hY; have hX := hL.2; clear hL; (try dsimp only at hX); obtain ⟨x0, x1, x2, x3, x4, x5, x6, x7, x8, x9, x10, x11, x12, x13, x14, x15⟩ := hX; go_simp; try with_reducible rfl
    try simp only [Act.put, List.setIfInBounds_toArray, List.set_cons_zero, List.set_cons_succ]
    refine Goes.take (i := 1) (o := { dst := some 61, op := _, type := _, pos := _, after := _, guard := _ }) (v := ?_) [] rfl (by kernel_rfl) (by kernel_rfl) (by kernel_rfl) (fun _ _ _ h => h) (by kernel_rfl) (fun L u h => h) (Or.inl ⟨by rfl, ?_⟩) (⟨(Eg.cell hs g_a (a) (by simp)).1, (Eg.cell hs g_a (a) (by simp)).2.1, (Eg.cell hs g_a (a) (by simp)).2.2.1, (Eg.cell hs g_a (a) (by simp)).2.2.2, (Eg.gp hs).1, (Eg.gp hs).2.1, (Eg.gp hs).2.2.1, (Eg.gp hs).2.2.2, (Eg.gq hs).1, (Eg.gq hs).2.1, (Eg.gq hs).2.2.1, (Eg.gq hs).2.2.2, (Eg.gg hs).1, (Eg.gg hs).2.1, (Eg.gg hs).2.2.1, (Eg.gg hs).2.2.2⟩) ?_
    rotate_left
    · intro w hY; obtain ⟨up, hL⟩ := hY; have hX := hL.2; clear hL; (try dsimp only at hX); obtain ⟨x0, x1, x2, x3, x4, x5, x6, x7, x8, x9, x10, x11, x12, x13, x14, x15⟩ := hX; go_simp; try with_reducible rfl
    try simp only [Act.put, List.setIfInBounds_toArray, List.set_cons_zero, List.set_cons_succ]
    refine Goes.two (i := 2) (j := 7) (o := { dst := some 62, op := _, type := _, pos := _, after := _, guard := _ }) (p := { dst := some 15, op := _, type := _, pos := _, after := _, guard := _ }) (by kernel_rfl) rfl rfl (fun K hK => ?_) (fun K hK => ?_)
    · skip
      go_simp
      with_reducible refine (eg_at (of_at 1 1 (Env.refl _) (by decide) rfl) hs).mono ?_
      rintro e wn1 ⟨rfl, hs1⟩
      go_wp2_with fail
      refine hK.out _ _ (⟨(Eg.cell hs1 g_a (a) (by simp)).1, (Eg.cell hs1 g_a (a) (by simp)).2.1, (Eg.cell hs1 g_a (a) (by simp)).2.2.1, (Eg.cell hs1 g_a (a) (by simp)).2.2.2, (Eg.gp hs1).1, (Eg.gp hs1).2.1, (Eg.gp hs1).2.2.1, (Eg.gp hs1).2.2.2, (Eg.gq hs1).1, (Eg.gq hs1).2.1, (Eg.gq hs1).2.2.1, (Eg.gq hs1).2.2.2, (Eg.gg hs1).1, (Eg.gg hs1).2.1, (Eg.gg hs1).2.2.1, (Eg.gg hs1).2.2.2⟩) ?_
      clear hK K
      try simp only [Act.put, List.setIfInBounds_toArray, List.set_cons_zero, List.set_cons_succ]
      clear hs
      have hs := hs1
      clear hs1
      refine Goes.two (i := 3) (j := 7) (o := { dst := some 63, op := _, type := _, pos := _, after := _, guard := _ }) (p := { dst := some 15, op := _, type := _, pos := _, after := _, guard := _ }) (by kernel_rfl) rfl rfl (fun K hK => ?_) (fun K hK => ?_)
      · skip
        go_simp
        with_reducible refine (eg_of (gexp_any p q g a 1 a _ PL.out (by decide) VA.out E1.out) hs).mono ?_
        rintro e wn2 ⟨rfl, hs2⟩
        go_wp2_with fail
        refine hK.out _ _ (⟨(Eg.cell hs2 g_a (a) (by simp)).1, (Eg.cell hs2 g_a (a) (by simp)).2.1, (Eg.cell hs2 g_a (a) (by simp)).2.2.1, (Eg.cell hs2 g_a (a) (by simp)).2.2.2, (Eg.gp hs2).1, (Eg.gp hs2).2.1, (Eg.gp hs2).2.2.1, (Eg.gp hs2).2.2.2, (Eg.gq hs2).1, (Eg.gq hs2).2.1, (Eg.gq hs2).2.2.1, (Eg.gq hs2).2.2.2, (Eg.gg hs2).1, (Eg.gg hs2).2.1, (Eg.gg hs2).2.2.1, (Eg.gg hs2).2.2.2⟩) ?_
        clear hK K
        try simp only [Act.put, List.setIfInBounds_toArray, List.set_cons_zero, List.set_cons_succ]
        clear hs
        have hs := hs2
        clear hs2
        refine Goes.take (i := 4) (o := { dst := some 59, op := _, type := _, pos := _, after := _, guard := _ }) (v := ?_) [] rfl (by kernel_rfl) (by kernel_rfl) (by kernel_rfl) (fun _ _ _ h => h) (by kernel_rfl) (fun L u h => h) (Or.inl ⟨by rfl, ?_⟩) (⟨(Eg.cell hs g_a (a) (by simp)).1, (Eg.cell hs g_a (a) (by simp)).2.1, (Eg.cell hs g_a (a) (by simp)).2.2.1, (Eg.cell hs g_a (a) (by simp)).2.2.2, (Eg.gp hs).1, (Eg.gp hs).2.1, (Eg.gp hs).2.2.1, (Eg.gp hs).2.2.2, (Eg.gq hs).1, (Eg.gq hs).2.1, (Eg.gq hs).2.2.1, (Eg.gq hs).2.2.2, (Eg.gg hs).1, (Eg.gg hs).2.1, (Eg.gg hs).2.2.1, (Eg.gg hs).2.2.2⟩) ?_
        rotate_left
        · intro w hY; go_simp; try with_reducible rfl
        try simp only [Act.put, List.setIfInBounds_toArray, List.set_cons_zero, List.set_cons_succ]
        refine Goes.take (i := 5) (o := { dst := some 64, op := _, type := _, pos := _, after := _, guard := _ }) (v := ?_) [] rfl (by kernel_rfl) (by kernel_rfl) (by kernel_rfl) (fun _ _ _ h => h) (by kernel_rfl) (fun L u h => h) (Or.inl ⟨by rfl, ?_⟩) (⟨(Eg.cell hs g_a (a) (by simp)).1, (Eg.cell hs g_a (a) (by simp)).2.1, (Eg.cell hs g_a (a) (by simp)).2.2.1, (Eg.cell hs g_a (a) (by simp)).2.2.2, (Eg.gp hs).1, (Eg.gp hs).2.1, (Eg.gp hs).2.2.1, (Eg.gp hs).2.2.2, (Eg.gq hs).1, (Eg.gq hs).2.1, (Eg.gq hs).2.2.1, (Eg.gq hs).2.2.2, (Eg.gg hs).1, (Eg.gg hs).2.1, (Eg.gg hs).2.2.1, (Eg.gg hs).2.2.2⟩) ?_
        rotate_left
        · intro w hY; go_simp; try with_reducible rfl
        try simp only [Act.put, List.setIfInBounds_toArray, List.set_cons_zero, List.set_cons_succ]
        refine Goes.take (i := 6) (o := { dst := some 65, op := _, type := _, pos := _, after := _, guard := _ }) (v := ?_) [] rfl (by kernel_rfl) (by kernel_rfl) (by kernel_rfl) (fun _ _ _ h => h) (by kernel_rfl) (fun L u h => h) (Or.inl ⟨by rfl, ?_⟩) (⟨(Eg.cell hs g_a (a) (by simp)).1, (Eg.cell hs g_a (a) (by simp)).2.1, (Eg.cell hs g_a (a) (by simp)).2.2.1, (Eg.cell hs g_a (a) (by simp)).2.2.2, (Eg.gp hs).1, (Eg.gp hs).2.1, (Eg.gp hs).2.2.1, (Eg.gp hs).2.2.2, (Eg.gq hs).1, (Eg.gq hs).2.1, (Eg.gq hs).2.2.1, (Eg.gq hs).2.2.2, (Eg.gg hs).1, (Eg.gg hs).2.1, (Eg.gg hs).2.2.1, (Eg.gg hs).2.2.2⟩) ?_
        rotate_left
        · intro w hY; go_simp; try with_reducible rfl
        try simp only [Act.put, List.setIfInBounds_toArray, List.set_cons_zero, List.set_cons_succ]
        refine Goes.one (i := 7) (o := { dst := some 15, op := _, type := _, pos := _, after := _, guard := _ }) (by kernel_rfl) rfl (fun K hK => ?_)
        go_simp
        refine hK.out _ _ (⟨(Eg.cell hs.zero g_a (a) (by simp)).1, (Eg.cell hs.zero g_a (a) (by simp)).2.1, (Eg.cell hs.zero g_a (a) (by simp)).2.2.1, (Eg.cell hs.zero g_a (a) (by simp)).2.2.2, (Eg.gp hs.zero).1, (Eg.gp hs.zero).2.1, (Eg.gp hs.zero).2.2.1, (Eg.gp hs.zero).2.2.2, (Eg.gq hs.zero).1, (Eg.gq hs.zero).2.1, (Eg.gq hs.zero).2.2.1, (Eg.gq hs.zero).2.2.2, (Eg.gg hs.zero).1, (Eg.gg hs.zero).2.1, (Eg.gg hs.zero).2.2.1, (Eg.gg hs.zero).2.2.2⟩) ?_
        clear hK K
        try simp only [Act.put, List.setIfInBounds_toArray, List.set_cons_zero, List.set_cons_succ]
        have Fg15 := hid hs.fresh
        have hs3 := hs.zero
        clear hs
        generalize wn2.alloc (.cells #[.int .u64 0, .int .u64 0, .int .u64 0, .int .u64 0] 24) = wn3 at *
        generalize wn2.heap.size = g15 at *
        have hs := hs3
        clear hs3
        refine Goes.one (i := 8) (o := { dst := none, op := _, type := _, pos := _, after := _, guard := _ }) (by kernel_rfl) rfl (fun K hK => ?_)
        obtain ⟨z0, z1, z2, z3⟩ := hs.cell g15 0 (by simp)
        have zl := hs.lt g15 0 (by simp)
        have zf := hs.frozen g15 0 (by simp)
        have hs4 := hs.set g15 0 (a) [(g13, 1), (g11, x), (g9, x), (g7, x), (g_b, b), (g_a, a)] (by simp) Fg15.out.1.1 (fun p hp => by simp only [List.mem_cons, List.not_mem_nil, or_false] at hp; rcases hp with rfl | rfl | rfl | rfl | rfl | rfl <;> first | exact ⟨by simp, Fg15.out.1.2 (g13, 1) (by simp)⟩ | exact ⟨by simp, Fg15.out.1.2 (g11, x) (by simp)⟩ | exact ⟨by simp, Fg15.out.1.2 (g9, x) (by simp)⟩ | exact ⟨by simp, Fg15.out.1.2 (g7, x) (by simp)⟩ | exact ⟨by simp, Fg15.out.1.2 (g_b, b) (by simp)⟩ | exact ⟨by simp, Fg15.out.1.2 (g_a, a) (by simp)⟩) Fg15.out.2
        go_simp
        refine hK.out _ _ (⟨(Eg.cell hs4 g_a (a) (by simp)).1, (Eg.cell hs4 g_a (a) (by simp)).2.1, (Eg.cell hs4 g_a (a) (by simp)).2.2.1, (Eg.cell hs4 g_a (a) (by simp)).2.2.2, (Eg.gp hs4).1, (Eg.gp hs4).2.1, (Eg.gp hs4).2.2.1, (Eg.gp hs4).2.2.2, (Eg.gq hs4).1, (Eg.gq hs4).2.1, (Eg.gq hs4).2.2.1, (Eg.gq hs4).2.2.2, (Eg.gg hs4).1, (Eg.gg hs4).2.1, (Eg.gg hs4).2.2.1, (Eg.gg hs4).2.2.2⟩) ?_
        clear hK K
        try simp only [Act.put, List.setIfInBounds_toArray, List.set_cons_zero, List.set_cons_succ]
        clear hs z0 z1 z2 z3 zl zf
        change Goes _ _ _ _ _ _ _ _ (fil wn3 g15 (a))
        generalize fil wn3 g15 (a) = wn4 at *
        have hs := hs4
        clear hs4
        refine Goes.take (i := 9) (o := { dst := some 16, op := _, type := _, pos := _, after := _, guard := _ }) (v := ?_) [] rfl (by kernel_rfl) (by kernel_rfl) (by kernel_rfl) (fun _ _ _ h => h) (by kernel_rfl) (fun L u h => h) (Or.inl ⟨by rfl, ?_⟩) (⟨(Eg.cell hs g_a (a) (by simp)).1, (Eg.cell hs g_a (a) (by simp)).2.1, (Eg.cell hs g_a (a) (by simp)).2.2.1, (Eg.cell hs g_a (a) (by simp)).2.2.2, (Eg.gp hs).1, (Eg.gp hs).2.1, (Eg.gp hs).2.2.1, (Eg.gp hs).2.2.2, (Eg.gq hs).1, (Eg.gq hs).2.1, (Eg.gq hs).2.2.1, (Eg.gq hs).2.2.2, (Eg.gg hs).1, (Eg.gg hs).2.1, (Eg.gg hs).2.2.1, (Eg.gg hs).2.2.2⟩) ?_
        rotate_left
        · intro w hY; go_simp; try with_reducible rfl
        try simp only [Act.put, List.setIfInBounds_toArray, List.set_cons_zero, List.set_cons_succ]
        refine Goes.done (by kernel_rfl) ?_ _
        refine NoPanic.normal ?_
        go_wp2_with fail
        go_meet
        exact ⟨_, rfl, rfl, hid (hs.perm (by simp))⟩
      · skip
        go_simp
        refine hK.out _ _ (⟨(Eg.cell hs.zero g_a (a) (by simp)).1, (Eg.cell hs.zero g_a (a) (by simp)).2.1, (Eg.cell hs.zero g_a (a) (by simp)).2.2.1, (Eg.cell hs.zero g_a (a) (by simp)).2.2.2, (Eg.gp hs.zero).1, (Eg.gp hs.zero).2.1, (Eg.gp hs.zero).2.2.1, (Eg.gp hs.zero).2.2.2, (Eg.gq hs.zero).1, (Eg.gq hs.zero).2.1, (Eg.gq hs.zero).2.2.1, (Eg.gq hs.zero).2.2.2, (Eg.gg hs.zero).1, (Eg.gg hs.zero).2.1, (Eg.gg hs.zero).2.2.1, (Eg.gg hs.zero).2.2.2⟩) ?_
        clear hK K
        try simp only [Act.put, List.setIfInBounds_toArray, List.set_cons_zero, List.set_cons_succ]
        have Fg15 := hid hs.fresh
        have hs5 := hs.zero
        clear hs
        generalize wn1.alloc (.cells #[.int .u64 0, .int .u64 0, .int .u64 0, .int .u64 0] 24) = wn5 at *
        generalize wn1.heap.size = g15 at *
        have hs := hs5
        clear hs5
        refine Goes.one (i := 3) (o := { dst := some 63, op := _, type := _, pos := _, after := _, guard := _ }) (by kernel_rfl) rfl (fun K hK => ?_)
        go_simp
        with_reducible refine (eg_of (gexp_any p q g a 1 a _ PL.out (by decide) VA.out E1.out) hs).mono ?_
        rintro e wn6 ⟨rfl, hs6⟩
        go_wp2_with fail
        refine hK.out _ _ (⟨(Eg.cell hs6 g_a (a) (by simp)).1, (Eg.cell hs6 g_a (a) (by simp)).2.1, (Eg.cell hs6 g_a (a) (by simp)).2.2.1, (Eg.cell hs6 g_a (a) (by simp)).2.2.2, (Eg.gp hs6).1, (Eg.gp hs6).2.1, (Eg.gp hs6).2.2.1, (Eg.gp hs6).2.2.2, (Eg.gq hs6).1, (Eg.gq hs6).2.1, (Eg.gq hs6).2.2.1, (Eg.gq hs6).2.2.2, (Eg.gg hs6).1, (Eg.gg hs6).2.1, (Eg.gg hs6).2.2.1, (Eg.gg hs6).2.2.2⟩) ?_
        clear hK K
        try simp only [Act.put, List.setIfInBounds_toArray, List.set_cons_zero, List.set_cons_succ]
        clear hs
        have hs := hs6
        clear hs6
        refine Goes.take (i := 4) (o := { dst := some 59, op := _, type := _, pos := _, after := _, guard := _ }) (v := ?_) [] rfl (by kernel_rfl) (by kernel_rfl) (by kernel_rfl) (fun _ _ _ h => h) (by kernel_rfl) (fun L u h => h) (Or.inl ⟨by rfl, ?_⟩) (⟨(Eg.cell hs g_a (a) (by simp)).1, (Eg.cell hs g_a (a) (by simp)).2.1, (Eg.cell hs g_a (a) (by simp)).2.2.1, (Eg.cell hs g_a (a) (by simp)).2.2.2, (Eg.gp hs).1, (Eg.gp hs).2.1, (Eg.gp hs).2.2.1, (Eg.gp hs).2.2.2, (Eg.gq hs).1, (Eg.gq hs).2.1, (Eg.gq hs).2.2.1, (Eg.gq hs).2.2.2, (Eg.gg hs).1, (Eg.gg hs).2.1, (Eg.gg hs).2.2.1, (Eg.gg hs).2.2.2⟩) ?_
        rotate_left
        · intro w hY; go_simp; try with_reducible rfl
        try simp only [Act.put, List.setIfInBounds_toArray, List.set_cons_zero, List.set_cons_succ]
        refine Goes.take (i := 5) (o := { dst := some 64, op := _, type := _, pos := _, after := _, guard := _ }) (v := ?_) [] rfl (by kernel_rfl) (by kernel_rfl) (by kernel_rfl) (fun _ _ _ h => h) (by kernel_rfl) (fun L u h => h) (Or.inl ⟨by rfl, ?_⟩) (⟨(Eg.cell hs g_a (a) (by simp)).1, (Eg.cell hs g_a (a) (by simp)).2.1, (Eg.cell hs g_a (a) (by simp)).2.2.1, (Eg.cell hs g_a (a) (by simp)).2.2.2, (Eg.gp hs).1, (Eg.gp hs).2.1, (Eg.gp hs).2.2.1, (Eg.gp hs).2.2.2, (Eg.gq hs).1, (Eg.gq hs).2.1, (Eg.gq hs).2.2.1, (Eg.gq hs).2.2.2, (Eg.gg hs).1, (Eg.gg hs).2.1, (Eg.gg hs).2.2.1, (Eg.gg hs).2.2.2⟩) ?_
        rotate_left
        · intro w hY; go_simp; try with_reducible rfl
        try simp only [Act.put, List.setIfInBounds_toArray, List.set_cons_zero, List.set_cons_succ]
        refine Goes.take (i := 6) (o := { dst := some 65, op := _, type := _, pos := _, after := _, guard := _ }) (v := ?_) [] rfl (by kernel_rfl) (by kernel_rfl) (by kernel_rfl) (fun _ _ _ h => h) (by kernel_rfl) (fun L u h => h) (Or.inl ⟨by rfl, ?_⟩) (⟨(Eg.cell hs g_a (a) (by simp)).1, (Eg.cell hs g_a (a) (by simp)).2.1, (Eg.cell hs g_a (a) (by simp)).2.2.1, (Eg.cell hs g_a (a) (by simp)).2.2.2, (Eg.gp hs).1, (Eg.gp hs).2.1, (Eg.gp hs).2.2.1, (Eg.gp hs).2.2.2, (Eg.gq hs).1, (Eg.gq hs).2.1, (Eg.gq hs).2.2.1, (Eg.gq hs).2.2.2, (Eg.gg hs).1, (Eg.gg hs).2.1, (Eg.gg hs).2.2.1, (Eg.gg hs).2.2.2⟩) ?_
        rotate_left
        · intro w hY; go_simp; try with_reducible rfl
        try simp only [Act.put, List.setIfInBounds_toArray, List.set_cons_zero, List.set_cons_succ]
        refine Goes.one (i := 8) (o := { dst := none, op := _, type := _, pos := _, after := _, guard := _ }) (by kernel_rfl) rfl (fun K hK => ?_)
        obtain ⟨z0, z1, z2, z3⟩ := hs.cell g15 0 (by simp)
        have zl := hs.lt g15 0 (by simp)
        have zf := hs.frozen g15 0 (by simp)
        have hs7 := hs.set g15 0 (a) [(g13, 1), (g11, x), (g9, x), (g7, x), (g_b, b), (g_a, a)] (by simp) Fg15.out.1.1 (fun p hp => by simp only [List.mem_cons, List.not_mem_nil, or_false] at hp; rcases hp with rfl | rfl | rfl | rfl | rfl | rfl <;> first | exact ⟨by simp, Fg15.out.1.2 (g13, 1) (by simp)⟩ | exact ⟨by simp, Fg15.out.1.2 (g11, x) (by simp)⟩ | exact ⟨by simp, Fg15.out.1.2 (g9, x) (by simp)⟩ | exact ⟨by simp, Fg15.out.1.2 (g7, x) (by simp)⟩ | exact ⟨by simp, Fg15.out.1.2 (g_b, b) (by simp)⟩ | exact ⟨by simp, Fg15.out.1.2 (g_a, a) (by simp)⟩) Fg15.out.2
        go_simp
        refine hK.out _ _ (⟨(Eg.cell hs7 g_a (a) (by simp)).1, (Eg.cell hs7 g_a (a) (by simp)).2.1, (Eg.cell hs7 g_a (a) (by simp)).2.2.1, (Eg.cell hs7 g_a (a) (by simp)).2.2.2, (Eg.gp hs7).1, (Eg.gp hs7).2.1, (Eg.gp hs7).2.2.1, (Eg.gp hs7).2.2.2, (Eg.gq hs7).1, (Eg.gq hs7).2.1, (Eg.gq hs7).2.2.1, (Eg.gq hs7).2.2.2, (Eg.gg hs7).1, (Eg.gg hs7).2.1, (Eg.gg hs7).2.2.1, (Eg.gg hs7).2.2.2⟩) ?_
        clear hK K
        try simp only [Act.put, List.setIfInBounds_toArray, List.set_cons_zero, List.set_cons_succ]
        clear hs z0 z1 z2 z3 zl zf
        change Goes _ _ _ _ _ _ _ _ (fil wn6 g15 (a))
        generalize fil wn6 g15 (a) = wn7 at *
        have hs := hs7
        clear hs7
        refine Goes.take (i := 9) (o := { dst := some 16, op := _, type := _, pos := _, after := _, guard := _ }) (v := ?_) [] rfl (by kernel_rfl) (by kernel_rfl) (by kernel_rfl) (fun _ _ _ h => h) (by kernel_rfl) (fun L u h => h) (Or.inl ⟨by rfl, ?_⟩) (⟨(Eg.cell hs g_a (a) (by simp)).1, (Eg.cell hs g_a (a) (by simp)).2.1, (Eg.cell hs g_a (a) (by simp)).2.2.1, (Eg.cell hs g_a (a) (by simp)).2.2.2, (Eg.gp hs).1, (Eg.gp hs).2.1, (Eg.gp hs).2.2.1, (Eg.gp hs).2.2.2, (Eg.gq hs).1, (Eg.gq hs).2.1, (Eg.gq hs).2.2.1, (Eg.gq hs).2.2.2, (Eg.gg hs).1, (Eg.gg hs).2.1, (Eg.gg hs).2.2.1, (Eg.gg hs).2.2.2⟩) ?_
        rotate_left
        · intro w hY; go_simp; try with_reducible rfl
        try simp only [Act.put, List.setIfInBounds_toArray, List.set_cons_zero, List.set_cons_succ]
        refine Goes.done (by kernel_rfl) ?_ _
        refine NoPanic.normal ?_
        go_wp2_with fail
        go_meet
        exact ⟨_, rfl, rfl, hid (hs.perm (by simp))⟩
    · skip
      go_simp
      refine hK.out _ _ (⟨(Eg.cell hs.zero g_a (a) (by simp)).1, (Eg.cell hs.zero g_a (a) (by simp)).2.1, (Eg.cell hs.zero g_a (a) (by simp)).2.2.1, (Eg.cell hs.zero g_a (a) (by simp)).2.2.2, (Eg.gp hs.zero).1, (Eg.gp hs.zero).2.1, (Eg.gp hs.zero).2.2.1, (Eg.gp hs.zero).2.2.2, (Eg.gq hs.zero).1, (Eg.gq hs.zero).2.1, (Eg.gq hs.zero).2.2.1, (Eg.gq hs.zero).2.2.2, (Eg.gg hs.zero).1, (Eg.gg hs.zero).2.1, (Eg.gg hs.zero).2.2.1, (Eg.gg hs.zero).2.2.2⟩) ?_
      clear hK K
      try simp only [Act.put, List.setIfInBounds_toArray, List.set_cons_zero, List.set_cons_succ]
      have Fg15 := hid hs.fresh
      have hs8 := hs.zero
      clear hs
      generalize wd.alloc (.cells #[.int .u64 0, .int .u64 0, .int .u64 0, .int .u64 0] 24) = wn8 at *
      generalize wd.heap.size = g15 at *
      have hs := hs8
      clear hs8
      refine Goes.one (i := 2) (o := { dst := some 62, op := _, type := _, pos := _, after := _, guard := _ }) (by kernel_rfl) rfl (fun K hK => ?_)
      go_simp
      with_reducible refine (eg_at (of_at 1 1 (Env.refl _) (by decide) rfl) hs).mono ?_
      rintro e wn9 ⟨rfl, hs9⟩
      go_wp2_with fail
      refine hK.out _ _ (⟨(Eg.cell hs9 g_a (a) (by simp)).1, (Eg.cell hs9 g_a (a) (by simp)).2.1, (Eg.cell hs9 g_a (a) (by simp)).2.2.1, (Eg.cell hs9 g_a (a) (by simp)).2.2.2, (Eg.gp hs9).1, (Eg.gp hs9).2.1, (Eg.gp hs9).2.2.1, (Eg.gp hs9).2.2.2, (Eg.gq hs9).1, (Eg.gq hs9).2.1, (Eg.gq hs9).2.2.1, (Eg.gq hs9).2.2.2, (Eg.gg hs9).1, (Eg.gg hs9).2.1, (Eg.gg hs9).2.2.1, (Eg.gg hs9).2.2.2⟩) ?_
      clear hK K
      try simp only [Act.put, List.setIfInBounds_toArray, List.set_cons_zero, List.set_cons_succ]
      clear hs
      have hs := hs9
      clear hs9
      refine Goes.one (i := 3) (o := { dst := some 63, op := _, type := _, pos := _, after := _, guard := _ }) (by kernel_rfl) rfl (fun K hK => ?_)
      go_simp
      with_reducible refine (eg_of (gexp_any p q g a 1 a _ PL.out (by decide) VA.out E1.out) hs).mono ?_
      rintro e wn10 ⟨rfl, hs10⟩
      go_wp2_with fail
      refine hK.out _ _ (⟨(Eg.cell hs10 g_a (a) (by simp)).1, (Eg.cell hs10 g_a (a) (by simp)).2.1, (Eg.cell hs10 g_a (a) (by simp)).2.2.1, (Eg.cell hs10 g_a (a) (by simp)).2.2.2, (Eg.gp hs10).1, (Eg.gp hs10).2.1, (Eg.gp hs10).2.2.1, (Eg.gp hs10).2.2.2, (Eg.gq hs10).1, (Eg.gq hs10).2.1, (Eg.gq hs10).2.2.1, (Eg.gq hs10).2.2.2, (Eg.gg hs10).1, (Eg.gg hs10).2.1, (Eg.gg hs10).2.2.1, (Eg.gg hs10).2.2.2⟩) ?_
      clear hK K
      try simp only [Act.put, List.setIfInBounds_toArray, List.set_cons_zero, List.set_cons_succ]
      clear hs
      have hs := hs10
      clear hs10
      refine Goes.take (i := 4) (o := { dst := some 59, op := _, type := _, pos := _, after := _, guard := _ }) (v := ?_) [] rfl (by kernel_rfl) (by kernel_rfl) (by kernel_rfl) (fun _ _ _ h => h) (by kernel_rfl) (fun L u h => h) (Or.inl ⟨by rfl, ?_⟩) (⟨(Eg.cell hs g_a (a) (by simp)).1, (Eg.cell hs g_a (a) (by simp)).2.1, (Eg.cell hs g_a (a) (by simp)).2.2.1, (Eg.cell hs g_a (a) (by simp)).2.2.2, (Eg.gp hs).1, (Eg.gp hs).2.1, (Eg.gp hs).2.2.1, (Eg.gp hs).2.2.2, (Eg.gq hs).1, (Eg.gq hs).2.1, (Eg.gq hs).2.2.1, (Eg.gq hs).2.2.2, (Eg.gg hs).1, (Eg.gg hs).2.1, (Eg.gg hs).2.2.1, (Eg.gg hs).2.2.2⟩) ?_
      rotate_left
      · intro w hY; go_simp; try with_reducible rfl
      try simp only [Act.put, List.setIfInBounds_toArray, List.set_cons_zero, List.set_cons_succ]
      refine Goes.take (i := 5) (o := { dst := some 64, op := _, type := _, pos := _, after := _, guard := _ }) (v := ?_) [] rfl (by kernel_rfl) (by kernel_rfl) (by kernel_rfl) (fun _ _ _ h => h) (by kernel_rfl) (fun L u h => h) (Or.inl ⟨by rfl, ?_⟩) (⟨(Eg.cell hs g_a (a) (by simp)).1, (Eg.cell hs g_a (a) (by simp)).2.1, (Eg.cell hs g_a (a) (by simp)).2.2.1, (Eg.cell hs g_a (a) (by simp)).2.2.2, (Eg.gp hs).1, (Eg.gp hs).2.1, (Eg.gp hs).2.2.1, (Eg.gp hs).2.2.2, (Eg.gq hs).1, (Eg.gq hs).2.1, (Eg.gq hs).2.2.1, (Eg.gq hs).2.2.2, (Eg.gg hs).1, (Eg.gg hs).2.1, (Eg.gg hs).2.2.1, (Eg.gg hs).2.2.2⟩) ?_
      rotate_left
      · intro w hY; go_simp; try with_reducible rfl
      try simp only [Act.put, List.setIfInBounds_toArray, List.set_cons_zero, List.set_cons_succ]
      refine Goes.take (i := 6) (o := { dst := some 65, op := _, type := _, pos := _, after := _, guard := _ }) (v := ?_) [] rfl (by kernel_rfl) (by kernel_rfl) (by kernel_rfl) (fun _ _ _ h => h) (by kernel_rfl) (fun L u h => h) (Or.inl ⟨by rfl, ?_⟩) (⟨(Eg.cell hs g_a (a) (by simp)).1, (Eg.cell hs g_a (a) (by simp)).2.1, (Eg.cell hs g_a (a) (by simp)).2.2.1, (Eg.cell hs g_a (a) (by simp)).2.2.2, (Eg.gp hs).1, (Eg.gp hs).2.1, (Eg.gp hs).2.2.1, (Eg.gp hs).2.2.2, (Eg.gq hs).1, (Eg.gq hs).2.1, (Eg.gq hs).2.2.1, (Eg.gq hs).2.2.2, (Eg.gg hs).1, (Eg.gg hs).2.1, (Eg.gg hs).2.2.1, (Eg.gg hs).2.2.2⟩) ?_
      rotate_left
      · intro w hY; go_simp; try with_reducible rfl
      try simp only [Act.put, List.setIfInBounds_toArray, List.set_cons_zero, List.set_cons_succ]
      refine Goes.one (i := 8) (o := { dst := none, op := _, type := _, pos := _, after := _, guard := _ }) (by kernel_rfl) rfl (fun K hK => ?_)
      obtain ⟨z0, z1, z2, z3⟩ := hs.cell g15 0 (by simp)
      have zl := hs.lt g15 0 (by simp)
      have zf := hs.frozen g15 0 (by simp)
      have hs11 := hs.set g15 0 (a) [(g13, 1), (g11, x), (g9, x), (g7, x), (g_b, b), (g_a, a)] (by simp) Fg15.out.1.1 (fun p hp => by simp only [List.mem_cons, List.not_mem_nil, or_false] at hp; rcases hp with rfl | rfl | rfl | rfl | rfl | rfl <;> first | exact ⟨by simp, Fg15.out.1.2 (g13, 1) (by simp)⟩ | exact ⟨by simp, Fg15.out.1.2 (g11, x) (by simp)⟩ | exact ⟨by simp, Fg15.out.1.2 (g9, x) (by simp)⟩ | exact ⟨by simp, Fg15.out.1.2 (g7, x) (by simp)⟩ | exact ⟨by simp, Fg15.out.1.2 (g_b, b) (by simp)⟩ | exact ⟨by simp, Fg15.out.1.2 (g_a, a) (by simp)⟩) Fg15.out.2
      go_simp
      refine hK.out _ _ (⟨(Eg.cell hs11 g_a (a) (by simp)).1, (Eg.cell hs11 g_a (a) (by simp)).2.1, (Eg.cell hs11 g_a (a) (by simp)).2.2.1, (Eg.cell hs11 g_a (a) (by simp)).2.2.2, (Eg.gp hs11).1, (Eg.gp hs11).2.1, (Eg.gp hs11).2.2.1, (Eg.gp hs11).2.2.2, (Eg.gq hs11).1, (Eg.gq hs11).2.1, (Eg.gq hs11).2.2.1, (Eg.gq hs11).2.2.2, (Eg.gg hs11).1, (Eg.gg hs11).2.1, (Eg.gg hs11).2.2.1, (Eg.gg hs11).2.2.2⟩) ?_
      clear hK K
      try simp only [Act.put, List.setIfInBounds_toArray, List.set_cons_zero, List.set_cons_succ]
      clear hs z0 z1 z2 z3 zl zf
      change Goes _ _ _ _ _ _ _ _ (fil wn10 g15 (a))
      generalize fil wn10 g15 (a) = wn11 at *
      have hs := hs11
      clear hs11
      refine Goes.take (i := 9) (o := { dst := some 16, op := _, type := _, pos := _, after := _, guard := _ }) (v := ?_) [] rfl (by kernel_rfl) (by kernel_rfl) (by kernel_rfl) (fun _ _ _ h => h) (by kernel_rfl) (fun L u h => h) (Or.inl ⟨by rfl, ?_⟩) (⟨(Eg.cell hs g_a (a) (by simp)).1, (Eg.cell hs g_a (a) (by simp)).2.1, (Eg.cell hs g_a (a) (by simp)).2.2.1, (Eg.cell hs g_a (a) (by simp)).2.2.2, (Eg.gp hs).1, (Eg.gp hs).2.1, (Eg.gp hs).2.2.1, (Eg.gp hs).2.2.2, (Eg.gq hs).1, (Eg.gq hs).2.1, (Eg.gq hs).2.2.1, (Eg.gq hs).2.2.2, (Eg.gg hs).1, (Eg.gg hs).2.1, (Eg.gg hs).2.2.1, (Eg.gg hs).2.2.2⟩) ?_
      rotate_left
      · intro w hY; go_simp; try with_reducible rfl
      try simp only [Act.put, List.setIfInBounds_toArray, List.set_cons_zero, List.set_cons_succ]
      refine Goes.done (by kernel_rfl) ?_ _
      refine NoPanic.normal ?_
      go_wp2_with fail
      go_meet
      exact ⟨_, rfl, rfl, hid (hs.perm (by simp))⟩
  case rest =>
    obtain ⟨g15, rfl, rfl, H5c⟩ := hcut
    clear H4b
    go_upto_region 8 with fail
    have hs := H5c.out.drew
    go_region_held3 (fun w' => (w'.cell? ⟨g7, 0, none⟩ = some (.int .u64 (wd (x) 0 : Int)) ∧ w'.cell? ⟨g7, 1, none⟩ = some (.int .u64 (wd (x) 1 : Int)) ∧ w'.cell? ⟨g7, 2, none⟩ = some (.int .u64 (wd (x) 2 : Int)) ∧ w'.cell? ⟨g7, 3, none⟩ = some (.int .u64 (wd (x) 3 : Int))) ∧ (w'.cell? ⟨g9, 0, none⟩ = some (.int .u64 (wd (x) 0 : Int)) ∧ w'.cell? ⟨g9, 1, none⟩ = some (.int .u64 (wd (x) 1 : Int)) ∧ w'.cell? ⟨g9, 2, none⟩ = some (.int .u64 (wd (x) 2 : Int)) ∧ w'.cell? ⟨g9, 3, none⟩ = some (.int .u64 (wd (x) 3 : Int))) ∧ (w'.cell? ⟨g11, 0, none⟩ = some (.int .u64 (wd (x) 0 : Int)) ∧ w'.cell? ⟨g11, 1, none⟩ = some (.int .u64 (wd (x) 1 : Int)) ∧ w'.cell? ⟨g11, 2, none⟩ = some (.int .u64 (wd (x) 2 : Int)) ∧ w'.cell? ⟨g11, 3, none⟩ = some (.int .u64 (wd (x) 3 : Int))) ∧ (w'.cell? ⟨g13, 0, none⟩ = some (.int .u64 (wd (1) 0 : Int)) ∧ w'.cell? ⟨g13, 1, none⟩ = some (.int .u64 (wd (1) 1 : Int)) ∧ w'.cell? ⟨g13, 2, none⟩ = some (.int .u64 (wd (1) 2 : Int)) ∧ w'.cell? ⟨g13, 3, none⟩ = some (.int .u64 (wd (1) 3 : Int))) ∧ (w'.cell? ⟨g15, 0, none⟩ = some (.int .u64 (wd (a) 0 : Int)) ∧ w'.cell? ⟨g15, 1, none⟩ = some (.int .u64 (wd (a) 1 : Int)) ∧ w'.cell? ⟨g15, 2, none⟩ = some (.int .u64 (wd (a) 2 : Int)) ∧ w'.cell? ⟨g15, 3, none⟩ = some (.int .u64 (wd (a) 3 : Int))) ∧ (w'.cell? ⟨g_a, 0, none⟩ = some (.int .u64 (wd (a) 0 : Int)) ∧ w'.cell? ⟨g_a, 1, none⟩ = some (.int .u64 (wd (a) 1 : Int)) ∧ w'.cell? ⟨g_a, 2, none⟩ = some (.int .u64 (wd (a) 2 : Int)) ∧ w'.cell? ⟨g_a, 3, none⟩ = some (.int .u64 (wd (a) 3 : Int)))) (exact ⟨Eg.cell (by assumption) _ _ (by simp), Eg.cell (by assumption) _ _ (by simp), Eg.cell (by assumption) _ _ (by simp), Eg.cell (by assumption) _ _ (by simp), Eg.cell (by assumption) _ _ (by simp), Eg.cell (by assumption) _ _ (by simp)⟩) (first | ((go_at_call 20); (with_reducible refine (eg_at (of_at 1 1 (Env.refl _) (by decide) rfl) (by assumption)).mono ?_); rintro e wn ⟨rfl, hs⟩) | ((go_at_call 19); (with_reducible refine (eg_at (lives_at (Env.refl _)) (by assumption)).mono ?_); rintro e wn ⟨rfl, hs⟩))
    go_wp2
    go_ret
    exact ⟨rfl, hs.1.1⟩
set_option maxRecDepth 100000 in
set_option maxHeartbeats 4000000 in
theorem whole_none (p q g a b : Nat) (w : World) (hp : p < 2 ^ 256) (hq : q < 2 ^ 256) (hg : g < 2 ^ 256) (ha : a < 2 ^ 256) (hb : b < 2 ^ 256) (hv : ¬ ((0 < a ∧ a < p) ∧ 0 < b ∧ b < p)) : Calls Try.prog 7 #[gv p q g, num a, num b] w fun e w' => e = .returned (.bool true) ∧ Below w.heap.size w w' := by
  have q0 : ∀ w, (Op.equalIn 10000 24 (num 0) (.agg #[.int .u64 0, .int .u64 0, .int .u64 0, .int .u64 0])).run Try.prog w = .ok true w := by rw [num_zero]; exact eq_yes 0 0 rfl
  have VV := hid hv
  clear hv
  have PL := hid hp
  have QL := hid hq
  have GL := hid hg
  have AL := hid ha
  have BL := hid hb
  clear hp hq hg ha hb
  have H0 := hid (((((Eg.of (Env.refl w) p q g 26)).new a).new b).perm (l' := [(w.heap.size + 1 + 1, b), (w.heap.size + 1, a)]) (by simp))
  go_enter Try.func7, Try.ntmps7
  go_wp2_with fail
  generalize ((w.alloc (.cells (gcs p q g) 26)).alloc (.cells (cls a) 24)).alloc (.cells (cls b) 24) = w0 at *
  generalize w.heap.size + 1 + 1 = g_b at *
  generalize w.heap.size + 1 = g_a at *
  generalize hzg_p : w.heap.size = g_p at *
  obtain ⟨ep0a, ep0b, ep0c, ep0d⟩ := H0.out.gp
  obtain ⟨eq0a, eq0b, eq0c, eq0d⟩ := H0.out.gq
  obtain ⟨eg0a, eg0b, eg0c, eg0d⟩ := H0.out.gg
  have eg0l := H0.out.gl
  have eg0m := Nat.le_of_lt eg0l
  obtain ⟨c14x0a, c14x0b, c14x0c, c14x0d⟩ := H0.out.cell (g_a) (a) (by simp)
  have c14x0l := H0.out.lt (g_a) (a) (by simp)
  have c14x0m := Nat.le_of_lt c14x0l
  obtain ⟨c20x0a, c20x0b, c20x0c, c20x0d⟩ := H0.out.cell (g_b) (b) (by simp)
  have c20x0l := H0.out.lt (g_b) (b) (by simp)
  have c20x0m := Nat.le_of_lt c20x0l
  go_wp2_with fail
  clear ep0a ep0b ep0c ep0d eq0a eq0b eq0c eq0d eg0a eg0b eg0c eg0d eg0l eg0m c14x0a c14x0b c14x0c c14x0d c14x0l c14x0m c20x0a c20x0b c20x0c c20x0d c20x0l c20x0m
  refine (eg_of (gmul_none p q g a b _ PL.out AL.out BL.out VV.out) H0.out).mono ?_
  rintro e w1 ⟨rfl, h⟩
  have H1 := hid h
  clear h H0
  go_upto_region 2 with fail
  have H1b := hid (H1.out.new 0)
  clear H1
  generalize w1.alloc (.cells (cls 0) 24) = w1b at *
  generalize w1.heap.size = g7 at *
  obtain ⟨c0x1a, c0x1b, c0x1c, c0x1d⟩ := H1b.out.cell (g7) (0) (by simp)
  have c0x1l := H1b.out.lt (g7) (0) (by simp)
  have c0x1m := Nat.le_of_lt c0x1l
  go_wp2_with fail
  clear c0x1a c0x1b c0x1c c0x1d c0x1l c0x1m
  refine (eg_at (lives_at (Env.refl _)) H1b.out).mono ?_
  rintro e w2 ⟨rfl, h⟩
  have H2 := hid h
  clear h H1b
  go_wp2
  go_ret
  exact ⟨rfl, H2.out.1.1⟩
theorem wholeLaw_any (p q g a b : Nat) (w : World) (hp : p < 2 ^ 256) (hq : q < 2 ^ 256) (hg : g < 2 ^ 256) (ha : a < 2 ^ 256) (hb : b < 2 ^ 256) : Calls Try.prog 7 #[gv p q g, num a, num b] w fun e w' => e = .returned (.bool true) ∧ Below w.heap.size w w' := by
  by_cases h : (0 < a ∧ a < p) ∧ 0 < b ∧ b < p
  · exact whole_all p q g a b w hp hq hg ha hb h.1 h.2
  · exact whole_none p q g a b w hp hq hg ha hb h
end Go.Proofs.Ytaggegknnnembaa

/-
  mods.shifted's closures, walked: Montgomery's form. Conditions: none.
-/
import Derived.Test.YtioebjbjpjbodaaDoorPkAn
namespace Go.Proofs.YtioebjbjpjbodaaDoor
open Go.RowKit
set_option linter.unusedVariables false

/-- what invert answers -/
def InvtE (m : Nat) (e : Ending) : Prop := ∃ x, e = .returned (num x) ∧ x < 2 ^ 256 ∧ Cg (2 ^ 256) ((m : Int) * x) 1
set_option maxRecDepth 100000 in
set_option maxHeartbeats 4000000 in
theorem invert_any (m : Nat) (w : World) (hm : m < 2 ^ 256) (ho : m % 2 = 1) : Calls Tryd.prog 80 #[num m] w fun e w' => InvtE m e ∧ Below w.heap.size w w' := by
 have ML := hid hm
 have CG0 := hid (show Cg (2 ^ few 0) ((m : Int) * m) 1 by rw [show few 0 = 3 by decide]; exact cg_square ho)
 clear hm ho
 have H0 := hid ((((Env.refl w).new m).zero).perm (l' := [(w.heap.size + 1, 0), (w.heap.size, m)]) (by simp))
 have DZ := hid (show w.heap.size ≤ w.heap.size + 1 by omega)
 have DN := hid (show ∀ p ∈ [(w.heap.size, m)], p.1 ≠ w.heap.size + 1 by simp; try omega)
 go_enter Tryd.func80, Tryd.ntmps80
 go_upto_region 1 with fail
 generalize (w.alloc (.cells (cls m) 24)).alloc (.cells #[.int .u64 0, .int .u64 0, .int .u64 0, .int .u64 0] 24) = w0 at *
 generalize w.heap.size + 1 = g_z at *
 generalize hzg_a : w.heap.size = g_a at *
 obtain ⟨c0x0a, c0x0b, c0x0c, c0x0d⟩ := H0.out.cell (g_a) (m) (by simp)
 have c0x0l := H0.out.lt (g_a) (m) (by simp)
 have c0x0m := Nat.le_of_lt c0x0l
 go_wp2_with fail
 clear c0x0a c0x0b c0x0c c0x0d c0x0l c0x0m
 have HF := hid H0.out.fresh
 have H0b := hid (H0.out.new m)
 clear H0
 generalize w0.alloc (.cells (cls m) 24) = w0b at *
 generalize w0.heap.size = g3 at *
 go_loopw [9] (fun s wr => ∃ i x : Nat, i ≤ 7 ∧ s = .int .i64 (i : Int) ∧ Hid (x < 2 ^ 256 ∧ Cg (2 ^ few i) ((m : Int) * x) 1) ∧ Hid (Env w [(g3, x), (g_z, 0), (g_a, m)] wr)) (fun s _ => 7 - (intOf s).toNat)
 case atStart => exact ⟨0, m, by omega, rfl, hid ⟨ML.out, CG0.out⟩, H0b⟩
 case round =>
  obtain ⟨i, x, hi, rfl, P, H⟩ := hrel
  clear H0b
  by_cases h7 : i = 7
  ·subst h7
   have nlt : ¬ (((7 : Nat) : Int) < 7) := by omega
   have PX := hid (show InvtE m (.returned (num x)) from ⟨x, rfl, P.out.1, by have := P.out.2; rwa [few_seven] at this⟩)
   obtain ⟨c0x5a, c0x5b, c0x5c, c0x5d⟩ := H.out.cell (g3) (x) (by simp)
   have c0x5l := H.out.lt (g3) (x) (by simp)
   have c0x5m := Nat.le_of_lt c0x5l
   obtain ⟨z0, z1, z2, z3⟩ := H.out.cell g_z 0 (by simp)
   have zl := H.out.lt g_z 0 (by simp)
   have zf := H.out.frozen g_z 0 (by simp)
   have HZ := hid (H.out.set g_z 0 (x) [] (by simp) (by rw [hzg_a]; exact DZ.out) (by simp))
   go_wp2
   clear z0 z1 z2 z3 zl zf
   try rw [Exit.noGoto_ret]
   change bodyPost _ _ _ _ _ (fil wr g_z (x))
   generalize fil wr g_z (x) = wz at *
   obtain ⟨k0, k1, k2, k3⟩ := HZ.out.cell g_z (x) (by simp)
   exact bodyPost_ret (v := num (x)) (by simp [results, Tryd.results80, go_sem, k0, k1, k2, k3]) rfl ⟨PX.out, (by have hq := HZ.out.1; rwa [hzg_a] at hq)⟩
  ·have lt1 : (i : Int) < 7 := by omega
   obtain ⟨lo, elo⟩ : ∃ z, m * x % 2 ^ 256 = z := ⟨_, rfl⟩
   obtain ⟨hi, ehi⟩ : ∃ z, m * x / 2 ^ 256 = z := ⟨_, rfl⟩
   obtain ⟨le, ele⟩ : ∃ z, dif 2 lo = z := ⟨_, rfl⟩
   obtain ⟨k, ek⟩ : ∃ z, lent 2 lo = z := ⟨_, rfl⟩
   obtain ⟨t, et⟩ : ∃ z, x * le % 2 ^ 256 = z := ⟨_, rfl⟩
   obtain ⟨th, eth⟩ : ∃ z, x * le / 2 ^ 256 = z := ⟨_, rfl⟩
   have XL := hid P.out.1
   have LL := hid (show lo < 2 ^ 256 by rw [← elo]; exact Nat.mod_lt _ (Nat.two_pow_pos _))
   have EL := hid (show le < 2 ^ 256 by rw [← ele]; exact dif_lt (by decide) LL.out)
   have TL := hid (show t < 2 ^ 256 by rw [← et]; exact Nat.mod_lt _ (Nat.two_pow_pos _))
   have NX := hid (show t < 2 ^ 256 ∧ Cg (2 ^ few (i + 1)) ((m : Int) * t) 1 from ⟨TL.out, invert_round ML.out P.out.1 P.out.2 elo ele et⟩)
   have Elo := hid elo
   have Ehi := hid ehi
   have Ele := hid ele
   have Et := hid et
   have Eth := hid eth
   have Ek := hid (show ((lent 2 lo : Nat) : Int) = (k : Int) by rw [ek])
   clear elo ehi ele ek et eth h7
   obtain ⟨c0x6a, c0x6b, c0x6c, c0x6d⟩ := H.out.cell (g_a) (m) (by simp)
   have c0x6l := H.out.lt (g_a) (m) (by simp)
   have c0x6m := Nat.le_of_lt c0x6l
   obtain ⟨c6x6a, c6x6b, c6x6c, c6x6d⟩ := H.out.cell (g3) (x) (by simp)
   have c6x6l := H.out.lt (g3) (x) (by simp)
   have c6x6m := Nat.le_of_lt c6x6l
   go_wp2_with fail
   clear c0x6a c0x6b c0x6c c0x6d c0x6l c0x6m c6x6a c6x6b c6x6c c6x6d c6x6l c6x6m
   refine (mul_at m x lo hi H.out ML.out XL.out Elo.out Ehi.out).mono ?_
   rintro e w7 ⟨rfl, h⟩
   have H7 := hid h
   clear h H
   go_upto_region 5 with fail
   have H7b := hid (H7.out.new2 lo hi)
   clear H7
   generalize (w7.alloc (.cells (cls lo) 24)).alloc (.cells (cls hi) 24) = w7b at *
   generalize w7.heap.size + 1 = g4s at *
   generalize w7.heap.size = g4 at *
   go_upto_region 5 with fail
   go_cut [6, 7] (fun s6 s7 wx => ∃ g6 : Nat, s6 = .pointer (some ⟨g6, 0, none⟩) ∧ s7 = .int .u64 (k : Int) ∧ Hid (Env w [(g6, le), (g4s, hi), (g4, lo), (g3, x), (g_z, 0), (g_a, m)] wx))
   case first =>
    have hs := H7b.out.drew
    refine wp_region_noPanic ?_
    refine Goes.region (fun (L : Array Bool) (w' : World) => (w'.cell? ⟨g4, 0, none⟩ = some (.int .u64 (wd (lo) 0 : Int)) ∧ w'.cell? ⟨g4, 1, none⟩ = some (.int .u64 (wd (lo) 1 : Int)) ∧ w'.cell? ⟨g4, 2, none⟩ = some (.int .u64 (wd (lo) 2 : Int)) ∧ w'.cell? ⟨g4, 3, none⟩ = some (.int .u64 (wd (lo) 3 : Int)))) (by kernel_rfl) ?_
    generalize w7b.drew = wd at *
    refine Goes.tk (i := 1) (o := ⟨some 19, _, _, _, _, _⟩) (v := ?_) [] (y := Or.inl ⟨by rfl, ?_⟩) (s := Env.cell (hs) g4 (lo) (by simp)) (H := ?_)
    rotate_left
    ·rintro w ⟨up, -, hX⟩; (try dsimp only at hX); go_simp; try with_reducible rfl
    try simp only [putz]
    refine Goes.two (i := 0) (j := 6) (o := ⟨some 18, _, _, _, _, _⟩) (p := ⟨some 6, _, _, _, _, _⟩) (by kernel_rfl) rfl rfl (fun K hK => ?_) (fun K hK => ?_)
    ·skip
     go_simp
     with_reducible refine (lof_at 2 2 hs (by decide) (by decide)).mono ?_
     rintro e wn1 ⟨rfl, hs1⟩
     go_wp2_with fail
     refine hK.out _ _ (Env.cell (hs1) g4 (lo) (by simp)) ?_
     clear hK K
     try simp only [putz]
     clear hs
     have hs := hs1
     clear hs1
     refine Goes.two (i := 2) (j := 6) (o := ⟨some 20, _, _, _, _, _⟩) (p := ⟨some 6, _, _, _, _, _⟩) (by kernel_rfl) rfl rfl (fun K hK => ?_) (fun K hK => ?_)
     ·skip
      go_simp
      with_reducible refine (sub_at 2 lo le k hs (by decide) LL.out Ele.out Ek.out).mono ?_
      rintro e wn2 ⟨rfl, hs2⟩
      go_wp2_with fail
      refine hK.out _ _ (Env.cell (hs2) g4 (lo) (by simp)) ?_
      clear hK K
      try simp only [putz]
      clear hs
      have hs := hs2
      clear hs2
      refine Goes.tk (i := 3) (o := ⟨some 17, _, _, _, _, _⟩) (v := ?_) [] (y := Or.inl ⟨by rfl, ?_⟩) (s := Env.cell (hs) g4 (lo) (by simp)) (H := ?_)
      rotate_left
      ·intro w hY; go_simp; try with_reducible rfl
      try simp only [putz]
      refine Goes.tk (i := 4) (o := ⟨some 21, _, _, _, _, _⟩) (v := ?_) [] (y := Or.inl ⟨by rfl, ?_⟩) (s := Env.cell (hs) g4 (lo) (by simp)) (H := ?_)
      rotate_left
      ·intro w hY; go_simp; try with_reducible rfl
      try simp only [putz]
      refine Goes.tk (i := 5) (o := ⟨some 22, _, _, _, _, _⟩) (v := ?_) [] (y := Or.inl ⟨by rfl, ?_⟩) (s := Env.cell (hs) g4 (lo) (by simp)) (H := ?_)
      rotate_left
      ·intro w hY; go_simp; try with_reducible rfl
      try simp only [putz]
      refine Goes.one (i := 6) (o := ⟨some 6, _, _, _, _, _⟩) (by kernel_rfl) rfl (fun K hK => ?_)
      go_simp
      refine hK.out _ _ (Env.cell (hs.zero) g4 (lo) (by simp)) ?_
      clear hK K
      try simp only [putz]
      have Fg6 := hid hs.fresh
      have hs3 := hs.zero
      clear hs
      generalize wn2.alloc (.cells #[.int .u64 0, .int .u64 0, .int .u64 0, .int .u64 0] 24) = wn3 at *
      generalize wn2.heap.size = g6 at *
      have hs := hs3
      clear hs3
      refine Goes.one (i := 7) (o := ⟨none, _, _, _, _, _⟩) (by kernel_rfl) rfl (fun K hK => ?_)
      obtain ⟨z0, z1, z2, z3⟩ := hs.cell g6 0 (by simp)
      have zl := hs.lt g6 0 (by simp)
      have zf := hs.frozen g6 0 (by simp)
      have hs4 := hs.set g6 0 (le) [(g4s, hi), (g4, lo), (g3, x), (g_z, 0), (g_a, m)] (by simp) Fg6.out.1 (fun p hp => by simp only [List.mem_cons, List.not_mem_nil, or_false] at hp; rcases hp with rfl | rfl | rfl | rfl | rfl <;> first | exact ⟨by simp, (Fg6.out.2 (g4s, hi) (by simp))⟩ | exact ⟨by simp, (Fg6.out.2 (g4, lo) (by simp))⟩ | exact ⟨by simp, (Fg6.out.2 (g3, x) (by simp))⟩ | exact ⟨by simp, (Fg6.out.2 (g_z, 0) (by simp))⟩ | exact ⟨by simp, (Fg6.out.2 (g_a, m) (by simp))⟩)
      go_simp
      refine hK.out _ _ (Env.cell (hs4) g4 (lo) (by simp)) ?_
      clear hK K
      try simp only [putz]
      clear hs z0 z1 z2 z3 zl zf
      change Goes _ _ _ _ _ _ _ _ (fil wn3 g6 (le))
      generalize fil wn3 g6 (le) = wn4 at *
      have hs := hs4
      clear hs4
      refine Goes.tk (i := 8) (o := ⟨some 7, _, _, _, _, _⟩) (v := ?_) [] (y := Or.inl ⟨by rfl, ?_⟩) (s := Env.cell (hs) g4 (lo) (by simp)) (H := ?_)
      rotate_left
      ·intro w hY; go_simp; try with_reducible rfl
      try simp only [putz]
      refine Goes.done (by kernel_rfl) ?_ _
      refine NoPanic.normal ?_
      go_wp2_with fail
      go_meet
      exact ⟨_, rfl, rfl, hid (hs.perm (by simp))⟩
     ·skip
      go_simp
      refine hK.out _ _ (Env.cell (hs.zero) g4 (lo) (by simp)) ?_
      clear hK K
      try simp only [putz]
      have Fg6 := hid hs.fresh
      have hs5 := hs.zero
      clear hs
      generalize wn1.alloc (.cells #[.int .u64 0, .int .u64 0, .int .u64 0, .int .u64 0] 24) = wn5 at *
      generalize wn1.heap.size = g6 at *
      have hs := hs5
      clear hs5
      refine Goes.one (i := 2) (o := ⟨some 20, _, _, _, _, _⟩) (by kernel_rfl) rfl (fun K hK => ?_)
      go_simp
      with_reducible refine (sub_at 2 lo le k hs (by decide) LL.out Ele.out Ek.out).mono ?_
      rintro e wn6 ⟨rfl, hs6⟩
      go_wp2_with fail
      refine hK.out _ _ (Env.cell (hs6) g4 (lo) (by simp)) ?_
      clear hK K
      try simp only [putz]
      clear hs
      have hs := hs6
      clear hs6
      refine Goes.tk (i := 3) (o := ⟨some 17, _, _, _, _, _⟩) (v := ?_) [] (y := Or.inl ⟨by rfl, ?_⟩) (s := Env.cell (hs) g4 (lo) (by simp)) (H := ?_)
      rotate_left
      ·intro w hY; go_simp; try with_reducible rfl
      try simp only [putz]
      refine Goes.tk (i := 4) (o := ⟨some 21, _, _, _, _, _⟩) (v := ?_) [] (y := Or.inl ⟨by rfl, ?_⟩) (s := Env.cell (hs) g4 (lo) (by simp)) (H := ?_)
      rotate_left
      ·intro w hY; go_simp; try with_reducible rfl
      try simp only [putz]
      refine Goes.tk (i := 5) (o := ⟨some 22, _, _, _, _, _⟩) (v := ?_) [] (y := Or.inl ⟨by rfl, ?_⟩) (s := Env.cell (hs) g4 (lo) (by simp)) (H := ?_)
      rotate_left
      ·intro w hY; go_simp; try with_reducible rfl
      try simp only [putz]
      refine Goes.one (i := 7) (o := ⟨none, _, _, _, _, _⟩) (by kernel_rfl) rfl (fun K hK => ?_)
      obtain ⟨z0, z1, z2, z3⟩ := hs.cell g6 0 (by simp)
      have zl := hs.lt g6 0 (by simp)
      have zf := hs.frozen g6 0 (by simp)
      have hs7 := hs.set g6 0 (le) [(g4s, hi), (g4, lo), (g3, x), (g_z, 0), (g_a, m)] (by simp) Fg6.out.1 (fun p hp => by simp only [List.mem_cons, List.not_mem_nil, or_false] at hp; rcases hp with rfl | rfl | rfl | rfl | rfl <;> first | exact ⟨by simp, (Fg6.out.2 (g4s, hi) (by simp))⟩ | exact ⟨by simp, (Fg6.out.2 (g4, lo) (by simp))⟩ | exact ⟨by simp, (Fg6.out.2 (g3, x) (by simp))⟩ | exact ⟨by simp, (Fg6.out.2 (g_z, 0) (by simp))⟩ | exact ⟨by simp, (Fg6.out.2 (g_a, m) (by simp))⟩)
      go_simp
      refine hK.out _ _ (Env.cell (hs7) g4 (lo) (by simp)) ?_
      clear hK K
      try simp only [putz]
      clear hs z0 z1 z2 z3 zl zf
      change Goes _ _ _ _ _ _ _ _ (fil wn6 g6 (le))
      generalize fil wn6 g6 (le) = wn7 at *
      have hs := hs7
      clear hs7
      refine Goes.tk (i := 8) (o := ⟨some 7, _, _, _, _, _⟩) (v := ?_) [] (y := Or.inl ⟨by rfl, ?_⟩) (s := Env.cell (hs) g4 (lo) (by simp)) (H := ?_)
      rotate_left
      ·intro w hY; go_simp; try with_reducible rfl
      try simp only [putz]
      refine Goes.done (by kernel_rfl) ?_ _
      refine NoPanic.normal ?_
      go_wp2_with fail
      go_meet
      exact ⟨_, rfl, rfl, hid (hs.perm (by simp))⟩
    ·skip
     go_simp
     refine hK.out _ _ (Env.cell (hs.zero) g4 (lo) (by simp)) ?_
     clear hK K
     try simp only [putz]
     have Fg6 := hid hs.fresh
     have hs8 := hs.zero
     clear hs
     generalize wd.alloc (.cells #[.int .u64 0, .int .u64 0, .int .u64 0, .int .u64 0] 24) = wn8 at *
     generalize wd.heap.size = g6 at *
     have hs := hs8
     clear hs8
     refine Goes.one (i := 0) (o := ⟨some 18, _, _, _, _, _⟩) (by kernel_rfl) rfl (fun K hK => ?_)
     go_simp
     with_reducible refine (lof_at 2 2 hs (by decide) (by decide)).mono ?_
     rintro e wn9 ⟨rfl, hs9⟩
     go_wp2_with fail
     refine hK.out _ _ (Env.cell (hs9) g4 (lo) (by simp)) ?_
     clear hK K
     try simp only [putz]
     clear hs
     have hs := hs9
     clear hs9
     refine Goes.one (i := 2) (o := ⟨some 20, _, _, _, _, _⟩) (by kernel_rfl) rfl (fun K hK => ?_)
     go_simp
     with_reducible refine (sub_at 2 lo le k hs (by decide) LL.out Ele.out Ek.out).mono ?_
     rintro e wn10 ⟨rfl, hs10⟩
     go_wp2_with fail
     refine hK.out _ _ (Env.cell (hs10) g4 (lo) (by simp)) ?_
     clear hK K
     try simp only [putz]
     clear hs
     have hs := hs10
     clear hs10
     refine Goes.tk (i := 3) (o := ⟨some 17, _, _, _, _, _⟩) (v := ?_) [] (y := Or.inl ⟨by rfl, ?_⟩) (s := Env.cell (hs) g4 (lo) (by simp)) (H := ?_)
     rotate_left
     ·intro w hY; go_simp; try with_reducible rfl
     try simp only [putz]
     refine Goes.tk (i := 4) (o := ⟨some 21, _, _, _, _, _⟩) (v := ?_) [] (y := Or.inl ⟨by rfl, ?_⟩) (s := Env.cell (hs) g4 (lo) (by simp)) (H := ?_)
     rotate_left
     ·intro w hY; go_simp; try with_reducible rfl
     try simp only [putz]
     refine Goes.tk (i := 5) (o := ⟨some 22, _, _, _, _, _⟩) (v := ?_) [] (y := Or.inl ⟨by rfl, ?_⟩) (s := Env.cell (hs) g4 (lo) (by simp)) (H := ?_)
     rotate_left
     ·intro w hY; go_simp; try with_reducible rfl
     try simp only [putz]
     refine Goes.one (i := 7) (o := ⟨none, _, _, _, _, _⟩) (by kernel_rfl) rfl (fun K hK => ?_)
     obtain ⟨z0, z1, z2, z3⟩ := hs.cell g6 0 (by simp)
     have zl := hs.lt g6 0 (by simp)
     have zf := hs.frozen g6 0 (by simp)
     have hs11 := hs.set g6 0 (le) [(g4s, hi), (g4, lo), (g3, x), (g_z, 0), (g_a, m)] (by simp) Fg6.out.1 (fun p hp => by simp only [List.mem_cons, List.not_mem_nil, or_false] at hp; rcases hp with rfl | rfl | rfl | rfl | rfl <;> first | exact ⟨by simp, (Fg6.out.2 (g4s, hi) (by simp))⟩ | exact ⟨by simp, (Fg6.out.2 (g4, lo) (by simp))⟩ | exact ⟨by simp, (Fg6.out.2 (g3, x) (by simp))⟩ | exact ⟨by simp, (Fg6.out.2 (g_z, 0) (by simp))⟩ | exact ⟨by simp, (Fg6.out.2 (g_a, m) (by simp))⟩)
     go_simp
     refine hK.out _ _ (Env.cell (hs11) g4 (lo) (by simp)) ?_
     clear hK K
     try simp only [putz]
     clear hs z0 z1 z2 z3 zl zf
     change Goes _ _ _ _ _ _ _ _ (fil wn10 g6 (le))
     generalize fil wn10 g6 (le) = wn11 at *
     have hs := hs11
     clear hs11
     refine Goes.tk (i := 8) (o := ⟨some 7, _, _, _, _, _⟩) (v := ?_) [] (y := Or.inl ⟨by rfl, ?_⟩) (s := Env.cell (hs) g4 (lo) (by simp)) (H := ?_)
     rotate_left
     ·intro w hY; go_simp; try with_reducible rfl
     try simp only [putz]
     refine Goes.done (by kernel_rfl) ?_ _
     refine NoPanic.normal ?_
     go_wp2_with fail
     go_meet
     exact ⟨_, rfl, rfl, hid (hs.perm (by simp))⟩
   case rest =>
    obtain ⟨g6, rfl, rfl, H8c⟩ := hcut
    clear H7b
    obtain ⟨c0x8a, c0x8b, c0x8c, c0x8d⟩ := H8c.out.cell (g3) (x) (by simp)
    have c0x8l := H8c.out.lt (g3) (x) (by simp)
    have c0x8m := Nat.le_of_lt c0x8l
    obtain ⟨c6x8a, c6x8b, c6x8c, c6x8d⟩ := H8c.out.cell (g6) (le) (by simp)
    have c6x8l := H8c.out.lt (g6) (le) (by simp)
    have c6x8m := Nat.le_of_lt c6x8l
    go_wp2_with fail
    clear c0x8a c0x8b c0x8c c0x8d c0x8l c0x8m c6x8a c6x8b c6x8c c6x8d c6x8l c6x8m
    refine (mul_at x le t th H8c.out XL.out EL.out Et.out Eth.out).mono ?_
    rintro e w9 ⟨rfl, h⟩
    have H9 := hid h
    clear h H8c
    obtain ⟨c0x9a, c0x9b, c0x9c, c0x9d⟩ := H9.out.cell (g3) (x) (by simp)
    have c0x9l := H9.out.lt (g3) (x) (by simp)
    have c0x9m := Nat.le_of_lt c0x9l
    have f6x9 := H9.out.frozen g3 x (by simp)
    have HZ := hid (H9.out.set g3 x t [(g_z, 0), (g_a, m)] (by simp) HF.out.1 (fun q hq => by simp only [List.mem_cons, List.not_mem_nil, or_false] at hq; rcases hq with rfl | rfl <;> first | exact ⟨by simp, HF.out.2 (g_z, 0) (by simp)⟩ | exact ⟨by simp, HF.out.2 (g_a, m) (by simp)⟩))
    go_wp2_with fail
    clear c0x9a c0x9b c0x9c c0x9d c0x9l c0x9m f6x9
    go_roundw
    case measure => simp [intOf]; omega
    case rel => exact ⟨i + 1, t, by omega, by simp, NX, HZ⟩
/-- a block of one function -/
def F1 (w : World) (g : Nat) (v : Value) : Prop := w.heap[g]? = some (.cells #[v] 56 (0, 0))
theorem F1.on {w w' : World} {g : Nat} {v : Value} (h : F1 w g v) (hb : Below w.heap.size w w') : F1 w' g v := (hb.block g (lt_of_block h)).trans h
theorem F1.cell {w w' : World} {g : Nat} {v : Value} (h : F1 w g v) (hb : Below w.heap.size w w') : w'.cell? ⟨g, 0, none⟩ = some v := by
 rw [cell_of_row w' g _ _ 56 (0, 0) (h.on hb)]; rfl
theorem F1.lt {w w' : World} {g : Nat} {v : Value} (h : F1 w g v) (hb : Below w.heap.size w w') : g < w'.heap.size := lt_of_block (h.on hb)
/-- what lower answers -/
def LowE (m a b : Nat) (e : Ending) : Prop := ∃ z, e = .returned (num z) ∧ z < m ∧ Cg m ((z : Int) * (2 ^ 256 : Nat)) ((a : Int) + (2 ^ 256 : Nat) * b)
set_option maxRecDepth 100000 in
set_option maxHeartbeats 4000000 in
theorem lower_any (a b m iv gi gm gs gb : Nat) (w : World) (ha : a < 2 ^ 256) (hb : b < m) (hm : m < 2 ^ 256) (hiv : iv < 2 ^ 256) (hci : Cg (2 ^ 256) ((m : Int) * iv) 1) (hgi : Nm w gi iv) (hgm : Nm w gm m) (hgb : Nm w gb m) (hsb : F1 w gs (.func (.func 40) #[] #[.pointer (some ⟨gb, 0, none⟩)])) : Calls Tryd.prog 81 #[num a, num b, .pointer (some ⟨gi, 0, none⟩), .pointer (some ⟨gm, 0, none⟩), .pointer (some ⟨gs, 0, none⟩)] w fun e w' => LowE m a b e ∧ Below w.heap.size w w' := by
 obtain ⟨o, eo⟩ : ∃ z, a * iv % 2 ^ 256 = z := ⟨_, rfl⟩
 obtain ⟨oh, eoh⟩ : ∃ z, a * iv / 2 ^ 256 = z := ⟨_, rfl⟩
 obtain ⟨p, ep⟩ : ∃ z, o * m % 2 ^ 256 = z := ⟨_, rfl⟩
 obtain ⟨ab, eab⟩ : ∃ z, o * m / 2 ^ 256 = z := ⟨_, rfl⟩
 obtain ⟨z, ez⟩ : ∃ z, (b + (m - ab)) % m = z := ⟨_, rfl⟩
 have ol : o < 2 ^ 256 := by rw [← eo]; exact Nat.mod_lt _ (Nat.two_pow_pos _)
 have al : ab < m := by rw [← eab]; exact above_lt ol (by omega)
 have CG := hid (show Cg m ((z : Int) * (2 ^ 256 : Nat)) ((a : Int) + (2 ^ 256 : Nat) * b) from by
  have h1 := lower_cg (high := b) ha hci eo.symm eab.symm
  have h2 : Cg m (z : Int) ((b : Int) - ab) := by rw [← ez]; exact Cg.of_sub (Nat.le_of_lt al)
  exact (h2.mul (Cg.refl m _)).trans h1)
 have ZL := hid (show z < m by rw [← ez]; exact Nat.mod_lt _ (by omega))
 have AL := hid (ha)
 have BM := hid (hb)
 have BL := hid (Nat.lt_trans hb hm)
 have ML := hid (hm)
 have IL := hid (hiv)
 have OL := hid (ol)
 have ABM := hid (al)
 have ABL := hid (Nat.lt_trans al hm)
 have EO := hid (eo)
 have EOH := hid (eoh)
 have EP := hid (ep)
 have EAB := hid (eab)
 have EZ := hid (ez)
 have EE := hid (show Env w [(gi, iv), (gm, m), (gb, m)] w from ⟨Below.refl _ _, by simp; exact ⟨hgi, hgm, hgb⟩⟩)
 have SB := hid hsb
 clear ha hb hm hiv hci ol al eo eoh ep eab ez hgi hgm hgb hsb
 have H0 := hid (((((EE.out).new a).new b).zero).perm (l' := [(w.heap.size + 1 + 1, 0), (w.heap.size + 1, b), (w.heap.size, a), (gi, iv), (gm, m), (gb, m)]) (by simp))
 have DZ := hid (show w.heap.size ≤ w.heap.size + 1 + 1 by omega)
 go_enter Tryd.func81, Tryd.ntmps81
 go_upto_region 1 with fail
 generalize ((w.alloc (.cells (cls a) 24)).alloc (.cells (cls b) 24)).alloc (.cells #[.int .u64 0, .int .u64 0, .int .u64 0, .int .u64 0] 24) = w0 at *
 generalize w.heap.size + 1 + 1 = g_z at *
 generalize w.heap.size + 1 = g_b at *
 generalize hzg_a : w.heap.size = g_a at *
 obtain ⟨c0x0a, c0x0b, c0x0c, c0x0d⟩ := H0.out.cell (g_a) (a) (by simp)
 have c0x0l := H0.out.lt (g_a) (a) (by simp)
 have c0x0m := Nat.le_of_lt c0x0l
 obtain ⟨c6x0a, c6x0b, c6x0c, c6x0d⟩ := H0.out.cell (gi) (iv) (by simp)
 have c6x0l := H0.out.lt (gi) (iv) (by simp)
 have c6x0m := Nat.le_of_lt c6x0l
 go_wp2_with fail
 clear c0x0a c0x0b c0x0c c0x0d c0x0l c0x0m c6x0a c6x0b c6x0c c6x0d c6x0l c6x0m
 refine (mul_at a iv o oh H0.out AL.out IL.out EO.out EOH.out).mono ?_
 rintro e w1 ⟨rfl, h⟩
 have H1 := hid h
 clear h H0
 obtain ⟨c0x1a, c0x1b, c0x1c, c0x1d⟩ := H1.out.cell (gm) (m) (by simp)
 have c0x1l := H1.out.lt (gm) (m) (by simp)
 have c0x1m := Nat.le_of_lt c0x1l
 go_wp2_with fail
 clear c0x1a c0x1b c0x1c c0x1d c0x1l c0x1m
 have H1b := hid (H1.out.new2 o oh)
 clear H1
 generalize (w1.alloc (.cells (cls o) 24)).alloc (.cells (cls oh) 24) = w1b at *
 generalize w1.heap.size + 1 = g8s at *
 generalize w1.heap.size = g8 at *
 refine (mul_at o m p ab H1b.out OL.out ML.out EP.out EAB.out).mono ?_
 rintro e w2 ⟨rfl, h⟩
 have H2 := hid h
 clear h H1b
 go_upto_region 3 with fail
 have H2b := hid (H2.out.new2 p ab)
 clear H2
 generalize (w2.alloc (.cells (cls p) 24)).alloc (.cells (cls ab) 24) = w2b at *
 generalize w2.heap.size + 1 = g10s at *
 generalize w2.heap.size = g10 at *
 obtain ⟨c0x2a, c0x2b, c0x2c, c0x2d⟩ := H2b.out.cell (g_b) (b) (by simp)
 have c0x2l := H2b.out.lt (g_b) (b) (by simp)
 have c0x2m := Nat.le_of_lt c0x2l
 obtain ⟨c6x2a, c6x2b, c6x2c, c6x2d⟩ := H2b.out.cell (g10s) (ab) (by simp)
 have c6x2l := H2b.out.lt (g10s) (ab) (by simp)
 have c6x2m := Nat.le_of_lt c6x2l
 have kf := SB.out.cell H2b.out.below
 have kl := SB.out.lt H2b.out.below
 go_wp2_with fail
 clear c0x2a c0x2b c0x2c c0x2d c0x2l c0x2m c6x2a c6x2b c6x2c c6x2d c6x2l c6x2m
 clear kf kl
 refine (env_of (rsub_b b ab m z gb _ (H2b.out.nm gb m (by simp)) BM.out ABM.out ML.out EZ.out) H2b.out).mono ?_
 rintro e w3 ⟨rfl, h⟩
 have H3 := hid h
 clear h H2b
 obtain ⟨z0, z1, z2, z3⟩ := H3.out.cell g_z 0 (by simp)
 have zl := H3.out.lt g_z 0 (by simp)
 have zf := H3.out.frozen g_z 0 (by simp)
 have HZ := hid (H3.out.set g_z 0 (z) [] (by simp) (by rw [hzg_a]; exact DZ.out) (by simp))
 go_wp2
 clear z0 z1 z2 z3 zl zf
 try rw [Exit.noGoto_ret]
 change bodyPost _ _ _ _ _ (fil w3 g_z (z))
 generalize fil w3 g_z (z) = wz at *
 obtain ⟨k0, k1, k2, k3⟩ := HZ.out.cell g_z (z) (by simp)
 exact bodyPost_ret (v := num (z)) (by simp [results, Tryd.results81, go_sem, k0, k1, k2, k3]) rfl ⟨⟨z, rfl, ZL.out, CG.out⟩, HZ.out.1⟩
/-- what the shifted form rests on: m's box, its inverse's, the taking away, the lowering -/
def Shd (w : World) (m iv gi gm gs gb gl : Nat) : Prop := Nm w gi iv ∧ Nm w gm m ∧ Nm w gb m ∧ F1 w gs (.func (.func 40) #[] #[.pointer (some ⟨gb, 0, none⟩)]) ∧ F1 w gl (.func (.func 81) #[] #[.pointer (some ⟨gi, 0, none⟩), .pointer (some ⟨gm, 0, none⟩), .pointer (some ⟨gs, 0, none⟩)])
theorem Shd.on {w w' : World} {m iv gi gm gs gb gl : Nat} (h : Shd w m iv gi gm gs gb gl) (hb : Below w.heap.size w w') : Shd w' m iv gi gm gs gb gl := ⟨h.1.on hb, h.2.1.on hb, h.2.2.1.on hb, h.2.2.2.1.on hb, h.2.2.2.2.on hb⟩
theorem lower_sh (a b m iv gi gm gs gb gl : Nat) (w : World) (ha : a < 2 ^ 256) (hb : b < m) (hm : m < 2 ^ 256) (hiv : iv < 2 ^ 256) (hci : Cg (2 ^ 256) ((m : Int) * iv) 1) (h : Shd w m iv gi gm gs gb gl) : Calls Tryd.prog 81 #[num a, num b, .pointer (some ⟨gi, 0, none⟩), .pointer (some ⟨gm, 0, none⟩), .pointer (some ⟨gs, 0, none⟩)] w fun e w' => LowE m a b e ∧ Below w.heap.size w w' :=
 lower_any a b m iv gi gm gs gb w ha hb hm hiv hci h.1 h.2.1 h.2.2.1 h.2.2.2.1
set_option maxRecDepth 100000 in
set_option maxHeartbeats 4000000 in
theorem enter_any (a m gm : Nat) (w : World) (ha : a < 2 ^ 256) (hm : m < 2 ^ 256) (h0 : m ≠ 0) (hg : Nm w gm m) : Calls Tryd.prog 82 #[num a, .pointer (some ⟨gm, 0, none⟩)] w fun e w' => e = .returned (num (a * 2 ^ 256 % m)) ∧ Below w.heap.size w w' := by
 obtain ⟨r, er⟩ : ∃ r, wid 0 a m = r := ⟨_, rfl⟩
 have hr : a * 2 ^ 256 % m = r := by rw [← er, wid, Nat.zero_add, Nat.mul_comm]
 have AL := hid ha
 have ML := hid hm
 have M0 := hid h0
 have ER := hid er
 have HR := hid hr
 have EE := hid (Env.one hg)
 have z0 := num_zero
 have HZ0 := hid z0
 clear z0
 clear ha hm h0 er hr hg
 have H0 := hid ((((EE.out).new a).zero).perm (l' := [(w.heap.size + 1, 0), (w.heap.size, a), (gm, m)]) (by simp))
 have DZ := hid (show w.heap.size ≤ w.heap.size + 1 by omega)
 go_enter Tryd.func82, Tryd.ntmps82
 go_upto_region 1 with fail
 generalize (w.alloc (.cells (cls a) 24)).alloc (.cells #[.int .u64 0, .int .u64 0, .int .u64 0, .int .u64 0] 24) = w0 at *
 generalize w.heap.size + 1 = g_z at *
 generalize hzg_a : w.heap.size = g_a at *
 obtain ⟨c0x0a, c0x0b, c0x0c, c0x0d⟩ := H0.out.cell (g_a) (a) (by simp)
 have c0x0l := H0.out.lt (g_a) (a) (by simp)
 have c0x0m := Nat.le_of_lt c0x0l
 obtain ⟨c6x0a, c6x0b, c6x0c, c6x0d⟩ := H0.out.cell (gm) (m) (by simp)
 have c6x0l := H0.out.lt (gm) (m) (by simp)
 have c6x0m := Nat.le_of_lt c6x0l
 go_wp2_with fail
 clear c0x0a c0x0b c0x0c c0x0d c0x0l c0x0m c6x0a c6x0b c6x0c c6x0d c6x0l c6x0m
 try rw [HZ0.out]
 refine (wide_at 0 a m r H0.out (by decide) AL.out ML.out M0.out ER.out).mono ?_
 rintro e w1 ⟨rfl, h⟩
 have H1 := hid h
 clear h H0
 go_upto_region 2 with fail
 have H1b := hid (H1.out.new r)
 clear H1
 generalize w1.alloc (.cells (cls r) 24) = w1b at *
 generalize w1.heap.size = g4 at *
 obtain ⟨c0x1a, c0x1b, c0x1c, c0x1d⟩ := H1b.out.cell (g4) (r) (by simp)
 have c0x1l := H1b.out.lt (g4) (r) (by simp)
 have c0x1m := Nat.le_of_lt c0x1l
 obtain ⟨z0, z1, z2, z3⟩ := H1b.out.cell g_z 0 (by simp)
 have zl := H1b.out.lt g_z 0 (by simp)
 have zf := H1b.out.frozen g_z 0 (by simp)
 have HZ := hid (H1b.out.set g_z 0 (r) [] (by simp) (by rw [hzg_a]; exact DZ.out) (by simp))
 go_wp2
 clear z0 z1 z2 z3 zl zf
 try rw [Exit.noGoto_ret]
 change bodyPost _ _ _ _ _ (fil w1b g_z (r))
 generalize fil w1b g_z (r) = wz at *
 obtain ⟨k0, k1, k2, k3⟩ := HZ.out.cell g_z (r) (by simp)
 exact bodyPost_ret (v := num (r)) (by simp [results, Tryd.results82, go_sem, k0, k1, k2, k3]) rfl ⟨by rw [HR.out], HZ.out.1⟩
set_option maxRecDepth 100000 in
set_option maxHeartbeats 4000000 in
theorem leave_any (a m iv gi gm gs gb gl : Nat) (w : World) (ha : a < 2 ^ 256) (hm : m < 2 ^ 256) (h0 : 0 < m) (hiv : iv < 2 ^ 256) (hci : Cg (2 ^ 256) ((m : Int) * iv) 1) (hs : Shd w m iv gi gm gs gb gl) : Calls Tryd.prog 83 #[num a, .pointer (some ⟨gl, 0, none⟩)] w fun e w' => LowE m a 0 e ∧ Below w.heap.size w w' := by
 have AL := hid ha
 have ML := hid hm
 have M0 := hid h0
 have IL := hid hiv
 have CI := hid hci
 have SHH := hid hs
 have z0 := num_zero
 have HZ0 := hid z0
 clear z0
 clear ha hm h0 hiv hci hs
 have H0 := hid ((((Env.refl w).new a).zero).perm (l' := [(w.heap.size + 1, 0), (w.heap.size, a)]) (by simp))
 have DZ := hid (show w.heap.size ≤ w.heap.size + 1 by omega)
 have DN := hid (show ∀ p ∈ [(w.heap.size, a)], p.1 ≠ w.heap.size + 1 by simp; try omega)
 go_enter Tryd.func83, Tryd.ntmps83
 go_upto_region 1 with fail
 generalize (w.alloc (.cells (cls a) 24)).alloc (.cells #[.int .u64 0, .int .u64 0, .int .u64 0, .int .u64 0] 24) = w0 at *
 generalize w.heap.size + 1 = g_z at *
 generalize hzg_a : w.heap.size = g_a at *
 obtain ⟨c0x0a, c0x0b, c0x0c, c0x0d⟩ := H0.out.cell (g_a) (a) (by simp)
 have c0x0l := H0.out.lt (g_a) (a) (by simp)
 have c0x0m := Nat.le_of_lt c0x0l
 have kf := SHH.out.2.2.2.2.cell H0.out.below
 have kl := SHH.out.2.2.2.2.lt H0.out.below
 go_wp2_with fail
 clear c0x0a c0x0b c0x0c c0x0d c0x0l c0x0m
 clear kf kl
 try rw [HZ0.out]
 refine (lower_sh a 0 m iv gi gm gs gb gl w0 AL.out M0.out ML.out IL.out CI.out (SHH.out.on H0.out.below)).mono ?_
 rintro e w1 ⟨⟨z, rfl, hz, hc⟩, hb⟩
 have PZ := hid (show LowE m a 0 (.returned (num z)) from ⟨z, rfl, hz, hc⟩)
 have H1 := hid (H0.out.on hb)
 clear hz hc hb H0
 obtain ⟨z0, z1, z2, z3⟩ := H1.out.cell g_z 0 (by simp)
 have zl := H1.out.lt g_z 0 (by simp)
 have zf := H1.out.frozen g_z 0 (by simp)
 have HZ := hid (H1.out.set g_z 0 (z) [] (by simp) (by rw [hzg_a]; exact DZ.out) (by simp))
 go_wp2
 clear z0 z1 z2 z3 zl zf
 try rw [Exit.noGoto_ret]
 change bodyPost _ _ _ _ _ (fil w1 g_z (z))
 generalize fil w1 g_z (z) = wz at *
 obtain ⟨k0, k1, k2, k3⟩ := HZ.out.cell g_z (z) (by simp)
 exact bodyPost_ret (v := num (z)) (by simp [results, Tryd.results83, go_sem, k0, k1, k2, k3]) rfl ⟨PZ.out, HZ.out.1⟩
/-- what a product answers in the shifted form -/
def LowE2 (m a b : Nat) (e : Ending) : Prop := ∃ z, e = .returned (num z) ∧ z < m ∧ Cg m ((z : Int) * (2 ^ 256 : Nat)) ((a : Int) * b)
set_option maxRecDepth 100000 in
set_option maxHeartbeats 4000000 in
theorem smul_any (a b m iv gi gm gs gb gl : Nat) (w : World) (ha : a < m) (hb : b < m) (hm : m < 2 ^ 256) (hiv : iv < 2 ^ 256) (hci : Cg (2 ^ 256) ((m : Int) * iv) 1) (hs : Shd w m iv gi gm gs gb gl) : Calls Tryd.prog 84 #[num a, num b, .pointer (some ⟨gl, 0, none⟩)] w fun e w' => LowE2 m a b e ∧ Below w.heap.size w w' := by
 obtain ⟨lo, elo⟩ : ∃ z, a * b % 2 ^ 256 = z := ⟨_, rfl⟩
 obtain ⟨hi, ehi⟩ : ∃ z, a * b / 2 ^ 256 = z := ⟨_, rfl⟩
 have hlo : lo < 2 ^ 256 := by rw [← elo]; exact Nat.mod_lt _ (Nat.two_pow_pos _)
 have hhi : hi < m := by
  rw [← ehi]
  refine Nat.div_lt_of_lt_mul ?_
  have h1 : a * b < m * m := Nat.mul_lt_mul'' ha hb
  have h2 : m * m ≤ 2 ^ 256 * m := Nat.mul_le_mul_right m (Nat.le_of_lt hm)
  omega
 have SUM := hid (show ((lo : Int) + (2 ^ 256 : Nat) * hi) = (a : Int) * b from by rw [← elo, ← ehi, ← Int.natCast_mul, ← Int.natCast_add, Nat.mod_add_div, Int.natCast_mul])
 have AL := hid (Nat.lt_trans ha hm)
 have BL := hid (Nat.lt_trans hb hm)
 have ML := hid (hm)
 have LL := hid (hlo)
 have HM := hid (hhi)
 have ELO := hid (elo)
 have EHI := hid (ehi)
 have IL := hid (hiv)
 have CI := hid (hci)
 have SHH := hid (hs)
 clear ha hb hm hlo hhi elo ehi hiv hci hs
 have H0 := hid (((((Env.refl w).new a).new b).zero).perm (l' := [(w.heap.size + 1 + 1, 0), (w.heap.size + 1, b), (w.heap.size, a)]) (by simp))
 have DZ := hid (show w.heap.size ≤ w.heap.size + 1 + 1 by omega)
 have DN := hid (show ∀ p ∈ [(w.heap.size, a), (w.heap.size + 1, b)], p.1 ≠ w.heap.size + 1 + 1 by simp; try omega)
 go_enter Tryd.func84, Tryd.ntmps84
 go_upto_region 1 with fail
 generalize ((w.alloc (.cells (cls a) 24)).alloc (.cells (cls b) 24)).alloc (.cells #[.int .u64 0, .int .u64 0, .int .u64 0, .int .u64 0] 24) = w0 at *
 generalize w.heap.size + 1 + 1 = g_z at *
 generalize w.heap.size + 1 = g_b at *
 generalize hzg_a : w.heap.size = g_a at *
 have hs := H0.out.drew
 have FZ := hid (show w.heap.size ≤ g_z by rw [hzg_a]; exact DZ.out)
 refine wp_region_noPanic ?_
 refine Goes.region (fun (L : Array Bool) (w' : World) => w'.cell? ⟨gl, 0, none⟩ = some (.func (.func 81) #[] #[.pointer (some ⟨gi, 0, none⟩), .pointer (some ⟨gm, 0, none⟩), .pointer (some ⟨gs, 0, none⟩)]) ∧ (w'.cell? ⟨g_a, 0, none⟩ = some (.int .u64 (wd (a) 0 : Int)) ∧ w'.cell? ⟨g_a, 1, none⟩ = some (.int .u64 (wd (a) 1 : Int)) ∧ w'.cell? ⟨g_a, 2, none⟩ = some (.int .u64 (wd (a) 2 : Int)) ∧ w'.cell? ⟨g_a, 3, none⟩ = some (.int .u64 (wd (a) 3 : Int))) ∧ (w'.cell? ⟨g_b, 0, none⟩ = some (.int .u64 (wd (b) 0 : Int)) ∧ w'.cell? ⟨g_b, 1, none⟩ = some (.int .u64 (wd (b) 1 : Int)) ∧ w'.cell? ⟨g_b, 2, none⟩ = some (.int .u64 (wd (b) 2 : Int)) ∧ w'.cell? ⟨g_b, 3, none⟩ = some (.int .u64 (wd (b) 3 : Int)))) (by kernel_rfl) ?_
 refine Goes.tk (i := 0) (o := ⟨some 6, _, _, _, _, _⟩) (v := ?_) [] (y := Or.inl ⟨by rfl, ?_⟩) (s := ⟨SHH.out.2.2.2.2.cell (Env.below hs), Env.cell (hs) g_a a (by simp), Env.cell (hs) g_b b (by simp)⟩) (H := ?_)
 rotate_left
 ·intro w hY; obtain ⟨up, hL⟩ := hY; have hX := hL.2.1; clear hL; (try dsimp only at hX); go_simp; try with_reducible rfl
 try simp only [putz]
 refine Goes.tk (i := 1) (o := ⟨some 7, _, _, _, _, _⟩) (v := ?_) [] (y := Or.inl ⟨by rfl, ?_⟩) (s := ⟨SHH.out.2.2.2.2.cell (Env.below hs), Env.cell (hs) g_a a (by simp), Env.cell (hs) g_b b (by simp)⟩) (H := ?_)
 rotate_left
 ·intro w hY; obtain ⟨up, hL⟩ := hY; have hX := hL.2.2.1; clear hL; (try dsimp only at hX); go_simp; try with_reducible rfl
 try simp only [putz]
 refine Goes.tk (i := 2) (o := ⟨some 8, _, _, _, _, _⟩) (v := ?_) [] (y := Or.inl ⟨by rfl, ?_⟩) (s := ⟨SHH.out.2.2.2.2.cell (Env.below hs), Env.cell (hs) g_a a (by simp), Env.cell (hs) g_b b (by simp)⟩) (H := ?_)
 rotate_left
 ·intro w hY; obtain ⟨up, hL⟩ := hY; have hX := hL.2.2.2; clear hL; (try dsimp only at hX); go_simp; try with_reducible rfl
 try simp only [putz]
 refine Goes.one (i := 3) (o := ⟨some 9, _, _, _, _, _⟩) (by kernel_rfl) rfl (fun K hK => ?_)
 go_simp
 with_reducible refine (mul_at a b lo hi hs AL.out BL.out ELO.out EHI.out).mono ?_
 rintro e wn ⟨rfl, hs⟩
 go_wp2_with fail
 refine hK.out _ _ (⟨SHH.out.2.2.2.2.cell (Env.below hs), Env.cell (hs) g_a a (by simp), Env.cell (hs) g_b b (by simp)⟩) ?_
 clear hK K
 try simp only [putz]
 refine Goes.tk (i := 4) (o := ⟨some 10, _, _, _, _, _⟩) (v := ?_) [] (y := Or.inl ⟨by rfl, ?_⟩) (s := ⟨SHH.out.2.2.2.2.cell (Env.below hs), Env.cell (hs) g_a a (by simp), Env.cell (hs) g_b b (by simp)⟩) (H := ?_)
 rotate_left
 ·intro w hY; go_simp; try with_reducible rfl
 try simp only [putz]
 refine Goes.tk (i := 5) (o := ⟨some 11, _, _, _, _, _⟩) (v := ?_) [] (y := Or.inl ⟨by rfl, ?_⟩) (s := ⟨SHH.out.2.2.2.2.cell (Env.below hs), Env.cell (hs) g_a a (by simp), Env.cell (hs) g_b b (by simp)⟩) (H := ?_)
 rotate_left
 ·intro w hY; go_simp; try with_reducible rfl
 try simp only [putz]
 refine Goes.one (i := 6) (o := ⟨some 12, _, _, _, _, _⟩) (by kernel_rfl) rfl (fun K hK => ?_)
 go_simp
 with_reducible refine (lower_sh lo hi m iv gi gm gs gb gl _ LL.out HM.out ML.out IL.out CI.out (SHH.out.on (Env.below hs))).mono ?_
 rintro e wm ⟨⟨z, rfl, hz, hc⟩, hb⟩
 rw [SUM.out] at hc
 have PZ := hid (show LowE2 m a b (.returned (num z)) from ⟨z, rfl, hz, hc⟩)
 have hs2 := Env.on hs hb
 clear hs hz hc hb
 have hs := hs2
 clear hs2
 go_wp2_with fail
 refine hK.out _ _ (⟨SHH.out.2.2.2.2.cell (Env.below hs), Env.cell (hs) g_a a (by simp), Env.cell (hs) g_b b (by simp)⟩) ?_
 clear hK K
 try simp only [putz]
 obtain ⟨z0, z1, z2, z3⟩ := hs.cell g_z 0 (by simp)
 have zl := hs.lt g_z 0 (by simp)
 have zf := hs.frozen g_z 0 (by simp)
 have HZ := hid (hs.set g_z 0 z [(g_b, b), (g_a, a)] (by simp) FZ.out (fun q hq => by simp only [List.mem_cons, List.not_mem_nil, or_false] at hq; rcases hq with rfl | rfl <;> first | exact ⟨by simp, DN.out (g_b, b) (by simp)⟩ | exact ⟨by simp, DN.out (g_a, a) (by simp)⟩))
 refine Goes.one (i := 7) (o := ⟨none, _, _, _, _, _⟩) (by kernel_rfl) rfl (fun K hK => ?_)
 go_simp
 refine hK.out _ _ (⟨SHH.out.2.2.2.2.cell (Env.below HZ.out), Env.cell (HZ.out) g_a a (by simp), Env.cell (HZ.out) g_b b (by simp)⟩) ?_
 clear hK K z0 z1 z2 z3 zl zf
 try simp only [putz]
 refine Goes.done (by kernel_rfl) ?_ _
 refine NoPanic.normal ?_
 go_wp2
 try rw [Exit.noGoto_ret]
 change bodyPost _ _ _ _ _ (fil wm g_z z)
 generalize fil wm g_z z = wz at *
 obtain ⟨k0, k1, k2, k3⟩ := HZ.out.cell g_z z (by simp)
 exact bodyPost_ret (v := num z) (by simp [results, Tryd.results84, go_sem, k0, k1, k2, k3]) rfl ⟨PZ.out, HZ.out.1⟩
end Go.Proofs.YtioebjbjpjbodaaDoor

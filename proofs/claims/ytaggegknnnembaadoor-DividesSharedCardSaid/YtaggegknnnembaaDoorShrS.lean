/-
  burrowlaw03.DividesShared, walked, by a number: it answers true. Conditions: the library's table holds what its text lays.
-/
import Derived.Test.YtaggegknnnembaaDoorShrA
import Derived.Test.YtaggegknnnembaaDoorShrB
import Derived.Test.YtaggegknnnembaaDoorShrC
namespace Go.Proofs.YtaggegknnnembaaDoor
open Go.RowKit
set_option linter.unusedVariables false

set_option maxRecDepth 100000 in
set_option maxHeartbeats 16000000 in
theorem shared_some (a b n : Nat) (w : World) (ha : a < 2 ^ 256) (hb : b < 2 ^ 256) (hn : n < 4294967296) (hn0 : n ≠ 0) (hT : Tab w) : Calls Tryd.prog 5 #[num a, num b, .int .u32 (n : Int)] w fun e w' => e = .returned (.bool true) ∧ Below w.heap.size w w' := by
  obtain ⟨c, ec⟩ : ∃ z, Nat.gcd a b = z := ⟨_, rfl⟩
  have hcl : c < 2 ^ 256 := by rw [← ec]; exact gcd_le ha hb (by decide)
  have hz : c = 0 ↔ a = 0 ∧ b = 0 := by rw [← ec]; exact gcd_zero_iff a b
  have ecr : Nat.gcd b a = c := by rw [Nat.gcd_comm]; exact ec
  obtain ⟨s, es⟩ : ∃ z, dif a b = z := ⟨_, rfl⟩
  have hsl : s < 2 ^ 256 := by rw [← es]; exact dif_lt ha hb
  obtain ⟨z, ez⟩ : ∃ z : Int, ((lent a b : Nat) : Int) = z := ⟨_, rfl⟩
  have hzz : (z = 1 ∧ a < b) ∨ (z = 0 ∧ ¬ a < b) := by rw [← ez]; unfold lent; split <;> simp_all
  have EC := hid ec
  have CL := hid hcl
  have HZ := hid hz
  have ECR := hid ecr
  have ES := hid es
  have SL := hid hsl
  have EZ := hid ez
  have ZZ := hid hzz
  have AL := hid ha
  have BL := hid hb
  have HT := hid hT
  have NL := hid (show n < 18446744073709551616 by omega)
  have NB := hid (show n < 2 ^ 256 by omega)
  have N0 := hid hn0
  have hn1 : ¬ (n : Int) = 0 := by omega
  have cw : IntKind.u64.wrap (n : Int) = (n : Int) := IntWalk.u64_in _ (by omega)
  have hgr := gcd_rest a b n
  rw [ec] at hgr
  have GR := hid hgr
  obtain ⟨q0, eq0⟩ : ∃ z, a / n = z := ⟨_, rfl⟩
  obtain ⟨r0, er0⟩ : ∃ z, a % n = z := ⟨_, rfl⟩
  have hr0 : r0 < 2 ^ 256 := by rw [← er0]; exact Nat.lt_of_le_of_lt (Nat.mod_le _ _) ha
  have EQ0 := hid eq0
  have ER0 := hid er0
  have RL0 := hid hr0
  obtain ⟨q1, eq1⟩ : ∃ z, b / n = z := ⟨_, rfl⟩
  obtain ⟨r1, er1⟩ : ∃ z, b % n = z := ⟨_, rfl⟩
  have hr1 : r1 < 2 ^ 256 := by rw [← er1]; exact Nat.lt_of_le_of_lt (Nat.mod_le _ _) hb
  have EQ1 := hid eq1
  have ER1 := hid er1
  have RL1 := hid hr1
  obtain ⟨q2, eq2⟩ : ∃ z, c / n = z := ⟨_, rfl⟩
  obtain ⟨r2, er2⟩ : ∃ z, c % n = z := ⟨_, rfl⟩
  have hr2 : r2 < 2 ^ 256 := by rw [← er2]; exact Nat.lt_of_le_of_lt (Nat.mod_le _ _) hcl
  have EQ2 := hid eq2
  have ER2 := hid er2
  have RL2 := hid hr2
  clear hgr eq0 er0 hr0 eq1 er1 hr1 eq2 er2 hr2
  have qc := eq_yes c c rfl
  clear ec hcl hz ecr es hsl ez hzz ha hb hT hn hn0
  have H0 := hid ((((Env.refl w).new a).new b).perm (l' := [(w.heap.size + 1, b), (w.heap.size, a)]) (by simp))
  go_enter Tryd.func5, Tryd.ntmps5
  go_upto_region 1 with fail
  generalize (w.alloc (.cells (cls a) 24)).alloc (.cells (cls b) 24) = w0 at *
  generalize w.heap.size + 1 = g_b at *
  generalize hzg_a : w.heap.size = g_a at *
  obtain ⟨c0x0a, c0x0b, c0x0c, c0x0d⟩ := H0.out.cell (g_a) (a) (by simp)
  have c0x0l := H0.out.lt (g_a) (a) (by simp)
  have c0x0m := Nat.le_of_lt c0x0l
  obtain ⟨c6x0a, c6x0b, c6x0c, c6x0d⟩ := H0.out.cell (g_b) (b) (by simp)
  have c6x0l := H0.out.lt (g_b) (b) (by simp)
  have c6x0m := Nat.le_of_lt c6x0l
  go_wp2_with fail
  clear c0x0a c0x0b c0x0c c0x0d c0x0l c0x0m c6x0a c6x0b c6x0c c6x0d c6x0l c6x0m
  refine (common_at a b c H0.out AL.out BL.out HT.out EC.out).mono ?_
  rintro e w1 ⟨rfl, h⟩
  have H1 := hid h
  clear h H0
  go_upto_region 2 with fail
  have H1b := hid (H1.out.new c)
  clear H1
  generalize w1.alloc (.cells (cls c) 24) = w1b at *
  generalize w1.heap.size = g7 at *
  obtain ⟨c0x1a, c0x1b, c0x1c, c0x1d⟩ := H1b.out.cell (g_a) (a) (by simp)
  have c0x1l := H1b.out.lt (g_a) (a) (by simp)
  have c0x1m := Nat.le_of_lt c0x1l
  obtain ⟨c6x1a, c6x1b, c6x1c, c6x1d⟩ := H1b.out.cell (g_b) (b) (by simp)
  have c6x1l := H1b.out.lt (g_b) (b) (by simp)
  have c6x1m := Nat.le_of_lt c6x1l
  go_wp2_with fail
  clear c0x1a c0x1b c0x1c c0x1d c0x1l c0x1m c6x1a c6x1b c6x1c c6x1d c6x1l c6x1m
  refine (sub_at a b s z H1b.out AL.out BL.out ES.out EZ.out).mono ?_
  rintro e w2 ⟨rfl, h⟩
  have H2 := hid h
  clear h H1b
  go_upto_region 3 with fail
  have F8 := hid H2.out.fresh
  have H2b := hid (H2.out.new s)
  clear H2
  generalize w2.alloc (.cells (cls s) 24) = w2b at *
  generalize w2.heap.size = g8 at *
  go_upto_if 29 with fail
  go_cut [] (fun wx => ∃ d : Nat, Hid (Nat.gcd d b = c ∧ Nat.gcd d a = c ∧ d < 2 ^ 256) ∧ Hid (Env w [(g8, d), (g7, c), (g_b, b), (g_a, a)] wx))
  case first =>
    rcases ZZ.out with ⟨z1, hlt⟩ | ⟨z1, hlt⟩
    · subst z1
      obtain ⟨d, ed⟩ : ∃ y, dif b a = y := ⟨_, rfl⟩
      have edd : d = b - a := by rw [← ed]; unfold dif; rw [if_neg (by omega)]
      have hd1 : Nat.gcd d b = c ∧ Nat.gcd d a = c ∧ d < 2 ^ 256 := by
        have hb := BL.out
        refine ⟨?_, ?_, by omega⟩
        · rw [edd, ← EC.out, Nat.gcd_comm, Nat.gcd_comm a b]; exact Nat.gcd_self_sub_right (Nat.le_of_lt hlt)
        · rw [edd, gcd_less (Nat.le_of_lt hlt)]; exact ECR.out
      have ln : ((lent b a : Nat) : Int) = 0 := by unfold lent; rw [if_neg (by omega)]; rfl
      have HD := hid hd1
      have ED := hid ed
      have LN := hid ln
      clear ed edd hd1 ln hlt
      obtain ⟨c0x2a, c0x2b, c0x2c, c0x2d⟩ := H2b.out.cell (g_a) (a) (by simp)
      have c0x2l := H2b.out.lt (g_a) (a) (by simp)
      have c0x2m := Nat.le_of_lt c0x2l
      obtain ⟨c6x2a, c6x2b, c6x2c, c6x2d⟩ := H2b.out.cell (g_b) (b) (by simp)
      have c6x2l := H2b.out.lt (g_b) (b) (by simp)
      have c6x2m := Nat.le_of_lt c6x2l
      go_wp2_with fail
      clear c0x2a c0x2b c0x2c c0x2d c0x2l c0x2m c6x2a c6x2b c6x2c c6x2d c6x2l c6x2m
      refine (sub_at b a d 0 H2b.out BL.out AL.out ED.out LN.out).mono ?_
      rintro e w3 ⟨rfl, h⟩
      have H3 := hid h
      clear h H2b
      obtain ⟨c0x3a, c0x3b, c0x3c, c0x3d⟩ := H3.out.cell (g8) (s) (by simp)
      have c0x3l := H3.out.lt (g8) (s) (by simp)
      have c0x3m := Nat.le_of_lt c0x3l
      have f6x3 := H3.out.frozen g8 s (by simp)
      have HS := hid (H3.out.set g8 s d [(g7, c), (g_b, b), (g_a, a)] (by simp) F8.out.1 (fun p hp => by simp only [List.mem_cons, List.not_mem_nil, or_false] at hp; rcases hp with rfl | rfl | rfl <;> first | exact ⟨by simp, F8.out.2 (g7, c) (by simp)⟩ | exact ⟨by simp, F8.out.2 (g_b, b) (by simp)⟩ | exact ⟨by simp, F8.out.2 (g_a, a) (by simp)⟩))
      go_wp2_with fail
      go_meet
      exact ⟨d, HD, HS⟩
    · subst z1
      have edd : s = a - b := by rw [← ES.out]; unfold dif; rw [if_neg hlt]
      have hd1 : Nat.gcd s b = c ∧ Nat.gcd s a = c ∧ s < 2 ^ 256 := by
        refine ⟨?_, ?_, SL.out⟩
        · rw [edd, gcd_less (Nat.le_of_not_lt hlt)]; exact EC.out
        · rw [edd, ← EC.out, Nat.gcd_comm]; exact Nat.gcd_self_sub_right (Nat.le_of_not_lt hlt)
      have HD := hid hd1
      clear edd hd1 hlt
      go_wp2_with fail
      go_meet
      exact ⟨s, HD, hid (H2b.out.perm (by simp))⟩
  case rest =>
    obtain ⟨d, HD, HC⟩ := hcut
    clear H2b F8
    go_upto_region 5 with fail
    go_cut [68] (fun s68 wx => s68 = .bool false ∧ Hid (Env w [(g8, d), (g7, c), (g_b, b), (g_a, a)] wx))
    case first =>
      by_cases a0 : a = 0
      · have qa := eq_yes a 0 a0
        by_cases b0 : b = 0
        · have qb := eq_yes b 0 b0
          have qz := eq_yes c 0 (HZ.out.2 ⟨a0, b0⟩)
          clear a0 b0
          have hs := HC.out.drew
          refine wp_region_noPanic ?_
          refine Goes.region (fun (L : Array Bool) (w' : World) => w'.cell? ⟨g7, 0, none⟩ = some (.int .u64 (wd (c) 0 : Int)) ∧ w'.cell? ⟨g7, 1, none⟩ = some (.int .u64 (wd (c) 1 : Int)) ∧ w'.cell? ⟨g7, 2, none⟩ = some (.int .u64 (wd (c) 2 : Int)) ∧ w'.cell? ⟨g7, 3, none⟩ = some (.int .u64 (wd (c) 3 : Int)) ∧ w'.cell? ⟨g8, 0, none⟩ = some (.int .u64 (wd (d) 0 : Int)) ∧ w'.cell? ⟨g8, 1, none⟩ = some (.int .u64 (wd (d) 1 : Int)) ∧ w'.cell? ⟨g8, 2, none⟩ = some (.int .u64 (wd (d) 2 : Int)) ∧ w'.cell? ⟨g8, 3, none⟩ = some (.int .u64 (wd (d) 3 : Int)) ∧ w'.cell? ⟨g_b, 0, none⟩ = some (.int .u64 (wd (b) 0 : Int)) ∧ w'.cell? ⟨g_b, 1, none⟩ = some (.int .u64 (wd (b) 1 : Int)) ∧ w'.cell? ⟨g_b, 2, none⟩ = some (.int .u64 (wd (b) 2 : Int)) ∧ w'.cell? ⟨g_b, 3, none⟩ = some (.int .u64 (wd (b) 3 : Int)) ∧ w'.cell? ⟨g_a, 0, none⟩ = some (.int .u64 (wd (a) 0 : Int)) ∧ w'.cell? ⟨g_a, 1, none⟩ = some (.int .u64 (wd (a) 1 : Int)) ∧ w'.cell? ⟨g_a, 2, none⟩ = some (.int .u64 (wd (a) 2 : Int)) ∧ w'.cell? ⟨g_a, 3, none⟩ = some (.int .u64 (wd (a) 3 : Int))) (by kernel_rfl) ?_
          generalize wc.drew = wdr at *
          have hT := hid (And.intro ((hs).cell g7 (c) (by simp)).1 (And.intro ((hs).cell g7 (c) (by simp)).2.1 (And.intro ((hs).cell g7 (c) (by simp)).2.2.1 (And.intro ((hs).cell g7 (c) (by simp)).2.2.2 (And.intro ((hs).cell g8 (d) (by simp)).1 (And.intro ((hs).cell g8 (d) (by simp)).2.1 (And.intro ((hs).cell g8 (d) (by simp)).2.2.1 (And.intro ((hs).cell g8 (d) (by simp)).2.2.2 (And.intro ((hs).cell g_b (b) (by simp)).1 (And.intro ((hs).cell g_b (b) (by simp)).2.1 (And.intro ((hs).cell g_b (b) (by simp)).2.2.1 (And.intro ((hs).cell g_b (b) (by simp)).2.2.2 (((hs).cell g_a (a) (by simp)))))))))))))))
          refine Goes.tk (i := 0) (o := ⟨some 36, _, _, _, _, _⟩) (v := ?_) [] (y := Or.inl ⟨by rfl, ?_⟩) (s := hT.out) (H := ?_)
          rotate_left
          · rintro w ⟨up, -, hX⟩; (try dsimp only at hX); obtain ⟨x0, x1, x2, x3, x4, x5, x6, x7, x8, x9, x10, x11, x12, x13, x14, x15⟩ := hX; go_simp; try with_reducible rfl
          try simp only [putz]
          refine Goes.tk (i := 1) (o := ⟨some 37, _, _, _, _, _⟩) (v := ?_) [] (y := Or.inl ⟨by rfl, ?_⟩) (s := hT.out) (H := ?_)
          rotate_left
          · rintro w ⟨up, -, hX⟩; (try dsimp only at hX); obtain ⟨x0, x1, x2, x3, x4, x5, x6, x7, x8, x9, x10, x11, x12, x13, x14, x15⟩ := hX; go_simp; try with_reducible rfl
          try simp only [putz]
          refine Goes.tk (i := 2) (o := ⟨some 38, _, _, _, _, _⟩) (v := ?_) [] (y := Or.inl ⟨by rfl, ?_⟩) (s := hT.out) (H := ?_)
          rotate_left
          · rintro w ⟨up, -, hX⟩; (try dsimp only at hX); obtain ⟨x0, x1, x2, x3, x4, x5, x6, x7, x8, x9, x10, x11, x12, x13, x14, x15⟩ := hX; go_simp; try with_reducible rfl
          try simp only [putz]
          refine Goes.one (i := 3) (o := ⟨some 39, _, _, _, _, _⟩) (by kernel_rfl) rfl (fun K hK => ?_)
          go_simp
          with_reducible refine (common_at d b c hs HD.out.2.2 BL.out HT.out HD.out.1).mono ?_
          rintro e wn1 ⟨rfl, hs1⟩
          go_wp2_with fail
          clear hT
          have hT := hid (And.intro ((hs1).cell g7 (c) (by simp)).1 (And.intro ((hs1).cell g7 (c) (by simp)).2.1 (And.intro ((hs1).cell g7 (c) (by simp)).2.2.1 (And.intro ((hs1).cell g7 (c) (by simp)).2.2.2 (And.intro ((hs1).cell g8 (d) (by simp)).1 (And.intro ((hs1).cell g8 (d) (by simp)).2.1 (And.intro ((hs1).cell g8 (d) (by simp)).2.2.1 (And.intro ((hs1).cell g8 (d) (by simp)).2.2.2 (And.intro ((hs1).cell g_b (b) (by simp)).1 (And.intro ((hs1).cell g_b (b) (by simp)).2.1 (And.intro ((hs1).cell g_b (b) (by simp)).2.2.1 (And.intro ((hs1).cell g_b (b) (by simp)).2.2.2 (((hs1).cell g_a (a) (by simp)))))))))))))))
          refine hK.out _ _ (hT.out) ?_
          clear hK K
          try simp only [putz]
          clear hs
          have hs := hs1
          clear hs1
          refine Goes.tk (i := 4) (o := ⟨some 40, _, _, _, _, _⟩) (v := ?_) [] (y := Or.inl ⟨by rfl, ?_⟩) (s := hT.out) (H := ?_)
          rotate_left
          · intro w hY; go_simp; try with_reducible rfl
          try simp only [putz]
          refine Goes.tk (i := 5) (o := ⟨some 41, _, _, _, _, _⟩) (v := ?_) [] (y := Or.inl ⟨by rfl, ?_⟩) (s := hT.out) (H := ?_)
          rotate_left
          · intro w hY; go_simp; try with_reducible rfl
          try simp only [putz]
          refine Goes.tk (i := 6) (o := ⟨some 42, _, _, _, _, _⟩) (v := ?_) [] (y := Or.inl ⟨by rfl, ?_⟩) (s := hT.out) (H := ?_)
          rotate_left
          · rintro w ⟨up, -, hX⟩; (try dsimp only at hX); obtain ⟨x0, x1, x2, x3, x4, x5, x6, x7, x8, x9, x10, x11, x12, x13, x14, x15⟩ := hX; go_simp; try with_reducible rfl
          try simp only [putz]
          refine Goes.tk (i := 7) (o := ⟨some 43, _, _, _, _, _⟩) (v := ?_) [] (y := Or.inl ⟨by rfl, ?_⟩) (s := hT.out) (H := ?_)
          rotate_left
          · rintro w ⟨up, -, hX⟩; (try dsimp only at hX); obtain ⟨x0, x1, x2, x3, x4, x5, x6, x7, x8, x9, x10, x11, x12, x13, x14, x15⟩ := hX; go_simp; try with_reducible rfl
          try simp only [putz]
          refine Goes.tk (i := 8) (o := ⟨some 44, _, _, _, _, _⟩) (v := ?_) [] (y := Or.inl ⟨by rfl, ?_⟩) (s := hT.out) (H := ?_)
          rotate_left
          · rintro w ⟨up, -, hX⟩; (try dsimp only at hX); obtain ⟨x0, x1, x2, x3, x4, x5, x6, x7, x8, x9, x10, x11, x12, x13, x14, x15⟩ := hX; go_simp; try with_reducible rfl
          try simp only [putz]
          refine Goes.one (i := 9) (o := ⟨some 45, _, _, _, _, _⟩) (by kernel_rfl) rfl (fun K hK => ?_)
          go_simp
          with_reducible refine (common_at d a c hs HD.out.2.2 AL.out HT.out HD.out.2.1).mono ?_
          rintro e wn2 ⟨rfl, hs2⟩
          go_wp2_with fail
          clear hT
          have hT := hid (And.intro ((hs2).cell g7 (c) (by simp)).1 (And.intro ((hs2).cell g7 (c) (by simp)).2.1 (And.intro ((hs2).cell g7 (c) (by simp)).2.2.1 (And.intro ((hs2).cell g7 (c) (by simp)).2.2.2 (And.intro ((hs2).cell g8 (d) (by simp)).1 (And.intro ((hs2).cell g8 (d) (by simp)).2.1 (And.intro ((hs2).cell g8 (d) (by simp)).2.2.1 (And.intro ((hs2).cell g8 (d) (by simp)).2.2.2 (And.intro ((hs2).cell g_b (b) (by simp)).1 (And.intro ((hs2).cell g_b (b) (by simp)).2.1 (And.intro ((hs2).cell g_b (b) (by simp)).2.2.1 (And.intro ((hs2).cell g_b (b) (by simp)).2.2.2 (((hs2).cell g_a (a) (by simp)))))))))))))))
          refine hK.out _ _ (hT.out) ?_
          clear hK K
          try simp only [putz]
          clear hs
          have hs := hs2
          clear hs2
          refine Goes.tk (i := 10) (o := ⟨some 46, _, _, _, _, _⟩) (v := ?_) [] (y := Or.inl ⟨by rfl, ?_⟩) (s := hT.out) (H := ?_)
          rotate_left
          · intro w hY; go_simp; try with_reducible rfl
          try simp only [putz]
          refine Goes.tk (i := 11) (o := ⟨some 47, _, _, _, _, _⟩) (v := ?_) [] (y := Or.inl ⟨by rfl, ?_⟩) (s := hT.out) (H := ?_)
          rotate_left
          · intro w hY; go_simp; try with_reducible rfl
          try simp only [putz]
          refine Goes.tk (i := 12) (o := ⟨some 48, _, _, _, _, _⟩) (v := ?_) [] (y := Or.inl ⟨by rfl, ?_⟩) (s := hT.out) (H := ?_)
          rotate_left
          · intro w hY; go_simp; try with_reducible rfl
          try simp only [putz]
          refine Goes.tk (i := 13) (o := ⟨some 49, _, _, _, _, _⟩) (v := ?_) [] (y := Or.inl ⟨by rfl, ?_⟩) (s := hT.out) (H := ?_)
          rotate_left
          · rintro w ⟨up, -, hX⟩; (try dsimp only at hX); obtain ⟨x0, x1, x2, x3, x4, x5, x6, x7, x8, x9, x10, x11, x12, x13, x14, x15⟩ := hX; go_simp; try with_reducible rfl
          try simp only [putz]
          refine Goes.tk (i := 14) (o := ⟨some 50, _, _, _, _, _⟩) (v := ?_) [] (y := Or.inl ⟨by rfl, ?_⟩) (s := hT.out) (H := ?_)
          rotate_left
          · rintro w ⟨up, -, hX⟩; (try dsimp only at hX); obtain ⟨x0, x1, x2, x3, x4, x5, x6, x7, x8, x9, x10, x11, x12, x13, x14, x15⟩ := hX; go_simp; try with_reducible rfl
          try simp only [putz]
          refine Goes.tk (i := 15) (o := ⟨some 51, _, _, _, _, _⟩) (v := ?_) [] (y := Or.inl ⟨by rfl, ?_⟩) (s := hT.out) (H := ?_)
          rotate_left
          · rintro w ⟨up, -, hX⟩; (try dsimp only at hX); obtain ⟨x0, x1, x2, x3, x4, x5, x6, x7, x8, x9, x10, x11, x12, x13, x14, x15⟩ := hX; go_simp; try with_reducible rfl
          try simp only [putz]
          refine Goes.one (i := 16) (o := ⟨some 52, _, _, _, _, _⟩) (by kernel_rfl) rfl (fun K hK => ?_)
          go_simp
          with_reducible refine (common_at b a c hs BL.out AL.out HT.out ECR.out).mono ?_
          rintro e wn3 ⟨rfl, hs3⟩
          go_wp2_with fail
          clear hT
          have hT := hid (And.intro ((hs3).cell g7 (c) (by simp)).1 (And.intro ((hs3).cell g7 (c) (by simp)).2.1 (And.intro ((hs3).cell g7 (c) (by simp)).2.2.1 (And.intro ((hs3).cell g7 (c) (by simp)).2.2.2 (And.intro ((hs3).cell g8 (d) (by simp)).1 (And.intro ((hs3).cell g8 (d) (by simp)).2.1 (And.intro ((hs3).cell g8 (d) (by simp)).2.2.1 (And.intro ((hs3).cell g8 (d) (by simp)).2.2.2 (And.intro ((hs3).cell g_b (b) (by simp)).1 (And.intro ((hs3).cell g_b (b) (by simp)).2.1 (And.intro ((hs3).cell g_b (b) (by simp)).2.2.1 (And.intro ((hs3).cell g_b (b) (by simp)).2.2.2 (((hs3).cell g_a (a) (by simp)))))))))))))))
          refine hK.out _ _ (hT.out) ?_
          clear hK K
          try simp only [putz]
          clear hs
          have hs := hs3
          clear hs3
          refine Goes.tk (i := 17) (o := ⟨some 53, _, _, _, _, _⟩) (v := ?_) [] (y := Or.inl ⟨by rfl, ?_⟩) (s := hT.out) (H := ?_)
          rotate_left
          · intro w hY; go_simp; try with_reducible rfl
          try simp only [putz]
          refine Goes.tk (i := 18) (o := ⟨some 54, _, _, _, _, _⟩) (v := ?_) [] (y := Or.inl ⟨by rfl, ?_⟩) (s := hT.out) (H := ?_)
          rotate_left
          · intro w hY; go_simp; try with_reducible rfl
          try simp only [putz]
          refine Goes.tk (i := 19) (o := ⟨some 55, _, _, _, _, _⟩) (v := ?_) [] (y := Or.inl ⟨by rfl, ?_⟩) (s := hT.out) (H := ?_)
          rotate_left
          · intro w hY; go_simp; try with_reducible rfl
          try simp only [putz]
          refine Goes.tk (i := 20) (o := ⟨some 56, _, _, _, _, _⟩) (v := ?_) [] (y := Or.inl ⟨by rfl, ?_⟩) (s := hT.out) (H := ?_)
          rotate_left
          · rintro w ⟨up, -, hX⟩; (try dsimp only at hX); obtain ⟨x0, x1, x2, x3, x4, x5, x6, x7, x8, x9, x10, x11, x12, x13, x14, x15⟩ := hX; go_simp; try with_reducible rfl
          try simp only [putz]
          refine Goes.tk (i := 23) (o := ⟨some 59, _, _, _, _, _⟩) (v := ?_) [] (y := Or.inl ⟨by rfl, ?_⟩) (s := hT.out) (H := ?_)
          rotate_left
          · rintro w ⟨up, -, hX⟩; (try dsimp only at hX); obtain ⟨x0, x1, x2, x3, x4, x5, x6, x7, x8, x9, x10, x11, x12, x13, x14, x15⟩ := hX; go_simp; try with_reducible rfl
          try simp only [putz]
          refine Goes.one (i := 21) (o := ⟨some 57, _, _, _, _, _⟩) (by kernel_rfl) rfl (fun K hK => ?_)
          go_simp
          with_reducible refine (none3_at hs).mono ?_
          rintro e wn4 ⟨rfl, hs4⟩
          go_wp2_with fail
          clear hT
          have hT := hid (And.intro ((hs4).cell g7 (c) (by simp)).1 (And.intro ((hs4).cell g7 (c) (by simp)).2.1 (And.intro ((hs4).cell g7 (c) (by simp)).2.2.1 (And.intro ((hs4).cell g7 (c) (by simp)).2.2.2 (And.intro ((hs4).cell g8 (d) (by simp)).1 (And.intro ((hs4).cell g8 (d) (by simp)).2.1 (And.intro ((hs4).cell g8 (d) (by simp)).2.2.1 (And.intro ((hs4).cell g8 (d) (by simp)).2.2.2 (And.intro ((hs4).cell g_b (b) (by simp)).1 (And.intro ((hs4).cell g_b (b) (by simp)).2.1 (And.intro ((hs4).cell g_b (b) (by simp)).2.2.1 (And.intro ((hs4).cell g_b (b) (by simp)).2.2.2 (((hs4).cell g_a (a) (by simp)))))))))))))))
          refine hK.out _ _ (hT.out) ?_
          clear hK K
          try simp only [putz]
          clear hs
          have hs := hs4
          clear hs4
          refine Goes.tk (i := 22) (o := ⟨some 58, _, _, _, _, _⟩) (v := ?_) [] (y := Or.inl ⟨by rfl, ?_⟩) (s := hT.out) (H := ?_)
          rotate_left
          · intro w hY; go_simp; try with_reducible rfl
          try simp only [putz]
          refine Goes.one (i := 24) (o := ⟨some 60, _, _, _, _, _⟩) (by kernel_rfl) rfl (fun K hK => ?_)
          go_simp
          with_reducible refine (none3_at hs).mono ?_
          rintro e wn5 ⟨rfl, hs5⟩
          go_wp2_with fail
          clear hT
          have hT := hid (And.intro ((hs5).cell g7 (c) (by simp)).1 (And.intro ((hs5).cell g7 (c) (by simp)).2.1 (And.intro ((hs5).cell g7 (c) (by simp)).2.2.1 (And.intro ((hs5).cell g7 (c) (by simp)).2.2.2 (And.intro ((hs5).cell g8 (d) (by simp)).1 (And.intro ((hs5).cell g8 (d) (by simp)).2.1 (And.intro ((hs5).cell g8 (d) (by simp)).2.2.1 (And.intro ((hs5).cell g8 (d) (by simp)).2.2.2 (And.intro ((hs5).cell g_b (b) (by simp)).1 (And.intro ((hs5).cell g_b (b) (by simp)).2.1 (And.intro ((hs5).cell g_b (b) (by simp)).2.2.1 (And.intro ((hs5).cell g_b (b) (by simp)).2.2.2 (((hs5).cell g_a (a) (by simp)))))))))))))))
          refine hK.out _ _ (hT.out) ?_
          clear hK K
          try simp only [putz]
          clear hs
          have hs := hs5
          clear hs5
          refine Goes.tk (i := 25) (o := ⟨some 61, _, _, _, _, _⟩) (v := ?_) [] (y := Or.inl ⟨by rfl, ?_⟩) (s := hT.out) (H := ?_)
          rotate_left
          · intro w hY; go_simp; try with_reducible rfl
          try simp only [putz]
          refine Goes.tk (i := 26) (o := ⟨some 62, _, _, _, _, _⟩) (v := ?_) [] (y := Or.inl ⟨by rfl, ?_⟩) (s := hT.out) (H := ?_)
          rotate_left
          · intro w hY; go_simp; try with_reducible rfl
          try simp only [putz]
          refine Goes.tk (i := 27) (o := ⟨some 63, _, _, _, _, _⟩) (v := ?_) [] (y := Or.inl ⟨by rfl, ?_⟩) (s := hT.out) (H := ?_)
          rotate_left
          · rintro w ⟨up, -, hX⟩; (try dsimp only at hX); obtain ⟨x0, x1, x2, x3, x4, x5, x6, x7, x8, x9, x10, x11, x12, x13, x14, x15⟩ := hX; go_simp; try with_reducible rfl
          try simp only [putz]
          refine Goes.one (i := 28) (o := ⟨some 64, _, _, _, _, _⟩) (by kernel_rfl) rfl (fun K hK => ?_)
          go_simp
          with_reducible refine (none3_at hs).mono ?_
          rintro e wn6 ⟨rfl, hs6⟩
          go_wp2_with fail
          clear hT
          have hT := hid (And.intro ((hs6).cell g7 (c) (by simp)).1 (And.intro ((hs6).cell g7 (c) (by simp)).2.1 (And.intro ((hs6).cell g7 (c) (by simp)).2.2.1 (And.intro ((hs6).cell g7 (c) (by simp)).2.2.2 (And.intro ((hs6).cell g8 (d) (by simp)).1 (And.intro ((hs6).cell g8 (d) (by simp)).2.1 (And.intro ((hs6).cell g8 (d) (by simp)).2.2.1 (And.intro ((hs6).cell g8 (d) (by simp)).2.2.2 (And.intro ((hs6).cell g_b (b) (by simp)).1 (And.intro ((hs6).cell g_b (b) (by simp)).2.1 (And.intro ((hs6).cell g_b (b) (by simp)).2.2.1 (And.intro ((hs6).cell g_b (b) (by simp)).2.2.2 (((hs6).cell g_a (a) (by simp)))))))))))))))
          refine hK.out _ _ (hT.out) ?_
          clear hK K
          try simp only [putz]
          clear hs
          have hs := hs6
          clear hs6
          refine Goes.tk (i := 29) (o := ⟨some 65, _, _, _, _, _⟩) (v := ?_) [] (y := Or.inl ⟨by rfl, ?_⟩) (s := hT.out) (H := ?_)
          rotate_left
          · intro w hY; go_simp; try with_reducible rfl
          try simp only [putz]
          refine Goes.tk (i := 30) (o := ⟨some 66, _, _, _, _, _⟩) (v := ?_) [] (y := Or.inl ⟨by rfl, ?_⟩) (s := hT.out) (H := ?_)
          rotate_left
          · intro w hY; go_simp; try with_reducible rfl
          try simp only [putz]
          refine Goes.tk (i := 31) (o := ⟨some 67, _, _, _, _, _⟩) (v := ?_) [] (y := Or.inl ⟨by rfl, ?_⟩) (s := hT.out) (H := ?_)
          rotate_left
          · intro w hY; go_simp; try with_reducible rfl
          try simp only [putz]
          refine Goes.tk (i := 32) (o := ⟨some 68, _, _, _, _, _⟩) (v := ?_) [] (y := Or.inl ⟨by rfl, ?_⟩) (s := hT.out) (H := ?_)
          rotate_left
          · intro w hY; go_simp; try with_reducible rfl
          try simp only [putz]
          clear hT
          refine Goes.done (by kernel_rfl) ?_ _
          refine NoPanic.normal ?_
          go_wp2_with fail
          go_meet
          exact ⟨rfl, hid hs⟩
        · have qb := eq_no b 0 BL.out (by decide) b0
          have qz := eq_no c 0 CL.out (by decide) (fun h => b0 (HZ.out.1 h).2)
          clear a0 b0
          have hs := HC.out.drew
          refine wp_region_noPanic ?_
          refine Goes.region (fun (L : Array Bool) (w' : World) => w'.cell? ⟨g7, 0, none⟩ = some (.int .u64 (wd (c) 0 : Int)) ∧ w'.cell? ⟨g7, 1, none⟩ = some (.int .u64 (wd (c) 1 : Int)) ∧ w'.cell? ⟨g7, 2, none⟩ = some (.int .u64 (wd (c) 2 : Int)) ∧ w'.cell? ⟨g7, 3, none⟩ = some (.int .u64 (wd (c) 3 : Int)) ∧ w'.cell? ⟨g8, 0, none⟩ = some (.int .u64 (wd (d) 0 : Int)) ∧ w'.cell? ⟨g8, 1, none⟩ = some (.int .u64 (wd (d) 1 : Int)) ∧ w'.cell? ⟨g8, 2, none⟩ = some (.int .u64 (wd (d) 2 : Int)) ∧ w'.cell? ⟨g8, 3, none⟩ = some (.int .u64 (wd (d) 3 : Int)) ∧ w'.cell? ⟨g_b, 0, none⟩ = some (.int .u64 (wd (b) 0 : Int)) ∧ w'.cell? ⟨g_b, 1, none⟩ = some (.int .u64 (wd (b) 1 : Int)) ∧ w'.cell? ⟨g_b, 2, none⟩ = some (.int .u64 (wd (b) 2 : Int)) ∧ w'.cell? ⟨g_b, 3, none⟩ = some (.int .u64 (wd (b) 3 : Int)) ∧ w'.cell? ⟨g_a, 0, none⟩ = some (.int .u64 (wd (a) 0 : Int)) ∧ w'.cell? ⟨g_a, 1, none⟩ = some (.int .u64 (wd (a) 1 : Int)) ∧ w'.cell? ⟨g_a, 2, none⟩ = some (.int .u64 (wd (a) 2 : Int)) ∧ w'.cell? ⟨g_a, 3, none⟩ = some (.int .u64 (wd (a) 3 : Int))) (by kernel_rfl) ?_
          generalize wc.drew = wdr at *
          have hT := hid (And.intro ((hs).cell g7 (c) (by simp)).1 (And.intro ((hs).cell g7 (c) (by simp)).2.1 (And.intro ((hs).cell g7 (c) (by simp)).2.2.1 (And.intro ((hs).cell g7 (c) (by simp)).2.2.2 (And.intro ((hs).cell g8 (d) (by simp)).1 (And.intro ((hs).cell g8 (d) (by simp)).2.1 (And.intro ((hs).cell g8 (d) (by simp)).2.2.1 (And.intro ((hs).cell g8 (d) (by simp)).2.2.2 (And.intro ((hs).cell g_b (b) (by simp)).1 (And.intro ((hs).cell g_b (b) (by simp)).2.1 (And.intro ((hs).cell g_b (b) (by simp)).2.2.1 (And.intro ((hs).cell g_b (b) (by simp)).2.2.2 (((hs).cell g_a (a) (by simp)))))))))))))))
          refine Goes.tk (i := 0) (o := ⟨some 36, _, _, _, _, _⟩) (v := ?_) [] (y := Or.inl ⟨by rfl, ?_⟩) (s := hT.out) (H := ?_)
          rotate_left
          · rintro w ⟨up, -, hX⟩; (try dsimp only at hX); obtain ⟨x0, x1, x2, x3, x4, x5, x6, x7, x8, x9, x10, x11, x12, x13, x14, x15⟩ := hX; go_simp; try with_reducible rfl
          try simp only [putz]
          refine Goes.tk (i := 1) (o := ⟨some 37, _, _, _, _, _⟩) (v := ?_) [] (y := Or.inl ⟨by rfl, ?_⟩) (s := hT.out) (H := ?_)
          rotate_left
          · rintro w ⟨up, -, hX⟩; (try dsimp only at hX); obtain ⟨x0, x1, x2, x3, x4, x5, x6, x7, x8, x9, x10, x11, x12, x13, x14, x15⟩ := hX; go_simp; try with_reducible rfl
          try simp only [putz]
          refine Goes.tk (i := 2) (o := ⟨some 38, _, _, _, _, _⟩) (v := ?_) [] (y := Or.inl ⟨by rfl, ?_⟩) (s := hT.out) (H := ?_)
          rotate_left
          · rintro w ⟨up, -, hX⟩; (try dsimp only at hX); obtain ⟨x0, x1, x2, x3, x4, x5, x6, x7, x8, x9, x10, x11, x12, x13, x14, x15⟩ := hX; go_simp; try with_reducible rfl
          try simp only [putz]
          refine Goes.one (i := 3) (o := ⟨some 39, _, _, _, _, _⟩) (by kernel_rfl) rfl (fun K hK => ?_)
          go_simp
          with_reducible refine (common_at d b c hs HD.out.2.2 BL.out HT.out HD.out.1).mono ?_
          rintro e wn1 ⟨rfl, hs1⟩
          go_wp2_with fail
          clear hT
          have hT := hid (And.intro ((hs1).cell g7 (c) (by simp)).1 (And.intro ((hs1).cell g7 (c) (by simp)).2.1 (And.intro ((hs1).cell g7 (c) (by simp)).2.2.1 (And.intro ((hs1).cell g7 (c) (by simp)).2.2.2 (And.intro ((hs1).cell g8 (d) (by simp)).1 (And.intro ((hs1).cell g8 (d) (by simp)).2.1 (And.intro ((hs1).cell g8 (d) (by simp)).2.2.1 (And.intro ((hs1).cell g8 (d) (by simp)).2.2.2 (And.intro ((hs1).cell g_b (b) (by simp)).1 (And.intro ((hs1).cell g_b (b) (by simp)).2.1 (And.intro ((hs1).cell g_b (b) (by simp)).2.2.1 (And.intro ((hs1).cell g_b (b) (by simp)).2.2.2 (((hs1).cell g_a (a) (by simp)))))))))))))))
          refine hK.out _ _ (hT.out) ?_
          clear hK K
          try simp only [putz]
          clear hs
          have hs := hs1
          clear hs1
          refine Goes.tk (i := 4) (o := ⟨some 40, _, _, _, _, _⟩) (v := ?_) [] (y := Or.inl ⟨by rfl, ?_⟩) (s := hT.out) (H := ?_)
          rotate_left
          · intro w hY; go_simp; try with_reducible rfl
          try simp only [putz]
          refine Goes.tk (i := 5) (o := ⟨some 41, _, _, _, _, _⟩) (v := ?_) [] (y := Or.inl ⟨by rfl, ?_⟩) (s := hT.out) (H := ?_)
          rotate_left
          · intro w hY; go_simp; try with_reducible rfl
          try simp only [putz]
          refine Goes.tk (i := 6) (o := ⟨some 42, _, _, _, _, _⟩) (v := ?_) [] (y := Or.inl ⟨by rfl, ?_⟩) (s := hT.out) (H := ?_)
          rotate_left
          · rintro w ⟨up, -, hX⟩; (try dsimp only at hX); obtain ⟨x0, x1, x2, x3, x4, x5, x6, x7, x8, x9, x10, x11, x12, x13, x14, x15⟩ := hX; go_simp; try with_reducible rfl
          try simp only [putz]
          refine Goes.tk (i := 7) (o := ⟨some 43, _, _, _, _, _⟩) (v := ?_) [] (y := Or.inl ⟨by rfl, ?_⟩) (s := hT.out) (H := ?_)
          rotate_left
          · rintro w ⟨up, -, hX⟩; (try dsimp only at hX); obtain ⟨x0, x1, x2, x3, x4, x5, x6, x7, x8, x9, x10, x11, x12, x13, x14, x15⟩ := hX; go_simp; try with_reducible rfl
          try simp only [putz]
          refine Goes.tk (i := 8) (o := ⟨some 44, _, _, _, _, _⟩) (v := ?_) [] (y := Or.inl ⟨by rfl, ?_⟩) (s := hT.out) (H := ?_)
          rotate_left
          · rintro w ⟨up, -, hX⟩; (try dsimp only at hX); obtain ⟨x0, x1, x2, x3, x4, x5, x6, x7, x8, x9, x10, x11, x12, x13, x14, x15⟩ := hX; go_simp; try with_reducible rfl
          try simp only [putz]
          refine Goes.one (i := 9) (o := ⟨some 45, _, _, _, _, _⟩) (by kernel_rfl) rfl (fun K hK => ?_)
          go_simp
          with_reducible refine (common_at d a c hs HD.out.2.2 AL.out HT.out HD.out.2.1).mono ?_
          rintro e wn2 ⟨rfl, hs2⟩
          go_wp2_with fail
          clear hT
          have hT := hid (And.intro ((hs2).cell g7 (c) (by simp)).1 (And.intro ((hs2).cell g7 (c) (by simp)).2.1 (And.intro ((hs2).cell g7 (c) (by simp)).2.2.1 (And.intro ((hs2).cell g7 (c) (by simp)).2.2.2 (And.intro ((hs2).cell g8 (d) (by simp)).1 (And.intro ((hs2).cell g8 (d) (by simp)).2.1 (And.intro ((hs2).cell g8 (d) (by simp)).2.2.1 (And.intro ((hs2).cell g8 (d) (by simp)).2.2.2 (And.intro ((hs2).cell g_b (b) (by simp)).1 (And.intro ((hs2).cell g_b (b) (by simp)).2.1 (And.intro ((hs2).cell g_b (b) (by simp)).2.2.1 (And.intro ((hs2).cell g_b (b) (by simp)).2.2.2 (((hs2).cell g_a (a) (by simp)))))))))))))))
          refine hK.out _ _ (hT.out) ?_
          clear hK K
          try simp only [putz]
          clear hs
          have hs := hs2
          clear hs2
          refine Goes.tk (i := 10) (o := ⟨some 46, _, _, _, _, _⟩) (v := ?_) [] (y := Or.inl ⟨by rfl, ?_⟩) (s := hT.out) (H := ?_)
          rotate_left
          · intro w hY; go_simp; try with_reducible rfl
          try simp only [putz]
          refine Goes.tk (i := 11) (o := ⟨some 47, _, _, _, _, _⟩) (v := ?_) [] (y := Or.inl ⟨by rfl, ?_⟩) (s := hT.out) (H := ?_)
          rotate_left
          · intro w hY; go_simp; try with_reducible rfl
          try simp only [putz]
          refine Goes.tk (i := 12) (o := ⟨some 48, _, _, _, _, _⟩) (v := ?_) [] (y := Or.inl ⟨by rfl, ?_⟩) (s := hT.out) (H := ?_)
          rotate_left
          · intro w hY; go_simp; try with_reducible rfl
          try simp only [putz]
          refine Goes.tk (i := 13) (o := ⟨some 49, _, _, _, _, _⟩) (v := ?_) [] (y := Or.inl ⟨by rfl, ?_⟩) (s := hT.out) (H := ?_)
          rotate_left
          · rintro w ⟨up, -, hX⟩; (try dsimp only at hX); obtain ⟨x0, x1, x2, x3, x4, x5, x6, x7, x8, x9, x10, x11, x12, x13, x14, x15⟩ := hX; go_simp; try with_reducible rfl
          try simp only [putz]
          refine Goes.tk (i := 14) (o := ⟨some 50, _, _, _, _, _⟩) (v := ?_) [] (y := Or.inl ⟨by rfl, ?_⟩) (s := hT.out) (H := ?_)
          rotate_left
          · rintro w ⟨up, -, hX⟩; (try dsimp only at hX); obtain ⟨x0, x1, x2, x3, x4, x5, x6, x7, x8, x9, x10, x11, x12, x13, x14, x15⟩ := hX; go_simp; try with_reducible rfl
          try simp only [putz]
          refine Goes.tk (i := 15) (o := ⟨some 51, _, _, _, _, _⟩) (v := ?_) [] (y := Or.inl ⟨by rfl, ?_⟩) (s := hT.out) (H := ?_)
          rotate_left
          · rintro w ⟨up, -, hX⟩; (try dsimp only at hX); obtain ⟨x0, x1, x2, x3, x4, x5, x6, x7, x8, x9, x10, x11, x12, x13, x14, x15⟩ := hX; go_simp; try with_reducible rfl
          try simp only [putz]
          refine Goes.one (i := 16) (o := ⟨some 52, _, _, _, _, _⟩) (by kernel_rfl) rfl (fun K hK => ?_)
          go_simp
          with_reducible refine (common_at b a c hs BL.out AL.out HT.out ECR.out).mono ?_
          rintro e wn3 ⟨rfl, hs3⟩
          go_wp2_with fail
          clear hT
          have hT := hid (And.intro ((hs3).cell g7 (c) (by simp)).1 (And.intro ((hs3).cell g7 (c) (by simp)).2.1 (And.intro ((hs3).cell g7 (c) (by simp)).2.2.1 (And.intro ((hs3).cell g7 (c) (by simp)).2.2.2 (And.intro ((hs3).cell g8 (d) (by simp)).1 (And.intro ((hs3).cell g8 (d) (by simp)).2.1 (And.intro ((hs3).cell g8 (d) (by simp)).2.2.1 (And.intro ((hs3).cell g8 (d) (by simp)).2.2.2 (And.intro ((hs3).cell g_b (b) (by simp)).1 (And.intro ((hs3).cell g_b (b) (by simp)).2.1 (And.intro ((hs3).cell g_b (b) (by simp)).2.2.1 (And.intro ((hs3).cell g_b (b) (by simp)).2.2.2 (((hs3).cell g_a (a) (by simp)))))))))))))))
          refine hK.out _ _ (hT.out) ?_
          clear hK K
          try simp only [putz]
          clear hs
          have hs := hs3
          clear hs3
          refine Goes.tk (i := 17) (o := ⟨some 53, _, _, _, _, _⟩) (v := ?_) [] (y := Or.inl ⟨by rfl, ?_⟩) (s := hT.out) (H := ?_)
          rotate_left
          · intro w hY; go_simp; try with_reducible rfl
          try simp only [putz]
          refine Goes.tk (i := 18) (o := ⟨some 54, _, _, _, _, _⟩) (v := ?_) [] (y := Or.inl ⟨by rfl, ?_⟩) (s := hT.out) (H := ?_)
          rotate_left
          · intro w hY; go_simp; try with_reducible rfl
          try simp only [putz]
          refine Goes.tk (i := 19) (o := ⟨some 55, _, _, _, _, _⟩) (v := ?_) [] (y := Or.inl ⟨by rfl, ?_⟩) (s := hT.out) (H := ?_)
          rotate_left
          · intro w hY; go_simp; try with_reducible rfl
          try simp only [putz]
          refine Goes.tk (i := 20) (o := ⟨some 56, _, _, _, _, _⟩) (v := ?_) [] (y := Or.inl ⟨by rfl, ?_⟩) (s := hT.out) (H := ?_)
          rotate_left
          · rintro w ⟨up, -, hX⟩; (try dsimp only at hX); obtain ⟨x0, x1, x2, x3, x4, x5, x6, x7, x8, x9, x10, x11, x12, x13, x14, x15⟩ := hX; go_simp; try with_reducible rfl
          try simp only [putz]
          refine Goes.tk (i := 23) (o := ⟨some 59, _, _, _, _, _⟩) (v := ?_) [] (y := Or.inl ⟨by rfl, ?_⟩) (s := hT.out) (H := ?_)
          rotate_left
          · rintro w ⟨up, -, hX⟩; (try dsimp only at hX); obtain ⟨x0, x1, x2, x3, x4, x5, x6, x7, x8, x9, x10, x11, x12, x13, x14, x15⟩ := hX; go_simp; try with_reducible rfl
          try simp only [putz]
          refine Goes.one (i := 21) (o := ⟨some 57, _, _, _, _, _⟩) (by kernel_rfl) rfl (fun K hK => ?_)
          go_simp
          with_reducible refine (none3_at hs).mono ?_
          rintro e wn4 ⟨rfl, hs4⟩
          go_wp2_with fail
          clear hT
          have hT := hid (And.intro ((hs4).cell g7 (c) (by simp)).1 (And.intro ((hs4).cell g7 (c) (by simp)).2.1 (And.intro ((hs4).cell g7 (c) (by simp)).2.2.1 (And.intro ((hs4).cell g7 (c) (by simp)).2.2.2 (And.intro ((hs4).cell g8 (d) (by simp)).1 (And.intro ((hs4).cell g8 (d) (by simp)).2.1 (And.intro ((hs4).cell g8 (d) (by simp)).2.2.1 (And.intro ((hs4).cell g8 (d) (by simp)).2.2.2 (And.intro ((hs4).cell g_b (b) (by simp)).1 (And.intro ((hs4).cell g_b (b) (by simp)).2.1 (And.intro ((hs4).cell g_b (b) (by simp)).2.2.1 (And.intro ((hs4).cell g_b (b) (by simp)).2.2.2 (((hs4).cell g_a (a) (by simp)))))))))))))))
          refine hK.out _ _ (hT.out) ?_
          clear hK K
          try simp only [putz]
          clear hs
          have hs := hs4
          clear hs4
          refine Goes.tk (i := 22) (o := ⟨some 58, _, _, _, _, _⟩) (v := ?_) [] (y := Or.inl ⟨by rfl, ?_⟩) (s := hT.out) (H := ?_)
          rotate_left
          · intro w hY; go_simp; try with_reducible rfl
          try simp only [putz]
          refine Goes.one (i := 24) (o := ⟨some 60, _, _, _, _, _⟩) (by kernel_rfl) rfl (fun K hK => ?_)
          go_simp
          with_reducible refine (none3_at hs).mono ?_
          rintro e wn5 ⟨rfl, hs5⟩
          go_wp2_with fail
          clear hT
          have hT := hid (And.intro ((hs5).cell g7 (c) (by simp)).1 (And.intro ((hs5).cell g7 (c) (by simp)).2.1 (And.intro ((hs5).cell g7 (c) (by simp)).2.2.1 (And.intro ((hs5).cell g7 (c) (by simp)).2.2.2 (And.intro ((hs5).cell g8 (d) (by simp)).1 (And.intro ((hs5).cell g8 (d) (by simp)).2.1 (And.intro ((hs5).cell g8 (d) (by simp)).2.2.1 (And.intro ((hs5).cell g8 (d) (by simp)).2.2.2 (And.intro ((hs5).cell g_b (b) (by simp)).1 (And.intro ((hs5).cell g_b (b) (by simp)).2.1 (And.intro ((hs5).cell g_b (b) (by simp)).2.2.1 (And.intro ((hs5).cell g_b (b) (by simp)).2.2.2 (((hs5).cell g_a (a) (by simp)))))))))))))))
          refine hK.out _ _ (hT.out) ?_
          clear hK K
          try simp only [putz]
          clear hs
          have hs := hs5
          clear hs5
          refine Goes.tk (i := 25) (o := ⟨some 61, _, _, _, _, _⟩) (v := ?_) [] (y := Or.inl ⟨by rfl, ?_⟩) (s := hT.out) (H := ?_)
          rotate_left
          · intro w hY; go_simp; try with_reducible rfl
          try simp only [putz]
          refine Goes.tk (i := 26) (o := ⟨some 62, _, _, _, _, _⟩) (v := ?_) [] (y := Or.inl ⟨by rfl, ?_⟩) (s := hT.out) (H := ?_)
          rotate_left
          · intro w hY; go_simp; try with_reducible rfl
          try simp only [putz]
          refine Goes.tk (i := 27) (o := ⟨some 63, _, _, _, _, _⟩) (v := ?_) [] (y := Or.inl ⟨by rfl, ?_⟩) (s := hT.out) (H := ?_)
          rotate_left
          · rintro w ⟨up, -, hX⟩; (try dsimp only at hX); obtain ⟨x0, x1, x2, x3, x4, x5, x6, x7, x8, x9, x10, x11, x12, x13, x14, x15⟩ := hX; go_simp; try with_reducible rfl
          try simp only [putz]
          refine Goes.one (i := 28) (o := ⟨some 64, _, _, _, _, _⟩) (by kernel_rfl) rfl (fun K hK => ?_)
          go_simp
          with_reducible refine (none3_at hs).mono ?_
          rintro e wn6 ⟨rfl, hs6⟩
          go_wp2_with fail
          clear hT
          have hT := hid (And.intro ((hs6).cell g7 (c) (by simp)).1 (And.intro ((hs6).cell g7 (c) (by simp)).2.1 (And.intro ((hs6).cell g7 (c) (by simp)).2.2.1 (And.intro ((hs6).cell g7 (c) (by simp)).2.2.2 (And.intro ((hs6).cell g8 (d) (by simp)).1 (And.intro ((hs6).cell g8 (d) (by simp)).2.1 (And.intro ((hs6).cell g8 (d) (by simp)).2.2.1 (And.intro ((hs6).cell g8 (d) (by simp)).2.2.2 (And.intro ((hs6).cell g_b (b) (by simp)).1 (And.intro ((hs6).cell g_b (b) (by simp)).2.1 (And.intro ((hs6).cell g_b (b) (by simp)).2.2.1 (And.intro ((hs6).cell g_b (b) (by simp)).2.2.2 (((hs6).cell g_a (a) (by simp)))))))))))))))
          refine hK.out _ _ (hT.out) ?_
          clear hK K
          try simp only [putz]
          clear hs
          have hs := hs6
          clear hs6
          refine Goes.tk (i := 29) (o := ⟨some 65, _, _, _, _, _⟩) (v := ?_) [] (y := Or.inl ⟨by rfl, ?_⟩) (s := hT.out) (H := ?_)
          rotate_left
          · intro w hY; go_simp; try with_reducible rfl
          try simp only [putz]
          refine Goes.tk (i := 30) (o := ⟨some 66, _, _, _, _, _⟩) (v := ?_) [] (y := Or.inl ⟨by rfl, ?_⟩) (s := hT.out) (H := ?_)
          rotate_left
          · intro w hY; go_simp; try with_reducible rfl
          try simp only [putz]
          refine Goes.tk (i := 31) (o := ⟨some 67, _, _, _, _, _⟩) (v := ?_) [] (y := Or.inl ⟨by rfl, ?_⟩) (s := hT.out) (H := ?_)
          rotate_left
          · intro w hY; go_simp; try with_reducible rfl
          try simp only [putz]
          refine Goes.tk (i := 32) (o := ⟨some 68, _, _, _, _, _⟩) (v := ?_) [] (y := Or.inl ⟨by rfl, ?_⟩) (s := hT.out) (H := ?_)
          rotate_left
          · intro w hY; go_simp; try with_reducible rfl
          try simp only [putz]
          clear hT
          refine Goes.done (by kernel_rfl) ?_ _
          refine NoPanic.normal ?_
          go_wp2_with fail
          go_meet
          exact ⟨rfl, hid hs⟩
      · have qa := eq_no a 0 AL.out (by decide) a0
        have qz := eq_no c 0 CL.out (by decide) (fun h => a0 (HZ.out.1 h).1)
        clear a0
        have hs := HC.out.drew
        refine wp_region_noPanic ?_
        refine Goes.region (fun (L : Array Bool) (w' : World) => w'.cell? ⟨g7, 0, none⟩ = some (.int .u64 (wd (c) 0 : Int)) ∧ w'.cell? ⟨g7, 1, none⟩ = some (.int .u64 (wd (c) 1 : Int)) ∧ w'.cell? ⟨g7, 2, none⟩ = some (.int .u64 (wd (c) 2 : Int)) ∧ w'.cell? ⟨g7, 3, none⟩ = some (.int .u64 (wd (c) 3 : Int)) ∧ w'.cell? ⟨g8, 0, none⟩ = some (.int .u64 (wd (d) 0 : Int)) ∧ w'.cell? ⟨g8, 1, none⟩ = some (.int .u64 (wd (d) 1 : Int)) ∧ w'.cell? ⟨g8, 2, none⟩ = some (.int .u64 (wd (d) 2 : Int)) ∧ w'.cell? ⟨g8, 3, none⟩ = some (.int .u64 (wd (d) 3 : Int)) ∧ w'.cell? ⟨g_b, 0, none⟩ = some (.int .u64 (wd (b) 0 : Int)) ∧ w'.cell? ⟨g_b, 1, none⟩ = some (.int .u64 (wd (b) 1 : Int)) ∧ w'.cell? ⟨g_b, 2, none⟩ = some (.int .u64 (wd (b) 2 : Int)) ∧ w'.cell? ⟨g_b, 3, none⟩ = some (.int .u64 (wd (b) 3 : Int)) ∧ w'.cell? ⟨g_a, 0, none⟩ = some (.int .u64 (wd (a) 0 : Int)) ∧ w'.cell? ⟨g_a, 1, none⟩ = some (.int .u64 (wd (a) 1 : Int)) ∧ w'.cell? ⟨g_a, 2, none⟩ = some (.int .u64 (wd (a) 2 : Int)) ∧ w'.cell? ⟨g_a, 3, none⟩ = some (.int .u64 (wd (a) 3 : Int))) (by kernel_rfl) ?_
        generalize wc.drew = wdr at *
        have hT := hid (And.intro ((hs).cell g7 (c) (by simp)).1 (And.intro ((hs).cell g7 (c) (by simp)).2.1 (And.intro ((hs).cell g7 (c) (by simp)).2.2.1 (And.intro ((hs).cell g7 (c) (by simp)).2.2.2 (And.intro ((hs).cell g8 (d) (by simp)).1 (And.intro ((hs).cell g8 (d) (by simp)).2.1 (And.intro ((hs).cell g8 (d) (by simp)).2.2.1 (And.intro ((hs).cell g8 (d) (by simp)).2.2.2 (And.intro ((hs).cell g_b (b) (by simp)).1 (And.intro ((hs).cell g_b (b) (by simp)).2.1 (And.intro ((hs).cell g_b (b) (by simp)).2.2.1 (And.intro ((hs).cell g_b (b) (by simp)).2.2.2 (((hs).cell g_a (a) (by simp)))))))))))))))
        refine Goes.tk (i := 0) (o := ⟨some 36, _, _, _, _, _⟩) (v := ?_) [] (y := Or.inl ⟨by rfl, ?_⟩) (s := hT.out) (H := ?_)
        rotate_left
        · rintro w ⟨up, -, hX⟩; (try dsimp only at hX); obtain ⟨x0, x1, x2, x3, x4, x5, x6, x7, x8, x9, x10, x11, x12, x13, x14, x15⟩ := hX; go_simp; try with_reducible rfl
        try simp only [putz]
        refine Goes.tk (i := 1) (o := ⟨some 37, _, _, _, _, _⟩) (v := ?_) [] (y := Or.inl ⟨by rfl, ?_⟩) (s := hT.out) (H := ?_)
        rotate_left
        · rintro w ⟨up, -, hX⟩; (try dsimp only at hX); obtain ⟨x0, x1, x2, x3, x4, x5, x6, x7, x8, x9, x10, x11, x12, x13, x14, x15⟩ := hX; go_simp; try with_reducible rfl
        try simp only [putz]
        refine Goes.tk (i := 2) (o := ⟨some 38, _, _, _, _, _⟩) (v := ?_) [] (y := Or.inl ⟨by rfl, ?_⟩) (s := hT.out) (H := ?_)
        rotate_left
        · rintro w ⟨up, -, hX⟩; (try dsimp only at hX); obtain ⟨x0, x1, x2, x3, x4, x5, x6, x7, x8, x9, x10, x11, x12, x13, x14, x15⟩ := hX; go_simp; try with_reducible rfl
        try simp only [putz]
        refine Goes.one (i := 3) (o := ⟨some 39, _, _, _, _, _⟩) (by kernel_rfl) rfl (fun K hK => ?_)
        go_simp
        with_reducible refine (common_at d b c hs HD.out.2.2 BL.out HT.out HD.out.1).mono ?_
        rintro e wn1 ⟨rfl, hs1⟩
        go_wp2_with fail
        clear hT
        have hT := hid (And.intro ((hs1).cell g7 (c) (by simp)).1 (And.intro ((hs1).cell g7 (c) (by simp)).2.1 (And.intro ((hs1).cell g7 (c) (by simp)).2.2.1 (And.intro ((hs1).cell g7 (c) (by simp)).2.2.2 (And.intro ((hs1).cell g8 (d) (by simp)).1 (And.intro ((hs1).cell g8 (d) (by simp)).2.1 (And.intro ((hs1).cell g8 (d) (by simp)).2.2.1 (And.intro ((hs1).cell g8 (d) (by simp)).2.2.2 (And.intro ((hs1).cell g_b (b) (by simp)).1 (And.intro ((hs1).cell g_b (b) (by simp)).2.1 (And.intro ((hs1).cell g_b (b) (by simp)).2.2.1 (And.intro ((hs1).cell g_b (b) (by simp)).2.2.2 (((hs1).cell g_a (a) (by simp)))))))))))))))
        refine hK.out _ _ (hT.out) ?_
        clear hK K
        try simp only [putz]
        clear hs
        have hs := hs1
        clear hs1
        refine Goes.tk (i := 4) (o := ⟨some 40, _, _, _, _, _⟩) (v := ?_) [] (y := Or.inl ⟨by rfl, ?_⟩) (s := hT.out) (H := ?_)
        rotate_left
        · intro w hY; go_simp; try with_reducible rfl
        try simp only [putz]
        refine Goes.tk (i := 5) (o := ⟨some 41, _, _, _, _, _⟩) (v := ?_) [] (y := Or.inl ⟨by rfl, ?_⟩) (s := hT.out) (H := ?_)
        rotate_left
        · intro w hY; go_simp; try with_reducible rfl
        try simp only [putz]
        refine Goes.tk (i := 6) (o := ⟨some 42, _, _, _, _, _⟩) (v := ?_) [] (y := Or.inl ⟨by rfl, ?_⟩) (s := hT.out) (H := ?_)
        rotate_left
        · rintro w ⟨up, -, hX⟩; (try dsimp only at hX); obtain ⟨x0, x1, x2, x3, x4, x5, x6, x7, x8, x9, x10, x11, x12, x13, x14, x15⟩ := hX; go_simp; try with_reducible rfl
        try simp only [putz]
        refine Goes.tk (i := 7) (o := ⟨some 43, _, _, _, _, _⟩) (v := ?_) [] (y := Or.inl ⟨by rfl, ?_⟩) (s := hT.out) (H := ?_)
        rotate_left
        · rintro w ⟨up, -, hX⟩; (try dsimp only at hX); obtain ⟨x0, x1, x2, x3, x4, x5, x6, x7, x8, x9, x10, x11, x12, x13, x14, x15⟩ := hX; go_simp; try with_reducible rfl
        try simp only [putz]
        refine Goes.tk (i := 8) (o := ⟨some 44, _, _, _, _, _⟩) (v := ?_) [] (y := Or.inl ⟨by rfl, ?_⟩) (s := hT.out) (H := ?_)
        rotate_left
        · rintro w ⟨up, -, hX⟩; (try dsimp only at hX); obtain ⟨x0, x1, x2, x3, x4, x5, x6, x7, x8, x9, x10, x11, x12, x13, x14, x15⟩ := hX; go_simp; try with_reducible rfl
        try simp only [putz]
        refine Goes.one (i := 9) (o := ⟨some 45, _, _, _, _, _⟩) (by kernel_rfl) rfl (fun K hK => ?_)
        go_simp
        with_reducible refine (common_at d a c hs HD.out.2.2 AL.out HT.out HD.out.2.1).mono ?_
        rintro e wn2 ⟨rfl, hs2⟩
        go_wp2_with fail
        clear hT
        have hT := hid (And.intro ((hs2).cell g7 (c) (by simp)).1 (And.intro ((hs2).cell g7 (c) (by simp)).2.1 (And.intro ((hs2).cell g7 (c) (by simp)).2.2.1 (And.intro ((hs2).cell g7 (c) (by simp)).2.2.2 (And.intro ((hs2).cell g8 (d) (by simp)).1 (And.intro ((hs2).cell g8 (d) (by simp)).2.1 (And.intro ((hs2).cell g8 (d) (by simp)).2.2.1 (And.intro ((hs2).cell g8 (d) (by simp)).2.2.2 (And.intro ((hs2).cell g_b (b) (by simp)).1 (And.intro ((hs2).cell g_b (b) (by simp)).2.1 (And.intro ((hs2).cell g_b (b) (by simp)).2.2.1 (And.intro ((hs2).cell g_b (b) (by simp)).2.2.2 (((hs2).cell g_a (a) (by simp)))))))))))))))
        refine hK.out _ _ (hT.out) ?_
        clear hK K
        try simp only [putz]
        clear hs
        have hs := hs2
        clear hs2
        refine Goes.tk (i := 10) (o := ⟨some 46, _, _, _, _, _⟩) (v := ?_) [] (y := Or.inl ⟨by rfl, ?_⟩) (s := hT.out) (H := ?_)
        rotate_left
        · intro w hY; go_simp; try with_reducible rfl
        try simp only [putz]
        refine Goes.tk (i := 11) (o := ⟨some 47, _, _, _, _, _⟩) (v := ?_) [] (y := Or.inl ⟨by rfl, ?_⟩) (s := hT.out) (H := ?_)
        rotate_left
        · intro w hY; go_simp; try with_reducible rfl
        try simp only [putz]
        refine Goes.tk (i := 12) (o := ⟨some 48, _, _, _, _, _⟩) (v := ?_) [] (y := Or.inl ⟨by rfl, ?_⟩) (s := hT.out) (H := ?_)
        rotate_left
        · intro w hY; go_simp; try with_reducible rfl
        try simp only [putz]
        refine Goes.tk (i := 13) (o := ⟨some 49, _, _, _, _, _⟩) (v := ?_) [] (y := Or.inl ⟨by rfl, ?_⟩) (s := hT.out) (H := ?_)
        rotate_left
        · rintro w ⟨up, -, hX⟩; (try dsimp only at hX); obtain ⟨x0, x1, x2, x3, x4, x5, x6, x7, x8, x9, x10, x11, x12, x13, x14, x15⟩ := hX; go_simp; try with_reducible rfl
        try simp only [putz]
        refine Goes.tk (i := 14) (o := ⟨some 50, _, _, _, _, _⟩) (v := ?_) [] (y := Or.inl ⟨by rfl, ?_⟩) (s := hT.out) (H := ?_)
        rotate_left
        · rintro w ⟨up, -, hX⟩; (try dsimp only at hX); obtain ⟨x0, x1, x2, x3, x4, x5, x6, x7, x8, x9, x10, x11, x12, x13, x14, x15⟩ := hX; go_simp; try with_reducible rfl
        try simp only [putz]
        refine Goes.tk (i := 15) (o := ⟨some 51, _, _, _, _, _⟩) (v := ?_) [] (y := Or.inl ⟨by rfl, ?_⟩) (s := hT.out) (H := ?_)
        rotate_left
        · rintro w ⟨up, -, hX⟩; (try dsimp only at hX); obtain ⟨x0, x1, x2, x3, x4, x5, x6, x7, x8, x9, x10, x11, x12, x13, x14, x15⟩ := hX; go_simp; try with_reducible rfl
        try simp only [putz]
        refine Goes.one (i := 16) (o := ⟨some 52, _, _, _, _, _⟩) (by kernel_rfl) rfl (fun K hK => ?_)
        go_simp
        with_reducible refine (common_at b a c hs BL.out AL.out HT.out ECR.out).mono ?_
        rintro e wn3 ⟨rfl, hs3⟩
        go_wp2_with fail
        clear hT
        have hT := hid (And.intro ((hs3).cell g7 (c) (by simp)).1 (And.intro ((hs3).cell g7 (c) (by simp)).2.1 (And.intro ((hs3).cell g7 (c) (by simp)).2.2.1 (And.intro ((hs3).cell g7 (c) (by simp)).2.2.2 (And.intro ((hs3).cell g8 (d) (by simp)).1 (And.intro ((hs3).cell g8 (d) (by simp)).2.1 (And.intro ((hs3).cell g8 (d) (by simp)).2.2.1 (And.intro ((hs3).cell g8 (d) (by simp)).2.2.2 (And.intro ((hs3).cell g_b (b) (by simp)).1 (And.intro ((hs3).cell g_b (b) (by simp)).2.1 (And.intro ((hs3).cell g_b (b) (by simp)).2.2.1 (And.intro ((hs3).cell g_b (b) (by simp)).2.2.2 (((hs3).cell g_a (a) (by simp)))))))))))))))
        refine hK.out _ _ (hT.out) ?_
        clear hK K
        try simp only [putz]
        clear hs
        have hs := hs3
        clear hs3
        refine Goes.tk (i := 17) (o := ⟨some 53, _, _, _, _, _⟩) (v := ?_) [] (y := Or.inl ⟨by rfl, ?_⟩) (s := hT.out) (H := ?_)
        rotate_left
        · intro w hY; go_simp; try with_reducible rfl
        try simp only [putz]
        refine Goes.tk (i := 18) (o := ⟨some 54, _, _, _, _, _⟩) (v := ?_) [] (y := Or.inl ⟨by rfl, ?_⟩) (s := hT.out) (H := ?_)
        rotate_left
        · intro w hY; go_simp; try with_reducible rfl
        try simp only [putz]
        refine Goes.tk (i := 19) (o := ⟨some 55, _, _, _, _, _⟩) (v := ?_) [] (y := Or.inl ⟨by rfl, ?_⟩) (s := hT.out) (H := ?_)
        rotate_left
        · intro w hY; go_simp; try with_reducible rfl
        try simp only [putz]
        refine Goes.tk (i := 20) (o := ⟨some 56, _, _, _, _, _⟩) (v := ?_) [] (y := Or.inl ⟨by rfl, ?_⟩) (s := hT.out) (H := ?_)
        rotate_left
        · rintro w ⟨up, -, hX⟩; (try dsimp only at hX); obtain ⟨x0, x1, x2, x3, x4, x5, x6, x7, x8, x9, x10, x11, x12, x13, x14, x15⟩ := hX; go_simp; try with_reducible rfl
        try simp only [putz]
        refine Goes.tk (i := 23) (o := ⟨some 59, _, _, _, _, _⟩) (v := ?_) [] (y := Or.inl ⟨by rfl, ?_⟩) (s := hT.out) (H := ?_)
        rotate_left
        · rintro w ⟨up, -, hX⟩; (try dsimp only at hX); obtain ⟨x0, x1, x2, x3, x4, x5, x6, x7, x8, x9, x10, x11, x12, x13, x14, x15⟩ := hX; go_simp; try with_reducible rfl
        try simp only [putz]
        refine Goes.one (i := 21) (o := ⟨some 57, _, _, _, _, _⟩) (by kernel_rfl) rfl (fun K hK => ?_)
        go_simp
        with_reducible refine (none3_at hs).mono ?_
        rintro e wn4 ⟨rfl, hs4⟩
        go_wp2_with fail
        clear hT
        have hT := hid (And.intro ((hs4).cell g7 (c) (by simp)).1 (And.intro ((hs4).cell g7 (c) (by simp)).2.1 (And.intro ((hs4).cell g7 (c) (by simp)).2.2.1 (And.intro ((hs4).cell g7 (c) (by simp)).2.2.2 (And.intro ((hs4).cell g8 (d) (by simp)).1 (And.intro ((hs4).cell g8 (d) (by simp)).2.1 (And.intro ((hs4).cell g8 (d) (by simp)).2.2.1 (And.intro ((hs4).cell g8 (d) (by simp)).2.2.2 (And.intro ((hs4).cell g_b (b) (by simp)).1 (And.intro ((hs4).cell g_b (b) (by simp)).2.1 (And.intro ((hs4).cell g_b (b) (by simp)).2.2.1 (And.intro ((hs4).cell g_b (b) (by simp)).2.2.2 (((hs4).cell g_a (a) (by simp)))))))))))))))
        refine hK.out _ _ (hT.out) ?_
        clear hK K
        try simp only [putz]
        clear hs
        have hs := hs4
        clear hs4
        refine Goes.tk (i := 22) (o := ⟨some 58, _, _, _, _, _⟩) (v := ?_) [] (y := Or.inl ⟨by rfl, ?_⟩) (s := hT.out) (H := ?_)
        rotate_left
        · intro w hY; go_simp; try with_reducible rfl
        try simp only [putz]
        refine Goes.one (i := 24) (o := ⟨some 60, _, _, _, _, _⟩) (by kernel_rfl) rfl (fun K hK => ?_)
        go_simp
        with_reducible refine (none3_at hs).mono ?_
        rintro e wn5 ⟨rfl, hs5⟩
        go_wp2_with fail
        clear hT
        have hT := hid (And.intro ((hs5).cell g7 (c) (by simp)).1 (And.intro ((hs5).cell g7 (c) (by simp)).2.1 (And.intro ((hs5).cell g7 (c) (by simp)).2.2.1 (And.intro ((hs5).cell g7 (c) (by simp)).2.2.2 (And.intro ((hs5).cell g8 (d) (by simp)).1 (And.intro ((hs5).cell g8 (d) (by simp)).2.1 (And.intro ((hs5).cell g8 (d) (by simp)).2.2.1 (And.intro ((hs5).cell g8 (d) (by simp)).2.2.2 (And.intro ((hs5).cell g_b (b) (by simp)).1 (And.intro ((hs5).cell g_b (b) (by simp)).2.1 (And.intro ((hs5).cell g_b (b) (by simp)).2.2.1 (And.intro ((hs5).cell g_b (b) (by simp)).2.2.2 (((hs5).cell g_a (a) (by simp)))))))))))))))
        refine hK.out _ _ (hT.out) ?_
        clear hK K
        try simp only [putz]
        clear hs
        have hs := hs5
        clear hs5
        refine Goes.tk (i := 25) (o := ⟨some 61, _, _, _, _, _⟩) (v := ?_) [] (y := Or.inl ⟨by rfl, ?_⟩) (s := hT.out) (H := ?_)
        rotate_left
        · intro w hY; go_simp; try with_reducible rfl
        try simp only [putz]
        refine Goes.tk (i := 26) (o := ⟨some 62, _, _, _, _, _⟩) (v := ?_) [] (y := Or.inl ⟨by rfl, ?_⟩) (s := hT.out) (H := ?_)
        rotate_left
        · intro w hY; go_simp; try with_reducible rfl
        try simp only [putz]
        refine Goes.tk (i := 27) (o := ⟨some 63, _, _, _, _, _⟩) [] (y := Or.inr ⟨by rfl, rfl⟩) (s := hT.out) (H := ?_)
        try simp only [putz]
        refine Goes.tk (i := 28) (o := ⟨some 64, _, _, _, _, _⟩) [] (y := Or.inr ⟨by rfl, rfl⟩) (s := hT.out) (H := ?_)
        try simp only [putz]
        refine Goes.tk (i := 29) (o := ⟨some 65, _, _, _, _, _⟩) [] (y := Or.inr ⟨by rfl, rfl⟩) (s := hT.out) (H := ?_)
        try simp only [putz]
        refine Goes.tk (i := 30) (o := ⟨some 66, _, _, _, _, _⟩) (v := ?_) [] (y := Or.inl ⟨by rfl, ?_⟩) (s := hT.out) (H := ?_)
        rotate_left
        · intro w hY; go_simp; try with_reducible rfl
        try simp only [putz]
        refine Goes.tk (i := 31) (o := ⟨some 67, _, _, _, _, _⟩) (v := ?_) [] (y := Or.inl ⟨by rfl, ?_⟩) (s := hT.out) (H := ?_)
        rotate_left
        · intro w hY; go_simp; try with_reducible rfl
        try simp only [putz]
        refine Goes.tk (i := 32) (o := ⟨some 68, _, _, _, _, _⟩) (v := ?_) [] (y := Or.inl ⟨by rfl, ?_⟩) (s := hT.out) (H := ?_)
        rotate_left
        · intro w hY; go_simp; try with_reducible rfl
        try simp only [putz]
        clear hT
        refine Goes.done (by kernel_rfl) ?_ _
        refine NoPanic.normal ?_
        go_wp2_with fail
        go_meet
        exact ⟨rfl, hid hs⟩
    case rest =>
      obtain ⟨rfl, HC2⟩ := hcut
      clear HC
      have HQ := hid (HC2.out.perm (l' := [(g7, c), (g_b, b), (g_a, a)]) (by simp))
      clear HC2
      go_upto_region 9 with fail
      go_cut [11] (fun s11 wx => ∃ g11 : Nat, s11 = .pointer (some ⟨g11, 0, none⟩) ∧ Hid (Env w [(g11, r0), (g7, c), (g_b, b), (g_a, a)] wx))
      case first =>
        refine sr9_ok HQ NL NB N0 cw AL EQ0 ER0 _ _ _ _ _ _ _ _ _ _ _ _ _ _ _ _ _ _ _ _ _ _ _ _ _ _ _ _ _ _ _ _ _ _ _ _ _ _ _ _ _ _ _ _ _ _ _ _ _ _ _ _ _ _ _ _ _ _ _ _ _ _ _ _ _ _ _ _ _ _ _ _ _ _ _ _ _ _ _ _ _ _ _ _ _ _ _ _ _ _ _ _ _ _ _ _ _ _ _ _ _ _ _ _ _ _ _ _ _ _ _ _ (hid ?_)
        intro d10 d12 d72 d73 d74 d75 d76 d77 d78 d79 d80 gz wn HN
        go_wp2_with fail
        go_meet
        exact ⟨_, rfl, HN⟩
      case rest =>
        obtain ⟨g11, rfl, HR0⟩ := hcut
        clear HQ
        go_upto_region 10 with fail
        go_cut [14] (fun s14 wx => ∃ g14 : Nat, s14 = .pointer (some ⟨g14, 0, none⟩) ∧ Hid (Env w [(g14, r1), (g11, r0), (g7, c), (g_b, b), (g_a, a)] wx))
        case first =>
          refine sr10_ok HR0 NL NB N0 cw BL EQ1 ER1 _ _ _ _ _ _ _ _ _ _ _ _ _ _ _ _ _ _ _ _ _ _ _ _ _ _ _ _ _ _ _ _ _ _ _ _ _ _ _ _ _ _ _ _ _ _ _ _ _ _ _ _ _ _ _ _ _ _ _ _ _ _ _ _ _ _ _ _ _ _ _ _ _ _ _ _ _ _ _ _ _ _ _ _ _ _ _ _ _ _ _ _ _ _ _ _ _ _ _ _ _ _ _ _ _ _ _ _ _ _ _ _ (hid ?_)
          intro d13 d15 d81 d82 d83 d84 d85 d86 d87 d88 d89 gz wn HN
          go_wp2_with fail
          go_meet
          exact ⟨_, rfl, HN⟩
        case rest =>
          obtain ⟨g14, rfl, HR1⟩ := hcut
          clear HR0
          go_upto_region 11 with fail
          go_cut [17] (fun s17 wx => ∃ g17 : Nat, s17 = .pointer (some ⟨g17, 0, none⟩) ∧ Hid (Env w [(g17, r2), (g14, r1), (g11, r0), (g7, c), (g_b, b), (g_a, a)] wx))
          case first =>
            refine sr11_ok HR1 NL NB N0 cw CL EQ2 ER2 _ _ _ _ _ _ _ _ _ _ _ _ _ _ _ _ _ _ _ _ _ _ _ _ _ _ _ _ _ _ _ _ _ _ _ _ _ _ _ _ _ _ _ _ _ _ _ _ _ _ _ _ _ _ _ _ _ _ _ _ _ _ _ _ _ _ _ _ _ _ _ _ _ _ _ _ _ _ _ _ _ _ _ _ _ _ _ _ _ _ _ _ _ _ _ _ _ _ _ _ _ _ _ _ _ _ _ _ _ _ _ _ (hid ?_)
            intro d16 d18 d90 d91 d92 d93 d94 d95 d96 d97 d98 gz wn HN
            go_wp2_with fail
            go_meet
            exact ⟨_, rfl, HN⟩
          case rest =>
            obtain ⟨g17, rfl, HR2⟩ := hcut
            clear HR1
            go_upto_region 12 with fail
            have hgr : r2 = 0 ↔ r0 = 0 ∧ r1 = 0 := by rw [← ER0.out, ← ER1.out, ← ER2.out]; exact GR.out
            by_cases h0 : r0 = 0
            · have q5 := eq_yes r0 0 h0
              by_cases h1 : r1 = 0
              · have q6 := eq_yes r1 0 h1
                have q7 := eq_yes r2 0 (hgr.2 ⟨h0, h1⟩)
                clear h0 h1 hgr
                have hs := HR2.out.drew
                refine wp_region_noPanic ?_
                refine Goes.region (fun (L : Array Bool) (w' : World) => w'.cell? ⟨g17, 0, none⟩ = some (.int .u64 (wd (r2) 0 : Int)) ∧ w'.cell? ⟨g17, 1, none⟩ = some (.int .u64 (wd (r2) 1 : Int)) ∧ w'.cell? ⟨g17, 2, none⟩ = some (.int .u64 (wd (r2) 2 : Int)) ∧ w'.cell? ⟨g17, 3, none⟩ = some (.int .u64 (wd (r2) 3 : Int)) ∧ w'.cell? ⟨g11, 0, none⟩ = some (.int .u64 (wd (r0) 0 : Int)) ∧ w'.cell? ⟨g11, 1, none⟩ = some (.int .u64 (wd (r0) 1 : Int)) ∧ w'.cell? ⟨g11, 2, none⟩ = some (.int .u64 (wd (r0) 2 : Int)) ∧ w'.cell? ⟨g11, 3, none⟩ = some (.int .u64 (wd (r0) 3 : Int)) ∧ w'.cell? ⟨g14, 0, none⟩ = some (.int .u64 (wd (r1) 0 : Int)) ∧ w'.cell? ⟨g14, 1, none⟩ = some (.int .u64 (wd (r1) 1 : Int)) ∧ w'.cell? ⟨g14, 2, none⟩ = some (.int .u64 (wd (r1) 2 : Int)) ∧ w'.cell? ⟨g14, 3, none⟩ = some (.int .u64 (wd (r1) 3 : Int))) (by kernel_rfl) ?_
                generalize wc.drew = wdr at *
                refine Goes.one (i := 0) (o := ⟨some 99, _, _, _, _, _⟩) (by kernel_rfl) rfl (fun K hK => ?_)
                go_simp
                with_reducible refine (alive3_at hs HT.out).mono ?_
                rintro e wn1 ⟨rfl, hs1⟩
                go_wp2_with fail
                have hT := hid (And.intro ((hs1).cell g17 (r2) (by simp)).1 (And.intro ((hs1).cell g17 (r2) (by simp)).2.1 (And.intro ((hs1).cell g17 (r2) (by simp)).2.2.1 (And.intro ((hs1).cell g17 (r2) (by simp)).2.2.2 (And.intro ((hs1).cell g11 (r0) (by simp)).1 (And.intro ((hs1).cell g11 (r0) (by simp)).2.1 (And.intro ((hs1).cell g11 (r0) (by simp)).2.2.1 (And.intro ((hs1).cell g11 (r0) (by simp)).2.2.2 (((hs1).cell g14 (r1) (by simp)))))))))))
                refine hK.out _ _ (hT.out) ?_
                clear hK K
                try simp only [putz]
                clear hs
                have hs := hs1
                clear hs1
                refine Goes.tk (i := 1) (o := ⟨some 100, _, _, _, _, _⟩) (v := ?_) [] (y := Or.inl ⟨by rfl, ?_⟩) (s := hT.out) (H := ?_)
                rotate_left
                · intro w hY; go_simp; try with_reducible rfl
                try simp only [putz]
                refine Goes.tk (i := 2) (o := ⟨some 101, _, _, _, _, _⟩) (v := ?_) [] (y := Or.inl ⟨by rfl, ?_⟩) (s := hT.out) (H := ?_)
                rotate_left
                · rintro w ⟨up, -, hX⟩; (try dsimp only at hX); obtain ⟨x0, x1, x2, x3, x4, x5, x6, x7, x8, x9, x10, x11⟩ := hX; go_simp; try with_reducible rfl
                try simp only [putz]
                refine Goes.tk (i := 5) (o := ⟨some 104, _, _, _, _, _⟩) (v := ?_) [] (y := Or.inl ⟨by rfl, ?_⟩) (s := hT.out) (H := ?_)
                rotate_left
                · rintro w ⟨up, -, hX⟩; (try dsimp only at hX); obtain ⟨x0, x1, x2, x3, x4, x5, x6, x7, x8, x9, x10, x11⟩ := hX; go_simp; try with_reducible rfl
                try simp only [putz]
                refine Goes.one (i := 3) (o := ⟨some 102, _, _, _, _, _⟩) (by kernel_rfl) rfl (fun K hK => ?_)
                go_simp
                with_reducible refine (none3_at hs).mono ?_
                rintro e wn2 ⟨rfl, hs2⟩
                go_wp2_with fail
                clear hT
                have hT := hid (And.intro ((hs2).cell g17 (r2) (by simp)).1 (And.intro ((hs2).cell g17 (r2) (by simp)).2.1 (And.intro ((hs2).cell g17 (r2) (by simp)).2.2.1 (And.intro ((hs2).cell g17 (r2) (by simp)).2.2.2 (And.intro ((hs2).cell g11 (r0) (by simp)).1 (And.intro ((hs2).cell g11 (r0) (by simp)).2.1 (And.intro ((hs2).cell g11 (r0) (by simp)).2.2.1 (And.intro ((hs2).cell g11 (r0) (by simp)).2.2.2 (((hs2).cell g14 (r1) (by simp)))))))))))
                refine hK.out _ _ (hT.out) ?_
                clear hK K
                try simp only [putz]
                clear hs
                have hs := hs2
                clear hs2
                refine Goes.tk (i := 4) (o := ⟨some 103, _, _, _, _, _⟩) (v := ?_) [] (y := Or.inl ⟨by rfl, ?_⟩) (s := hT.out) (H := ?_)
                rotate_left
                · intro w hY; go_simp; try with_reducible rfl
                try simp only [putz]
                refine Goes.one (i := 6) (o := ⟨some 105, _, _, _, _, _⟩) (by kernel_rfl) rfl (fun K hK => ?_)
                go_simp
                with_reducible refine (none3_at hs).mono ?_
                rintro e wn3 ⟨rfl, hs3⟩
                go_wp2_with fail
                clear hT
                have hT := hid (And.intro ((hs3).cell g17 (r2) (by simp)).1 (And.intro ((hs3).cell g17 (r2) (by simp)).2.1 (And.intro ((hs3).cell g17 (r2) (by simp)).2.2.1 (And.intro ((hs3).cell g17 (r2) (by simp)).2.2.2 (And.intro ((hs3).cell g11 (r0) (by simp)).1 (And.intro ((hs3).cell g11 (r0) (by simp)).2.1 (And.intro ((hs3).cell g11 (r0) (by simp)).2.2.1 (And.intro ((hs3).cell g11 (r0) (by simp)).2.2.2 (((hs3).cell g14 (r1) (by simp)))))))))))
                refine hK.out _ _ (hT.out) ?_
                clear hK K
                try simp only [putz]
                clear hs
                have hs := hs3
                clear hs3
                refine Goes.tk (i := 7) (o := ⟨some 106, _, _, _, _, _⟩) (v := ?_) [] (y := Or.inl ⟨by rfl, ?_⟩) (s := hT.out) (H := ?_)
                rotate_left
                · intro w hY; go_simp; try with_reducible rfl
                try simp only [putz]
                refine Goes.tk (i := 8) (o := ⟨some 107, _, _, _, _, _⟩) (v := ?_) [] (y := Or.inl ⟨by rfl, ?_⟩) (s := hT.out) (H := ?_)
                rotate_left
                · intro w hY; go_simp; try with_reducible rfl
                try simp only [putz]
                refine Goes.tk (i := 9) (o := ⟨some 108, _, _, _, _, _⟩) (v := ?_) [] (y := Or.inl ⟨by rfl, ?_⟩) (s := hT.out) (H := ?_)
                rotate_left
                · rintro w ⟨up, -, hX⟩; (try dsimp only at hX); obtain ⟨x0, x1, x2, x3, x4, x5, x6, x7, x8, x9, x10, x11⟩ := hX; go_simp; try with_reducible rfl
                try simp only [putz]
                refine Goes.one (i := 10) (o := ⟨some 109, _, _, _, _, _⟩) (by kernel_rfl) rfl (fun K hK => ?_)
                go_simp
                with_reducible refine (none3_at hs).mono ?_
                rintro e wn4 ⟨rfl, hs4⟩
                go_wp2_with fail
                clear hT
                have hT := hid (And.intro ((hs4).cell g17 (r2) (by simp)).1 (And.intro ((hs4).cell g17 (r2) (by simp)).2.1 (And.intro ((hs4).cell g17 (r2) (by simp)).2.2.1 (And.intro ((hs4).cell g17 (r2) (by simp)).2.2.2 (And.intro ((hs4).cell g11 (r0) (by simp)).1 (And.intro ((hs4).cell g11 (r0) (by simp)).2.1 (And.intro ((hs4).cell g11 (r0) (by simp)).2.2.1 (And.intro ((hs4).cell g11 (r0) (by simp)).2.2.2 (((hs4).cell g14 (r1) (by simp)))))))))))
                refine hK.out _ _ (hT.out) ?_
                clear hK K
                try simp only [putz]
                clear hs
                have hs := hs4
                clear hs4
                refine Goes.tk (i := 11) (o := ⟨some 110, _, _, _, _, _⟩) (v := ?_) [] (y := Or.inl ⟨by rfl, ?_⟩) (s := hT.out) (H := ?_)
                rotate_left
                · intro w hY; go_simp; try with_reducible rfl
                try simp only [putz]
                refine Goes.tk (i := 12) (o := ⟨some 111, _, _, _, _, _⟩) (v := ?_) [] (y := Or.inl ⟨by rfl, ?_⟩) (s := hT.out) (H := ?_)
                rotate_left
                · intro w hY; go_simp; try with_reducible rfl
                try simp only [putz]
                refine Goes.tk (i := 13) (o := ⟨some 112, _, _, _, _, _⟩) (v := ?_) [] (y := Or.inl ⟨by rfl, ?_⟩) (s := hT.out) (H := ?_)
                rotate_left
                · intro w hY; go_simp; try with_reducible rfl
                try simp only [putz]
                refine Goes.tk (i := 14) (o := ⟨some 113, _, _, _, _, _⟩) (v := ?_) [] (y := Or.inl ⟨by rfl, ?_⟩) (s := hT.out) (H := ?_)
                rotate_left
                · intro w hY; go_simp; try with_reducible rfl
                try simp only [putz]
                refine Goes.tk (i := 15) (o := ⟨some 6, _, _, _, _, _⟩) (v := ?_) [] (y := Or.inl ⟨by rfl, ?_⟩) (s := hT.out) (H := ?_)
                rotate_left
                · intro w hY; go_simp; try with_reducible rfl
                try simp only [putz]
                clear hT
                refine Goes.done (by kernel_rfl) ?_ _
                refine NoPanic.normal ?_
                go_wp2_with fail
                try go_ret
                first | exact ⟨rfl, hs.1⟩ | exact bodyPost_ret (v := .bool true) (by simp [results, Tryd.results5, go_sem]) rfl ⟨rfl, hs.1⟩
              · have q6 := eq_no r1 0 RL1.out (by decide) h1
                have q7 := eq_no r2 0 RL2.out (by decide) (fun h => h1 (hgr.1 h).2)
                clear h0 h1 hgr
                have hs := HR2.out.drew
                refine wp_region_noPanic ?_
                refine Goes.region (fun (L : Array Bool) (w' : World) => w'.cell? ⟨g17, 0, none⟩ = some (.int .u64 (wd (r2) 0 : Int)) ∧ w'.cell? ⟨g17, 1, none⟩ = some (.int .u64 (wd (r2) 1 : Int)) ∧ w'.cell? ⟨g17, 2, none⟩ = some (.int .u64 (wd (r2) 2 : Int)) ∧ w'.cell? ⟨g17, 3, none⟩ = some (.int .u64 (wd (r2) 3 : Int)) ∧ w'.cell? ⟨g11, 0, none⟩ = some (.int .u64 (wd (r0) 0 : Int)) ∧ w'.cell? ⟨g11, 1, none⟩ = some (.int .u64 (wd (r0) 1 : Int)) ∧ w'.cell? ⟨g11, 2, none⟩ = some (.int .u64 (wd (r0) 2 : Int)) ∧ w'.cell? ⟨g11, 3, none⟩ = some (.int .u64 (wd (r0) 3 : Int)) ∧ w'.cell? ⟨g14, 0, none⟩ = some (.int .u64 (wd (r1) 0 : Int)) ∧ w'.cell? ⟨g14, 1, none⟩ = some (.int .u64 (wd (r1) 1 : Int)) ∧ w'.cell? ⟨g14, 2, none⟩ = some (.int .u64 (wd (r1) 2 : Int)) ∧ w'.cell? ⟨g14, 3, none⟩ = some (.int .u64 (wd (r1) 3 : Int))) (by kernel_rfl) ?_
                generalize wc.drew = wdr at *
                refine Goes.one (i := 0) (o := ⟨some 99, _, _, _, _, _⟩) (by kernel_rfl) rfl (fun K hK => ?_)
                go_simp
                with_reducible refine (alive3_at hs HT.out).mono ?_
                rintro e wn1 ⟨rfl, hs1⟩
                go_wp2_with fail
                have hT := hid (And.intro ((hs1).cell g17 (r2) (by simp)).1 (And.intro ((hs1).cell g17 (r2) (by simp)).2.1 (And.intro ((hs1).cell g17 (r2) (by simp)).2.2.1 (And.intro ((hs1).cell g17 (r2) (by simp)).2.2.2 (And.intro ((hs1).cell g11 (r0) (by simp)).1 (And.intro ((hs1).cell g11 (r0) (by simp)).2.1 (And.intro ((hs1).cell g11 (r0) (by simp)).2.2.1 (And.intro ((hs1).cell g11 (r0) (by simp)).2.2.2 (((hs1).cell g14 (r1) (by simp)))))))))))
                refine hK.out _ _ (hT.out) ?_
                clear hK K
                try simp only [putz]
                clear hs
                have hs := hs1
                clear hs1
                refine Goes.tk (i := 1) (o := ⟨some 100, _, _, _, _, _⟩) (v := ?_) [] (y := Or.inl ⟨by rfl, ?_⟩) (s := hT.out) (H := ?_)
                rotate_left
                · intro w hY; go_simp; try with_reducible rfl
                try simp only [putz]
                refine Goes.tk (i := 2) (o := ⟨some 101, _, _, _, _, _⟩) (v := ?_) [] (y := Or.inl ⟨by rfl, ?_⟩) (s := hT.out) (H := ?_)
                rotate_left
                · rintro w ⟨up, -, hX⟩; (try dsimp only at hX); obtain ⟨x0, x1, x2, x3, x4, x5, x6, x7, x8, x9, x10, x11⟩ := hX; go_simp; try with_reducible rfl
                try simp only [putz]
                refine Goes.tk (i := 5) (o := ⟨some 104, _, _, _, _, _⟩) (v := ?_) [] (y := Or.inl ⟨by rfl, ?_⟩) (s := hT.out) (H := ?_)
                rotate_left
                · rintro w ⟨up, -, hX⟩; (try dsimp only at hX); obtain ⟨x0, x1, x2, x3, x4, x5, x6, x7, x8, x9, x10, x11⟩ := hX; go_simp; try with_reducible rfl
                try simp only [putz]
                refine Goes.one (i := 3) (o := ⟨some 102, _, _, _, _, _⟩) (by kernel_rfl) rfl (fun K hK => ?_)
                go_simp
                with_reducible refine (none3_at hs).mono ?_
                rintro e wn2 ⟨rfl, hs2⟩
                go_wp2_with fail
                clear hT
                have hT := hid (And.intro ((hs2).cell g17 (r2) (by simp)).1 (And.intro ((hs2).cell g17 (r2) (by simp)).2.1 (And.intro ((hs2).cell g17 (r2) (by simp)).2.2.1 (And.intro ((hs2).cell g17 (r2) (by simp)).2.2.2 (And.intro ((hs2).cell g11 (r0) (by simp)).1 (And.intro ((hs2).cell g11 (r0) (by simp)).2.1 (And.intro ((hs2).cell g11 (r0) (by simp)).2.2.1 (And.intro ((hs2).cell g11 (r0) (by simp)).2.2.2 (((hs2).cell g14 (r1) (by simp)))))))))))
                refine hK.out _ _ (hT.out) ?_
                clear hK K
                try simp only [putz]
                clear hs
                have hs := hs2
                clear hs2
                refine Goes.tk (i := 4) (o := ⟨some 103, _, _, _, _, _⟩) (v := ?_) [] (y := Or.inl ⟨by rfl, ?_⟩) (s := hT.out) (H := ?_)
                rotate_left
                · intro w hY; go_simp; try with_reducible rfl
                try simp only [putz]
                refine Goes.one (i := 6) (o := ⟨some 105, _, _, _, _, _⟩) (by kernel_rfl) rfl (fun K hK => ?_)
                go_simp
                with_reducible refine (none3_at hs).mono ?_
                rintro e wn3 ⟨rfl, hs3⟩
                go_wp2_with fail
                clear hT
                have hT := hid (And.intro ((hs3).cell g17 (r2) (by simp)).1 (And.intro ((hs3).cell g17 (r2) (by simp)).2.1 (And.intro ((hs3).cell g17 (r2) (by simp)).2.2.1 (And.intro ((hs3).cell g17 (r2) (by simp)).2.2.2 (And.intro ((hs3).cell g11 (r0) (by simp)).1 (And.intro ((hs3).cell g11 (r0) (by simp)).2.1 (And.intro ((hs3).cell g11 (r0) (by simp)).2.2.1 (And.intro ((hs3).cell g11 (r0) (by simp)).2.2.2 (((hs3).cell g14 (r1) (by simp)))))))))))
                refine hK.out _ _ (hT.out) ?_
                clear hK K
                try simp only [putz]
                clear hs
                have hs := hs3
                clear hs3
                refine Goes.tk (i := 7) (o := ⟨some 106, _, _, _, _, _⟩) (v := ?_) [] (y := Or.inl ⟨by rfl, ?_⟩) (s := hT.out) (H := ?_)
                rotate_left
                · intro w hY; go_simp; try with_reducible rfl
                try simp only [putz]
                refine Goes.tk (i := 8) (o := ⟨some 107, _, _, _, _, _⟩) (v := ?_) [] (y := Or.inl ⟨by rfl, ?_⟩) (s := hT.out) (H := ?_)
                rotate_left
                · intro w hY; go_simp; try with_reducible rfl
                try simp only [putz]
                refine Goes.tk (i := 9) (o := ⟨some 108, _, _, _, _, _⟩) (v := ?_) [] (y := Or.inl ⟨by rfl, ?_⟩) (s := hT.out) (H := ?_)
                rotate_left
                · rintro w ⟨up, -, hX⟩; (try dsimp only at hX); obtain ⟨x0, x1, x2, x3, x4, x5, x6, x7, x8, x9, x10, x11⟩ := hX; go_simp; try with_reducible rfl
                try simp only [putz]
                refine Goes.one (i := 10) (o := ⟨some 109, _, _, _, _, _⟩) (by kernel_rfl) rfl (fun K hK => ?_)
                go_simp
                with_reducible refine (none3_at hs).mono ?_
                rintro e wn4 ⟨rfl, hs4⟩
                go_wp2_with fail
                clear hT
                have hT := hid (And.intro ((hs4).cell g17 (r2) (by simp)).1 (And.intro ((hs4).cell g17 (r2) (by simp)).2.1 (And.intro ((hs4).cell g17 (r2) (by simp)).2.2.1 (And.intro ((hs4).cell g17 (r2) (by simp)).2.2.2 (And.intro ((hs4).cell g11 (r0) (by simp)).1 (And.intro ((hs4).cell g11 (r0) (by simp)).2.1 (And.intro ((hs4).cell g11 (r0) (by simp)).2.2.1 (And.intro ((hs4).cell g11 (r0) (by simp)).2.2.2 (((hs4).cell g14 (r1) (by simp)))))))))))
                refine hK.out _ _ (hT.out) ?_
                clear hK K
                try simp only [putz]
                clear hs
                have hs := hs4
                clear hs4
                refine Goes.tk (i := 11) (o := ⟨some 110, _, _, _, _, _⟩) (v := ?_) [] (y := Or.inl ⟨by rfl, ?_⟩) (s := hT.out) (H := ?_)
                rotate_left
                · intro w hY; go_simp; try with_reducible rfl
                try simp only [putz]
                refine Goes.tk (i := 12) (o := ⟨some 111, _, _, _, _, _⟩) (v := ?_) [] (y := Or.inl ⟨by rfl, ?_⟩) (s := hT.out) (H := ?_)
                rotate_left
                · intro w hY; go_simp; try with_reducible rfl
                try simp only [putz]
                refine Goes.tk (i := 13) (o := ⟨some 112, _, _, _, _, _⟩) (v := ?_) [] (y := Or.inl ⟨by rfl, ?_⟩) (s := hT.out) (H := ?_)
                rotate_left
                · intro w hY; go_simp; try with_reducible rfl
                try simp only [putz]
                refine Goes.tk (i := 14) (o := ⟨some 113, _, _, _, _, _⟩) (v := ?_) [] (y := Or.inl ⟨by rfl, ?_⟩) (s := hT.out) (H := ?_)
                rotate_left
                · intro w hY; go_simp; try with_reducible rfl
                try simp only [putz]
                refine Goes.tk (i := 15) (o := ⟨some 6, _, _, _, _, _⟩) (v := ?_) [] (y := Or.inl ⟨by rfl, ?_⟩) (s := hT.out) (H := ?_)
                rotate_left
                · intro w hY; go_simp; try with_reducible rfl
                try simp only [putz]
                clear hT
                refine Goes.done (by kernel_rfl) ?_ _
                refine NoPanic.normal ?_
                go_wp2_with fail
                try go_ret
                first | exact ⟨rfl, hs.1⟩ | exact bodyPost_ret (v := .bool true) (by simp [results, Tryd.results5, go_sem]) rfl ⟨rfl, hs.1⟩
            · have q5 := eq_no r0 0 RL0.out (by decide) h0
              have q7 := eq_no r2 0 RL2.out (by decide) (fun h => h0 (hgr.1 h).1)
              clear h0 hgr
              have hs := HR2.out.drew
              refine wp_region_noPanic ?_
              refine Goes.region (fun (L : Array Bool) (w' : World) => w'.cell? ⟨g17, 0, none⟩ = some (.int .u64 (wd (r2) 0 : Int)) ∧ w'.cell? ⟨g17, 1, none⟩ = some (.int .u64 (wd (r2) 1 : Int)) ∧ w'.cell? ⟨g17, 2, none⟩ = some (.int .u64 (wd (r2) 2 : Int)) ∧ w'.cell? ⟨g17, 3, none⟩ = some (.int .u64 (wd (r2) 3 : Int)) ∧ w'.cell? ⟨g11, 0, none⟩ = some (.int .u64 (wd (r0) 0 : Int)) ∧ w'.cell? ⟨g11, 1, none⟩ = some (.int .u64 (wd (r0) 1 : Int)) ∧ w'.cell? ⟨g11, 2, none⟩ = some (.int .u64 (wd (r0) 2 : Int)) ∧ w'.cell? ⟨g11, 3, none⟩ = some (.int .u64 (wd (r0) 3 : Int)) ∧ w'.cell? ⟨g14, 0, none⟩ = some (.int .u64 (wd (r1) 0 : Int)) ∧ w'.cell? ⟨g14, 1, none⟩ = some (.int .u64 (wd (r1) 1 : Int)) ∧ w'.cell? ⟨g14, 2, none⟩ = some (.int .u64 (wd (r1) 2 : Int)) ∧ w'.cell? ⟨g14, 3, none⟩ = some (.int .u64 (wd (r1) 3 : Int))) (by kernel_rfl) ?_
              generalize wc.drew = wdr at *
              refine Goes.one (i := 0) (o := ⟨some 99, _, _, _, _, _⟩) (by kernel_rfl) rfl (fun K hK => ?_)
              go_simp
              with_reducible refine (alive3_at hs HT.out).mono ?_
              rintro e wn1 ⟨rfl, hs1⟩
              go_wp2_with fail
              have hT := hid (And.intro ((hs1).cell g17 (r2) (by simp)).1 (And.intro ((hs1).cell g17 (r2) (by simp)).2.1 (And.intro ((hs1).cell g17 (r2) (by simp)).2.2.1 (And.intro ((hs1).cell g17 (r2) (by simp)).2.2.2 (And.intro ((hs1).cell g11 (r0) (by simp)).1 (And.intro ((hs1).cell g11 (r0) (by simp)).2.1 (And.intro ((hs1).cell g11 (r0) (by simp)).2.2.1 (And.intro ((hs1).cell g11 (r0) (by simp)).2.2.2 (((hs1).cell g14 (r1) (by simp)))))))))))
              refine hK.out _ _ (hT.out) ?_
              clear hK K
              try simp only [putz]
              clear hs
              have hs := hs1
              clear hs1
              refine Goes.tk (i := 1) (o := ⟨some 100, _, _, _, _, _⟩) (v := ?_) [] (y := Or.inl ⟨by rfl, ?_⟩) (s := hT.out) (H := ?_)
              rotate_left
              · intro w hY; go_simp; try with_reducible rfl
              try simp only [putz]
              refine Goes.tk (i := 2) (o := ⟨some 101, _, _, _, _, _⟩) (v := ?_) [] (y := Or.inl ⟨by rfl, ?_⟩) (s := hT.out) (H := ?_)
              rotate_left
              · rintro w ⟨up, -, hX⟩; (try dsimp only at hX); obtain ⟨x0, x1, x2, x3, x4, x5, x6, x7, x8, x9, x10, x11⟩ := hX; go_simp; try with_reducible rfl
              try simp only [putz]
              refine Goes.tk (i := 5) (o := ⟨some 104, _, _, _, _, _⟩) (v := ?_) [] (y := Or.inl ⟨by rfl, ?_⟩) (s := hT.out) (H := ?_)
              rotate_left
              · rintro w ⟨up, -, hX⟩; (try dsimp only at hX); obtain ⟨x0, x1, x2, x3, x4, x5, x6, x7, x8, x9, x10, x11⟩ := hX; go_simp; try with_reducible rfl
              try simp only [putz]
              refine Goes.one (i := 3) (o := ⟨some 102, _, _, _, _, _⟩) (by kernel_rfl) rfl (fun K hK => ?_)
              go_simp
              with_reducible refine (none3_at hs).mono ?_
              rintro e wn2 ⟨rfl, hs2⟩
              go_wp2_with fail
              clear hT
              have hT := hid (And.intro ((hs2).cell g17 (r2) (by simp)).1 (And.intro ((hs2).cell g17 (r2) (by simp)).2.1 (And.intro ((hs2).cell g17 (r2) (by simp)).2.2.1 (And.intro ((hs2).cell g17 (r2) (by simp)).2.2.2 (And.intro ((hs2).cell g11 (r0) (by simp)).1 (And.intro ((hs2).cell g11 (r0) (by simp)).2.1 (And.intro ((hs2).cell g11 (r0) (by simp)).2.2.1 (And.intro ((hs2).cell g11 (r0) (by simp)).2.2.2 (((hs2).cell g14 (r1) (by simp)))))))))))
              refine hK.out _ _ (hT.out) ?_
              clear hK K
              try simp only [putz]
              clear hs
              have hs := hs2
              clear hs2
              refine Goes.tk (i := 4) (o := ⟨some 103, _, _, _, _, _⟩) (v := ?_) [] (y := Or.inl ⟨by rfl, ?_⟩) (s := hT.out) (H := ?_)
              rotate_left
              · intro w hY; go_simp; try with_reducible rfl
              try simp only [putz]
              refine Goes.one (i := 6) (o := ⟨some 105, _, _, _, _, _⟩) (by kernel_rfl) rfl (fun K hK => ?_)
              go_simp
              with_reducible refine (none3_at hs).mono ?_
              rintro e wn3 ⟨rfl, hs3⟩
              go_wp2_with fail
              clear hT
              have hT := hid (And.intro ((hs3).cell g17 (r2) (by simp)).1 (And.intro ((hs3).cell g17 (r2) (by simp)).2.1 (And.intro ((hs3).cell g17 (r2) (by simp)).2.2.1 (And.intro ((hs3).cell g17 (r2) (by simp)).2.2.2 (And.intro ((hs3).cell g11 (r0) (by simp)).1 (And.intro ((hs3).cell g11 (r0) (by simp)).2.1 (And.intro ((hs3).cell g11 (r0) (by simp)).2.2.1 (And.intro ((hs3).cell g11 (r0) (by simp)).2.2.2 (((hs3).cell g14 (r1) (by simp)))))))))))
              refine hK.out _ _ (hT.out) ?_
              clear hK K
              try simp only [putz]
              clear hs
              have hs := hs3
              clear hs3
              refine Goes.tk (i := 7) (o := ⟨some 106, _, _, _, _, _⟩) (v := ?_) [] (y := Or.inl ⟨by rfl, ?_⟩) (s := hT.out) (H := ?_)
              rotate_left
              · intro w hY; go_simp; try with_reducible rfl
              try simp only [putz]
              refine Goes.tk (i := 8) (o := ⟨some 107, _, _, _, _, _⟩) (v := ?_) [] (y := Or.inl ⟨by rfl, ?_⟩) (s := hT.out) (H := ?_)
              rotate_left
              · intro w hY; go_simp; try with_reducible rfl
              try simp only [putz]
              refine Goes.tk (i := 9) (o := ⟨some 108, _, _, _, _, _⟩) [] (y := Or.inr ⟨by rfl, rfl⟩) (s := hT.out) (H := ?_)
              try simp only [putz]
              refine Goes.tk (i := 10) (o := ⟨some 109, _, _, _, _, _⟩) [] (y := Or.inr ⟨by rfl, rfl⟩) (s := hT.out) (H := ?_)
              try simp only [putz]
              refine Goes.tk (i := 11) (o := ⟨some 110, _, _, _, _, _⟩) [] (y := Or.inr ⟨by rfl, rfl⟩) (s := hT.out) (H := ?_)
              try simp only [putz]
              refine Goes.tk (i := 12) (o := ⟨some 111, _, _, _, _, _⟩) (v := ?_) [] (y := Or.inl ⟨by rfl, ?_⟩) (s := hT.out) (H := ?_)
              rotate_left
              · intro w hY; go_simp; try with_reducible rfl
              try simp only [putz]
              refine Goes.tk (i := 13) (o := ⟨some 112, _, _, _, _, _⟩) (v := ?_) [] (y := Or.inl ⟨by rfl, ?_⟩) (s := hT.out) (H := ?_)
              rotate_left
              · intro w hY; go_simp; try with_reducible rfl
              try simp only [putz]
              refine Goes.tk (i := 14) (o := ⟨some 113, _, _, _, _, _⟩) (v := ?_) [] (y := Or.inl ⟨by rfl, ?_⟩) (s := hT.out) (H := ?_)
              rotate_left
              · intro w hY; go_simp; try with_reducible rfl
              try simp only [putz]
              refine Goes.tk (i := 15) (o := ⟨some 6, _, _, _, _, _⟩) (v := ?_) [] (y := Or.inl ⟨by rfl, ?_⟩) (s := hT.out) (H := ?_)
              rotate_left
              · intro w hY; go_simp; try with_reducible rfl
              try simp only [putz]
              clear hT
              refine Goes.done (by kernel_rfl) ?_ _
              refine NoPanic.normal ?_
              go_wp2_with fail
              try go_ret
              first | exact ⟨rfl, hs.1⟩ | exact bodyPost_ret (v := .bool true) (by simp [results, Tryd.results5, go_sem]) rfl ⟨rfl, hs.1⟩
theorem dividesShared_any (a b n : Nat) (w : World) (ha : a < 2 ^ 256) (hb : b < 2 ^ 256) (hn : n < 4294967296) (hT : Tab w) : Calls Tryd.prog 5 #[num a, num b, .int .u32 (n : Int)] w fun e w' => e = .returned (.bool true) ∧ Below w.heap.size w w' := by
  by_cases h : n = 0
  · exact shared_zero a b n w ha hb hn h hT
  · exact shared_some a b n w ha hb hn h hT
end Go.Proofs.YtaggegknnnembaaDoor

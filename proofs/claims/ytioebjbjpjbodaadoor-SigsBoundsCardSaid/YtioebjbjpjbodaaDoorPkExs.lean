/-
  mods.Exp of an exponent that is short, walked. Conditions: none.
-/
import Derived.Test.YtioebjbjpjbodaaDoorPkAn
namespace Go.Proofs.YtioebjbjpjbodaaDoor
open Go.RowKit
set_option linter.unusedVariables false

theorem exp_step0 {a n m j : Nat} (h : bitAt n j = 0) : a ^ (n / 2 ^ (j + 1)) % m * (a ^ (n / 2 ^ (j + 1)) % m) % m = a ^ (n / 2 ^ j) % m := by
 rw [← Nat.mul_mod, pow_step0 a h]
theorem exp_step1 {a n m j : Nat} (h : bitAt n j = 1) : a ^ (n / 2 ^ (j + 1)) % m * (a ^ (n / 2 ^ (j + 1)) % m) % m * a % m = a ^ (n / 2 ^ j) % m := by
 rw [← Nat.mul_mod, Nat.mod_mul_mod, pow_step1 a h]
theorem form_at (m c : Nat) {w w' : World} {l : List (Nat × Nat)} (h : Env w l w') (hc : c ≤ 16) : Calls Tryd.prog 62 #[num m, .int .i64 (c : Int)] w' fun e w2 => ∃ g, e = .returned (pform g) ∧ Env w ((g, m) :: l) w2 :=
 (form_plain m c w' hc).mono fun e w2 ⟨g, he, hE, _⟩ => ⟨g, he, (h.on hE.below).more (hE.nm g m (by simp))⟩
set_option maxRecDepth 100000 in
set_option maxHeartbeats 4000000 in
theorem mexp_short (a n m : Nat) (w : World) (hn : n < 2 ^ 256) (hm : m < 2 ^ 256) (hv : 1 < m ∧ a < m) (hc : nbits n ≤ 16) : Calls Tryd.prog 48 #[num a, num n, num m] w fun e w' => e = .returned (.tuple #[num (a ^ n % m), .int .i64 0]) ∧ Below w.heap.size w w' := by
 have AL := hid (Nat.lt_trans hv.2 hm)
 have ML := hid hm
 have M1 := hid hv.1
 have AM := hid hv.2
 have NL := hid hn
 have HV : Hid (decide (1 < m ∧ a < m) = true) := hid (by simpa using hv)
 have hc2 := nbits_up n 256 hn
 have hpf := pow_first a n
 obtain ⟨c, ec⟩ : ∃ c, nbits n = c := ⟨_, rfl⟩
 rw [ec] at hc hc2 hpf
 have EC := hid (show (nbits n : Int) = (c : Int) by rw [ec])
 have CF := hid hc
 have C2 := hid hc2
 have PF0 := hid hpf
 clear hm hv hn ec hc hpf
 have H0 := hid ((((((Env.refl w).new a).new n).new m).zero).perm (l' := [(w.heap.size + 1 + 1 + 1, 0), (w.heap.size + 1 + 1, m), (w.heap.size + 1, n), (w.heap.size, a)]) (by simp))
 have DZ := hid (show w.heap.size ≤ w.heap.size + 1 + 1 + 1 by omega)
 have DN := hid (show ∀ p ∈ [(w.heap.size, a), (w.heap.size + 1, n), (w.heap.size + 1 + 1, m)], p.1 ≠ w.heap.size + 1 + 1 + 1 by simp; try omega)
 go_enter Tryd.func48, Tryd.ntmps48
 go_wp2_with fail
 have hs0 : ((((w.alloc (.cells (cls a) 24)).alloc (.cells (cls n) 24)).alloc (.cells (cls m) 24)).alloc (.cells #[.int .u64 0, .int .u64 0, .int .u64 0, .int .u64 0] 24)).heap.size = w.heap.size + 1 + 1 + 1 + 1 := by simp only [show ∀ (w : World) (o : Obj), (w.alloc o).heap.size = w.heap.size + 1 from fun w o => Array.size_push _]
 generalize (((w.alloc (.cells (cls a) 24)).alloc (.cells (cls n) 24)).alloc (.cells (cls m) 24)).alloc (.cells #[.int .u64 0, .int .u64 0, .int .u64 0, .int .u64 0] 24) = w0 at *
 generalize w.heap.size + 1 + 1 + 1 + 1 = g_s at *
 generalize w.heap.size + 1 + 1 + 1 = g_z at *
 generalize w.heap.size + 1 + 1 = g_c at *
 generalize w.heap.size + 1 = g_b at *
 generalize hzg_a : w.heap.size = g_a at *
 have HSL : Hid (Sl1 (w0.alloc (.cells #[.int .u64 (wd a 0 : Int), .int .u64 (wd a 1 : Int), .int .u64 (wd a 2 : Int), .int .u64 (wd a 3 : Int)] 24)) g_s a) := hid (by rw [← hs0]; exact heap_alloc_new _ _)
 have H0s := hid (H0.out.alloc (.cells #[.int .u64 (wd a 0 : Int), .int .u64 (wd a 1 : Int), .int .u64 (wd a 2 : Int), .int .u64 (wd a 3 : Int)] 24))
 clear H0 hs0
 generalize w0.alloc (.cells #[.int .u64 (wd a 0 : Int), .int .u64 (wd a 1 : Int), .int .u64 (wd a 2 : Int), .int .u64 (wd a 3 : Int)] 24) = w0s at *
 refine (env_of (gor1_b m a g_s true w0s HSL.out ML.out AL.out HV.out) H0s.out).mono ?_
 rintro e w1 ⟨rfl, h⟩
 have H1 := hid h
 clear h H0s
 obtain ⟨c0x1a, c0x1b, c0x1c, c0x1d⟩ := H1.out.cell (g_b) (n) (by simp)
 have c0x1l := H1.out.lt (g_b) (n) (by simp)
 have c0x1m := Nat.le_of_lt c0x1l
 go_wp2_with fail
 clear c0x1a c0x1b c0x1c c0x1d c0x1l c0x1m
 refine (bits_at n (c : Int) H1.out NL.out EC.out).mono ?_
 rintro e w2 ⟨rfl, h⟩
 have H2 := hid h
 clear h H1
 obtain ⟨c0x2a, c0x2b, c0x2c, c0x2d⟩ := H2.out.cell (g_c) (m) (by simp)
 have c0x2l := H2.out.lt (g_c) (m) (by simp)
 have c0x2m := Nat.le_of_lt c0x2l
 go_wp2_with fail
 clear c0x2a c0x2b c0x2c c0x2d c0x2l c0x2m
 refine (form_at m c H2.out CF.out).mono ?_
 rintro e wf ⟨gb, rfl, h⟩
 have HF := hid h
 clear h H2 HSL
 go_upto_region 5 with fail
 have R1 := hid (R3.new wf 101 (.func (.func 85) #[] #[]) (.func (.func 85) #[] #[]) (.func (.func 41) #[] #[.pointer (some ⟨gb, 0, none⟩)]))
 have E1 := hid (HF.out.alloc (.cells #[.func (.func 85) #[] #[], .func (.func 85) #[] #[], .func (.func 41) #[] #[.pointer (some ⟨gb, 0, none⟩)]] 101))
 clear HF
 generalize wf.alloc (.cells #[.func (.func 85) #[] #[], .func (.func 85) #[] #[], .func (.func 41) #[] #[.pointer (some ⟨gb, 0, none⟩)]] 101) = wv at *
 generalize wf.heap.size = gf at *
 go_cut [10, 11] (fun s10 s11 wx => ∃ g10 g11 : Nat, s10 = .pointer (some ⟨g10, 0, none⟩) ∧ s11 = .pointer (some ⟨g11, 0, none⟩) ∧ Hid (Env wv [(g10, 1), (g11, a)] wx) ∧ Hid (wv.heap.size ≤ g10 ∧ wv.heap.size ≤ g11 ∧ g10 ≠ g11))
 case first =>
  have hs := (Env.refl wv).drew
  refine wp_region_noPanic ?_
  refine Goes.region (fun (L : Array Bool) (w' : World) => w'.cell? ⟨gf, 0, none⟩ = some (.func (.func 85) #[] #[]) ∧ (w'.cell? ⟨g_a, 0, none⟩ = some (.int .u64 (wd (a) 0 : Int)) ∧ w'.cell? ⟨g_a, 1, none⟩ = some (.int .u64 (wd (a) 1 : Int)) ∧ w'.cell? ⟨g_a, 2, none⟩ = some (.int .u64 (wd (a) 2 : Int)) ∧ w'.cell? ⟨g_a, 3, none⟩ = some (.int .u64 (wd (a) 3 : Int)))) (by kernel_rfl) ?_
  generalize wv.drew = wd at *
  refine Goes.tk (i := 0) (o := ⟨some 24, _, _, _, _, _⟩) (v := ?_) [] (y := Or.inl ⟨by rfl, ?_⟩) (s := ⟨(R1.out.on (Env.below hs)).cell.1, (E1.out.on (Env.below hs)).cell g_a a (by simp)⟩) (H := ?_)
  rotate_left
  ·intro w hY; go_simp; try with_reducible rfl
  try simp only [putz]
  refine Goes.tk (i := 1) (o := ⟨some 25, _, _, _, _, _⟩) (v := ?_) [] (y := Or.inl ⟨by rfl, ?_⟩) (s := ⟨(R1.out.on (Env.below hs)).cell.1, (E1.out.on (Env.below hs)).cell g_a a (by simp)⟩) (H := ?_)
  rotate_left
  ·intro w hY; obtain ⟨up, hL⟩ := hY; have hX := hL.2.1; clear hL; (try dsimp only at hX); go_simp; try with_reducible rfl
  try simp only [putz]
  refine Goes.tk (i := 4) (o := ⟨some 28, _, _, _, _, _⟩) (v := ?_) [] (y := Or.inl ⟨by rfl, ?_⟩) (s := ⟨(R1.out.on (Env.below hs)).cell.1, (E1.out.on (Env.below hs)).cell g_a a (by simp)⟩) (H := ?_)
  rotate_left
  ·intro w hY; go_simp; try with_reducible rfl
  try simp only [putz]
  refine Goes.tk (i := 5) (o := ⟨some 29, _, _, _, _, _⟩) (v := ?_) [] (y := Or.inl ⟨by rfl, ?_⟩) (s := ⟨(R1.out.on (Env.below hs)).cell.1, (E1.out.on (Env.below hs)).cell g_a a (by simp)⟩) (H := ?_)
  rotate_left
  ·intro w hY; obtain ⟨up, hL⟩ := hY; have hX := hL.2.1; clear hL; (try dsimp only at hX); go_simp; try with_reducible rfl
  try simp only [putz]
  refine Goes.tk (i := 6) (o := ⟨some 30, _, _, _, _, _⟩) (v := ?_) [] (y := Or.inl ⟨by rfl, ?_⟩) (s := ⟨(R1.out.on (Env.below hs)).cell.1, (E1.out.on (Env.below hs)).cell g_a a (by simp)⟩) (H := ?_)
  rotate_left
  ·intro w hY; obtain ⟨up, hL⟩ := hY; have hX := hL.2.2; clear hL; (try dsimp only at hX); go_simp; try with_reducible rfl
  try simp only [putz]
  refine Goes.three (i := 2) (j := 8) (k := 9) (o := ⟨some 26, _, _, _, _, _⟩) (p := ⟨some 10, _, _, _, _, _⟩) (q := ⟨some 11, _, _, _, _, _⟩) (by kernel_rfl) rfl rfl rfl (fun K hK => ?_) (fun K hK => ?_) (fun K hK => ?_)
  ·skip
   go_simp
   with_reducible refine (lof_at 1 1 hs (by decide) (by decide)).mono ?_
   rintro e wn1 ⟨rfl, hs1⟩
   go_wp2_with fail
   refine hK.out _ _ (⟨(R1.out.on (Env.below hs1)).cell.1, (E1.out.on (Env.below hs1)).cell g_a a (by simp)⟩) ?_
   clear hK K
   try simp only [putz]
   clear hs
   have hs := hs1
   clear hs1
   refine Goes.three (i := 3) (j := 8) (k := 9) (o := ⟨some 27, _, _, _, _, _⟩) (p := ⟨some 10, _, _, _, _, _⟩) (q := ⟨some 11, _, _, _, _, _⟩) (by kernel_rfl) rfl rfl rfl (fun K hK => ?_) (fun K hK => ?_) (fun K hK => ?_)
   ·skip
    go_simp
    with_reducible refine (env_of (same_any 1 _) hs).mono ?_
    rintro e wn2 ⟨rfl, hs2⟩
    go_wp2_with fail
    refine hK.out _ _ (⟨(R1.out.on (Env.below hs2)).cell.1, (E1.out.on (Env.below hs2)).cell g_a a (by simp)⟩) ?_
    clear hK K
    try simp only [putz]
    clear hs
    have hs := hs2
    clear hs2
    refine Goes.three (i := 7) (j := 8) (k := 9) (o := ⟨some 31, _, _, _, _, _⟩) (p := ⟨some 10, _, _, _, _, _⟩) (q := ⟨some 11, _, _, _, _, _⟩) (by kernel_rfl) rfl rfl rfl (fun K hK => ?_) (fun K hK => ?_) (fun K hK => ?_)
    ·skip
     go_simp
     with_reducible refine (env_of (same_any a _) hs).mono ?_
     rintro e wn3 ⟨rfl, hs3⟩
     go_wp2_with fail
     refine hK.out _ _ (⟨(R1.out.on (Env.below hs3)).cell.1, (E1.out.on (Env.below hs3)).cell g_a a (by simp)⟩) ?_
     clear hK K
     try simp only [putz]
     clear hs
     have hs := hs3
     clear hs3
     refine Goes.two (i := 8) (j := 9) (o := ⟨some 10, _, _, _, _, _⟩) (p := ⟨some 11, _, _, _, _, _⟩) (by kernel_rfl) rfl rfl (fun K hK => ?_) (fun K hK => ?_)
     ·skip
      go_simp
      refine hK.out _ _ (⟨(R1.out.on (Env.below hs.zero)).cell.1, (E1.out.on (Env.below hs.zero)).cell g_a a (by simp)⟩) ?_
      clear hK K
      try simp only [putz]
      have Fg10 := hid hs.fresh
      have hs4 := hs.zero
      clear hs
      generalize wn3.alloc (.cells #[.int .u64 0, .int .u64 0, .int .u64 0, .int .u64 0] 24) = wn4 at *
      generalize wn3.heap.size = g10 at *
      have hs := hs4
      clear hs4
      refine Goes.one (i := 9) (o := ⟨some 11, _, _, _, _, _⟩) (by kernel_rfl) rfl (fun K hK => ?_)
      go_simp
      refine hK.out _ _ (⟨(R1.out.on (Env.below hs.zero)).cell.1, (E1.out.on (Env.below hs.zero)).cell g_a a (by simp)⟩) ?_
      clear hK K
      try simp only [putz]
      have Fg11 := hid hs.fresh
      have hs5 := hs.zero
      clear hs
      generalize wn4.alloc (.cells #[.int .u64 0, .int .u64 0, .int .u64 0, .int .u64 0] 24) = wn5 at *
      generalize wn4.heap.size = g11 at *
      have hs := hs5
      clear hs5
      refine Goes.one (i := 10) (o := ⟨none, _, _, _, _, _⟩) (by kernel_rfl) rfl (fun K hK => ?_)
      obtain ⟨z0, z1, z2, z3⟩ := hs.cell g10 0 (by simp)
      have zl := hs.lt g10 0 (by simp)
      have zf := hs.frozen g10 0 (by simp)
      have hs6 := hs.set g10 0 (1) [(g11, 0)] (by simp) Fg10.out.1 (fun p hp => by simp only [List.mem_cons, List.not_mem_nil, or_false] at hp; rcases hp with rfl <;> first | exact ⟨by simp, (Ne.symm (Fg11.out.2 (g10, 0) (by simp)))⟩)
      go_simp
      refine hK.out _ _ (⟨(R1.out.on (Env.below hs6)).cell.1, (E1.out.on (Env.below hs6)).cell g_a a (by simp)⟩) ?_
      clear hK K
      try simp only [putz]
      clear hs z0 z1 z2 z3 zl zf
      change Goes _ _ _ _ _ _ _ _ (fil wn5 g10 (1))
      generalize fil wn5 g10 (1) = wn6 at *
      have hs := hs6
      clear hs6
      refine Goes.one (i := 11) (o := ⟨none, _, _, _, _, _⟩) (by kernel_rfl) rfl (fun K hK => ?_)
      obtain ⟨z0, z1, z2, z3⟩ := hs.cell g11 0 (by simp)
      have zl := hs.lt g11 0 (by simp)
      have zf := hs.frozen g11 0 (by simp)
      have hs7 := hs.set g11 0 (a) [(g10, 1)] (by simp) Fg11.out.1 (fun p hp => by simp only [List.mem_cons, List.not_mem_nil, or_false] at hp; rcases hp with rfl <;> first | exact ⟨by simp, (Fg11.out.2 (g10, 0) (by simp))⟩)
      go_simp
      refine hK.out _ _ (⟨(R1.out.on (Env.below hs7)).cell.1, (E1.out.on (Env.below hs7)).cell g_a a (by simp)⟩) ?_
      clear hK K
      try simp only [putz]
      clear hs z0 z1 z2 z3 zl zf
      change Goes _ _ _ _ _ _ _ _ (fil wn6 g11 (a))
      generalize fil wn6 g11 (a) = wn7 at *
      have hs := hs7
      clear hs7
      refine Goes.done (by kernel_rfl) ?_ _
      refine NoPanic.normal ?_
      go_wp2_with fail
      go_meet
      exact ⟨_, _, rfl, rfl, hid (hs.perm (by simp)), hid ⟨Fg10.out.1, Fg11.out.1, (Fg11.out.2 (g10, 0) (by simp))⟩⟩
     ·skip
      go_simp
      refine hK.out _ _ (⟨(R1.out.on (Env.below hs.zero)).cell.1, (E1.out.on (Env.below hs.zero)).cell g_a a (by simp)⟩) ?_
      clear hK K
      try simp only [putz]
      have Fg11 := hid hs.fresh
      have hs8 := hs.zero
      clear hs
      generalize wn3.alloc (.cells #[.int .u64 0, .int .u64 0, .int .u64 0, .int .u64 0] 24) = wn8 at *
      generalize wn3.heap.size = g11 at *
      have hs := hs8
      clear hs8
      refine Goes.one (i := 8) (o := ⟨some 10, _, _, _, _, _⟩) (by kernel_rfl) rfl (fun K hK => ?_)
      go_simp
      refine hK.out _ _ (⟨(R1.out.on (Env.below hs.zero)).cell.1, (E1.out.on (Env.below hs.zero)).cell g_a a (by simp)⟩) ?_
      clear hK K
      try simp only [putz]
      have Fg10 := hid hs.fresh
      have hs9 := hs.zero
      clear hs
      generalize wn8.alloc (.cells #[.int .u64 0, .int .u64 0, .int .u64 0, .int .u64 0] 24) = wn9 at *
      generalize wn8.heap.size = g10 at *
      have hs := hs9
      clear hs9
      refine Goes.one (i := 10) (o := ⟨none, _, _, _, _, _⟩) (by kernel_rfl) rfl (fun K hK => ?_)
      obtain ⟨z0, z1, z2, z3⟩ := hs.cell g10 0 (by simp)
      have zl := hs.lt g10 0 (by simp)
      have zf := hs.frozen g10 0 (by simp)
      have hs10 := hs.set g10 0 (1) [(g11, 0)] (by simp) Fg10.out.1 (fun p hp => by simp only [List.mem_cons, List.not_mem_nil, or_false] at hp; rcases hp with rfl <;> first | exact ⟨by simp, (Fg10.out.2 (g11, 0) (by simp))⟩)
      go_simp
      refine hK.out _ _ (⟨(R1.out.on (Env.below hs10)).cell.1, (E1.out.on (Env.below hs10)).cell g_a a (by simp)⟩) ?_
      clear hK K
      try simp only [putz]
      clear hs z0 z1 z2 z3 zl zf
      change Goes _ _ _ _ _ _ _ _ (fil wn9 g10 (1))
      generalize fil wn9 g10 (1) = wn10 at *
      have hs := hs10
      clear hs10
      refine Goes.one (i := 11) (o := ⟨none, _, _, _, _, _⟩) (by kernel_rfl) rfl (fun K hK => ?_)
      obtain ⟨z0, z1, z2, z3⟩ := hs.cell g11 0 (by simp)
      have zl := hs.lt g11 0 (by simp)
      have zf := hs.frozen g11 0 (by simp)
      have hs11 := hs.set g11 0 (a) [(g10, 1)] (by simp) Fg11.out.1 (fun p hp => by simp only [List.mem_cons, List.not_mem_nil, or_false] at hp; rcases hp with rfl <;> first | exact ⟨by simp, (Ne.symm (Fg10.out.2 (g11, 0) (by simp)))⟩)
      go_simp
      refine hK.out _ _ (⟨(R1.out.on (Env.below hs11)).cell.1, (E1.out.on (Env.below hs11)).cell g_a a (by simp)⟩) ?_
      clear hK K
      try simp only [putz]
      clear hs z0 z1 z2 z3 zl zf
      change Goes _ _ _ _ _ _ _ _ (fil wn10 g11 (a))
      generalize fil wn10 g11 (a) = wn11 at *
      have hs := hs11
      clear hs11
      refine Goes.done (by kernel_rfl) ?_ _
      refine NoPanic.normal ?_
      go_wp2_with fail
      go_meet
      exact ⟨_, _, rfl, rfl, hid (hs.perm (by simp)), hid ⟨Fg10.out.1, Fg11.out.1, (Ne.symm (Fg10.out.2 (g11, 0) (by simp)))⟩⟩
    ·skip
     go_simp
     refine hK.out _ _ (⟨(R1.out.on (Env.below hs.zero)).cell.1, (E1.out.on (Env.below hs.zero)).cell g_a a (by simp)⟩) ?_
     clear hK K
     try simp only [putz]
     have Fg10 := hid hs.fresh
     have hs12 := hs.zero
     clear hs
     generalize wn2.alloc (.cells #[.int .u64 0, .int .u64 0, .int .u64 0, .int .u64 0] 24) = wn12 at *
     generalize wn2.heap.size = g10 at *
     have hs := hs12
     clear hs12
     refine Goes.two (i := 7) (j := 9) (o := ⟨some 31, _, _, _, _, _⟩) (p := ⟨some 11, _, _, _, _, _⟩) (by kernel_rfl) rfl rfl (fun K hK => ?_) (fun K hK => ?_)
     ·skip
      go_simp
      with_reducible refine (env_of (same_any a _) hs).mono ?_
      rintro e wn13 ⟨rfl, hs13⟩
      go_wp2_with fail
      refine hK.out _ _ (⟨(R1.out.on (Env.below hs13)).cell.1, (E1.out.on (Env.below hs13)).cell g_a a (by simp)⟩) ?_
      clear hK K
      try simp only [putz]
      clear hs
      have hs := hs13
      clear hs13
      refine Goes.one (i := 9) (o := ⟨some 11, _, _, _, _, _⟩) (by kernel_rfl) rfl (fun K hK => ?_)
      go_simp
      refine hK.out _ _ (⟨(R1.out.on (Env.below hs.zero)).cell.1, (E1.out.on (Env.below hs.zero)).cell g_a a (by simp)⟩) ?_
      clear hK K
      try simp only [putz]
      have Fg11 := hid hs.fresh
      have hs14 := hs.zero
      clear hs
      generalize wn13.alloc (.cells #[.int .u64 0, .int .u64 0, .int .u64 0, .int .u64 0] 24) = wn14 at *
      generalize wn13.heap.size = g11 at *
      have hs := hs14
      clear hs14
      refine Goes.one (i := 10) (o := ⟨none, _, _, _, _, _⟩) (by kernel_rfl) rfl (fun K hK => ?_)
      obtain ⟨z0, z1, z2, z3⟩ := hs.cell g10 0 (by simp)
      have zl := hs.lt g10 0 (by simp)
      have zf := hs.frozen g10 0 (by simp)
      have hs15 := hs.set g10 0 (1) [(g11, 0)] (by simp) Fg10.out.1 (fun p hp => by simp only [List.mem_cons, List.not_mem_nil, or_false] at hp; rcases hp with rfl <;> first | exact ⟨by simp, (Ne.symm (Fg11.out.2 (g10, 0) (by simp)))⟩)
      go_simp
      refine hK.out _ _ (⟨(R1.out.on (Env.below hs15)).cell.1, (E1.out.on (Env.below hs15)).cell g_a a (by simp)⟩) ?_
      clear hK K
      try simp only [putz]
      clear hs z0 z1 z2 z3 zl zf
      change Goes _ _ _ _ _ _ _ _ (fil wn14 g10 (1))
      generalize fil wn14 g10 (1) = wn15 at *
      have hs := hs15
      clear hs15
      refine Goes.one (i := 11) (o := ⟨none, _, _, _, _, _⟩) (by kernel_rfl) rfl (fun K hK => ?_)
      obtain ⟨z0, z1, z2, z3⟩ := hs.cell g11 0 (by simp)
      have zl := hs.lt g11 0 (by simp)
      have zf := hs.frozen g11 0 (by simp)
      have hs16 := hs.set g11 0 (a) [(g10, 1)] (by simp) Fg11.out.1 (fun p hp => by simp only [List.mem_cons, List.not_mem_nil, or_false] at hp; rcases hp with rfl <;> first | exact ⟨by simp, (Fg11.out.2 (g10, 0) (by simp))⟩)
      go_simp
      refine hK.out _ _ (⟨(R1.out.on (Env.below hs16)).cell.1, (E1.out.on (Env.below hs16)).cell g_a a (by simp)⟩) ?_
      clear hK K
      try simp only [putz]
      clear hs z0 z1 z2 z3 zl zf
      change Goes _ _ _ _ _ _ _ _ (fil wn15 g11 (a))
      generalize fil wn15 g11 (a) = wn16 at *
      have hs := hs16
      clear hs16
      refine Goes.done (by kernel_rfl) ?_ _
      refine NoPanic.normal ?_
      go_wp2_with fail
      go_meet
      exact ⟨_, _, rfl, rfl, hid (hs.perm (by simp)), hid ⟨Fg10.out.1, Fg11.out.1, (Fg11.out.2 (g10, 0) (by simp))⟩⟩
     ·skip
      go_simp
      refine hK.out _ _ (⟨(R1.out.on (Env.below hs.zero)).cell.1, (E1.out.on (Env.below hs.zero)).cell g_a a (by simp)⟩) ?_
      clear hK K
      try simp only [putz]
      have Fg11 := hid hs.fresh
      have hs17 := hs.zero
      clear hs
      generalize wn12.alloc (.cells #[.int .u64 0, .int .u64 0, .int .u64 0, .int .u64 0] 24) = wn17 at *
      generalize wn12.heap.size = g11 at *
      have hs := hs17
      clear hs17
      refine Goes.one (i := 7) (o := ⟨some 31, _, _, _, _, _⟩) (by kernel_rfl) rfl (fun K hK => ?_)
      go_simp
      with_reducible refine (env_of (same_any a _) hs).mono ?_
      rintro e wn18 ⟨rfl, hs18⟩
      go_wp2_with fail
      refine hK.out _ _ (⟨(R1.out.on (Env.below hs18)).cell.1, (E1.out.on (Env.below hs18)).cell g_a a (by simp)⟩) ?_
      clear hK K
      try simp only [putz]
      clear hs
      have hs := hs18
      clear hs18
      refine Goes.one (i := 10) (o := ⟨none, _, _, _, _, _⟩) (by kernel_rfl) rfl (fun K hK => ?_)
      obtain ⟨z0, z1, z2, z3⟩ := hs.cell g10 0 (by simp)
      have zl := hs.lt g10 0 (by simp)
      have zf := hs.frozen g10 0 (by simp)
      have hs19 := hs.set g10 0 (1) [(g11, 0)] (by simp) Fg10.out.1 (fun p hp => by simp only [List.mem_cons, List.not_mem_nil, or_false] at hp; rcases hp with rfl <;> first | exact ⟨by simp, (Ne.symm (Fg11.out.2 (g10, 0) (by simp)))⟩)
      go_simp
      refine hK.out _ _ (⟨(R1.out.on (Env.below hs19)).cell.1, (E1.out.on (Env.below hs19)).cell g_a a (by simp)⟩) ?_
      clear hK K
      try simp only [putz]
      clear hs z0 z1 z2 z3 zl zf
      change Goes _ _ _ _ _ _ _ _ (fil wn18 g10 (1))
      generalize fil wn18 g10 (1) = wn19 at *
      have hs := hs19
      clear hs19
      refine Goes.one (i := 11) (o := ⟨none, _, _, _, _, _⟩) (by kernel_rfl) rfl (fun K hK => ?_)
      obtain ⟨z0, z1, z2, z3⟩ := hs.cell g11 0 (by simp)
      have zl := hs.lt g11 0 (by simp)
      have zf := hs.frozen g11 0 (by simp)
      have hs20 := hs.set g11 0 (a) [(g10, 1)] (by simp) Fg11.out.1 (fun p hp => by simp only [List.mem_cons, List.not_mem_nil, or_false] at hp; rcases hp with rfl <;> first | exact ⟨by simp, (Fg11.out.2 (g10, 0) (by simp))⟩)
      go_simp
      refine hK.out _ _ (⟨(R1.out.on (Env.below hs20)).cell.1, (E1.out.on (Env.below hs20)).cell g_a a (by simp)⟩) ?_
      clear hK K
      try simp only [putz]
      clear hs z0 z1 z2 z3 zl zf
      change Goes _ _ _ _ _ _ _ _ (fil wn19 g11 (a))
      generalize fil wn19 g11 (a) = wn20 at *
      have hs := hs20
      clear hs20
      refine Goes.done (by kernel_rfl) ?_ _
      refine NoPanic.normal ?_
      go_wp2_with fail
      go_meet
      exact ⟨_, _, rfl, rfl, hid (hs.perm (by simp)), hid ⟨Fg10.out.1, Fg11.out.1, (Fg11.out.2 (g10, 0) (by simp))⟩⟩
    ·skip
     go_simp
     refine hK.out _ _ (⟨(R1.out.on (Env.below hs.zero)).cell.1, (E1.out.on (Env.below hs.zero)).cell g_a a (by simp)⟩) ?_
     clear hK K
     try simp only [putz]
     have Fg11 := hid hs.fresh
     have hs21 := hs.zero
     clear hs
     generalize wn2.alloc (.cells #[.int .u64 0, .int .u64 0, .int .u64 0, .int .u64 0] 24) = wn21 at *
     generalize wn2.heap.size = g11 at *
     have hs := hs21
     clear hs21
     refine Goes.two (i := 7) (j := 8) (o := ⟨some 31, _, _, _, _, _⟩) (p := ⟨some 10, _, _, _, _, _⟩) (by kernel_rfl) rfl rfl (fun K hK => ?_) (fun K hK => ?_)
     ·skip
      go_simp
      with_reducible refine (env_of (same_any a _) hs).mono ?_
      rintro e wn22 ⟨rfl, hs22⟩
      go_wp2_with fail
      refine hK.out _ _ (⟨(R1.out.on (Env.below hs22)).cell.1, (E1.out.on (Env.below hs22)).cell g_a a (by simp)⟩) ?_
      clear hK K
      try simp only [putz]
      clear hs
      have hs := hs22
      clear hs22
      refine Goes.one (i := 8) (o := ⟨some 10, _, _, _, _, _⟩) (by kernel_rfl) rfl (fun K hK => ?_)
      go_simp
      refine hK.out _ _ (⟨(R1.out.on (Env.below hs.zero)).cell.1, (E1.out.on (Env.below hs.zero)).cell g_a a (by simp)⟩) ?_
      clear hK K
      try simp only [putz]
      have Fg10 := hid hs.fresh
      have hs23 := hs.zero
      clear hs
      generalize wn22.alloc (.cells #[.int .u64 0, .int .u64 0, .int .u64 0, .int .u64 0] 24) = wn23 at *
      generalize wn22.heap.size = g10 at *
      have hs := hs23
      clear hs23
      refine Goes.one (i := 10) (o := ⟨none, _, _, _, _, _⟩) (by kernel_rfl) rfl (fun K hK => ?_)
      obtain ⟨z0, z1, z2, z3⟩ := hs.cell g10 0 (by simp)
      have zl := hs.lt g10 0 (by simp)
      have zf := hs.frozen g10 0 (by simp)
      have hs24 := hs.set g10 0 (1) [(g11, 0)] (by simp) Fg10.out.1 (fun p hp => by simp only [List.mem_cons, List.not_mem_nil, or_false] at hp; rcases hp with rfl <;> first | exact ⟨by simp, (Fg10.out.2 (g11, 0) (by simp))⟩)
      go_simp
      refine hK.out _ _ (⟨(R1.out.on (Env.below hs24)).cell.1, (E1.out.on (Env.below hs24)).cell g_a a (by simp)⟩) ?_
      clear hK K
      try simp only [putz]
      clear hs z0 z1 z2 z3 zl zf
      change Goes _ _ _ _ _ _ _ _ (fil wn23 g10 (1))
      generalize fil wn23 g10 (1) = wn24 at *
      have hs := hs24
      clear hs24
      refine Goes.one (i := 11) (o := ⟨none, _, _, _, _, _⟩) (by kernel_rfl) rfl (fun K hK => ?_)
      obtain ⟨z0, z1, z2, z3⟩ := hs.cell g11 0 (by simp)
      have zl := hs.lt g11 0 (by simp)
      have zf := hs.frozen g11 0 (by simp)
      have hs25 := hs.set g11 0 (a) [(g10, 1)] (by simp) Fg11.out.1 (fun p hp => by simp only [List.mem_cons, List.not_mem_nil, or_false] at hp; rcases hp with rfl <;> first | exact ⟨by simp, (Ne.symm (Fg10.out.2 (g11, 0) (by simp)))⟩)
      go_simp
      refine hK.out _ _ (⟨(R1.out.on (Env.below hs25)).cell.1, (E1.out.on (Env.below hs25)).cell g_a a (by simp)⟩) ?_
      clear hK K
      try simp only [putz]
      clear hs z0 z1 z2 z3 zl zf
      change Goes _ _ _ _ _ _ _ _ (fil wn24 g11 (a))
      generalize fil wn24 g11 (a) = wn25 at *
      have hs := hs25
      clear hs25
      refine Goes.done (by kernel_rfl) ?_ _
      refine NoPanic.normal ?_
      go_wp2_with fail
      go_meet
      exact ⟨_, _, rfl, rfl, hid (hs.perm (by simp)), hid ⟨Fg10.out.1, Fg11.out.1, (Ne.symm (Fg10.out.2 (g11, 0) (by simp)))⟩⟩
     ·skip
      go_simp
      refine hK.out _ _ (⟨(R1.out.on (Env.below hs.zero)).cell.1, (E1.out.on (Env.below hs.zero)).cell g_a a (by simp)⟩) ?_
      clear hK K
      try simp only [putz]
      have Fg10 := hid hs.fresh
      have hs26 := hs.zero
      clear hs
      generalize wn21.alloc (.cells #[.int .u64 0, .int .u64 0, .int .u64 0, .int .u64 0] 24) = wn26 at *
      generalize wn21.heap.size = g10 at *
      have hs := hs26
      clear hs26
      refine Goes.one (i := 7) (o := ⟨some 31, _, _, _, _, _⟩) (by kernel_rfl) rfl (fun K hK => ?_)
      go_simp
      with_reducible refine (env_of (same_any a _) hs).mono ?_
      rintro e wn27 ⟨rfl, hs27⟩
      go_wp2_with fail
      refine hK.out _ _ (⟨(R1.out.on (Env.below hs27)).cell.1, (E1.out.on (Env.below hs27)).cell g_a a (by simp)⟩) ?_
      clear hK K
      try simp only [putz]
      clear hs
      have hs := hs27
      clear hs27
      refine Goes.one (i := 10) (o := ⟨none, _, _, _, _, _⟩) (by kernel_rfl) rfl (fun K hK => ?_)
      obtain ⟨z0, z1, z2, z3⟩ := hs.cell g10 0 (by simp)
      have zl := hs.lt g10 0 (by simp)
      have zf := hs.frozen g10 0 (by simp)
      have hs28 := hs.set g10 0 (1) [(g11, 0)] (by simp) Fg10.out.1 (fun p hp => by simp only [List.mem_cons, List.not_mem_nil, or_false] at hp; rcases hp with rfl <;> first | exact ⟨by simp, (Fg10.out.2 (g11, 0) (by simp))⟩)
      go_simp
      refine hK.out _ _ (⟨(R1.out.on (Env.below hs28)).cell.1, (E1.out.on (Env.below hs28)).cell g_a a (by simp)⟩) ?_
      clear hK K
      try simp only [putz]
      clear hs z0 z1 z2 z3 zl zf
      change Goes _ _ _ _ _ _ _ _ (fil wn27 g10 (1))
      generalize fil wn27 g10 (1) = wn28 at *
      have hs := hs28
      clear hs28
      refine Goes.one (i := 11) (o := ⟨none, _, _, _, _, _⟩) (by kernel_rfl) rfl (fun K hK => ?_)
      obtain ⟨z0, z1, z2, z3⟩ := hs.cell g11 0 (by simp)
      have zl := hs.lt g11 0 (by simp)
      have zf := hs.frozen g11 0 (by simp)
      have hs29 := hs.set g11 0 (a) [(g10, 1)] (by simp) Fg11.out.1 (fun p hp => by simp only [List.mem_cons, List.not_mem_nil, or_false] at hp; rcases hp with rfl <;> first | exact ⟨by simp, (Ne.symm (Fg10.out.2 (g11, 0) (by simp)))⟩)
      go_simp
      refine hK.out _ _ (⟨(R1.out.on (Env.below hs29)).cell.1, (E1.out.on (Env.below hs29)).cell g_a a (by simp)⟩) ?_
      clear hK K
      try simp only [putz]
      clear hs z0 z1 z2 z3 zl zf
      change Goes _ _ _ _ _ _ _ _ (fil wn28 g11 (a))
      generalize fil wn28 g11 (a) = wn29 at *
      have hs := hs29
      clear hs29
      refine Goes.done (by kernel_rfl) ?_ _
      refine NoPanic.normal ?_
      go_wp2_with fail
      go_meet
      exact ⟨_, _, rfl, rfl, hid (hs.perm (by simp)), hid ⟨Fg10.out.1, Fg11.out.1, (Ne.symm (Fg10.out.2 (g11, 0) (by simp)))⟩⟩
   ·skip
    go_simp
    refine hK.out _ _ (⟨(R1.out.on (Env.below hs.zero)).cell.1, (E1.out.on (Env.below hs.zero)).cell g_a a (by simp)⟩) ?_
    clear hK K
    try simp only [putz]
    have Fg10 := hid hs.fresh
    have hs30 := hs.zero
    clear hs
    generalize wn1.alloc (.cells #[.int .u64 0, .int .u64 0, .int .u64 0, .int .u64 0] 24) = wn30 at *
    generalize wn1.heap.size = g10 at *
    have hs := hs30
    clear hs30
    refine Goes.two (i := 3) (j := 9) (o := ⟨some 27, _, _, _, _, _⟩) (p := ⟨some 11, _, _, _, _, _⟩) (by kernel_rfl) rfl rfl (fun K hK => ?_) (fun K hK => ?_)
    ·skip
     go_simp
     with_reducible refine (env_of (same_any 1 _) hs).mono ?_
     rintro e wn31 ⟨rfl, hs31⟩
     go_wp2_with fail
     refine hK.out _ _ (⟨(R1.out.on (Env.below hs31)).cell.1, (E1.out.on (Env.below hs31)).cell g_a a (by simp)⟩) ?_
     clear hK K
     try simp only [putz]
     clear hs
     have hs := hs31
     clear hs31
     refine Goes.two (i := 7) (j := 9) (o := ⟨some 31, _, _, _, _, _⟩) (p := ⟨some 11, _, _, _, _, _⟩) (by kernel_rfl) rfl rfl (fun K hK => ?_) (fun K hK => ?_)
     ·skip
      go_simp
      with_reducible refine (env_of (same_any a _) hs).mono ?_
      rintro e wn32 ⟨rfl, hs32⟩
      go_wp2_with fail
      refine hK.out _ _ (⟨(R1.out.on (Env.below hs32)).cell.1, (E1.out.on (Env.below hs32)).cell g_a a (by simp)⟩) ?_
      clear hK K
      try simp only [putz]
      clear hs
      have hs := hs32
      clear hs32
      refine Goes.one (i := 9) (o := ⟨some 11, _, _, _, _, _⟩) (by kernel_rfl) rfl (fun K hK => ?_)
      go_simp
      refine hK.out _ _ (⟨(R1.out.on (Env.below hs.zero)).cell.1, (E1.out.on (Env.below hs.zero)).cell g_a a (by simp)⟩) ?_
      clear hK K
      try simp only [putz]
      have Fg11 := hid hs.fresh
      have hs33 := hs.zero
      clear hs
      generalize wn32.alloc (.cells #[.int .u64 0, .int .u64 0, .int .u64 0, .int .u64 0] 24) = wn33 at *
      generalize wn32.heap.size = g11 at *
      have hs := hs33
      clear hs33
      refine Goes.one (i := 10) (o := ⟨none, _, _, _, _, _⟩) (by kernel_rfl) rfl (fun K hK => ?_)
      obtain ⟨z0, z1, z2, z3⟩ := hs.cell g10 0 (by simp)
      have zl := hs.lt g10 0 (by simp)
      have zf := hs.frozen g10 0 (by simp)
      have hs34 := hs.set g10 0 (1) [(g11, 0)] (by simp) Fg10.out.1 (fun p hp => by simp only [List.mem_cons, List.not_mem_nil, or_false] at hp; rcases hp with rfl <;> first | exact ⟨by simp, (Ne.symm (Fg11.out.2 (g10, 0) (by simp)))⟩)
      go_simp
      refine hK.out _ _ (⟨(R1.out.on (Env.below hs34)).cell.1, (E1.out.on (Env.below hs34)).cell g_a a (by simp)⟩) ?_
      clear hK K
      try simp only [putz]
      clear hs z0 z1 z2 z3 zl zf
      change Goes _ _ _ _ _ _ _ _ (fil wn33 g10 (1))
      generalize fil wn33 g10 (1) = wn34 at *
      have hs := hs34
      clear hs34
      refine Goes.one (i := 11) (o := ⟨none, _, _, _, _, _⟩) (by kernel_rfl) rfl (fun K hK => ?_)
      obtain ⟨z0, z1, z2, z3⟩ := hs.cell g11 0 (by simp)
      have zl := hs.lt g11 0 (by simp)
      have zf := hs.frozen g11 0 (by simp)
      have hs35 := hs.set g11 0 (a) [(g10, 1)] (by simp) Fg11.out.1 (fun p hp => by simp only [List.mem_cons, List.not_mem_nil, or_false] at hp; rcases hp with rfl <;> first | exact ⟨by simp, (Fg11.out.2 (g10, 0) (by simp))⟩)
      go_simp
      refine hK.out _ _ (⟨(R1.out.on (Env.below hs35)).cell.1, (E1.out.on (Env.below hs35)).cell g_a a (by simp)⟩) ?_
      clear hK K
      try simp only [putz]
      clear hs z0 z1 z2 z3 zl zf
      change Goes _ _ _ _ _ _ _ _ (fil wn34 g11 (a))
      generalize fil wn34 g11 (a) = wn35 at *
      have hs := hs35
      clear hs35
      refine Goes.done (by kernel_rfl) ?_ _
      refine NoPanic.normal ?_
      go_wp2_with fail
      go_meet
      exact ⟨_, _, rfl, rfl, hid (hs.perm (by simp)), hid ⟨Fg10.out.1, Fg11.out.1, (Fg11.out.2 (g10, 0) (by simp))⟩⟩
     ·skip
      go_simp
      refine hK.out _ _ (⟨(R1.out.on (Env.below hs.zero)).cell.1, (E1.out.on (Env.below hs.zero)).cell g_a a (by simp)⟩) ?_
      clear hK K
      try simp only [putz]
      have Fg11 := hid hs.fresh
      have hs36 := hs.zero
      clear hs
      generalize wn31.alloc (.cells #[.int .u64 0, .int .u64 0, .int .u64 0, .int .u64 0] 24) = wn36 at *
      generalize wn31.heap.size = g11 at *
      have hs := hs36
      clear hs36
      refine Goes.one (i := 7) (o := ⟨some 31, _, _, _, _, _⟩) (by kernel_rfl) rfl (fun K hK => ?_)
      go_simp
      with_reducible refine (env_of (same_any a _) hs).mono ?_
      rintro e wn37 ⟨rfl, hs37⟩
      go_wp2_with fail
      refine hK.out _ _ (⟨(R1.out.on (Env.below hs37)).cell.1, (E1.out.on (Env.below hs37)).cell g_a a (by simp)⟩) ?_
      clear hK K
      try simp only [putz]
      clear hs
      have hs := hs37
      clear hs37
      refine Goes.one (i := 10) (o := ⟨none, _, _, _, _, _⟩) (by kernel_rfl) rfl (fun K hK => ?_)
      obtain ⟨z0, z1, z2, z3⟩ := hs.cell g10 0 (by simp)
      have zl := hs.lt g10 0 (by simp)
      have zf := hs.frozen g10 0 (by simp)
      have hs38 := hs.set g10 0 (1) [(g11, 0)] (by simp) Fg10.out.1 (fun p hp => by simp only [List.mem_cons, List.not_mem_nil, or_false] at hp; rcases hp with rfl <;> first | exact ⟨by simp, (Ne.symm (Fg11.out.2 (g10, 0) (by simp)))⟩)
      go_simp
      refine hK.out _ _ (⟨(R1.out.on (Env.below hs38)).cell.1, (E1.out.on (Env.below hs38)).cell g_a a (by simp)⟩) ?_
      clear hK K
      try simp only [putz]
      clear hs z0 z1 z2 z3 zl zf
      change Goes _ _ _ _ _ _ _ _ (fil wn37 g10 (1))
      generalize fil wn37 g10 (1) = wn38 at *
      have hs := hs38
      clear hs38
      refine Goes.one (i := 11) (o := ⟨none, _, _, _, _, _⟩) (by kernel_rfl) rfl (fun K hK => ?_)
      obtain ⟨z0, z1, z2, z3⟩ := hs.cell g11 0 (by simp)
      have zl := hs.lt g11 0 (by simp)
      have zf := hs.frozen g11 0 (by simp)
      have hs39 := hs.set g11 0 (a) [(g10, 1)] (by simp) Fg11.out.1 (fun p hp => by simp only [List.mem_cons, List.not_mem_nil, or_false] at hp; rcases hp with rfl <;> first | exact ⟨by simp, (Fg11.out.2 (g10, 0) (by simp))⟩)
      go_simp
      refine hK.out _ _ (⟨(R1.out.on (Env.below hs39)).cell.1, (E1.out.on (Env.below hs39)).cell g_a a (by simp)⟩) ?_
      clear hK K
      try simp only [putz]
      clear hs z0 z1 z2 z3 zl zf
      change Goes _ _ _ _ _ _ _ _ (fil wn38 g11 (a))
      generalize fil wn38 g11 (a) = wn39 at *
      have hs := hs39
      clear hs39
      refine Goes.done (by kernel_rfl) ?_ _
      refine NoPanic.normal ?_
      go_wp2_with fail
      go_meet
      exact ⟨_, _, rfl, rfl, hid (hs.perm (by simp)), hid ⟨Fg10.out.1, Fg11.out.1, (Fg11.out.2 (g10, 0) (by simp))⟩⟩
    ·skip
     go_simp
     refine hK.out _ _ (⟨(R1.out.on (Env.below hs.zero)).cell.1, (E1.out.on (Env.below hs.zero)).cell g_a a (by simp)⟩) ?_
     clear hK K
     try simp only [putz]
     have Fg11 := hid hs.fresh
     have hs40 := hs.zero
     clear hs
     generalize wn30.alloc (.cells #[.int .u64 0, .int .u64 0, .int .u64 0, .int .u64 0] 24) = wn40 at *
     generalize wn30.heap.size = g11 at *
     have hs := hs40
     clear hs40
     refine Goes.one (i := 3) (o := ⟨some 27, _, _, _, _, _⟩) (by kernel_rfl) rfl (fun K hK => ?_)
     go_simp
     with_reducible refine (env_of (same_any 1 _) hs).mono ?_
     rintro e wn41 ⟨rfl, hs41⟩
     go_wp2_with fail
     refine hK.out _ _ (⟨(R1.out.on (Env.below hs41)).cell.1, (E1.out.on (Env.below hs41)).cell g_a a (by simp)⟩) ?_
     clear hK K
     try simp only [putz]
     clear hs
     have hs := hs41
     clear hs41
     refine Goes.one (i := 7) (o := ⟨some 31, _, _, _, _, _⟩) (by kernel_rfl) rfl (fun K hK => ?_)
     go_simp
     with_reducible refine (env_of (same_any a _) hs).mono ?_
     rintro e wn42 ⟨rfl, hs42⟩
     go_wp2_with fail
     refine hK.out _ _ (⟨(R1.out.on (Env.below hs42)).cell.1, (E1.out.on (Env.below hs42)).cell g_a a (by simp)⟩) ?_
     clear hK K
     try simp only [putz]
     clear hs
     have hs := hs42
     clear hs42
     refine Goes.one (i := 10) (o := ⟨none, _, _, _, _, _⟩) (by kernel_rfl) rfl (fun K hK => ?_)
     obtain ⟨z0, z1, z2, z3⟩ := hs.cell g10 0 (by simp)
     have zl := hs.lt g10 0 (by simp)
     have zf := hs.frozen g10 0 (by simp)
     have hs43 := hs.set g10 0 (1) [(g11, 0)] (by simp) Fg10.out.1 (fun p hp => by simp only [List.mem_cons, List.not_mem_nil, or_false] at hp; rcases hp with rfl <;> first | exact ⟨by simp, (Ne.symm (Fg11.out.2 (g10, 0) (by simp)))⟩)
     go_simp
     refine hK.out _ _ (⟨(R1.out.on (Env.below hs43)).cell.1, (E1.out.on (Env.below hs43)).cell g_a a (by simp)⟩) ?_
     clear hK K
     try simp only [putz]
     clear hs z0 z1 z2 z3 zl zf
     change Goes _ _ _ _ _ _ _ _ (fil wn42 g10 (1))
     generalize fil wn42 g10 (1) = wn43 at *
     have hs := hs43
     clear hs43
     refine Goes.one (i := 11) (o := ⟨none, _, _, _, _, _⟩) (by kernel_rfl) rfl (fun K hK => ?_)
     obtain ⟨z0, z1, z2, z3⟩ := hs.cell g11 0 (by simp)
     have zl := hs.lt g11 0 (by simp)
     have zf := hs.frozen g11 0 (by simp)
     have hs44 := hs.set g11 0 (a) [(g10, 1)] (by simp) Fg11.out.1 (fun p hp => by simp only [List.mem_cons, List.not_mem_nil, or_false] at hp; rcases hp with rfl <;> first | exact ⟨by simp, (Fg11.out.2 (g10, 0) (by simp))⟩)
     go_simp
     refine hK.out _ _ (⟨(R1.out.on (Env.below hs44)).cell.1, (E1.out.on (Env.below hs44)).cell g_a a (by simp)⟩) ?_
     clear hK K
     try simp only [putz]
     clear hs z0 z1 z2 z3 zl zf
     change Goes _ _ _ _ _ _ _ _ (fil wn43 g11 (a))
     generalize fil wn43 g11 (a) = wn44 at *
     have hs := hs44
     clear hs44
     refine Goes.done (by kernel_rfl) ?_ _
     refine NoPanic.normal ?_
     go_wp2_with fail
     go_meet
     exact ⟨_, _, rfl, rfl, hid (hs.perm (by simp)), hid ⟨Fg10.out.1, Fg11.out.1, (Fg11.out.2 (g10, 0) (by simp))⟩⟩
   ·skip
    go_simp
    refine hK.out _ _ (⟨(R1.out.on (Env.below hs.zero)).cell.1, (E1.out.on (Env.below hs.zero)).cell g_a a (by simp)⟩) ?_
    clear hK K
    try simp only [putz]
    have Fg11 := hid hs.fresh
    have hs45 := hs.zero
    clear hs
    generalize wn1.alloc (.cells #[.int .u64 0, .int .u64 0, .int .u64 0, .int .u64 0] 24) = wn45 at *
    generalize wn1.heap.size = g11 at *
    have hs := hs45
    clear hs45
    refine Goes.two (i := 3) (j := 8) (o := ⟨some 27, _, _, _, _, _⟩) (p := ⟨some 10, _, _, _, _, _⟩) (by kernel_rfl) rfl rfl (fun K hK => ?_) (fun K hK => ?_)
    ·skip
     go_simp
     with_reducible refine (env_of (same_any 1 _) hs).mono ?_
     rintro e wn46 ⟨rfl, hs46⟩
     go_wp2_with fail
     refine hK.out _ _ (⟨(R1.out.on (Env.below hs46)).cell.1, (E1.out.on (Env.below hs46)).cell g_a a (by simp)⟩) ?_
     clear hK K
     try simp only [putz]
     clear hs
     have hs := hs46
     clear hs46
     refine Goes.two (i := 7) (j := 8) (o := ⟨some 31, _, _, _, _, _⟩) (p := ⟨some 10, _, _, _, _, _⟩) (by kernel_rfl) rfl rfl (fun K hK => ?_) (fun K hK => ?_)
     ·skip
      go_simp
      with_reducible refine (env_of (same_any a _) hs).mono ?_
      rintro e wn47 ⟨rfl, hs47⟩
      go_wp2_with fail
      refine hK.out _ _ (⟨(R1.out.on (Env.below hs47)).cell.1, (E1.out.on (Env.below hs47)).cell g_a a (by simp)⟩) ?_
      clear hK K
      try simp only [putz]
      clear hs
      have hs := hs47
      clear hs47
      refine Goes.one (i := 8) (o := ⟨some 10, _, _, _, _, _⟩) (by kernel_rfl) rfl (fun K hK => ?_)
      go_simp
      refine hK.out _ _ (⟨(R1.out.on (Env.below hs.zero)).cell.1, (E1.out.on (Env.below hs.zero)).cell g_a a (by simp)⟩) ?_
      clear hK K
      try simp only [putz]
      have Fg10 := hid hs.fresh
      have hs48 := hs.zero
      clear hs
      generalize wn47.alloc (.cells #[.int .u64 0, .int .u64 0, .int .u64 0, .int .u64 0] 24) = wn48 at *
      generalize wn47.heap.size = g10 at *
      have hs := hs48
      clear hs48
      refine Goes.one (i := 10) (o := ⟨none, _, _, _, _, _⟩) (by kernel_rfl) rfl (fun K hK => ?_)
      obtain ⟨z0, z1, z2, z3⟩ := hs.cell g10 0 (by simp)
      have zl := hs.lt g10 0 (by simp)
      have zf := hs.frozen g10 0 (by simp)
      have hs49 := hs.set g10 0 (1) [(g11, 0)] (by simp) Fg10.out.1 (fun p hp => by simp only [List.mem_cons, List.not_mem_nil, or_false] at hp; rcases hp with rfl <;> first | exact ⟨by simp, (Fg10.out.2 (g11, 0) (by simp))⟩)
      go_simp
      refine hK.out _ _ (⟨(R1.out.on (Env.below hs49)).cell.1, (E1.out.on (Env.below hs49)).cell g_a a (by simp)⟩) ?_
      clear hK K
      try simp only [putz]
      clear hs z0 z1 z2 z3 zl zf
      change Goes _ _ _ _ _ _ _ _ (fil wn48 g10 (1))
      generalize fil wn48 g10 (1) = wn49 at *
      have hs := hs49
      clear hs49
      refine Goes.one (i := 11) (o := ⟨none, _, _, _, _, _⟩) (by kernel_rfl) rfl (fun K hK => ?_)
      obtain ⟨z0, z1, z2, z3⟩ := hs.cell g11 0 (by simp)
      have zl := hs.lt g11 0 (by simp)
      have zf := hs.frozen g11 0 (by simp)
      have hs50 := hs.set g11 0 (a) [(g10, 1)] (by simp) Fg11.out.1 (fun p hp => by simp only [List.mem_cons, List.not_mem_nil, or_false] at hp; rcases hp with rfl <;> first | exact ⟨by simp, (Ne.symm (Fg10.out.2 (g11, 0) (by simp)))⟩)
      go_simp
      refine hK.out _ _ (⟨(R1.out.on (Env.below hs50)).cell.1, (E1.out.on (Env.below hs50)).cell g_a a (by simp)⟩) ?_
      clear hK K
      try simp only [putz]
      clear hs z0 z1 z2 z3 zl zf
      change Goes _ _ _ _ _ _ _ _ (fil wn49 g11 (a))
      generalize fil wn49 g11 (a) = wn50 at *
      have hs := hs50
      clear hs50
      refine Goes.done (by kernel_rfl) ?_ _
      refine NoPanic.normal ?_
      go_wp2_with fail
      go_meet
      exact ⟨_, _, rfl, rfl, hid (hs.perm (by simp)), hid ⟨Fg10.out.1, Fg11.out.1, (Ne.symm (Fg10.out.2 (g11, 0) (by simp)))⟩⟩
     ·skip
      go_simp
      refine hK.out _ _ (⟨(R1.out.on (Env.below hs.zero)).cell.1, (E1.out.on (Env.below hs.zero)).cell g_a a (by simp)⟩) ?_
      clear hK K
      try simp only [putz]
      have Fg10 := hid hs.fresh
      have hs51 := hs.zero
      clear hs
      generalize wn46.alloc (.cells #[.int .u64 0, .int .u64 0, .int .u64 0, .int .u64 0] 24) = wn51 at *
      generalize wn46.heap.size = g10 at *
      have hs := hs51
      clear hs51
      refine Goes.one (i := 7) (o := ⟨some 31, _, _, _, _, _⟩) (by kernel_rfl) rfl (fun K hK => ?_)
      go_simp
      with_reducible refine (env_of (same_any a _) hs).mono ?_
      rintro e wn52 ⟨rfl, hs52⟩
      go_wp2_with fail
      refine hK.out _ _ (⟨(R1.out.on (Env.below hs52)).cell.1, (E1.out.on (Env.below hs52)).cell g_a a (by simp)⟩) ?_
      clear hK K
      try simp only [putz]
      clear hs
      have hs := hs52
      clear hs52
      refine Goes.one (i := 10) (o := ⟨none, _, _, _, _, _⟩) (by kernel_rfl) rfl (fun K hK => ?_)
      obtain ⟨z0, z1, z2, z3⟩ := hs.cell g10 0 (by simp)
      have zl := hs.lt g10 0 (by simp)
      have zf := hs.frozen g10 0 (by simp)
      have hs53 := hs.set g10 0 (1) [(g11, 0)] (by simp) Fg10.out.1 (fun p hp => by simp only [List.mem_cons, List.not_mem_nil, or_false] at hp; rcases hp with rfl <;> first | exact ⟨by simp, (Fg10.out.2 (g11, 0) (by simp))⟩)
      go_simp
      refine hK.out _ _ (⟨(R1.out.on (Env.below hs53)).cell.1, (E1.out.on (Env.below hs53)).cell g_a a (by simp)⟩) ?_
      clear hK K
      try simp only [putz]
      clear hs z0 z1 z2 z3 zl zf
      change Goes _ _ _ _ _ _ _ _ (fil wn52 g10 (1))
      generalize fil wn52 g10 (1) = wn53 at *
      have hs := hs53
      clear hs53
      refine Goes.one (i := 11) (o := ⟨none, _, _, _, _, _⟩) (by kernel_rfl) rfl (fun K hK => ?_)
      obtain ⟨z0, z1, z2, z3⟩ := hs.cell g11 0 (by simp)
      have zl := hs.lt g11 0 (by simp)
      have zf := hs.frozen g11 0 (by simp)
      have hs54 := hs.set g11 0 (a) [(g10, 1)] (by simp) Fg11.out.1 (fun p hp => by simp only [List.mem_cons, List.not_mem_nil, or_false] at hp; rcases hp with rfl <;> first | exact ⟨by simp, (Ne.symm (Fg10.out.2 (g11, 0) (by simp)))⟩)
      go_simp
      refine hK.out _ _ (⟨(R1.out.on (Env.below hs54)).cell.1, (E1.out.on (Env.below hs54)).cell g_a a (by simp)⟩) ?_
      clear hK K
      try simp only [putz]
      clear hs z0 z1 z2 z3 zl zf
      change Goes _ _ _ _ _ _ _ _ (fil wn53 g11 (a))
      generalize fil wn53 g11 (a) = wn54 at *
      have hs := hs54
      clear hs54
      refine Goes.done (by kernel_rfl) ?_ _
      refine NoPanic.normal ?_
      go_wp2_with fail
      go_meet
      exact ⟨_, _, rfl, rfl, hid (hs.perm (by simp)), hid ⟨Fg10.out.1, Fg11.out.1, (Ne.symm (Fg10.out.2 (g11, 0) (by simp)))⟩⟩
    ·skip
     go_simp
     refine hK.out _ _ (⟨(R1.out.on (Env.below hs.zero)).cell.1, (E1.out.on (Env.below hs.zero)).cell g_a a (by simp)⟩) ?_
     clear hK K
     try simp only [putz]
     have Fg10 := hid hs.fresh
     have hs55 := hs.zero
     clear hs
     generalize wn45.alloc (.cells #[.int .u64 0, .int .u64 0, .int .u64 0, .int .u64 0] 24) = wn55 at *
     generalize wn45.heap.size = g10 at *
     have hs := hs55
     clear hs55
     refine Goes.one (i := 3) (o := ⟨some 27, _, _, _, _, _⟩) (by kernel_rfl) rfl (fun K hK => ?_)
     go_simp
     with_reducible refine (env_of (same_any 1 _) hs).mono ?_
     rintro e wn56 ⟨rfl, hs56⟩
     go_wp2_with fail
     refine hK.out _ _ (⟨(R1.out.on (Env.below hs56)).cell.1, (E1.out.on (Env.below hs56)).cell g_a a (by simp)⟩) ?_
     clear hK K
     try simp only [putz]
     clear hs
     have hs := hs56
     clear hs56
     refine Goes.one (i := 7) (o := ⟨some 31, _, _, _, _, _⟩) (by kernel_rfl) rfl (fun K hK => ?_)
     go_simp
     with_reducible refine (env_of (same_any a _) hs).mono ?_
     rintro e wn57 ⟨rfl, hs57⟩
     go_wp2_with fail
     refine hK.out _ _ (⟨(R1.out.on (Env.below hs57)).cell.1, (E1.out.on (Env.below hs57)).cell g_a a (by simp)⟩) ?_
     clear hK K
     try simp only [putz]
     clear hs
     have hs := hs57
     clear hs57
     refine Goes.one (i := 10) (o := ⟨none, _, _, _, _, _⟩) (by kernel_rfl) rfl (fun K hK => ?_)
     obtain ⟨z0, z1, z2, z3⟩ := hs.cell g10 0 (by simp)
     have zl := hs.lt g10 0 (by simp)
     have zf := hs.frozen g10 0 (by simp)
     have hs58 := hs.set g10 0 (1) [(g11, 0)] (by simp) Fg10.out.1 (fun p hp => by simp only [List.mem_cons, List.not_mem_nil, or_false] at hp; rcases hp with rfl <;> first | exact ⟨by simp, (Fg10.out.2 (g11, 0) (by simp))⟩)
     go_simp
     refine hK.out _ _ (⟨(R1.out.on (Env.below hs58)).cell.1, (E1.out.on (Env.below hs58)).cell g_a a (by simp)⟩) ?_
     clear hK K
     try simp only [putz]
     clear hs z0 z1 z2 z3 zl zf
     change Goes _ _ _ _ _ _ _ _ (fil wn57 g10 (1))
     generalize fil wn57 g10 (1) = wn58 at *
     have hs := hs58
     clear hs58
     refine Goes.one (i := 11) (o := ⟨none, _, _, _, _, _⟩) (by kernel_rfl) rfl (fun K hK => ?_)
     obtain ⟨z0, z1, z2, z3⟩ := hs.cell g11 0 (by simp)
     have zl := hs.lt g11 0 (by simp)
     have zf := hs.frozen g11 0 (by simp)
     have hs59 := hs.set g11 0 (a) [(g10, 1)] (by simp) Fg11.out.1 (fun p hp => by simp only [List.mem_cons, List.not_mem_nil, or_false] at hp; rcases hp with rfl <;> first | exact ⟨by simp, (Ne.symm (Fg10.out.2 (g11, 0) (by simp)))⟩)
     go_simp
     refine hK.out _ _ (⟨(R1.out.on (Env.below hs59)).cell.1, (E1.out.on (Env.below hs59)).cell g_a a (by simp)⟩) ?_
     clear hK K
     try simp only [putz]
     clear hs z0 z1 z2 z3 zl zf
     change Goes _ _ _ _ _ _ _ _ (fil wn58 g11 (a))
     generalize fil wn58 g11 (a) = wn59 at *
     have hs := hs59
     clear hs59
     refine Goes.done (by kernel_rfl) ?_ _
     refine NoPanic.normal ?_
     go_wp2_with fail
     go_meet
     exact ⟨_, _, rfl, rfl, hid (hs.perm (by simp)), hid ⟨Fg10.out.1, Fg11.out.1, (Ne.symm (Fg10.out.2 (g11, 0) (by simp)))⟩⟩
  ·skip
   go_simp
   refine hK.out _ _ (⟨(R1.out.on (Env.below hs.zero)).cell.1, (E1.out.on (Env.below hs.zero)).cell g_a a (by simp)⟩) ?_
   clear hK K
   try simp only [putz]
   have Fg10 := hid hs.fresh
   have hs60 := hs.zero
   clear hs
   generalize wd.alloc (.cells #[.int .u64 0, .int .u64 0, .int .u64 0, .int .u64 0] 24) = wn60 at *
   generalize wd.heap.size = g10 at *
   have hs := hs60
   clear hs60
   refine Goes.two (i := 2) (j := 9) (o := ⟨some 26, _, _, _, _, _⟩) (p := ⟨some 11, _, _, _, _, _⟩) (by kernel_rfl) rfl rfl (fun K hK => ?_) (fun K hK => ?_)
   ·skip
    go_simp
    with_reducible refine (lof_at 1 1 hs (by decide) (by decide)).mono ?_
    rintro e wn61 ⟨rfl, hs61⟩
    go_wp2_with fail
    refine hK.out _ _ (⟨(R1.out.on (Env.below hs61)).cell.1, (E1.out.on (Env.below hs61)).cell g_a a (by simp)⟩) ?_
    clear hK K
    try simp only [putz]
    clear hs
    have hs := hs61
    clear hs61
    refine Goes.two (i := 3) (j := 9) (o := ⟨some 27, _, _, _, _, _⟩) (p := ⟨some 11, _, _, _, _, _⟩) (by kernel_rfl) rfl rfl (fun K hK => ?_) (fun K hK => ?_)
    ·skip
     go_simp
     with_reducible refine (env_of (same_any 1 _) hs).mono ?_
     rintro e wn62 ⟨rfl, hs62⟩
     go_wp2_with fail
     refine hK.out _ _ (⟨(R1.out.on (Env.below hs62)).cell.1, (E1.out.on (Env.below hs62)).cell g_a a (by simp)⟩) ?_
     clear hK K
     try simp only [putz]
     clear hs
     have hs := hs62
     clear hs62
     refine Goes.two (i := 7) (j := 9) (o := ⟨some 31, _, _, _, _, _⟩) (p := ⟨some 11, _, _, _, _, _⟩) (by kernel_rfl) rfl rfl (fun K hK => ?_) (fun K hK => ?_)
     ·skip
      go_simp
      with_reducible refine (env_of (same_any a _) hs).mono ?_
      rintro e wn63 ⟨rfl, hs63⟩
      go_wp2_with fail
      refine hK.out _ _ (⟨(R1.out.on (Env.below hs63)).cell.1, (E1.out.on (Env.below hs63)).cell g_a a (by simp)⟩) ?_
      clear hK K
      try simp only [putz]
      clear hs
      have hs := hs63
      clear hs63
      refine Goes.one (i := 9) (o := ⟨some 11, _, _, _, _, _⟩) (by kernel_rfl) rfl (fun K hK => ?_)
      go_simp
      refine hK.out _ _ (⟨(R1.out.on (Env.below hs.zero)).cell.1, (E1.out.on (Env.below hs.zero)).cell g_a a (by simp)⟩) ?_
      clear hK K
      try simp only [putz]
      have Fg11 := hid hs.fresh
      have hs64 := hs.zero
      clear hs
      generalize wn63.alloc (.cells #[.int .u64 0, .int .u64 0, .int .u64 0, .int .u64 0] 24) = wn64 at *
      generalize wn63.heap.size = g11 at *
      have hs := hs64
      clear hs64
      refine Goes.one (i := 10) (o := ⟨none, _, _, _, _, _⟩) (by kernel_rfl) rfl (fun K hK => ?_)
      obtain ⟨z0, z1, z2, z3⟩ := hs.cell g10 0 (by simp)
      have zl := hs.lt g10 0 (by simp)
      have zf := hs.frozen g10 0 (by simp)
      have hs65 := hs.set g10 0 (1) [(g11, 0)] (by simp) Fg10.out.1 (fun p hp => by simp only [List.mem_cons, List.not_mem_nil, or_false] at hp; rcases hp with rfl <;> first | exact ⟨by simp, (Ne.symm (Fg11.out.2 (g10, 0) (by simp)))⟩)
      go_simp
      refine hK.out _ _ (⟨(R1.out.on (Env.below hs65)).cell.1, (E1.out.on (Env.below hs65)).cell g_a a (by simp)⟩) ?_
      clear hK K
      try simp only [putz]
      clear hs z0 z1 z2 z3 zl zf
      change Goes _ _ _ _ _ _ _ _ (fil wn64 g10 (1))
      generalize fil wn64 g10 (1) = wn65 at *
      have hs := hs65
      clear hs65
      refine Goes.one (i := 11) (o := ⟨none, _, _, _, _, _⟩) (by kernel_rfl) rfl (fun K hK => ?_)
      obtain ⟨z0, z1, z2, z3⟩ := hs.cell g11 0 (by simp)
      have zl := hs.lt g11 0 (by simp)
      have zf := hs.frozen g11 0 (by simp)
      have hs66 := hs.set g11 0 (a) [(g10, 1)] (by simp) Fg11.out.1 (fun p hp => by simp only [List.mem_cons, List.not_mem_nil, or_false] at hp; rcases hp with rfl <;> first | exact ⟨by simp, (Fg11.out.2 (g10, 0) (by simp))⟩)
      go_simp
      refine hK.out _ _ (⟨(R1.out.on (Env.below hs66)).cell.1, (E1.out.on (Env.below hs66)).cell g_a a (by simp)⟩) ?_
      clear hK K
      try simp only [putz]
      clear hs z0 z1 z2 z3 zl zf
      change Goes _ _ _ _ _ _ _ _ (fil wn65 g11 (a))
      generalize fil wn65 g11 (a) = wn66 at *
      have hs := hs66
      clear hs66
      refine Goes.done (by kernel_rfl) ?_ _
      refine NoPanic.normal ?_
      go_wp2_with fail
      go_meet
      exact ⟨_, _, rfl, rfl, hid (hs.perm (by simp)), hid ⟨Fg10.out.1, Fg11.out.1, (Fg11.out.2 (g10, 0) (by simp))⟩⟩
     ·skip
      go_simp
      refine hK.out _ _ (⟨(R1.out.on (Env.below hs.zero)).cell.1, (E1.out.on (Env.below hs.zero)).cell g_a a (by simp)⟩) ?_
      clear hK K
      try simp only [putz]
      have Fg11 := hid hs.fresh
      have hs67 := hs.zero
      clear hs
      generalize wn62.alloc (.cells #[.int .u64 0, .int .u64 0, .int .u64 0, .int .u64 0] 24) = wn67 at *
      generalize wn62.heap.size = g11 at *
      have hs := hs67
      clear hs67
      refine Goes.one (i := 7) (o := ⟨some 31, _, _, _, _, _⟩) (by kernel_rfl) rfl (fun K hK => ?_)
      go_simp
      with_reducible refine (env_of (same_any a _) hs).mono ?_
      rintro e wn68 ⟨rfl, hs68⟩
      go_wp2_with fail
      refine hK.out _ _ (⟨(R1.out.on (Env.below hs68)).cell.1, (E1.out.on (Env.below hs68)).cell g_a a (by simp)⟩) ?_
      clear hK K
      try simp only [putz]
      clear hs
      have hs := hs68
      clear hs68
      refine Goes.one (i := 10) (o := ⟨none, _, _, _, _, _⟩) (by kernel_rfl) rfl (fun K hK => ?_)
      obtain ⟨z0, z1, z2, z3⟩ := hs.cell g10 0 (by simp)
      have zl := hs.lt g10 0 (by simp)
      have zf := hs.frozen g10 0 (by simp)
      have hs69 := hs.set g10 0 (1) [(g11, 0)] (by simp) Fg10.out.1 (fun p hp => by simp only [List.mem_cons, List.not_mem_nil, or_false] at hp; rcases hp with rfl <;> first | exact ⟨by simp, (Ne.symm (Fg11.out.2 (g10, 0) (by simp)))⟩)
      go_simp
      refine hK.out _ _ (⟨(R1.out.on (Env.below hs69)).cell.1, (E1.out.on (Env.below hs69)).cell g_a a (by simp)⟩) ?_
      clear hK K
      try simp only [putz]
      clear hs z0 z1 z2 z3 zl zf
      change Goes _ _ _ _ _ _ _ _ (fil wn68 g10 (1))
      generalize fil wn68 g10 (1) = wn69 at *
      have hs := hs69
      clear hs69
      refine Goes.one (i := 11) (o := ⟨none, _, _, _, _, _⟩) (by kernel_rfl) rfl (fun K hK => ?_)
      obtain ⟨z0, z1, z2, z3⟩ := hs.cell g11 0 (by simp)
      have zl := hs.lt g11 0 (by simp)
      have zf := hs.frozen g11 0 (by simp)
      have hs70 := hs.set g11 0 (a) [(g10, 1)] (by simp) Fg11.out.1 (fun p hp => by simp only [List.mem_cons, List.not_mem_nil, or_false] at hp; rcases hp with rfl <;> first | exact ⟨by simp, (Fg11.out.2 (g10, 0) (by simp))⟩)
      go_simp
      refine hK.out _ _ (⟨(R1.out.on (Env.below hs70)).cell.1, (E1.out.on (Env.below hs70)).cell g_a a (by simp)⟩) ?_
      clear hK K
      try simp only [putz]
      clear hs z0 z1 z2 z3 zl zf
      change Goes _ _ _ _ _ _ _ _ (fil wn69 g11 (a))
      generalize fil wn69 g11 (a) = wn70 at *
      have hs := hs70
      clear hs70
      refine Goes.done (by kernel_rfl) ?_ _
      refine NoPanic.normal ?_
      go_wp2_with fail
      go_meet
      exact ⟨_, _, rfl, rfl, hid (hs.perm (by simp)), hid ⟨Fg10.out.1, Fg11.out.1, (Fg11.out.2 (g10, 0) (by simp))⟩⟩
    ·skip
     go_simp
     refine hK.out _ _ (⟨(R1.out.on (Env.below hs.zero)).cell.1, (E1.out.on (Env.below hs.zero)).cell g_a a (by simp)⟩) ?_
     clear hK K
     try simp only [putz]
     have Fg11 := hid hs.fresh
     have hs71 := hs.zero
     clear hs
     generalize wn61.alloc (.cells #[.int .u64 0, .int .u64 0, .int .u64 0, .int .u64 0] 24) = wn71 at *
     generalize wn61.heap.size = g11 at *
     have hs := hs71
     clear hs71
     refine Goes.one (i := 3) (o := ⟨some 27, _, _, _, _, _⟩) (by kernel_rfl) rfl (fun K hK => ?_)
     go_simp
     with_reducible refine (env_of (same_any 1 _) hs).mono ?_
     rintro e wn72 ⟨rfl, hs72⟩
     go_wp2_with fail
     refine hK.out _ _ (⟨(R1.out.on (Env.below hs72)).cell.1, (E1.out.on (Env.below hs72)).cell g_a a (by simp)⟩) ?_
     clear hK K
     try simp only [putz]
     clear hs
     have hs := hs72
     clear hs72
     refine Goes.one (i := 7) (o := ⟨some 31, _, _, _, _, _⟩) (by kernel_rfl) rfl (fun K hK => ?_)
     go_simp
     with_reducible refine (env_of (same_any a _) hs).mono ?_
     rintro e wn73 ⟨rfl, hs73⟩
     go_wp2_with fail
     refine hK.out _ _ (⟨(R1.out.on (Env.below hs73)).cell.1, (E1.out.on (Env.below hs73)).cell g_a a (by simp)⟩) ?_
     clear hK K
     try simp only [putz]
     clear hs
     have hs := hs73
     clear hs73
     refine Goes.one (i := 10) (o := ⟨none, _, _, _, _, _⟩) (by kernel_rfl) rfl (fun K hK => ?_)
     obtain ⟨z0, z1, z2, z3⟩ := hs.cell g10 0 (by simp)
     have zl := hs.lt g10 0 (by simp)
     have zf := hs.frozen g10 0 (by simp)
     have hs74 := hs.set g10 0 (1) [(g11, 0)] (by simp) Fg10.out.1 (fun p hp => by simp only [List.mem_cons, List.not_mem_nil, or_false] at hp; rcases hp with rfl <;> first | exact ⟨by simp, (Ne.symm (Fg11.out.2 (g10, 0) (by simp)))⟩)
     go_simp
     refine hK.out _ _ (⟨(R1.out.on (Env.below hs74)).cell.1, (E1.out.on (Env.below hs74)).cell g_a a (by simp)⟩) ?_
     clear hK K
     try simp only [putz]
     clear hs z0 z1 z2 z3 zl zf
     change Goes _ _ _ _ _ _ _ _ (fil wn73 g10 (1))
     generalize fil wn73 g10 (1) = wn74 at *
     have hs := hs74
     clear hs74
     refine Goes.one (i := 11) (o := ⟨none, _, _, _, _, _⟩) (by kernel_rfl) rfl (fun K hK => ?_)
     obtain ⟨z0, z1, z2, z3⟩ := hs.cell g11 0 (by simp)
     have zl := hs.lt g11 0 (by simp)
     have zf := hs.frozen g11 0 (by simp)
     have hs75 := hs.set g11 0 (a) [(g10, 1)] (by simp) Fg11.out.1 (fun p hp => by simp only [List.mem_cons, List.not_mem_nil, or_false] at hp; rcases hp with rfl <;> first | exact ⟨by simp, (Fg11.out.2 (g10, 0) (by simp))⟩)
     go_simp
     refine hK.out _ _ (⟨(R1.out.on (Env.below hs75)).cell.1, (E1.out.on (Env.below hs75)).cell g_a a (by simp)⟩) ?_
     clear hK K
     try simp only [putz]
     clear hs z0 z1 z2 z3 zl zf
     change Goes _ _ _ _ _ _ _ _ (fil wn74 g11 (a))
     generalize fil wn74 g11 (a) = wn75 at *
     have hs := hs75
     clear hs75
     refine Goes.done (by kernel_rfl) ?_ _
     refine NoPanic.normal ?_
     go_wp2_with fail
     go_meet
     exact ⟨_, _, rfl, rfl, hid (hs.perm (by simp)), hid ⟨Fg10.out.1, Fg11.out.1, (Fg11.out.2 (g10, 0) (by simp))⟩⟩
   ·skip
    go_simp
    refine hK.out _ _ (⟨(R1.out.on (Env.below hs.zero)).cell.1, (E1.out.on (Env.below hs.zero)).cell g_a a (by simp)⟩) ?_
    clear hK K
    try simp only [putz]
    have Fg11 := hid hs.fresh
    have hs76 := hs.zero
    clear hs
    generalize wn60.alloc (.cells #[.int .u64 0, .int .u64 0, .int .u64 0, .int .u64 0] 24) = wn76 at *
    generalize wn60.heap.size = g11 at *
    have hs := hs76
    clear hs76
    refine Goes.one (i := 2) (o := ⟨some 26, _, _, _, _, _⟩) (by kernel_rfl) rfl (fun K hK => ?_)
    go_simp
    with_reducible refine (lof_at 1 1 hs (by decide) (by decide)).mono ?_
    rintro e wn77 ⟨rfl, hs77⟩
    go_wp2_with fail
    refine hK.out _ _ (⟨(R1.out.on (Env.below hs77)).cell.1, (E1.out.on (Env.below hs77)).cell g_a a (by simp)⟩) ?_
    clear hK K
    try simp only [putz]
    clear hs
    have hs := hs77
    clear hs77
    refine Goes.one (i := 3) (o := ⟨some 27, _, _, _, _, _⟩) (by kernel_rfl) rfl (fun K hK => ?_)
    go_simp
    with_reducible refine (env_of (same_any 1 _) hs).mono ?_
    rintro e wn78 ⟨rfl, hs78⟩
    go_wp2_with fail
    refine hK.out _ _ (⟨(R1.out.on (Env.below hs78)).cell.1, (E1.out.on (Env.below hs78)).cell g_a a (by simp)⟩) ?_
    clear hK K
    try simp only [putz]
    clear hs
    have hs := hs78
    clear hs78
    refine Goes.one (i := 7) (o := ⟨some 31, _, _, _, _, _⟩) (by kernel_rfl) rfl (fun K hK => ?_)
    go_simp
    with_reducible refine (env_of (same_any a _) hs).mono ?_
    rintro e wn79 ⟨rfl, hs79⟩
    go_wp2_with fail
    refine hK.out _ _ (⟨(R1.out.on (Env.below hs79)).cell.1, (E1.out.on (Env.below hs79)).cell g_a a (by simp)⟩) ?_
    clear hK K
    try simp only [putz]
    clear hs
    have hs := hs79
    clear hs79
    refine Goes.one (i := 10) (o := ⟨none, _, _, _, _, _⟩) (by kernel_rfl) rfl (fun K hK => ?_)
    obtain ⟨z0, z1, z2, z3⟩ := hs.cell g10 0 (by simp)
    have zl := hs.lt g10 0 (by simp)
    have zf := hs.frozen g10 0 (by simp)
    have hs80 := hs.set g10 0 (1) [(g11, 0)] (by simp) Fg10.out.1 (fun p hp => by simp only [List.mem_cons, List.not_mem_nil, or_false] at hp; rcases hp with rfl <;> first | exact ⟨by simp, (Ne.symm (Fg11.out.2 (g10, 0) (by simp)))⟩)
    go_simp
    refine hK.out _ _ (⟨(R1.out.on (Env.below hs80)).cell.1, (E1.out.on (Env.below hs80)).cell g_a a (by simp)⟩) ?_
    clear hK K
    try simp only [putz]
    clear hs z0 z1 z2 z3 zl zf
    change Goes _ _ _ _ _ _ _ _ (fil wn79 g10 (1))
    generalize fil wn79 g10 (1) = wn80 at *
    have hs := hs80
    clear hs80
    refine Goes.one (i := 11) (o := ⟨none, _, _, _, _, _⟩) (by kernel_rfl) rfl (fun K hK => ?_)
    obtain ⟨z0, z1, z2, z3⟩ := hs.cell g11 0 (by simp)
    have zl := hs.lt g11 0 (by simp)
    have zf := hs.frozen g11 0 (by simp)
    have hs81 := hs.set g11 0 (a) [(g10, 1)] (by simp) Fg11.out.1 (fun p hp => by simp only [List.mem_cons, List.not_mem_nil, or_false] at hp; rcases hp with rfl <;> first | exact ⟨by simp, (Fg11.out.2 (g10, 0) (by simp))⟩)
    go_simp
    refine hK.out _ _ (⟨(R1.out.on (Env.below hs81)).cell.1, (E1.out.on (Env.below hs81)).cell g_a a (by simp)⟩) ?_
    clear hK K
    try simp only [putz]
    clear hs z0 z1 z2 z3 zl zf
    change Goes _ _ _ _ _ _ _ _ (fil wn80 g11 (a))
    generalize fil wn80 g11 (a) = wn81 at *
    have hs := hs81
    clear hs81
    refine Goes.done (by kernel_rfl) ?_ _
    refine NoPanic.normal ?_
    go_wp2_with fail
    go_meet
    exact ⟨_, _, rfl, rfl, hid (hs.perm (by simp)), hid ⟨Fg10.out.1, Fg11.out.1, (Fg11.out.2 (g10, 0) (by simp))⟩⟩
  ·skip
   go_simp
   refine hK.out _ _ (⟨(R1.out.on (Env.below hs.zero)).cell.1, (E1.out.on (Env.below hs.zero)).cell g_a a (by simp)⟩) ?_
   clear hK K
   try simp only [putz]
   have Fg11 := hid hs.fresh
   have hs82 := hs.zero
   clear hs
   generalize wd.alloc (.cells #[.int .u64 0, .int .u64 0, .int .u64 0, .int .u64 0] 24) = wn82 at *
   generalize wd.heap.size = g11 at *
   have hs := hs82
   clear hs82
   refine Goes.two (i := 2) (j := 8) (o := ⟨some 26, _, _, _, _, _⟩) (p := ⟨some 10, _, _, _, _, _⟩) (by kernel_rfl) rfl rfl (fun K hK => ?_) (fun K hK => ?_)
   ·skip
    go_simp
    with_reducible refine (lof_at 1 1 hs (by decide) (by decide)).mono ?_
    rintro e wn83 ⟨rfl, hs83⟩
    go_wp2_with fail
    refine hK.out _ _ (⟨(R1.out.on (Env.below hs83)).cell.1, (E1.out.on (Env.below hs83)).cell g_a a (by simp)⟩) ?_
    clear hK K
    try simp only [putz]
    clear hs
    have hs := hs83
    clear hs83
    refine Goes.two (i := 3) (j := 8) (o := ⟨some 27, _, _, _, _, _⟩) (p := ⟨some 10, _, _, _, _, _⟩) (by kernel_rfl) rfl rfl (fun K hK => ?_) (fun K hK => ?_)
    ·skip
     go_simp
     with_reducible refine (env_of (same_any 1 _) hs).mono ?_
     rintro e wn84 ⟨rfl, hs84⟩
     go_wp2_with fail
     refine hK.out _ _ (⟨(R1.out.on (Env.below hs84)).cell.1, (E1.out.on (Env.below hs84)).cell g_a a (by simp)⟩) ?_
     clear hK K
     try simp only [putz]
     clear hs
     have hs := hs84
     clear hs84
     refine Goes.two (i := 7) (j := 8) (o := ⟨some 31, _, _, _, _, _⟩) (p := ⟨some 10, _, _, _, _, _⟩) (by kernel_rfl) rfl rfl (fun K hK => ?_) (fun K hK => ?_)
     ·skip
      go_simp
      with_reducible refine (env_of (same_any a _) hs).mono ?_
      rintro e wn85 ⟨rfl, hs85⟩
      go_wp2_with fail
      refine hK.out _ _ (⟨(R1.out.on (Env.below hs85)).cell.1, (E1.out.on (Env.below hs85)).cell g_a a (by simp)⟩) ?_
      clear hK K
      try simp only [putz]
      clear hs
      have hs := hs85
      clear hs85
      refine Goes.one (i := 8) (o := ⟨some 10, _, _, _, _, _⟩) (by kernel_rfl) rfl (fun K hK => ?_)
      go_simp
      refine hK.out _ _ (⟨(R1.out.on (Env.below hs.zero)).cell.1, (E1.out.on (Env.below hs.zero)).cell g_a a (by simp)⟩) ?_
      clear hK K
      try simp only [putz]
      have Fg10 := hid hs.fresh
      have hs86 := hs.zero
      clear hs
      generalize wn85.alloc (.cells #[.int .u64 0, .int .u64 0, .int .u64 0, .int .u64 0] 24) = wn86 at *
      generalize wn85.heap.size = g10 at *
      have hs := hs86
      clear hs86
      refine Goes.one (i := 10) (o := ⟨none, _, _, _, _, _⟩) (by kernel_rfl) rfl (fun K hK => ?_)
      obtain ⟨z0, z1, z2, z3⟩ := hs.cell g10 0 (by simp)
      have zl := hs.lt g10 0 (by simp)
      have zf := hs.frozen g10 0 (by simp)
      have hs87 := hs.set g10 0 (1) [(g11, 0)] (by simp) Fg10.out.1 (fun p hp => by simp only [List.mem_cons, List.not_mem_nil, or_false] at hp; rcases hp with rfl <;> first | exact ⟨by simp, (Fg10.out.2 (g11, 0) (by simp))⟩)
      go_simp
      refine hK.out _ _ (⟨(R1.out.on (Env.below hs87)).cell.1, (E1.out.on (Env.below hs87)).cell g_a a (by simp)⟩) ?_
      clear hK K
      try simp only [putz]
      clear hs z0 z1 z2 z3 zl zf
      change Goes _ _ _ _ _ _ _ _ (fil wn86 g10 (1))
      generalize fil wn86 g10 (1) = wn87 at *
      have hs := hs87
      clear hs87
      refine Goes.one (i := 11) (o := ⟨none, _, _, _, _, _⟩) (by kernel_rfl) rfl (fun K hK => ?_)
      obtain ⟨z0, z1, z2, z3⟩ := hs.cell g11 0 (by simp)
      have zl := hs.lt g11 0 (by simp)
      have zf := hs.frozen g11 0 (by simp)
      have hs88 := hs.set g11 0 (a) [(g10, 1)] (by simp) Fg11.out.1 (fun p hp => by simp only [List.mem_cons, List.not_mem_nil, or_false] at hp; rcases hp with rfl <;> first | exact ⟨by simp, (Ne.symm (Fg10.out.2 (g11, 0) (by simp)))⟩)
      go_simp
      refine hK.out _ _ (⟨(R1.out.on (Env.below hs88)).cell.1, (E1.out.on (Env.below hs88)).cell g_a a (by simp)⟩) ?_
      clear hK K
      try simp only [putz]
      clear hs z0 z1 z2 z3 zl zf
      change Goes _ _ _ _ _ _ _ _ (fil wn87 g11 (a))
      generalize fil wn87 g11 (a) = wn88 at *
      have hs := hs88
      clear hs88
      refine Goes.done (by kernel_rfl) ?_ _
      refine NoPanic.normal ?_
      go_wp2_with fail
      go_meet
      exact ⟨_, _, rfl, rfl, hid (hs.perm (by simp)), hid ⟨Fg10.out.1, Fg11.out.1, (Ne.symm (Fg10.out.2 (g11, 0) (by simp)))⟩⟩
     ·skip
      go_simp
      refine hK.out _ _ (⟨(R1.out.on (Env.below hs.zero)).cell.1, (E1.out.on (Env.below hs.zero)).cell g_a a (by simp)⟩) ?_
      clear hK K
      try simp only [putz]
      have Fg10 := hid hs.fresh
      have hs89 := hs.zero
      clear hs
      generalize wn84.alloc (.cells #[.int .u64 0, .int .u64 0, .int .u64 0, .int .u64 0] 24) = wn89 at *
      generalize wn84.heap.size = g10 at *
      have hs := hs89
      clear hs89
      refine Goes.one (i := 7) (o := ⟨some 31, _, _, _, _, _⟩) (by kernel_rfl) rfl (fun K hK => ?_)
      go_simp
      with_reducible refine (env_of (same_any a _) hs).mono ?_
      rintro e wn90 ⟨rfl, hs90⟩
      go_wp2_with fail
      refine hK.out _ _ (⟨(R1.out.on (Env.below hs90)).cell.1, (E1.out.on (Env.below hs90)).cell g_a a (by simp)⟩) ?_
      clear hK K
      try simp only [putz]
      clear hs
      have hs := hs90
      clear hs90
      refine Goes.one (i := 10) (o := ⟨none, _, _, _, _, _⟩) (by kernel_rfl) rfl (fun K hK => ?_)
      obtain ⟨z0, z1, z2, z3⟩ := hs.cell g10 0 (by simp)
      have zl := hs.lt g10 0 (by simp)
      have zf := hs.frozen g10 0 (by simp)
      have hs91 := hs.set g10 0 (1) [(g11, 0)] (by simp) Fg10.out.1 (fun p hp => by simp only [List.mem_cons, List.not_mem_nil, or_false] at hp; rcases hp with rfl <;> first | exact ⟨by simp, (Fg10.out.2 (g11, 0) (by simp))⟩)
      go_simp
      refine hK.out _ _ (⟨(R1.out.on (Env.below hs91)).cell.1, (E1.out.on (Env.below hs91)).cell g_a a (by simp)⟩) ?_
      clear hK K
      try simp only [putz]
      clear hs z0 z1 z2 z3 zl zf
      change Goes _ _ _ _ _ _ _ _ (fil wn90 g10 (1))
      generalize fil wn90 g10 (1) = wn91 at *
      have hs := hs91
      clear hs91
      refine Goes.one (i := 11) (o := ⟨none, _, _, _, _, _⟩) (by kernel_rfl) rfl (fun K hK => ?_)
      obtain ⟨z0, z1, z2, z3⟩ := hs.cell g11 0 (by simp)
      have zl := hs.lt g11 0 (by simp)
      have zf := hs.frozen g11 0 (by simp)
      have hs92 := hs.set g11 0 (a) [(g10, 1)] (by simp) Fg11.out.1 (fun p hp => by simp only [List.mem_cons, List.not_mem_nil, or_false] at hp; rcases hp with rfl <;> first | exact ⟨by simp, (Ne.symm (Fg10.out.2 (g11, 0) (by simp)))⟩)
      go_simp
      refine hK.out _ _ (⟨(R1.out.on (Env.below hs92)).cell.1, (E1.out.on (Env.below hs92)).cell g_a a (by simp)⟩) ?_
      clear hK K
      try simp only [putz]
      clear hs z0 z1 z2 z3 zl zf
      change Goes _ _ _ _ _ _ _ _ (fil wn91 g11 (a))
      generalize fil wn91 g11 (a) = wn92 at *
      have hs := hs92
      clear hs92
      refine Goes.done (by kernel_rfl) ?_ _
      refine NoPanic.normal ?_
      go_wp2_with fail
      go_meet
      exact ⟨_, _, rfl, rfl, hid (hs.perm (by simp)), hid ⟨Fg10.out.1, Fg11.out.1, (Ne.symm (Fg10.out.2 (g11, 0) (by simp)))⟩⟩
    ·skip
     go_simp
     refine hK.out _ _ (⟨(R1.out.on (Env.below hs.zero)).cell.1, (E1.out.on (Env.below hs.zero)).cell g_a a (by simp)⟩) ?_
     clear hK K
     try simp only [putz]
     have Fg10 := hid hs.fresh
     have hs93 := hs.zero
     clear hs
     generalize wn83.alloc (.cells #[.int .u64 0, .int .u64 0, .int .u64 0, .int .u64 0] 24) = wn93 at *
     generalize wn83.heap.size = g10 at *
     have hs := hs93
     clear hs93
     refine Goes.one (i := 3) (o := ⟨some 27, _, _, _, _, _⟩) (by kernel_rfl) rfl (fun K hK => ?_)
     go_simp
     with_reducible refine (env_of (same_any 1 _) hs).mono ?_
     rintro e wn94 ⟨rfl, hs94⟩
     go_wp2_with fail
     refine hK.out _ _ (⟨(R1.out.on (Env.below hs94)).cell.1, (E1.out.on (Env.below hs94)).cell g_a a (by simp)⟩) ?_
     clear hK K
     try simp only [putz]
     clear hs
     have hs := hs94
     clear hs94
     refine Goes.one (i := 7) (o := ⟨some 31, _, _, _, _, _⟩) (by kernel_rfl) rfl (fun K hK => ?_)
     go_simp
     with_reducible refine (env_of (same_any a _) hs).mono ?_
     rintro e wn95 ⟨rfl, hs95⟩
     go_wp2_with fail
     refine hK.out _ _ (⟨(R1.out.on (Env.below hs95)).cell.1, (E1.out.on (Env.below hs95)).cell g_a a (by simp)⟩) ?_
     clear hK K
     try simp only [putz]
     clear hs
     have hs := hs95
     clear hs95
     refine Goes.one (i := 10) (o := ⟨none, _, _, _, _, _⟩) (by kernel_rfl) rfl (fun K hK => ?_)
     obtain ⟨z0, z1, z2, z3⟩ := hs.cell g10 0 (by simp)
     have zl := hs.lt g10 0 (by simp)
     have zf := hs.frozen g10 0 (by simp)
     have hs96 := hs.set g10 0 (1) [(g11, 0)] (by simp) Fg10.out.1 (fun p hp => by simp only [List.mem_cons, List.not_mem_nil, or_false] at hp; rcases hp with rfl <;> first | exact ⟨by simp, (Fg10.out.2 (g11, 0) (by simp))⟩)
     go_simp
     refine hK.out _ _ (⟨(R1.out.on (Env.below hs96)).cell.1, (E1.out.on (Env.below hs96)).cell g_a a (by simp)⟩) ?_
     clear hK K
     try simp only [putz]
     clear hs z0 z1 z2 z3 zl zf
     change Goes _ _ _ _ _ _ _ _ (fil wn95 g10 (1))
     generalize fil wn95 g10 (1) = wn96 at *
     have hs := hs96
     clear hs96
     refine Goes.one (i := 11) (o := ⟨none, _, _, _, _, _⟩) (by kernel_rfl) rfl (fun K hK => ?_)
     obtain ⟨z0, z1, z2, z3⟩ := hs.cell g11 0 (by simp)
     have zl := hs.lt g11 0 (by simp)
     have zf := hs.frozen g11 0 (by simp)
     have hs97 := hs.set g11 0 (a) [(g10, 1)] (by simp) Fg11.out.1 (fun p hp => by simp only [List.mem_cons, List.not_mem_nil, or_false] at hp; rcases hp with rfl <;> first | exact ⟨by simp, (Ne.symm (Fg10.out.2 (g11, 0) (by simp)))⟩)
     go_simp
     refine hK.out _ _ (⟨(R1.out.on (Env.below hs97)).cell.1, (E1.out.on (Env.below hs97)).cell g_a a (by simp)⟩) ?_
     clear hK K
     try simp only [putz]
     clear hs z0 z1 z2 z3 zl zf
     change Goes _ _ _ _ _ _ _ _ (fil wn96 g11 (a))
     generalize fil wn96 g11 (a) = wn97 at *
     have hs := hs97
     clear hs97
     refine Goes.done (by kernel_rfl) ?_ _
     refine NoPanic.normal ?_
     go_wp2_with fail
     go_meet
     exact ⟨_, _, rfl, rfl, hid (hs.perm (by simp)), hid ⟨Fg10.out.1, Fg11.out.1, (Ne.symm (Fg10.out.2 (g11, 0) (by simp)))⟩⟩
   ·skip
    go_simp
    refine hK.out _ _ (⟨(R1.out.on (Env.below hs.zero)).cell.1, (E1.out.on (Env.below hs.zero)).cell g_a a (by simp)⟩) ?_
    clear hK K
    try simp only [putz]
    have Fg10 := hid hs.fresh
    have hs98 := hs.zero
    clear hs
    generalize wn82.alloc (.cells #[.int .u64 0, .int .u64 0, .int .u64 0, .int .u64 0] 24) = wn98 at *
    generalize wn82.heap.size = g10 at *
    have hs := hs98
    clear hs98
    refine Goes.one (i := 2) (o := ⟨some 26, _, _, _, _, _⟩) (by kernel_rfl) rfl (fun K hK => ?_)
    go_simp
    with_reducible refine (lof_at 1 1 hs (by decide) (by decide)).mono ?_
    rintro e wn99 ⟨rfl, hs99⟩
    go_wp2_with fail
    refine hK.out _ _ (⟨(R1.out.on (Env.below hs99)).cell.1, (E1.out.on (Env.below hs99)).cell g_a a (by simp)⟩) ?_
    clear hK K
    try simp only [putz]
    clear hs
    have hs := hs99
    clear hs99
    refine Goes.one (i := 3) (o := ⟨some 27, _, _, _, _, _⟩) (by kernel_rfl) rfl (fun K hK => ?_)
    go_simp
    with_reducible refine (env_of (same_any 1 _) hs).mono ?_
    rintro e wn100 ⟨rfl, hs100⟩
    go_wp2_with fail
    refine hK.out _ _ (⟨(R1.out.on (Env.below hs100)).cell.1, (E1.out.on (Env.below hs100)).cell g_a a (by simp)⟩) ?_
    clear hK K
    try simp only [putz]
    clear hs
    have hs := hs100
    clear hs100
    refine Goes.one (i := 7) (o := ⟨some 31, _, _, _, _, _⟩) (by kernel_rfl) rfl (fun K hK => ?_)
    go_simp
    with_reducible refine (env_of (same_any a _) hs).mono ?_
    rintro e wn101 ⟨rfl, hs101⟩
    go_wp2_with fail
    refine hK.out _ _ (⟨(R1.out.on (Env.below hs101)).cell.1, (E1.out.on (Env.below hs101)).cell g_a a (by simp)⟩) ?_
    clear hK K
    try simp only [putz]
    clear hs
    have hs := hs101
    clear hs101
    refine Goes.one (i := 10) (o := ⟨none, _, _, _, _, _⟩) (by kernel_rfl) rfl (fun K hK => ?_)
    obtain ⟨z0, z1, z2, z3⟩ := hs.cell g10 0 (by simp)
    have zl := hs.lt g10 0 (by simp)
    have zf := hs.frozen g10 0 (by simp)
    have hs102 := hs.set g10 0 (1) [(g11, 0)] (by simp) Fg10.out.1 (fun p hp => by simp only [List.mem_cons, List.not_mem_nil, or_false] at hp; rcases hp with rfl <;> first | exact ⟨by simp, (Fg10.out.2 (g11, 0) (by simp))⟩)
    go_simp
    refine hK.out _ _ (⟨(R1.out.on (Env.below hs102)).cell.1, (E1.out.on (Env.below hs102)).cell g_a a (by simp)⟩) ?_
    clear hK K
    try simp only [putz]
    clear hs z0 z1 z2 z3 zl zf
    change Goes _ _ _ _ _ _ _ _ (fil wn101 g10 (1))
    generalize fil wn101 g10 (1) = wn102 at *
    have hs := hs102
    clear hs102
    refine Goes.one (i := 11) (o := ⟨none, _, _, _, _, _⟩) (by kernel_rfl) rfl (fun K hK => ?_)
    obtain ⟨z0, z1, z2, z3⟩ := hs.cell g11 0 (by simp)
    have zl := hs.lt g11 0 (by simp)
    have zf := hs.frozen g11 0 (by simp)
    have hs103 := hs.set g11 0 (a) [(g10, 1)] (by simp) Fg11.out.1 (fun p hp => by simp only [List.mem_cons, List.not_mem_nil, or_false] at hp; rcases hp with rfl <;> first | exact ⟨by simp, (Ne.symm (Fg10.out.2 (g11, 0) (by simp)))⟩)
    go_simp
    refine hK.out _ _ (⟨(R1.out.on (Env.below hs103)).cell.1, (E1.out.on (Env.below hs103)).cell g_a a (by simp)⟩) ?_
    clear hK K
    try simp only [putz]
    clear hs z0 z1 z2 z3 zl zf
    change Goes _ _ _ _ _ _ _ _ (fil wn102 g11 (a))
    generalize fil wn102 g11 (a) = wn103 at *
    have hs := hs103
    clear hs103
    refine Goes.done (by kernel_rfl) ?_ _
    refine NoPanic.normal ?_
    go_wp2_with fail
    go_meet
    exact ⟨_, _, rfl, rfl, hid (hs.perm (by simp)), hid ⟨Fg10.out.1, Fg11.out.1, (Ne.symm (Fg10.out.2 (g11, 0) (by simp)))⟩⟩
 case rest =>
  obtain ⟨g10, g11, rfl, rfl, H2, DD⟩ := hcut
  go_wp2_with fail
  go_loopw [33] (fun s wr => ∃ i k p : Nat, i + k = c ∧ s = .int .i64 (i : Int) ∧ Hid (p = a ^ (n / 2 ^ k) % m) ∧ Hid (Env wv [(g10, p), (g11, a)] wr)) (fun s _ => c - (intOf s).toNat)
  case atStart => exact ⟨0, c, 1, by omega, rfl, hid (show 1 = a ^ (n / 2 ^ c) % m by rw [PF0.out, Nat.mod_eq_of_lt M1.out]), H2⟩
  case round =>
   obtain ⟨i, k, p, hk, rfl, P, H⟩ := hrel
   clear H2
   have PL := hid (show p < m by rw [P.out]; exact Nat.mod_lt _ (by have := M1.out; omega))
   by_cases h0 : k = 0
   ·subst h0
    have nlt : ¬ ((i : Int) < (c : Int)) := by omega
    have PE := hid (show p = a ^ n % m by have := P.out; rwa [Nat.pow_zero, Nat.div_one] at this)
    obtain ⟨k0, k1, k2⟩ := (R1.out.on H.out.below).cell
    have kl := (R1.out.on H.out.below).lt
    obtain ⟨c0x5a, c0x5b, c0x5c, c0x5d⟩ := H.out.cell (g10) (p) (by simp)
    have c0x5l := H.out.lt (g10) (p) (by simp)
    have c0x5m := Nat.le_of_lt c0x5l
    go_wp2_with fail
    clear k0 k1 k2 kl
    clear c0x5a c0x5b c0x5c c0x5d c0x5l c0x5m
    refine (env_of (same_any p _) H.out).mono ?_
    rintro e w6 ⟨rfl, h⟩
    have H6 := hid h
    clear h H
    have HQ := hid (E1.out.on H6.out.below)
    obtain ⟨z0, z1, z2, z3⟩ := HQ.out.cell g_z 0 (by simp)
    have zl := HQ.out.lt g_z 0 (by simp)
    have zf := HQ.out.frozen g_z 0 (by simp)
    have HZ := hid (HQ.out.set g_z 0 (p) [] (by simp) (by rw [hzg_a]; exact DZ.out) (by simp))
    go_wp2
    clear z0 z1 z2 z3 zl zf
    try rw [Exit.noGoto_ret]
    change bodyPost _ _ _ _ _ (fil w6 g_z (p))
    generalize fil w6 g_z (p) = wz at *
    obtain ⟨k0, k1, k2, k3⟩ := HZ.out.cell g_z (p) (by simp)
    exact bodyPost_ret (v := .tuple #[num (p), .int .i64 0]) (by simp [results, Tryd.results48, go_sem, k0, k1, k2, k3]) rfl ⟨by rw [← PE.out], HZ.out.1⟩
   ·obtain ⟨j, rfl⟩ : ∃ j, k = j + 1 := ⟨k - 1, by omega⟩
    clear h0
    have A1 : IntKind.i64.wrap ((c : Int) - 1) = (c : Int) - 1 := IntWalk.i64_in _ (by omega)
    have A2 : IntKind.i64.wrap ((c : Int) - 1 - (i : Int)) = (j : Int) := by rw [IntWalk.i64_in _ (by omega)]; omega
    have lt1 : (i : Int) < (c : Int) := by omega
    obtain ⟨t, et⟩ : ∃ x, p * p % m = x := ⟨_, rfl⟩
    have Et := hid et
    clear et
    obtain ⟨u, eu⟩ : ∃ x, p * p % m * a % m = x := ⟨_, rfl⟩
    have Eu := hid eu
    clear eu
    have P2 := hid (Nat.lt_trans PL.out ML.out)
    have TL := hid (show t < m by rw [← Et.out]; exact Nat.mod_lt _ (by have := M1.out; omega))
    have T2 := hid (Nat.lt_trans TL.out ML.out)
    have M0 := hid (show m ≠ 0 by have := M1.out; omega)
    have EU := hid (show t * a % m = u by rw [← Eu.out, Et.out])
    have S0 := hid (show bitAt n j = 0 → t = a ^ (n / 2 ^ j) % m from fun hb => by rw [← Et.out, P.out, exp_step0 hb])
    have S1 := hid (show bitAt n j = 1 → u = a ^ (n / 2 ^ j) % m from fun hb => by rw [← Eu.out, P.out, exp_step1 hb])
    have JB := hid (show (j : Int) ≤ 9223372036854775807 by omega)
    go_upto_region 9 with fail
    go_cut [] (fun wx => Hid (Env wv [(g10, t), (g11, a)] wx))
    case first =>
     obtain ⟨k0, k1, k2⟩ := (R1.out.on H.out.below).cell
     have kl := (R1.out.on H.out.below).lt
     obtain ⟨c0x6a, c0x6b, c0x6c, c0x6d⟩ := H.out.cell (g10) (p) (by simp)
     have c0x6l := H.out.lt (g10) (p) (by simp)
     have c0x6m := Nat.le_of_lt c0x6l
     go_wp2_with fail
     clear k0 k1 k2 kl
     clear c0x6a c0x6b c0x6c c0x6d c0x6l c0x6m
     refine (env_of (rmul_b p p m t gb _ ((E1.out.on H.out.below).nm gb m (by simp)) P2.out P2.out ML.out M0.out Et.out) H.out).mono ?_
     rintro e w7 ⟨rfl, h⟩
     have H7 := hid h
     clear h H
     obtain ⟨c0x7a, c0x7b, c0x7c, c0x7d⟩ := H7.out.cell (g10) (p) (by simp)
     have c0x7l := H7.out.lt (g10) (p) (by simp)
     have c0x7m := Nat.le_of_lt c0x7l
     have f6x7 := H7.out.frozen g10 p (by simp)
     have HZ := hid (H7.out.set g10 p t [(g11, a)] (by simp) DD.out.1 (fun q hq => by simp only [List.mem_cons, List.not_mem_nil, or_false] at hq; subst hq; exact ⟨by simp, Ne.symm DD.out.2.2⟩))
     go_wp2_with fail
     go_meet
     exact HZ
    case rest =>
     have H4 : Hid (Env wv [(g10, t), (g11, a)] wc) := hcut
     clear hcut H
     have HN := hid (E1.out.on H4.out.below)
     obtain ⟨n0, n1, n2, n3⟩ := HN.out.cell g_b n (by simp)
     have nl := HN.out.lt g_b n (by simp)
     have hb := bitAt_lt n j
     obtain ⟨b, eb⟩ : ∃ b, bitAt n j = b := ⟨_, rfl⟩
     have hbi : Hid ((bi n (j : Int) : Int) = (b : Int)) := hid (by unfold bi; rw [if_neg (by omega), Int.toNat_natCast, eb])
     rw [eb] at hb
     have EB := hid eb
     clear eb
     go_wp2_with fail
     clear n0 n1 n2 n3 nl HN
     refine (bit_at n (j : Int) (b : Int) H4.out NL.out (by omega) JB.out hbi.out).mono ?_
     rintro e w8 ⟨rfl, h⟩
     have H8 := hid h
     clear h H4
     by_cases hb1 : b = 1
     ·subst hb1
      obtain ⟨k0, k1, k2⟩ := (R1.out.on H8.out.below).cell
      have kl := (R1.out.on H8.out.below).lt
      obtain ⟨c0x8a, c0x8b, c0x8c, c0x8d⟩ := H8.out.cell (g10) (t) (by simp)
      have c0x8l := H8.out.lt (g10) (t) (by simp)
      have c0x8m := Nat.le_of_lt c0x8l
      obtain ⟨c6x8a, c6x8b, c6x8c, c6x8d⟩ := H8.out.cell (g11) (a) (by simp)
      have c6x8l := H8.out.lt (g11) (a) (by simp)
      have c6x8m := Nat.le_of_lt c6x8l
      go_wp2_with fail
      clear k0 k1 k2 kl
      clear c0x8a c0x8b c0x8c c0x8d c0x8l c0x8m c6x8a c6x8b c6x8c c6x8d c6x8l c6x8m
      refine (env_of (rmul_b t a m u gb _ ((E1.out.on H8.out.below).nm gb m (by simp)) T2.out AL.out ML.out M0.out EU.out) H8.out).mono ?_
      rintro e w9 ⟨rfl, h⟩
      have H9 := hid h
      clear h H8
      obtain ⟨c0x9a, c0x9b, c0x9c, c0x9d⟩ := H9.out.cell (g10) (t) (by simp)
      have c0x9l := H9.out.lt (g10) (t) (by simp)
      have c0x9m := Nat.le_of_lt c0x9l
      have f6x9 := H9.out.frozen g10 t (by simp)
      have HZ := hid (H9.out.set g10 t u [(g11, a)] (by simp) DD.out.1 (fun q hq => by simp only [List.mem_cons, List.not_mem_nil, or_false] at hq; subst hq; exact ⟨by simp, Ne.symm DD.out.2.2⟩))
      go_wp2_with fail
      clear c0x9a c0x9b c0x9c c0x9d c0x9l c0x9m f6x9
      go_roundw
      case measure => simp [intOf]; omega
      case rel => exact ⟨i + 1, j, u, by omega, by simp, hid (S1.out EB.out), HZ⟩
     ·have hb0 : b = 0 := by omega
      subst hb0
      clear hb1
      go_wp2_with fail
      go_roundw
      case measure => simp [intOf]; omega
      case rel => exact ⟨i + 1, j, t, by omega, by simp, hid (S0.out EB.out), H8⟩
end Go.Proofs.YtioebjbjpjbodaaDoor

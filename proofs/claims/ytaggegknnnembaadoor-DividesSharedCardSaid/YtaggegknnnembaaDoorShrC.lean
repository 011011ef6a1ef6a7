/-
  burrowlaw03.DividesShared, region 11, walked by itself. Conditions: as written.
-/
import Derived.Test.YtaggegknnnembaaDoorShrA
namespace Go.Proofs.YtaggegknnnembaaDoor
open Go.RowKit
set_option linter.unusedVariables false

/-- region 11 of the law -/
noncomputable def sr11 : Code := ((Tryd.f5.body.bind (findRegion 11)).getD .skip)
set_option maxRecDepth 100000 in
set_option maxHeartbeats 8000000 in
theorem sr11_ok {w wq : World} {g14 g11 g7 g_b g_a a b c r0 r1 n q r : Nat} {Q : Exit → Act → World → Prop} (HQ : Hid (Env w [(g14, r1), (g11, r0), (g7, c), (g_b, b), (g_a, a)] wq)) (NL : Hid (n < 18446744073709551616)) (NB : Hid (n < 2 ^ 256)) (N0 : Hid (n ≠ 0)) (cw : IntKind.u64.wrap (n : Int) = (n : Int)) (XL : Hid (c < 2 ^ 256)) (EQ : Hid (c / n = q)) (ER : Hid (c % n = r)) (c0 c1 c3 c4 c5 c6 c8 c9 c10 c11 c12 c13 c14 c15 c16 c17 c18 c19 c20 c21 c22 c23 c24 c25 c26 c27 c28 c29 c30 c31 c32 c33 c34 c35 c36 c37 c38 c39 c40 c41 c42 c43 c44 c45 c46 c47 c48 c49 c50 c51 c52 c53 c54 c55 c56 c57 c58 c59 c60 c61 c62 c63 c64 c65 c66 c67 c68 c69 c70 c71 c72 c73 c74 c75 c76 c77 c78 c79 c80 c81 c82 c83 c84 c85 c86 c87 c88 c89 c90 c91 c92 c93 c94 c95 c96 c97 c98 c99 c100 c101 c102 c103 c104 c105 c106 c107 c108 c109 c110 c111 c112 c113 : Value)
    (hQ : Hid (∀ (d16 d18 d90 d91 d92 d93 d94 d95 d96 d97 d98 : Value) (gz : Nat) (wn : World), Hid (Env w [(gz, r), (g14, r1), (g11, r0), (g7, c), (g_b, b), (g_a, a)] wn) → Q .normal ⟨#[c0, c1, .int .u32 (n : Int), c3, c4, c5, c6, .pointer (some ⟨g7, 0, none⟩), c8, c9, c10, c11, c12, c13, c14, c15, d16, .pointer (some ⟨gz, 0, none⟩), d18, c19, c20, c21, c22, c23, c24, c25, c26, c27, c28, c29, c30, c31, c32, c33, c34, c35, c36, c37, c38, c39, c40, c41, c42, c43, c44, c45, c46, c47, c48, c49, c50, c51, c52, c53, c54, c55, c56, c57, c58, c59, c60, c61, c62, c63, c64, c65, c66, c67, c68, c69, c70, c71, c72, c73, c74, c75, c76, c77, c78, c79, c80, c81, c82, c83, c84, c85, c86, c87, c88, c89, d90, d91, d92, d93, d94, d95, d96, d97, d98, c99, c100, c101, c102, c103, c104, c105, c106, c107, c108, c109, c110, c111, c112, c113], []⟩ wn)) : Code.wp Tryd.prog sr11 Q ⟨#[c0, c1, .int .u32 (n : Int), c3, c4, c5, c6, .pointer (some ⟨g7, 0, none⟩), c8, c9, c10, c11, c12, c13, c14, c15, c16, c17, c18, c19, c20, c21, c22, c23, c24, c25, c26, c27, c28, c29, c30, c31, c32, c33, c34, c35, c36, c37, c38, c39, c40, c41, c42, c43, c44, c45, c46, c47, c48, c49, c50, c51, c52, c53, c54, c55, c56, c57, c58, c59, c60, c61, c62, c63, c64, c65, c66, c67, c68, c69, c70, c71, c72, c73, c74, c75, c76, c77, c78, c79, c80, c81, c82, c83, c84, c85, c86, c87, c88, c89, c90, c91, c92, c93, c94, c95, c96, c97, c98, c99, c100, c101, c102, c103, c104, c105, c106, c107, c108, c109, c110, c111, c112, c113], []⟩ wq := by
  conv => arg 2; whnf
  have hs := HQ.out.drew
  refine wp_region_noPanic ?_
  refine Goes.region (fun (L : Array Bool) (w' : World) => w'.cell? ⟨g7, 0, none⟩ = some (.int .u64 (wd (c) 0 : Int)) ∧ w'.cell? ⟨g7, 1, none⟩ = some (.int .u64 (wd (c) 1 : Int)) ∧ w'.cell? ⟨g7, 2, none⟩ = some (.int .u64 (wd (c) 2 : Int)) ∧ w'.cell? ⟨g7, 3, none⟩ = some (.int .u64 (wd (c) 3 : Int))) (by kernel_rfl) ?_
  generalize wq.drew = wdr at *
  have hT := hid (((hs).cell g7 (c) (by simp)))
  refine Goes.tk (i := 0) (o := ⟨some 91, _, _, _, _, _⟩) (v := ?_) [] (y := Or.inl ⟨by rfl, ?_⟩) (s := hT.out) (H := ?_)
  rotate_left
  · rintro w ⟨up, -, hX⟩; (try dsimp only at hX); obtain ⟨x0, x1, x2, x3⟩ := hX; go_simp; try with_reducible rfl
  try simp only [putz]
  refine Goes.tk (i := 1) (o := ⟨some 92, _, _, _, _, _⟩) (v := ?_) [] (y := Or.inl ⟨by rfl, ?_⟩) (s := hT.out) (H := ?_)
  rotate_left
  · intro w hY; go_simp; try with_reducible rfl
  try simp only [putz]
  refine Goes.tk (i := 2) (o := ⟨some 93, _, _, _, _, _⟩) (v := ?_) [] (y := Or.inl ⟨by rfl, ?_⟩) (s := hT.out) (H := ?_)
  rotate_left
  · intro w hY; go_simp; try with_reducible rfl
  try simp only [putz]
  refine Goes.three (i := 3) (j := 9) (k := 10) (o := ⟨some 94, _, _, _, _, _⟩) (p := ⟨some 16, _, _, _, _, _⟩) (q := ⟨some 17, _, _, _, _, _⟩) (by kernel_rfl) rfl rfl rfl (fun K hK => ?_) (fun K hK => ?_) (fun K hK => ?_)
  · skip
    go_simp
    with_reducible refine (ofl3_at n (n : Int) hs NL.out rfl).mono ?_
    rintro e wn1 ⟨rfl, hs1⟩
    go_wp2_with fail
    clear hT
    have hT := hid (((hs1).cell g7 (c) (by simp)))
    refine hK.out _ _ (hT.out) ?_
    clear hK K
    try simp only [putz]
    clear hs
    have hs := hs1
    clear hs1
    refine Goes.three (i := 4) (j := 9) (k := 10) (o := ⟨some 95, _, _, _, _, _⟩) (p := ⟨some 16, _, _, _, _, _⟩) (q := ⟨some 17, _, _, _, _, _⟩) (by kernel_rfl) rfl rfl rfl (fun K hK => ?_) (fun K hK => ?_) (fun K hK => ?_)
    · skip
      go_simp
      with_reducible refine (div_at c n q r hs XL.out NB.out N0.out EQ.out ER.out).mono ?_
      rintro e wn2 ⟨rfl, hs2⟩
      go_wp2_with fail
      clear hT
      have hT := hid (((hs2).cell g7 (c) (by simp)))
      refine hK.out _ _ (hT.out) ?_
      clear hK K
      try simp only [putz]
      clear hs
      have hs := hs2
      clear hs2
      refine Goes.tk (i := 5) (o := ⟨some 90, _, _, _, _, _⟩) (v := ?_) [] (y := Or.inl ⟨by rfl, ?_⟩) (s := hT.out) (H := ?_)
      rotate_left
      · intro w hY; go_simp; try with_reducible rfl
      try simp only [putz]
      refine Goes.tk (i := 6) (o := ⟨some 96, _, _, _, _, _⟩) (v := ?_) [] (y := Or.inl ⟨by rfl, ?_⟩) (s := hT.out) (H := ?_)
      rotate_left
      · intro w hY; go_simp; try with_reducible rfl
      try simp only [putz]
      refine Goes.tk (i := 7) (o := ⟨some 97, _, _, _, _, _⟩) (v := ?_) [] (y := Or.inl ⟨by rfl, ?_⟩) (s := hT.out) (H := ?_)
      rotate_left
      · intro w hY; go_simp; try with_reducible rfl
      try simp only [putz]
      refine Goes.tk (i := 8) (o := ⟨some 98, _, _, _, _, _⟩) (v := ?_) [] (y := Or.inl ⟨by rfl, ?_⟩) (s := hT.out) (H := ?_)
      rotate_left
      · intro w hY; go_simp; try with_reducible rfl
      try simp only [putz]
      refine Goes.two (i := 9) (j := 10) (o := ⟨some 16, _, _, _, _, _⟩) (p := ⟨some 17, _, _, _, _, _⟩) (by kernel_rfl) rfl rfl (fun K hK => ?_) (fun K hK => ?_)
      · skip
        go_simp
        clear hT
        have hT := hid (((hs.zero).cell g7 (c) (by simp)))
        refine hK.out _ _ (hT.out) ?_
        clear hK K
        try simp only [putz]
        have Fg16 := hid hs.fresh
        have hs3 := hs.zero
        clear hs
        generalize wn2.alloc (.cells #[.int .u64 0, .int .u64 0, .int .u64 0, .int .u64 0] 24) = wn3 at *
        generalize wn2.heap.size = g16 at *
        have hs := hs3
        clear hs3
        refine Goes.one (i := 10) (o := ⟨some 17, _, _, _, _, _⟩) (by kernel_rfl) rfl (fun K hK => ?_)
        go_simp
        clear hT
        have hT := hid (((hs.zero).cell g7 (c) (by simp)))
        refine hK.out _ _ (hT.out) ?_
        clear hK K
        try simp only [putz]
        have Fg17 := hid hs.fresh
        have hs4 := hs.zero
        clear hs
        generalize wn3.alloc (.cells #[.int .u64 0, .int .u64 0, .int .u64 0, .int .u64 0] 24) = wn4 at *
        generalize wn3.heap.size = g17 at *
        have hs := hs4
        clear hs4
        refine Goes.one (i := 11) (o := ⟨none, _, _, _, _, _⟩) (by kernel_rfl) rfl (fun K hK => ?_)
        obtain ⟨z0, z1, z2, z3⟩ := hs.cell g16 (0) (by simp)
        have zl := hs.lt g16 (0) (by simp)
        have zf := hs.frozen g16 (0) (by simp)
        have hs5 := hs.set g16 (0) (q) [(g17, 0), (g14, r1), (g11, r0), (g7, c), (g_b, b), (g_a, a)] (by simp) Fg16.out.1 (fun p hp => by simp only [List.mem_cons, List.not_mem_nil, or_false] at hp; rcases hp with rfl | rfl | rfl | rfl | rfl | rfl <;> first | exact ⟨by simp, Ne.symm (Fg17.out.2 (g16, 0) (by simp))⟩ | exact ⟨by simp, Fg16.out.2 (g14, r1) (by simp)⟩ | exact ⟨by simp, Fg16.out.2 (g11, r0) (by simp)⟩ | exact ⟨by simp, Fg16.out.2 (g7, c) (by simp)⟩ | exact ⟨by simp, Fg16.out.2 (g_b, b) (by simp)⟩ | exact ⟨by simp, Fg16.out.2 (g_a, a) (by simp)⟩)
        go_simp
        clear hT
        have hT := hid (((hs5).cell g7 (c) (by simp)))
        refine hK.out _ _ (hT.out) ?_
        clear hK K
        try simp only [putz]
        clear hs z0 z1 z2 z3 zl zf
        change Goes _ _ _ _ _ _ _ _ (fil wn4 g16 (q))
        generalize fil wn4 g16 (q) = wn5 at *
        have hs := hs5
        clear hs5
        refine Goes.one (i := 12) (o := ⟨none, _, _, _, _, _⟩) (by kernel_rfl) rfl (fun K hK => ?_)
        obtain ⟨z0, z1, z2, z3⟩ := hs.cell g17 (0) (by simp)
        have zl := hs.lt g17 (0) (by simp)
        have zf := hs.frozen g17 (0) (by simp)
        have hs6 := hs.set g17 (0) (r) [(g16, q), (g14, r1), (g11, r0), (g7, c), (g_b, b), (g_a, a)] (by simp) Fg17.out.1 (fun p hp => by simp only [List.mem_cons, List.not_mem_nil, or_false] at hp; rcases hp with rfl | rfl | rfl | rfl | rfl | rfl <;> first | exact ⟨by simp, Fg17.out.2 (g16, 0) (by simp)⟩ | exact ⟨by simp, Fg17.out.2 (g14, r1) (by simp)⟩ | exact ⟨by simp, Fg17.out.2 (g11, r0) (by simp)⟩ | exact ⟨by simp, Fg17.out.2 (g7, c) (by simp)⟩ | exact ⟨by simp, Fg17.out.2 (g_b, b) (by simp)⟩ | exact ⟨by simp, Fg17.out.2 (g_a, a) (by simp)⟩)
        go_simp
        clear hT
        have hT := hid (((hs6).cell g7 (c) (by simp)))
        refine hK.out _ _ (hT.out) ?_
        clear hK K
        try simp only [putz]
        clear hs z0 z1 z2 z3 zl zf
        change Goes _ _ _ _ _ _ _ _ (fil wn5 g17 (r))
        generalize fil wn5 g17 (r) = wn6 at *
        have hs := hs6
        clear hs6
        refine Goes.tk (i := 13) (o := ⟨some 18, _, _, _, _, _⟩) (v := ?_) [] (y := Or.inl ⟨by rfl, ?_⟩) (s := hT.out) (H := ?_)
        rotate_left
        · intro w hY; go_simp; try with_reducible rfl
        try simp only [putz]
        clear hT
        refine Goes.done (by kernel_rfl) ?_ _
        refine NoPanic.normal ?_
        exact hQ.out _ _ _ _ _ _ _ _ _ _ _ _ _ (hid (hs.perm (by simp)))
      · skip
        go_simp
        clear hT
        have hT := hid (((hs.zero).cell g7 (c) (by simp)))
        refine hK.out _ _ (hT.out) ?_
        clear hK K
        try simp only [putz]
        have Fg17 := hid hs.fresh
        have hs7 := hs.zero
        clear hs
        generalize wn2.alloc (.cells #[.int .u64 0, .int .u64 0, .int .u64 0, .int .u64 0] 24) = wn7 at *
        generalize wn2.heap.size = g17 at *
        have hs := hs7
        clear hs7
        refine Goes.one (i := 9) (o := ⟨some 16, _, _, _, _, _⟩) (by kernel_rfl) rfl (fun K hK => ?_)
        go_simp
        clear hT
        have hT := hid (((hs.zero).cell g7 (c) (by simp)))
        refine hK.out _ _ (hT.out) ?_
        clear hK K
        try simp only [putz]
        have Fg16 := hid hs.fresh
        have hs8 := hs.zero
        clear hs
        generalize wn7.alloc (.cells #[.int .u64 0, .int .u64 0, .int .u64 0, .int .u64 0] 24) = wn8 at *
        generalize wn7.heap.size = g16 at *
        have hs := hs8
        clear hs8
        refine Goes.one (i := 11) (o := ⟨none, _, _, _, _, _⟩) (by kernel_rfl) rfl (fun K hK => ?_)
        obtain ⟨z0, z1, z2, z3⟩ := hs.cell g16 (0) (by simp)
        have zl := hs.lt g16 (0) (by simp)
        have zf := hs.frozen g16 (0) (by simp)
        have hs9 := hs.set g16 (0) (q) [(g17, 0), (g14, r1), (g11, r0), (g7, c), (g_b, b), (g_a, a)] (by simp) Fg16.out.1 (fun p hp => by simp only [List.mem_cons, List.not_mem_nil, or_false] at hp; rcases hp with rfl | rfl | rfl | rfl | rfl | rfl <;> first | exact ⟨by simp, Fg16.out.2 (g17, 0) (by simp)⟩ | exact ⟨by simp, Fg16.out.2 (g14, r1) (by simp)⟩ | exact ⟨by simp, Fg16.out.2 (g11, r0) (by simp)⟩ | exact ⟨by simp, Fg16.out.2 (g7, c) (by simp)⟩ | exact ⟨by simp, Fg16.out.2 (g_b, b) (by simp)⟩ | exact ⟨by simp, Fg16.out.2 (g_a, a) (by simp)⟩)
        go_simp
        clear hT
        have hT := hid (((hs9).cell g7 (c) (by simp)))
        refine hK.out _ _ (hT.out) ?_
        clear hK K
        try simp only [putz]
        clear hs z0 z1 z2 z3 zl zf
        change Goes _ _ _ _ _ _ _ _ (fil wn8 g16 (q))
        generalize fil wn8 g16 (q) = wn9 at *
        have hs := hs9
        clear hs9
        refine Goes.one (i := 12) (o := ⟨none, _, _, _, _, _⟩) (by kernel_rfl) rfl (fun K hK => ?_)
        obtain ⟨z0, z1, z2, z3⟩ := hs.cell g17 (0) (by simp)
        have zl := hs.lt g17 (0) (by simp)
        have zf := hs.frozen g17 (0) (by simp)
        have hs10 := hs.set g17 (0) (r) [(g16, q), (g14, r1), (g11, r0), (g7, c), (g_b, b), (g_a, a)] (by simp) Fg17.out.1 (fun p hp => by simp only [List.mem_cons, List.not_mem_nil, or_false] at hp; rcases hp with rfl | rfl | rfl | rfl | rfl | rfl <;> first | exact ⟨by simp, Ne.symm (Fg16.out.2 (g17, 0) (by simp))⟩ | exact ⟨by simp, Fg17.out.2 (g14, r1) (by simp)⟩ | exact ⟨by simp, Fg17.out.2 (g11, r0) (by simp)⟩ | exact ⟨by simp, Fg17.out.2 (g7, c) (by simp)⟩ | exact ⟨by simp, Fg17.out.2 (g_b, b) (by simp)⟩ | exact ⟨by simp, Fg17.out.2 (g_a, a) (by simp)⟩)
        go_simp
        clear hT
        have hT := hid (((hs10).cell g7 (c) (by simp)))
        refine hK.out _ _ (hT.out) ?_
        clear hK K
        try simp only [putz]
        clear hs z0 z1 z2 z3 zl zf
        change Goes _ _ _ _ _ _ _ _ (fil wn9 g17 (r))
        generalize fil wn9 g17 (r) = wn10 at *
        have hs := hs10
        clear hs10
        refine Goes.tk (i := 13) (o := ⟨some 18, _, _, _, _, _⟩) (v := ?_) [] (y := Or.inl ⟨by rfl, ?_⟩) (s := hT.out) (H := ?_)
        rotate_left
        · intro w hY; go_simp; try with_reducible rfl
        try simp only [putz]
        clear hT
        refine Goes.done (by kernel_rfl) ?_ _
        refine NoPanic.normal ?_
        exact hQ.out _ _ _ _ _ _ _ _ _ _ _ _ _ (hid (hs.perm (by simp)))
    · skip
      go_simp
      clear hT
      have hT := hid (((hs.zero).cell g7 (c) (by simp)))
      refine hK.out _ _ (hT.out) ?_
      clear hK K
      try simp only [putz]
      have Fg16 := hid hs.fresh
      have hs11 := hs.zero
      clear hs
      generalize wn1.alloc (.cells #[.int .u64 0, .int .u64 0, .int .u64 0, .int .u64 0] 24) = wn11 at *
      generalize wn1.heap.size = g16 at *
      have hs := hs11
      clear hs11
      refine Goes.two (i := 4) (j := 10) (o := ⟨some 95, _, _, _, _, _⟩) (p := ⟨some 17, _, _, _, _, _⟩) (by kernel_rfl) rfl rfl (fun K hK => ?_) (fun K hK => ?_)
      · skip
        go_simp
        with_reducible refine (div_at c n q r hs XL.out NB.out N0.out EQ.out ER.out).mono ?_
        rintro e wn12 ⟨rfl, hs12⟩
        go_wp2_with fail
        clear hT
        have hT := hid (((hs12).cell g7 (c) (by simp)))
        refine hK.out _ _ (hT.out) ?_
        clear hK K
        try simp only [putz]
        clear hs
        have hs := hs12
        clear hs12
        refine Goes.tk (i := 5) (o := ⟨some 90, _, _, _, _, _⟩) (v := ?_) [] (y := Or.inl ⟨by rfl, ?_⟩) (s := hT.out) (H := ?_)
        rotate_left
        · intro w hY; go_simp; try with_reducible rfl
        try simp only [putz]
        refine Goes.tk (i := 6) (o := ⟨some 96, _, _, _, _, _⟩) (v := ?_) [] (y := Or.inl ⟨by rfl, ?_⟩) (s := hT.out) (H := ?_)
        rotate_left
        · intro w hY; go_simp; try with_reducible rfl
        try simp only [putz]
        refine Goes.tk (i := 7) (o := ⟨some 97, _, _, _, _, _⟩) (v := ?_) [] (y := Or.inl ⟨by rfl, ?_⟩) (s := hT.out) (H := ?_)
        rotate_left
        · intro w hY; go_simp; try with_reducible rfl
        try simp only [putz]
        refine Goes.tk (i := 8) (o := ⟨some 98, _, _, _, _, _⟩) (v := ?_) [] (y := Or.inl ⟨by rfl, ?_⟩) (s := hT.out) (H := ?_)
        rotate_left
        · intro w hY; go_simp; try with_reducible rfl
        try simp only [putz]
        refine Goes.one (i := 10) (o := ⟨some 17, _, _, _, _, _⟩) (by kernel_rfl) rfl (fun K hK => ?_)
        go_simp
        clear hT
        have hT := hid (((hs.zero).cell g7 (c) (by simp)))
        refine hK.out _ _ (hT.out) ?_
        clear hK K
        try simp only [putz]
        have Fg17 := hid hs.fresh
        have hs13 := hs.zero
        clear hs
        generalize wn12.alloc (.cells #[.int .u64 0, .int .u64 0, .int .u64 0, .int .u64 0] 24) = wn13 at *
        generalize wn12.heap.size = g17 at *
        have hs := hs13
        clear hs13
        refine Goes.one (i := 11) (o := ⟨none, _, _, _, _, _⟩) (by kernel_rfl) rfl (fun K hK => ?_)
        obtain ⟨z0, z1, z2, z3⟩ := hs.cell g16 (0) (by simp)
        have zl := hs.lt g16 (0) (by simp)
        have zf := hs.frozen g16 (0) (by simp)
        have hs14 := hs.set g16 (0) (q) [(g17, 0), (g14, r1), (g11, r0), (g7, c), (g_b, b), (g_a, a)] (by simp) Fg16.out.1 (fun p hp => by simp only [List.mem_cons, List.not_mem_nil, or_false] at hp; rcases hp with rfl | rfl | rfl | rfl | rfl | rfl <;> first | exact ⟨by simp, Ne.symm (Fg17.out.2 (g16, 0) (by simp))⟩ | exact ⟨by simp, Fg16.out.2 (g14, r1) (by simp)⟩ | exact ⟨by simp, Fg16.out.2 (g11, r0) (by simp)⟩ | exact ⟨by simp, Fg16.out.2 (g7, c) (by simp)⟩ | exact ⟨by simp, Fg16.out.2 (g_b, b) (by simp)⟩ | exact ⟨by simp, Fg16.out.2 (g_a, a) (by simp)⟩)
        go_simp
        clear hT
        have hT := hid (((hs14).cell g7 (c) (by simp)))
        refine hK.out _ _ (hT.out) ?_
        clear hK K
        try simp only [putz]
        clear hs z0 z1 z2 z3 zl zf
        change Goes _ _ _ _ _ _ _ _ (fil wn13 g16 (q))
        generalize fil wn13 g16 (q) = wn14 at *
        have hs := hs14
        clear hs14
        refine Goes.one (i := 12) (o := ⟨none, _, _, _, _, _⟩) (by kernel_rfl) rfl (fun K hK => ?_)
        obtain ⟨z0, z1, z2, z3⟩ := hs.cell g17 (0) (by simp)
        have zl := hs.lt g17 (0) (by simp)
        have zf := hs.frozen g17 (0) (by simp)
        have hs15 := hs.set g17 (0) (r) [(g16, q), (g14, r1), (g11, r0), (g7, c), (g_b, b), (g_a, a)] (by simp) Fg17.out.1 (fun p hp => by simp only [List.mem_cons, List.not_mem_nil, or_false] at hp; rcases hp with rfl | rfl | rfl | rfl | rfl | rfl <;> first | exact ⟨by simp, Fg17.out.2 (g16, 0) (by simp)⟩ | exact ⟨by simp, Fg17.out.2 (g14, r1) (by simp)⟩ | exact ⟨by simp, Fg17.out.2 (g11, r0) (by simp)⟩ | exact ⟨by simp, Fg17.out.2 (g7, c) (by simp)⟩ | exact ⟨by simp, Fg17.out.2 (g_b, b) (by simp)⟩ | exact ⟨by simp, Fg17.out.2 (g_a, a) (by simp)⟩)
        go_simp
        clear hT
        have hT := hid (((hs15).cell g7 (c) (by simp)))
        refine hK.out _ _ (hT.out) ?_
        clear hK K
        try simp only [putz]
        clear hs z0 z1 z2 z3 zl zf
        change Goes _ _ _ _ _ _ _ _ (fil wn14 g17 (r))
        generalize fil wn14 g17 (r) = wn15 at *
        have hs := hs15
        clear hs15
        refine Goes.tk (i := 13) (o := ⟨some 18, _, _, _, _, _⟩) (v := ?_) [] (y := Or.inl ⟨by rfl, ?_⟩) (s := hT.out) (H := ?_)
        rotate_left
        · intro w hY; go_simp; try with_reducible rfl
        try simp only [putz]
        clear hT
        refine Goes.done (by kernel_rfl) ?_ _
        refine NoPanic.normal ?_
        exact hQ.out _ _ _ _ _ _ _ _ _ _ _ _ _ (hid (hs.perm (by simp)))
      · skip
        go_simp
        clear hT
        have hT := hid (((hs.zero).cell g7 (c) (by simp)))
        refine hK.out _ _ (hT.out) ?_
        clear hK K
        try simp only [putz]
        have Fg17 := hid hs.fresh
        have hs16 := hs.zero
        clear hs
        generalize wn11.alloc (.cells #[.int .u64 0, .int .u64 0, .int .u64 0, .int .u64 0] 24) = wn16 at *
        generalize wn11.heap.size = g17 at *
        have hs := hs16
        clear hs16
        refine Goes.one (i := 4) (o := ⟨some 95, _, _, _, _, _⟩) (by kernel_rfl) rfl (fun K hK => ?_)
        go_simp
        with_reducible refine (div_at c n q r hs XL.out NB.out N0.out EQ.out ER.out).mono ?_
        rintro e wn17 ⟨rfl, hs17⟩
        go_wp2_with fail
        clear hT
        have hT := hid (((hs17).cell g7 (c) (by simp)))
        refine hK.out _ _ (hT.out) ?_
        clear hK K
        try simp only [putz]
        clear hs
        have hs := hs17
        clear hs17
        refine Goes.tk (i := 5) (o := ⟨some 90, _, _, _, _, _⟩) (v := ?_) [] (y := Or.inl ⟨by rfl, ?_⟩) (s := hT.out) (H := ?_)
        rotate_left
        · intro w hY; go_simp; try with_reducible rfl
        try simp only [putz]
        refine Goes.tk (i := 6) (o := ⟨some 96, _, _, _, _, _⟩) (v := ?_) [] (y := Or.inl ⟨by rfl, ?_⟩) (s := hT.out) (H := ?_)
        rotate_left
        · intro w hY; go_simp; try with_reducible rfl
        try simp only [putz]
        refine Goes.tk (i := 7) (o := ⟨some 97, _, _, _, _, _⟩) (v := ?_) [] (y := Or.inl ⟨by rfl, ?_⟩) (s := hT.out) (H := ?_)
        rotate_left
        · intro w hY; go_simp; try with_reducible rfl
        try simp only [putz]
        refine Goes.tk (i := 8) (o := ⟨some 98, _, _, _, _, _⟩) (v := ?_) [] (y := Or.inl ⟨by rfl, ?_⟩) (s := hT.out) (H := ?_)
        rotate_left
        · intro w hY; go_simp; try with_reducible rfl
        try simp only [putz]
        refine Goes.one (i := 11) (o := ⟨none, _, _, _, _, _⟩) (by kernel_rfl) rfl (fun K hK => ?_)
        obtain ⟨z0, z1, z2, z3⟩ := hs.cell g16 (0) (by simp)
        have zl := hs.lt g16 (0) (by simp)
        have zf := hs.frozen g16 (0) (by simp)
        have hs18 := hs.set g16 (0) (q) [(g17, 0), (g14, r1), (g11, r0), (g7, c), (g_b, b), (g_a, a)] (by simp) Fg16.out.1 (fun p hp => by simp only [List.mem_cons, List.not_mem_nil, or_false] at hp; rcases hp with rfl | rfl | rfl | rfl | rfl | rfl <;> first | exact ⟨by simp, Ne.symm (Fg17.out.2 (g16, 0) (by simp))⟩ | exact ⟨by simp, Fg16.out.2 (g14, r1) (by simp)⟩ | exact ⟨by simp, Fg16.out.2 (g11, r0) (by simp)⟩ | exact ⟨by simp, Fg16.out.2 (g7, c) (by simp)⟩ | exact ⟨by simp, Fg16.out.2 (g_b, b) (by simp)⟩ | exact ⟨by simp, Fg16.out.2 (g_a, a) (by simp)⟩)
        go_simp
        clear hT
        have hT := hid (((hs18).cell g7 (c) (by simp)))
        refine hK.out _ _ (hT.out) ?_
        clear hK K
        try simp only [putz]
        clear hs z0 z1 z2 z3 zl zf
        change Goes _ _ _ _ _ _ _ _ (fil wn17 g16 (q))
        generalize fil wn17 g16 (q) = wn18 at *
        have hs := hs18
        clear hs18
        refine Goes.one (i := 12) (o := ⟨none, _, _, _, _, _⟩) (by kernel_rfl) rfl (fun K hK => ?_)
        obtain ⟨z0, z1, z2, z3⟩ := hs.cell g17 (0) (by simp)
        have zl := hs.lt g17 (0) (by simp)
        have zf := hs.frozen g17 (0) (by simp)
        have hs19 := hs.set g17 (0) (r) [(g16, q), (g14, r1), (g11, r0), (g7, c), (g_b, b), (g_a, a)] (by simp) Fg17.out.1 (fun p hp => by simp only [List.mem_cons, List.not_mem_nil, or_false] at hp; rcases hp with rfl | rfl | rfl | rfl | rfl | rfl <;> first | exact ⟨by simp, Fg17.out.2 (g16, 0) (by simp)⟩ | exact ⟨by simp, Fg17.out.2 (g14, r1) (by simp)⟩ | exact ⟨by simp, Fg17.out.2 (g11, r0) (by simp)⟩ | exact ⟨by simp, Fg17.out.2 (g7, c) (by simp)⟩ | exact ⟨by simp, Fg17.out.2 (g_b, b) (by simp)⟩ | exact ⟨by simp, Fg17.out.2 (g_a, a) (by simp)⟩)
        go_simp
        clear hT
        have hT := hid (((hs19).cell g7 (c) (by simp)))
        refine hK.out _ _ (hT.out) ?_
        clear hK K
        try simp only [putz]
        clear hs z0 z1 z2 z3 zl zf
        change Goes _ _ _ _ _ _ _ _ (fil wn18 g17 (r))
        generalize fil wn18 g17 (r) = wn19 at *
        have hs := hs19
        clear hs19
        refine Goes.tk (i := 13) (o := ⟨some 18, _, _, _, _, _⟩) (v := ?_) [] (y := Or.inl ⟨by rfl, ?_⟩) (s := hT.out) (H := ?_)
        rotate_left
        · intro w hY; go_simp; try with_reducible rfl
        try simp only [putz]
        clear hT
        refine Goes.done (by kernel_rfl) ?_ _
        refine NoPanic.normal ?_
        exact hQ.out _ _ _ _ _ _ _ _ _ _ _ _ _ (hid (hs.perm (by simp)))
    · skip
      go_simp
      clear hT
      have hT := hid (((hs.zero).cell g7 (c) (by simp)))
      refine hK.out _ _ (hT.out) ?_
      clear hK K
      try simp only [putz]
      have Fg17 := hid hs.fresh
      have hs20 := hs.zero
      clear hs
      generalize wn1.alloc (.cells #[.int .u64 0, .int .u64 0, .int .u64 0, .int .u64 0] 24) = wn20 at *
      generalize wn1.heap.size = g17 at *
      have hs := hs20
      clear hs20
      refine Goes.two (i := 4) (j := 9) (o := ⟨some 95, _, _, _, _, _⟩) (p := ⟨some 16, _, _, _, _, _⟩) (by kernel_rfl) rfl rfl (fun K hK => ?_) (fun K hK => ?_)
      · skip
        go_simp
        with_reducible refine (div_at c n q r hs XL.out NB.out N0.out EQ.out ER.out).mono ?_
        rintro e wn21 ⟨rfl, hs21⟩
        go_wp2_with fail
        clear hT
        have hT := hid (((hs21).cell g7 (c) (by simp)))
        refine hK.out _ _ (hT.out) ?_
        clear hK K
        try simp only [putz]
        clear hs
        have hs := hs21
        clear hs21
        refine Goes.tk (i := 5) (o := ⟨some 90, _, _, _, _, _⟩) (v := ?_) [] (y := Or.inl ⟨by rfl, ?_⟩) (s := hT.out) (H := ?_)
        rotate_left
        · intro w hY; go_simp; try with_reducible rfl
        try simp only [putz]
        refine Goes.tk (i := 6) (o := ⟨some 96, _, _, _, _, _⟩) (v := ?_) [] (y := Or.inl ⟨by rfl, ?_⟩) (s := hT.out) (H := ?_)
        rotate_left
        · intro w hY; go_simp; try with_reducible rfl
        try simp only [putz]
        refine Goes.tk (i := 7) (o := ⟨some 97, _, _, _, _, _⟩) (v := ?_) [] (y := Or.inl ⟨by rfl, ?_⟩) (s := hT.out) (H := ?_)
        rotate_left
        · intro w hY; go_simp; try with_reducible rfl
        try simp only [putz]
        refine Goes.tk (i := 8) (o := ⟨some 98, _, _, _, _, _⟩) (v := ?_) [] (y := Or.inl ⟨by rfl, ?_⟩) (s := hT.out) (H := ?_)
        rotate_left
        · intro w hY; go_simp; try with_reducible rfl
        try simp only [putz]
        refine Goes.one (i := 9) (o := ⟨some 16, _, _, _, _, _⟩) (by kernel_rfl) rfl (fun K hK => ?_)
        go_simp
        clear hT
        have hT := hid (((hs.zero).cell g7 (c) (by simp)))
        refine hK.out _ _ (hT.out) ?_
        clear hK K
        try simp only [putz]
        have Fg16 := hid hs.fresh
        have hs22 := hs.zero
        clear hs
        generalize wn21.alloc (.cells #[.int .u64 0, .int .u64 0, .int .u64 0, .int .u64 0] 24) = wn22 at *
        generalize wn21.heap.size = g16 at *
        have hs := hs22
        clear hs22
        refine Goes.one (i := 11) (o := ⟨none, _, _, _, _, _⟩) (by kernel_rfl) rfl (fun K hK => ?_)
        obtain ⟨z0, z1, z2, z3⟩ := hs.cell g16 (0) (by simp)
        have zl := hs.lt g16 (0) (by simp)
        have zf := hs.frozen g16 (0) (by simp)
        have hs23 := hs.set g16 (0) (q) [(g17, 0), (g14, r1), (g11, r0), (g7, c), (g_b, b), (g_a, a)] (by simp) Fg16.out.1 (fun p hp => by simp only [List.mem_cons, List.not_mem_nil, or_false] at hp; rcases hp with rfl | rfl | rfl | rfl | rfl | rfl <;> first | exact ⟨by simp, Fg16.out.2 (g17, 0) (by simp)⟩ | exact ⟨by simp, Fg16.out.2 (g14, r1) (by simp)⟩ | exact ⟨by simp, Fg16.out.2 (g11, r0) (by simp)⟩ | exact ⟨by simp, Fg16.out.2 (g7, c) (by simp)⟩ | exact ⟨by simp, Fg16.out.2 (g_b, b) (by simp)⟩ | exact ⟨by simp, Fg16.out.2 (g_a, a) (by simp)⟩)
        go_simp
        clear hT
        have hT := hid (((hs23).cell g7 (c) (by simp)))
        refine hK.out _ _ (hT.out) ?_
        clear hK K
        try simp only [putz]
        clear hs z0 z1 z2 z3 zl zf
        change Goes _ _ _ _ _ _ _ _ (fil wn22 g16 (q))
        generalize fil wn22 g16 (q) = wn23 at *
        have hs := hs23
        clear hs23
        refine Goes.one (i := 12) (o := ⟨none, _, _, _, _, _⟩) (by kernel_rfl) rfl (fun K hK => ?_)
        obtain ⟨z0, z1, z2, z3⟩ := hs.cell g17 (0) (by simp)
        have zl := hs.lt g17 (0) (by simp)
        have zf := hs.frozen g17 (0) (by simp)
        have hs24 := hs.set g17 (0) (r) [(g16, q), (g14, r1), (g11, r0), (g7, c), (g_b, b), (g_a, a)] (by simp) Fg17.out.1 (fun p hp => by simp only [List.mem_cons, List.not_mem_nil, or_false] at hp; rcases hp with rfl | rfl | rfl | rfl | rfl | rfl <;> first | exact ⟨by simp, Ne.symm (Fg16.out.2 (g17, 0) (by simp))⟩ | exact ⟨by simp, Fg17.out.2 (g14, r1) (by simp)⟩ | exact ⟨by simp, Fg17.out.2 (g11, r0) (by simp)⟩ | exact ⟨by simp, Fg17.out.2 (g7, c) (by simp)⟩ | exact ⟨by simp, Fg17.out.2 (g_b, b) (by simp)⟩ | exact ⟨by simp, Fg17.out.2 (g_a, a) (by simp)⟩)
        go_simp
        clear hT
        have hT := hid (((hs24).cell g7 (c) (by simp)))
        refine hK.out _ _ (hT.out) ?_
        clear hK K
        try simp only [putz]
        clear hs z0 z1 z2 z3 zl zf
        change Goes _ _ _ _ _ _ _ _ (fil wn23 g17 (r))
        generalize fil wn23 g17 (r) = wn24 at *
        have hs := hs24
        clear hs24
        refine Goes.tk (i := 13) (o := ⟨some 18, _, _, _, _, _⟩) (v := ?_) [] (y := Or.inl ⟨by rfl, ?_⟩) (s := hT.out) (H := ?_)
        rotate_left
        · intro w hY; go_simp; try with_reducible rfl
        try simp only [putz]
        clear hT
        refine Goes.done (by kernel_rfl) ?_ _
        refine NoPanic.normal ?_
        exact hQ.out _ _ _ _ _ _ _ _ _ _ _ _ _ (hid (hs.perm (by simp)))
      · skip
        go_simp
        clear hT
        have hT := hid (((hs.zero).cell g7 (c) (by simp)))
        refine hK.out _ _ (hT.out) ?_
        clear hK K
        try simp only [putz]
        have Fg16 := hid hs.fresh
        have hs25 := hs.zero
        clear hs
        generalize wn20.alloc (.cells #[.int .u64 0, .int .u64 0, .int .u64 0, .int .u64 0] 24) = wn25 at *
        generalize wn20.heap.size = g16 at *
        have hs := hs25
        clear hs25
        refine Goes.one (i := 4) (o := ⟨some 95, _, _, _, _, _⟩) (by kernel_rfl) rfl (fun K hK => ?_)
        go_simp
        with_reducible refine (div_at c n q r hs XL.out NB.out N0.out EQ.out ER.out).mono ?_
        rintro e wn26 ⟨rfl, hs26⟩
        go_wp2_with fail
        clear hT
        have hT := hid (((hs26).cell g7 (c) (by simp)))
        refine hK.out _ _ (hT.out) ?_
        clear hK K
        try simp only [putz]
        clear hs
        have hs := hs26
        clear hs26
        refine Goes.tk (i := 5) (o := ⟨some 90, _, _, _, _, _⟩) (v := ?_) [] (y := Or.inl ⟨by rfl, ?_⟩) (s := hT.out) (H := ?_)
        rotate_left
        · intro w hY; go_simp; try with_reducible rfl
        try simp only [putz]
        refine Goes.tk (i := 6) (o := ⟨some 96, _, _, _, _, _⟩) (v := ?_) [] (y := Or.inl ⟨by rfl, ?_⟩) (s := hT.out) (H := ?_)
        rotate_left
        · intro w hY; go_simp; try with_reducible rfl
        try simp only [putz]
        refine Goes.tk (i := 7) (o := ⟨some 97, _, _, _, _, _⟩) (v := ?_) [] (y := Or.inl ⟨by rfl, ?_⟩) (s := hT.out) (H := ?_)
        rotate_left
        · intro w hY; go_simp; try with_reducible rfl
        try simp only [putz]
        refine Goes.tk (i := 8) (o := ⟨some 98, _, _, _, _, _⟩) (v := ?_) [] (y := Or.inl ⟨by rfl, ?_⟩) (s := hT.out) (H := ?_)
        rotate_left
        · intro w hY; go_simp; try with_reducible rfl
        try simp only [putz]
        refine Goes.one (i := 11) (o := ⟨none, _, _, _, _, _⟩) (by kernel_rfl) rfl (fun K hK => ?_)
        obtain ⟨z0, z1, z2, z3⟩ := hs.cell g16 (0) (by simp)
        have zl := hs.lt g16 (0) (by simp)
        have zf := hs.frozen g16 (0) (by simp)
        have hs27 := hs.set g16 (0) (q) [(g17, 0), (g14, r1), (g11, r0), (g7, c), (g_b, b), (g_a, a)] (by simp) Fg16.out.1 (fun p hp => by simp only [List.mem_cons, List.not_mem_nil, or_false] at hp; rcases hp with rfl | rfl | rfl | rfl | rfl | rfl <;> first | exact ⟨by simp, Fg16.out.2 (g17, 0) (by simp)⟩ | exact ⟨by simp, Fg16.out.2 (g14, r1) (by simp)⟩ | exact ⟨by simp, Fg16.out.2 (g11, r0) (by simp)⟩ | exact ⟨by simp, Fg16.out.2 (g7, c) (by simp)⟩ | exact ⟨by simp, Fg16.out.2 (g_b, b) (by simp)⟩ | exact ⟨by simp, Fg16.out.2 (g_a, a) (by simp)⟩)
        go_simp
        clear hT
        have hT := hid (((hs27).cell g7 (c) (by simp)))
        refine hK.out _ _ (hT.out) ?_
        clear hK K
        try simp only [putz]
        clear hs z0 z1 z2 z3 zl zf
        change Goes _ _ _ _ _ _ _ _ (fil wn26 g16 (q))
        generalize fil wn26 g16 (q) = wn27 at *
        have hs := hs27
        clear hs27
        refine Goes.one (i := 12) (o := ⟨none, _, _, _, _, _⟩) (by kernel_rfl) rfl (fun K hK => ?_)
        obtain ⟨z0, z1, z2, z3⟩ := hs.cell g17 (0) (by simp)
        have zl := hs.lt g17 (0) (by simp)
        have zf := hs.frozen g17 (0) (by simp)
        have hs28 := hs.set g17 (0) (r) [(g16, q), (g14, r1), (g11, r0), (g7, c), (g_b, b), (g_a, a)] (by simp) Fg17.out.1 (fun p hp => by simp only [List.mem_cons, List.not_mem_nil, or_false] at hp; rcases hp with rfl | rfl | rfl | rfl | rfl | rfl <;> first | exact ⟨by simp, Ne.symm (Fg16.out.2 (g17, 0) (by simp))⟩ | exact ⟨by simp, Fg17.out.2 (g14, r1) (by simp)⟩ | exact ⟨by simp, Fg17.out.2 (g11, r0) (by simp)⟩ | exact ⟨by simp, Fg17.out.2 (g7, c) (by simp)⟩ | exact ⟨by simp, Fg17.out.2 (g_b, b) (by simp)⟩ | exact ⟨by simp, Fg17.out.2 (g_a, a) (by simp)⟩)
        go_simp
        clear hT
        have hT := hid (((hs28).cell g7 (c) (by simp)))
        refine hK.out _ _ (hT.out) ?_
        clear hK K
        try simp only [putz]
        clear hs z0 z1 z2 z3 zl zf
        change Goes _ _ _ _ _ _ _ _ (fil wn27 g17 (r))
        generalize fil wn27 g17 (r) = wn28 at *
        have hs := hs28
        clear hs28
        refine Goes.tk (i := 13) (o := ⟨some 18, _, _, _, _, _⟩) (v := ?_) [] (y := Or.inl ⟨by rfl, ?_⟩) (s := hT.out) (H := ?_)
        rotate_left
        · intro w hY; go_simp; try with_reducible rfl
        try simp only [putz]
        clear hT
        refine Goes.done (by kernel_rfl) ?_ _
        refine NoPanic.normal ?_
        exact hQ.out _ _ _ _ _ _ _ _ _ _ _ _ _ (hid (hs.perm (by simp)))
  · skip
    go_simp
    clear hT
    have hT := hid (((hs.zero).cell g7 (c) (by simp)))
    refine hK.out _ _ (hT.out) ?_
    clear hK K
    try simp only [putz]
    have Fg16 := hid hs.fresh
    have hs29 := hs.zero
    clear hs
    generalize wdr.alloc (.cells #[.int .u64 0, .int .u64 0, .int .u64 0, .int .u64 0] 24) = wn29 at *
    generalize wdr.heap.size = g16 at *
    have hs := hs29
    clear hs29
    refine Goes.two (i := 3) (j := 10) (o := ⟨some 94, _, _, _, _, _⟩) (p := ⟨some 17, _, _, _, _, _⟩) (by kernel_rfl) rfl rfl (fun K hK => ?_) (fun K hK => ?_)
    · skip
      go_simp
      with_reducible refine (ofl3_at n (n : Int) hs NL.out rfl).mono ?_
      rintro e wn30 ⟨rfl, hs30⟩
      go_wp2_with fail
      clear hT
      have hT := hid (((hs30).cell g7 (c) (by simp)))
      refine hK.out _ _ (hT.out) ?_
      clear hK K
      try simp only [putz]
      clear hs
      have hs := hs30
      clear hs30
      refine Goes.two (i := 4) (j := 10) (o := ⟨some 95, _, _, _, _, _⟩) (p := ⟨some 17, _, _, _, _, _⟩) (by kernel_rfl) rfl rfl (fun K hK => ?_) (fun K hK => ?_)
      · skip
        go_simp
        with_reducible refine (div_at c n q r hs XL.out NB.out N0.out EQ.out ER.out).mono ?_
        rintro e wn31 ⟨rfl, hs31⟩
        go_wp2_with fail
        clear hT
        have hT := hid (((hs31).cell g7 (c) (by simp)))
        refine hK.out _ _ (hT.out) ?_
        clear hK K
        try simp only [putz]
        clear hs
        have hs := hs31
        clear hs31
        refine Goes.tk (i := 5) (o := ⟨some 90, _, _, _, _, _⟩) (v := ?_) [] (y := Or.inl ⟨by rfl, ?_⟩) (s := hT.out) (H := ?_)
        rotate_left
        · intro w hY; go_simp; try with_reducible rfl
        try simp only [putz]
        refine Goes.tk (i := 6) (o := ⟨some 96, _, _, _, _, _⟩) (v := ?_) [] (y := Or.inl ⟨by rfl, ?_⟩) (s := hT.out) (H := ?_)
        rotate_left
        · intro w hY; go_simp; try with_reducible rfl
        try simp only [putz]
        refine Goes.tk (i := 7) (o := ⟨some 97, _, _, _, _, _⟩) (v := ?_) [] (y := Or.inl ⟨by rfl, ?_⟩) (s := hT.out) (H := ?_)
        rotate_left
        · intro w hY; go_simp; try with_reducible rfl
        try simp only [putz]
        refine Goes.tk (i := 8) (o := ⟨some 98, _, _, _, _, _⟩) (v := ?_) [] (y := Or.inl ⟨by rfl, ?_⟩) (s := hT.out) (H := ?_)
        rotate_left
        · intro w hY; go_simp; try with_reducible rfl
        try simp only [putz]
        refine Goes.one (i := 10) (o := ⟨some 17, _, _, _, _, _⟩) (by kernel_rfl) rfl (fun K hK => ?_)
        go_simp
        clear hT
        have hT := hid (((hs.zero).cell g7 (c) (by simp)))
        refine hK.out _ _ (hT.out) ?_
        clear hK K
        try simp only [putz]
        have Fg17 := hid hs.fresh
        have hs32 := hs.zero
        clear hs
        generalize wn31.alloc (.cells #[.int .u64 0, .int .u64 0, .int .u64 0, .int .u64 0] 24) = wn32 at *
        generalize wn31.heap.size = g17 at *
        have hs := hs32
        clear hs32
        refine Goes.one (i := 11) (o := ⟨none, _, _, _, _, _⟩) (by kernel_rfl) rfl (fun K hK => ?_)
        obtain ⟨z0, z1, z2, z3⟩ := hs.cell g16 (0) (by simp)
        have zl := hs.lt g16 (0) (by simp)
        have zf := hs.frozen g16 (0) (by simp)
        have hs33 := hs.set g16 (0) (q) [(g17, 0), (g14, r1), (g11, r0), (g7, c), (g_b, b), (g_a, a)] (by simp) Fg16.out.1 (fun p hp => by simp only [List.mem_cons, List.not_mem_nil, or_false] at hp; rcases hp with rfl | rfl | rfl | rfl | rfl | rfl <;> first | exact ⟨by simp, Ne.symm (Fg17.out.2 (g16, 0) (by simp))⟩ | exact ⟨by simp, Fg16.out.2 (g14, r1) (by simp)⟩ | exact ⟨by simp, Fg16.out.2 (g11, r0) (by simp)⟩ | exact ⟨by simp, Fg16.out.2 (g7, c) (by simp)⟩ | exact ⟨by simp, Fg16.out.2 (g_b, b) (by simp)⟩ | exact ⟨by simp, Fg16.out.2 (g_a, a) (by simp)⟩)
        go_simp
        clear hT
        have hT := hid (((hs33).cell g7 (c) (by simp)))
        refine hK.out _ _ (hT.out) ?_
        clear hK K
        try simp only [putz]
        clear hs z0 z1 z2 z3 zl zf
        change Goes _ _ _ _ _ _ _ _ (fil wn32 g16 (q))
        generalize fil wn32 g16 (q) = wn33 at *
        have hs := hs33
        clear hs33
        refine Goes.one (i := 12) (o := ⟨none, _, _, _, _, _⟩) (by kernel_rfl) rfl (fun K hK => ?_)
        obtain ⟨z0, z1, z2, z3⟩ := hs.cell g17 (0) (by simp)
        have zl := hs.lt g17 (0) (by simp)
        have zf := hs.frozen g17 (0) (by simp)
        have hs34 := hs.set g17 (0) (r) [(g16, q), (g14, r1), (g11, r0), (g7, c), (g_b, b), (g_a, a)] (by simp) Fg17.out.1 (fun p hp => by simp only [List.mem_cons, List.not_mem_nil, or_false] at hp; rcases hp with rfl | rfl | rfl | rfl | rfl | rfl <;> first | exact ⟨by simp, Fg17.out.2 (g16, 0) (by simp)⟩ | exact ⟨by simp, Fg17.out.2 (g14, r1) (by simp)⟩ | exact ⟨by simp, Fg17.out.2 (g11, r0) (by simp)⟩ | exact ⟨by simp, Fg17.out.2 (g7, c) (by simp)⟩ | exact ⟨by simp, Fg17.out.2 (g_b, b) (by simp)⟩ | exact ⟨by simp, Fg17.out.2 (g_a, a) (by simp)⟩)
        go_simp
        clear hT
        have hT := hid (((hs34).cell g7 (c) (by simp)))
        refine hK.out _ _ (hT.out) ?_
        clear hK K
        try simp only [putz]
        clear hs z0 z1 z2 z3 zl zf
        change Goes _ _ _ _ _ _ _ _ (fil wn33 g17 (r))
        generalize fil wn33 g17 (r) = wn34 at *
        have hs := hs34
        clear hs34
        refine Goes.tk (i := 13) (o := ⟨some 18, _, _, _, _, _⟩) (v := ?_) [] (y := Or.inl ⟨by rfl, ?_⟩) (s := hT.out) (H := ?_)
        rotate_left
        · intro w hY; go_simp; try with_reducible rfl
        try simp only [putz]
        clear hT
        refine Goes.done (by kernel_rfl) ?_ _
        refine NoPanic.normal ?_
        exact hQ.out _ _ _ _ _ _ _ _ _ _ _ _ _ (hid (hs.perm (by simp)))
      · skip
        go_simp
        clear hT
        have hT := hid (((hs.zero).cell g7 (c) (by simp)))
        refine hK.out _ _ (hT.out) ?_
        clear hK K
        try simp only [putz]
        have Fg17 := hid hs.fresh
        have hs35 := hs.zero
        clear hs
        generalize wn30.alloc (.cells #[.int .u64 0, .int .u64 0, .int .u64 0, .int .u64 0] 24) = wn35 at *
        generalize wn30.heap.size = g17 at *
        have hs := hs35
        clear hs35
        refine Goes.one (i := 4) (o := ⟨some 95, _, _, _, _, _⟩) (by kernel_rfl) rfl (fun K hK => ?_)
        go_simp
        with_reducible refine (div_at c n q r hs XL.out NB.out N0.out EQ.out ER.out).mono ?_
        rintro e wn36 ⟨rfl, hs36⟩
        go_wp2_with fail
        clear hT
        have hT := hid (((hs36).cell g7 (c) (by simp)))
        refine hK.out _ _ (hT.out) ?_
        clear hK K
        try simp only [putz]
        clear hs
        have hs := hs36
        clear hs36
        refine Goes.tk (i := 5) (o := ⟨some 90, _, _, _, _, _⟩) (v := ?_) [] (y := Or.inl ⟨by rfl, ?_⟩) (s := hT.out) (H := ?_)
        rotate_left
        · intro w hY; go_simp; try with_reducible rfl
        try simp only [putz]
        refine Goes.tk (i := 6) (o := ⟨some 96, _, _, _, _, _⟩) (v := ?_) [] (y := Or.inl ⟨by rfl, ?_⟩) (s := hT.out) (H := ?_)
        rotate_left
        · intro w hY; go_simp; try with_reducible rfl
        try simp only [putz]
        refine Goes.tk (i := 7) (o := ⟨some 97, _, _, _, _, _⟩) (v := ?_) [] (y := Or.inl ⟨by rfl, ?_⟩) (s := hT.out) (H := ?_)
        rotate_left
        · intro w hY; go_simp; try with_reducible rfl
        try simp only [putz]
        refine Goes.tk (i := 8) (o := ⟨some 98, _, _, _, _, _⟩) (v := ?_) [] (y := Or.inl ⟨by rfl, ?_⟩) (s := hT.out) (H := ?_)
        rotate_left
        · intro w hY; go_simp; try with_reducible rfl
        try simp only [putz]
        refine Goes.one (i := 11) (o := ⟨none, _, _, _, _, _⟩) (by kernel_rfl) rfl (fun K hK => ?_)
        obtain ⟨z0, z1, z2, z3⟩ := hs.cell g16 (0) (by simp)
        have zl := hs.lt g16 (0) (by simp)
        have zf := hs.frozen g16 (0) (by simp)
        have hs37 := hs.set g16 (0) (q) [(g17, 0), (g14, r1), (g11, r0), (g7, c), (g_b, b), (g_a, a)] (by simp) Fg16.out.1 (fun p hp => by simp only [List.mem_cons, List.not_mem_nil, or_false] at hp; rcases hp with rfl | rfl | rfl | rfl | rfl | rfl <;> first | exact ⟨by simp, Ne.symm (Fg17.out.2 (g16, 0) (by simp))⟩ | exact ⟨by simp, Fg16.out.2 (g14, r1) (by simp)⟩ | exact ⟨by simp, Fg16.out.2 (g11, r0) (by simp)⟩ | exact ⟨by simp, Fg16.out.2 (g7, c) (by simp)⟩ | exact ⟨by simp, Fg16.out.2 (g_b, b) (by simp)⟩ | exact ⟨by simp, Fg16.out.2 (g_a, a) (by simp)⟩)
        go_simp
        clear hT
        have hT := hid (((hs37).cell g7 (c) (by simp)))
        refine hK.out _ _ (hT.out) ?_
        clear hK K
        try simp only [putz]
        clear hs z0 z1 z2 z3 zl zf
        change Goes _ _ _ _ _ _ _ _ (fil wn36 g16 (q))
        generalize fil wn36 g16 (q) = wn37 at *
        have hs := hs37
        clear hs37
        refine Goes.one (i := 12) (o := ⟨none, _, _, _, _, _⟩) (by kernel_rfl) rfl (fun K hK => ?_)
        obtain ⟨z0, z1, z2, z3⟩ := hs.cell g17 (0) (by simp)
        have zl := hs.lt g17 (0) (by simp)
        have zf := hs.frozen g17 (0) (by simp)
        have hs38 := hs.set g17 (0) (r) [(g16, q), (g14, r1), (g11, r0), (g7, c), (g_b, b), (g_a, a)] (by simp) Fg17.out.1 (fun p hp => by simp only [List.mem_cons, List.not_mem_nil, or_false] at hp; rcases hp with rfl | rfl | rfl | rfl | rfl | rfl <;> first | exact ⟨by simp, Fg17.out.2 (g16, 0) (by simp)⟩ | exact ⟨by simp, Fg17.out.2 (g14, r1) (by simp)⟩ | exact ⟨by simp, Fg17.out.2 (g11, r0) (by simp)⟩ | exact ⟨by simp, Fg17.out.2 (g7, c) (by simp)⟩ | exact ⟨by simp, Fg17.out.2 (g_b, b) (by simp)⟩ | exact ⟨by simp, Fg17.out.2 (g_a, a) (by simp)⟩)
        go_simp
        clear hT
        have hT := hid (((hs38).cell g7 (c) (by simp)))
        refine hK.out _ _ (hT.out) ?_
        clear hK K
        try simp only [putz]
        clear hs z0 z1 z2 z3 zl zf
        change Goes _ _ _ _ _ _ _ _ (fil wn37 g17 (r))
        generalize fil wn37 g17 (r) = wn38 at *
        have hs := hs38
        clear hs38
        refine Goes.tk (i := 13) (o := ⟨some 18, _, _, _, _, _⟩) (v := ?_) [] (y := Or.inl ⟨by rfl, ?_⟩) (s := hT.out) (H := ?_)
        rotate_left
        · intro w hY; go_simp; try with_reducible rfl
        try simp only [putz]
        clear hT
        refine Goes.done (by kernel_rfl) ?_ _
        refine NoPanic.normal ?_
        exact hQ.out _ _ _ _ _ _ _ _ _ _ _ _ _ (hid (hs.perm (by simp)))
    · skip
      go_simp
      clear hT
      have hT := hid (((hs.zero).cell g7 (c) (by simp)))
      refine hK.out _ _ (hT.out) ?_
      clear hK K
      try simp only [putz]
      have Fg17 := hid hs.fresh
      have hs39 := hs.zero
      clear hs
      generalize wn29.alloc (.cells #[.int .u64 0, .int .u64 0, .int .u64 0, .int .u64 0] 24) = wn39 at *
      generalize wn29.heap.size = g17 at *
      have hs := hs39
      clear hs39
      refine Goes.one (i := 3) (o := ⟨some 94, _, _, _, _, _⟩) (by kernel_rfl) rfl (fun K hK => ?_)
      go_simp
      with_reducible refine (ofl3_at n (n : Int) hs NL.out rfl).mono ?_
      rintro e wn40 ⟨rfl, hs40⟩
      go_wp2_with fail
      clear hT
      have hT := hid (((hs40).cell g7 (c) (by simp)))
      refine hK.out _ _ (hT.out) ?_
      clear hK K
      try simp only [putz]
      clear hs
      have hs := hs40
      clear hs40
      refine Goes.one (i := 4) (o := ⟨some 95, _, _, _, _, _⟩) (by kernel_rfl) rfl (fun K hK => ?_)
      go_simp
      with_reducible refine (div_at c n q r hs XL.out NB.out N0.out EQ.out ER.out).mono ?_
      rintro e wn41 ⟨rfl, hs41⟩
      go_wp2_with fail
      clear hT
      have hT := hid (((hs41).cell g7 (c) (by simp)))
      refine hK.out _ _ (hT.out) ?_
      clear hK K
      try simp only [putz]
      clear hs
      have hs := hs41
      clear hs41
      refine Goes.tk (i := 5) (o := ⟨some 90, _, _, _, _, _⟩) (v := ?_) [] (y := Or.inl ⟨by rfl, ?_⟩) (s := hT.out) (H := ?_)
      rotate_left
      · intro w hY; go_simp; try with_reducible rfl
      try simp only [putz]
      refine Goes.tk (i := 6) (o := ⟨some 96, _, _, _, _, _⟩) (v := ?_) [] (y := Or.inl ⟨by rfl, ?_⟩) (s := hT.out) (H := ?_)
      rotate_left
      · intro w hY; go_simp; try with_reducible rfl
      try simp only [putz]
      refine Goes.tk (i := 7) (o := ⟨some 97, _, _, _, _, _⟩) (v := ?_) [] (y := Or.inl ⟨by rfl, ?_⟩) (s := hT.out) (H := ?_)
      rotate_left
      · intro w hY; go_simp; try with_reducible rfl
      try simp only [putz]
      refine Goes.tk (i := 8) (o := ⟨some 98, _, _, _, _, _⟩) (v := ?_) [] (y := Or.inl ⟨by rfl, ?_⟩) (s := hT.out) (H := ?_)
      rotate_left
      · intro w hY; go_simp; try with_reducible rfl
      try simp only [putz]
      refine Goes.one (i := 11) (o := ⟨none, _, _, _, _, _⟩) (by kernel_rfl) rfl (fun K hK => ?_)
      obtain ⟨z0, z1, z2, z3⟩ := hs.cell g16 (0) (by simp)
      have zl := hs.lt g16 (0) (by simp)
      have zf := hs.frozen g16 (0) (by simp)
      have hs42 := hs.set g16 (0) (q) [(g17, 0), (g14, r1), (g11, r0), (g7, c), (g_b, b), (g_a, a)] (by simp) Fg16.out.1 (fun p hp => by simp only [List.mem_cons, List.not_mem_nil, or_false] at hp; rcases hp with rfl | rfl | rfl | rfl | rfl | rfl <;> first | exact ⟨by simp, Ne.symm (Fg17.out.2 (g16, 0) (by simp))⟩ | exact ⟨by simp, Fg16.out.2 (g14, r1) (by simp)⟩ | exact ⟨by simp, Fg16.out.2 (g11, r0) (by simp)⟩ | exact ⟨by simp, Fg16.out.2 (g7, c) (by simp)⟩ | exact ⟨by simp, Fg16.out.2 (g_b, b) (by simp)⟩ | exact ⟨by simp, Fg16.out.2 (g_a, a) (by simp)⟩)
      go_simp
      clear hT
      have hT := hid (((hs42).cell g7 (c) (by simp)))
      refine hK.out _ _ (hT.out) ?_
      clear hK K
      try simp only [putz]
      clear hs z0 z1 z2 z3 zl zf
      change Goes _ _ _ _ _ _ _ _ (fil wn41 g16 (q))
      generalize fil wn41 g16 (q) = wn42 at *
      have hs := hs42
      clear hs42
      refine Goes.one (i := 12) (o := ⟨none, _, _, _, _, _⟩) (by kernel_rfl) rfl (fun K hK => ?_)
      obtain ⟨z0, z1, z2, z3⟩ := hs.cell g17 (0) (by simp)
      have zl := hs.lt g17 (0) (by simp)
      have zf := hs.frozen g17 (0) (by simp)
      have hs43 := hs.set g17 (0) (r) [(g16, q), (g14, r1), (g11, r0), (g7, c), (g_b, b), (g_a, a)] (by simp) Fg17.out.1 (fun p hp => by simp only [List.mem_cons, List.not_mem_nil, or_false] at hp; rcases hp with rfl | rfl | rfl | rfl | rfl | rfl <;> first | exact ⟨by simp, Fg17.out.2 (g16, 0) (by simp)⟩ | exact ⟨by simp, Fg17.out.2 (g14, r1) (by simp)⟩ | exact ⟨by simp, Fg17.out.2 (g11, r0) (by simp)⟩ | exact ⟨by simp, Fg17.out.2 (g7, c) (by simp)⟩ | exact ⟨by simp, Fg17.out.2 (g_b, b) (by simp)⟩ | exact ⟨by simp, Fg17.out.2 (g_a, a) (by simp)⟩)
      go_simp
      clear hT
      have hT := hid (((hs43).cell g7 (c) (by simp)))
      refine hK.out _ _ (hT.out) ?_
      clear hK K
      try simp only [putz]
      clear hs z0 z1 z2 z3 zl zf
      change Goes _ _ _ _ _ _ _ _ (fil wn42 g17 (r))
      generalize fil wn42 g17 (r) = wn43 at *
      have hs := hs43
      clear hs43
      refine Goes.tk (i := 13) (o := ⟨some 18, _, _, _, _, _⟩) (v := ?_) [] (y := Or.inl ⟨by rfl, ?_⟩) (s := hT.out) (H := ?_)
      rotate_left
      · intro w hY; go_simp; try with_reducible rfl
      try simp only [putz]
      clear hT
      refine Goes.done (by kernel_rfl) ?_ _
      refine NoPanic.normal ?_
      exact hQ.out _ _ _ _ _ _ _ _ _ _ _ _ _ (hid (hs.perm (by simp)))
  · skip
    go_simp
    clear hT
    have hT := hid (((hs.zero).cell g7 (c) (by simp)))
    refine hK.out _ _ (hT.out) ?_
    clear hK K
    try simp only [putz]
    have Fg17 := hid hs.fresh
    have hs44 := hs.zero
    clear hs
    generalize wdr.alloc (.cells #[.int .u64 0, .int .u64 0, .int .u64 0, .int .u64 0] 24) = wn44 at *
    generalize wdr.heap.size = g17 at *
    have hs := hs44
    clear hs44
    refine Goes.two (i := 3) (j := 9) (o := ⟨some 94, _, _, _, _, _⟩) (p := ⟨some 16, _, _, _, _, _⟩) (by kernel_rfl) rfl rfl (fun K hK => ?_) (fun K hK => ?_)
    · skip
      go_simp
      with_reducible refine (ofl3_at n (n : Int) hs NL.out rfl).mono ?_
      rintro e wn45 ⟨rfl, hs45⟩
      go_wp2_with fail
      clear hT
      have hT := hid (((hs45).cell g7 (c) (by simp)))
      refine hK.out _ _ (hT.out) ?_
      clear hK K
      try simp only [putz]
      clear hs
      have hs := hs45
      clear hs45
      refine Goes.two (i := 4) (j := 9) (o := ⟨some 95, _, _, _, _, _⟩) (p := ⟨some 16, _, _, _, _, _⟩) (by kernel_rfl) rfl rfl (fun K hK => ?_) (fun K hK => ?_)
      · skip
        go_simp
        with_reducible refine (div_at c n q r hs XL.out NB.out N0.out EQ.out ER.out).mono ?_
        rintro e wn46 ⟨rfl, hs46⟩
        go_wp2_with fail
        clear hT
        have hT := hid (((hs46).cell g7 (c) (by simp)))
        refine hK.out _ _ (hT.out) ?_
        clear hK K
        try simp only [putz]
        clear hs
        have hs := hs46
        clear hs46
        refine Goes.tk (i := 5) (o := ⟨some 90, _, _, _, _, _⟩) (v := ?_) [] (y := Or.inl ⟨by rfl, ?_⟩) (s := hT.out) (H := ?_)
        rotate_left
        · intro w hY; go_simp; try with_reducible rfl
        try simp only [putz]
        refine Goes.tk (i := 6) (o := ⟨some 96, _, _, _, _, _⟩) (v := ?_) [] (y := Or.inl ⟨by rfl, ?_⟩) (s := hT.out) (H := ?_)
        rotate_left
        · intro w hY; go_simp; try with_reducible rfl
        try simp only [putz]
        refine Goes.tk (i := 7) (o := ⟨some 97, _, _, _, _, _⟩) (v := ?_) [] (y := Or.inl ⟨by rfl, ?_⟩) (s := hT.out) (H := ?_)
        rotate_left
        · intro w hY; go_simp; try with_reducible rfl
        try simp only [putz]
        refine Goes.tk (i := 8) (o := ⟨some 98, _, _, _, _, _⟩) (v := ?_) [] (y := Or.inl ⟨by rfl, ?_⟩) (s := hT.out) (H := ?_)
        rotate_left
        · intro w hY; go_simp; try with_reducible rfl
        try simp only [putz]
        refine Goes.one (i := 9) (o := ⟨some 16, _, _, _, _, _⟩) (by kernel_rfl) rfl (fun K hK => ?_)
        go_simp
        clear hT
        have hT := hid (((hs.zero).cell g7 (c) (by simp)))
        refine hK.out _ _ (hT.out) ?_
        clear hK K
        try simp only [putz]
        have Fg16 := hid hs.fresh
        have hs47 := hs.zero
        clear hs
        generalize wn46.alloc (.cells #[.int .u64 0, .int .u64 0, .int .u64 0, .int .u64 0] 24) = wn47 at *
        generalize wn46.heap.size = g16 at *
        have hs := hs47
        clear hs47
        refine Goes.one (i := 11) (o := ⟨none, _, _, _, _, _⟩) (by kernel_rfl) rfl (fun K hK => ?_)
        obtain ⟨z0, z1, z2, z3⟩ := hs.cell g16 (0) (by simp)
        have zl := hs.lt g16 (0) (by simp)
        have zf := hs.frozen g16 (0) (by simp)
        have hs48 := hs.set g16 (0) (q) [(g17, 0), (g14, r1), (g11, r0), (g7, c), (g_b, b), (g_a, a)] (by simp) Fg16.out.1 (fun p hp => by simp only [List.mem_cons, List.not_mem_nil, or_false] at hp; rcases hp with rfl | rfl | rfl | rfl | rfl | rfl <;> first | exact ⟨by simp, Fg16.out.2 (g17, 0) (by simp)⟩ | exact ⟨by simp, Fg16.out.2 (g14, r1) (by simp)⟩ | exact ⟨by simp, Fg16.out.2 (g11, r0) (by simp)⟩ | exact ⟨by simp, Fg16.out.2 (g7, c) (by simp)⟩ | exact ⟨by simp, Fg16.out.2 (g_b, b) (by simp)⟩ | exact ⟨by simp, Fg16.out.2 (g_a, a) (by simp)⟩)
        go_simp
        clear hT
        have hT := hid (((hs48).cell g7 (c) (by simp)))
        refine hK.out _ _ (hT.out) ?_
        clear hK K
        try simp only [putz]
        clear hs z0 z1 z2 z3 zl zf
        change Goes _ _ _ _ _ _ _ _ (fil wn47 g16 (q))
        generalize fil wn47 g16 (q) = wn48 at *
        have hs := hs48
        clear hs48
        refine Goes.one (i := 12) (o := ⟨none, _, _, _, _, _⟩) (by kernel_rfl) rfl (fun K hK => ?_)
        obtain ⟨z0, z1, z2, z3⟩ := hs.cell g17 (0) (by simp)
        have zl := hs.lt g17 (0) (by simp)
        have zf := hs.frozen g17 (0) (by simp)
        have hs49 := hs.set g17 (0) (r) [(g16, q), (g14, r1), (g11, r0), (g7, c), (g_b, b), (g_a, a)] (by simp) Fg17.out.1 (fun p hp => by simp only [List.mem_cons, List.not_mem_nil, or_false] at hp; rcases hp with rfl | rfl | rfl | rfl | rfl | rfl <;> first | exact ⟨by simp, Ne.symm (Fg16.out.2 (g17, 0) (by simp))⟩ | exact ⟨by simp, Fg17.out.2 (g14, r1) (by simp)⟩ | exact ⟨by simp, Fg17.out.2 (g11, r0) (by simp)⟩ | exact ⟨by simp, Fg17.out.2 (g7, c) (by simp)⟩ | exact ⟨by simp, Fg17.out.2 (g_b, b) (by simp)⟩ | exact ⟨by simp, Fg17.out.2 (g_a, a) (by simp)⟩)
        go_simp
        clear hT
        have hT := hid (((hs49).cell g7 (c) (by simp)))
        refine hK.out _ _ (hT.out) ?_
        clear hK K
        try simp only [putz]
        clear hs z0 z1 z2 z3 zl zf
        change Goes _ _ _ _ _ _ _ _ (fil wn48 g17 (r))
        generalize fil wn48 g17 (r) = wn49 at *
        have hs := hs49
        clear hs49
        refine Goes.tk (i := 13) (o := ⟨some 18, _, _, _, _, _⟩) (v := ?_) [] (y := Or.inl ⟨by rfl, ?_⟩) (s := hT.out) (H := ?_)
        rotate_left
        · intro w hY; go_simp; try with_reducible rfl
        try simp only [putz]
        clear hT
        refine Goes.done (by kernel_rfl) ?_ _
        refine NoPanic.normal ?_
        exact hQ.out _ _ _ _ _ _ _ _ _ _ _ _ _ (hid (hs.perm (by simp)))
      · skip
        go_simp
        clear hT
        have hT := hid (((hs.zero).cell g7 (c) (by simp)))
        refine hK.out _ _ (hT.out) ?_
        clear hK K
        try simp only [putz]
        have Fg16 := hid hs.fresh
        have hs50 := hs.zero
        clear hs
        generalize wn45.alloc (.cells #[.int .u64 0, .int .u64 0, .int .u64 0, .int .u64 0] 24) = wn50 at *
        generalize wn45.heap.size = g16 at *
        have hs := hs50
        clear hs50
        refine Goes.one (i := 4) (o := ⟨some 95, _, _, _, _, _⟩) (by kernel_rfl) rfl (fun K hK => ?_)
        go_simp
        with_reducible refine (div_at c n q r hs XL.out NB.out N0.out EQ.out ER.out).mono ?_
        rintro e wn51 ⟨rfl, hs51⟩
        go_wp2_with fail
        clear hT
        have hT := hid (((hs51).cell g7 (c) (by simp)))
        refine hK.out _ _ (hT.out) ?_
        clear hK K
        try simp only [putz]
        clear hs
        have hs := hs51
        clear hs51
        refine Goes.tk (i := 5) (o := ⟨some 90, _, _, _, _, _⟩) (v := ?_) [] (y := Or.inl ⟨by rfl, ?_⟩) (s := hT.out) (H := ?_)
        rotate_left
        · intro w hY; go_simp; try with_reducible rfl
        try simp only [putz]
        refine Goes.tk (i := 6) (o := ⟨some 96, _, _, _, _, _⟩) (v := ?_) [] (y := Or.inl ⟨by rfl, ?_⟩) (s := hT.out) (H := ?_)
        rotate_left
        · intro w hY; go_simp; try with_reducible rfl
        try simp only [putz]
        refine Goes.tk (i := 7) (o := ⟨some 97, _, _, _, _, _⟩) (v := ?_) [] (y := Or.inl ⟨by rfl, ?_⟩) (s := hT.out) (H := ?_)
        rotate_left
        · intro w hY; go_simp; try with_reducible rfl
        try simp only [putz]
        refine Goes.tk (i := 8) (o := ⟨some 98, _, _, _, _, _⟩) (v := ?_) [] (y := Or.inl ⟨by rfl, ?_⟩) (s := hT.out) (H := ?_)
        rotate_left
        · intro w hY; go_simp; try with_reducible rfl
        try simp only [putz]
        refine Goes.one (i := 11) (o := ⟨none, _, _, _, _, _⟩) (by kernel_rfl) rfl (fun K hK => ?_)
        obtain ⟨z0, z1, z2, z3⟩ := hs.cell g16 (0) (by simp)
        have zl := hs.lt g16 (0) (by simp)
        have zf := hs.frozen g16 (0) (by simp)
        have hs52 := hs.set g16 (0) (q) [(g17, 0), (g14, r1), (g11, r0), (g7, c), (g_b, b), (g_a, a)] (by simp) Fg16.out.1 (fun p hp => by simp only [List.mem_cons, List.not_mem_nil, or_false] at hp; rcases hp with rfl | rfl | rfl | rfl | rfl | rfl <;> first | exact ⟨by simp, Fg16.out.2 (g17, 0) (by simp)⟩ | exact ⟨by simp, Fg16.out.2 (g14, r1) (by simp)⟩ | exact ⟨by simp, Fg16.out.2 (g11, r0) (by simp)⟩ | exact ⟨by simp, Fg16.out.2 (g7, c) (by simp)⟩ | exact ⟨by simp, Fg16.out.2 (g_b, b) (by simp)⟩ | exact ⟨by simp, Fg16.out.2 (g_a, a) (by simp)⟩)
        go_simp
        clear hT
        have hT := hid (((hs52).cell g7 (c) (by simp)))
        refine hK.out _ _ (hT.out) ?_
        clear hK K
        try simp only [putz]
        clear hs z0 z1 z2 z3 zl zf
        change Goes _ _ _ _ _ _ _ _ (fil wn51 g16 (q))
        generalize fil wn51 g16 (q) = wn52 at *
        have hs := hs52
        clear hs52
        refine Goes.one (i := 12) (o := ⟨none, _, _, _, _, _⟩) (by kernel_rfl) rfl (fun K hK => ?_)
        obtain ⟨z0, z1, z2, z3⟩ := hs.cell g17 (0) (by simp)
        have zl := hs.lt g17 (0) (by simp)
        have zf := hs.frozen g17 (0) (by simp)
        have hs53 := hs.set g17 (0) (r) [(g16, q), (g14, r1), (g11, r0), (g7, c), (g_b, b), (g_a, a)] (by simp) Fg17.out.1 (fun p hp => by simp only [List.mem_cons, List.not_mem_nil, or_false] at hp; rcases hp with rfl | rfl | rfl | rfl | rfl | rfl <;> first | exact ⟨by simp, Ne.symm (Fg16.out.2 (g17, 0) (by simp))⟩ | exact ⟨by simp, Fg17.out.2 (g14, r1) (by simp)⟩ | exact ⟨by simp, Fg17.out.2 (g11, r0) (by simp)⟩ | exact ⟨by simp, Fg17.out.2 (g7, c) (by simp)⟩ | exact ⟨by simp, Fg17.out.2 (g_b, b) (by simp)⟩ | exact ⟨by simp, Fg17.out.2 (g_a, a) (by simp)⟩)
        go_simp
        clear hT
        have hT := hid (((hs53).cell g7 (c) (by simp)))
        refine hK.out _ _ (hT.out) ?_
        clear hK K
        try simp only [putz]
        clear hs z0 z1 z2 z3 zl zf
        change Goes _ _ _ _ _ _ _ _ (fil wn52 g17 (r))
        generalize fil wn52 g17 (r) = wn53 at *
        have hs := hs53
        clear hs53
        refine Goes.tk (i := 13) (o := ⟨some 18, _, _, _, _, _⟩) (v := ?_) [] (y := Or.inl ⟨by rfl, ?_⟩) (s := hT.out) (H := ?_)
        rotate_left
        · intro w hY; go_simp; try with_reducible rfl
        try simp only [putz]
        clear hT
        refine Goes.done (by kernel_rfl) ?_ _
        refine NoPanic.normal ?_
        exact hQ.out _ _ _ _ _ _ _ _ _ _ _ _ _ (hid (hs.perm (by simp)))
    · skip
      go_simp
      clear hT
      have hT := hid (((hs.zero).cell g7 (c) (by simp)))
      refine hK.out _ _ (hT.out) ?_
      clear hK K
      try simp only [putz]
      have Fg16 := hid hs.fresh
      have hs54 := hs.zero
      clear hs
      generalize wn44.alloc (.cells #[.int .u64 0, .int .u64 0, .int .u64 0, .int .u64 0] 24) = wn54 at *
      generalize wn44.heap.size = g16 at *
      have hs := hs54
      clear hs54
      refine Goes.one (i := 3) (o := ⟨some 94, _, _, _, _, _⟩) (by kernel_rfl) rfl (fun K hK => ?_)
      go_simp
      with_reducible refine (ofl3_at n (n : Int) hs NL.out rfl).mono ?_
      rintro e wn55 ⟨rfl, hs55⟩
      go_wp2_with fail
      clear hT
      have hT := hid (((hs55).cell g7 (c) (by simp)))
      refine hK.out _ _ (hT.out) ?_
      clear hK K
      try simp only [putz]
      clear hs
      have hs := hs55
      clear hs55
      refine Goes.one (i := 4) (o := ⟨some 95, _, _, _, _, _⟩) (by kernel_rfl) rfl (fun K hK => ?_)
      go_simp
      with_reducible refine (div_at c n q r hs XL.out NB.out N0.out EQ.out ER.out).mono ?_
      rintro e wn56 ⟨rfl, hs56⟩
      go_wp2_with fail
      clear hT
      have hT := hid (((hs56).cell g7 (c) (by simp)))
      refine hK.out _ _ (hT.out) ?_
      clear hK K
      try simp only [putz]
      clear hs
      have hs := hs56
      clear hs56
      refine Goes.tk (i := 5) (o := ⟨some 90, _, _, _, _, _⟩) (v := ?_) [] (y := Or.inl ⟨by rfl, ?_⟩) (s := hT.out) (H := ?_)
      rotate_left
      · intro w hY; go_simp; try with_reducible rfl
      try simp only [putz]
      refine Goes.tk (i := 6) (o := ⟨some 96, _, _, _, _, _⟩) (v := ?_) [] (y := Or.inl ⟨by rfl, ?_⟩) (s := hT.out) (H := ?_)
      rotate_left
      · intro w hY; go_simp; try with_reducible rfl
      try simp only [putz]
      refine Goes.tk (i := 7) (o := ⟨some 97, _, _, _, _, _⟩) (v := ?_) [] (y := Or.inl ⟨by rfl, ?_⟩) (s := hT.out) (H := ?_)
      rotate_left
      · intro w hY; go_simp; try with_reducible rfl
      try simp only [putz]
      refine Goes.tk (i := 8) (o := ⟨some 98, _, _, _, _, _⟩) (v := ?_) [] (y := Or.inl ⟨by rfl, ?_⟩) (s := hT.out) (H := ?_)
      rotate_left
      · intro w hY; go_simp; try with_reducible rfl
      try simp only [putz]
      refine Goes.one (i := 11) (o := ⟨none, _, _, _, _, _⟩) (by kernel_rfl) rfl (fun K hK => ?_)
      obtain ⟨z0, z1, z2, z3⟩ := hs.cell g16 (0) (by simp)
      have zl := hs.lt g16 (0) (by simp)
      have zf := hs.frozen g16 (0) (by simp)
      have hs57 := hs.set g16 (0) (q) [(g17, 0), (g14, r1), (g11, r0), (g7, c), (g_b, b), (g_a, a)] (by simp) Fg16.out.1 (fun p hp => by simp only [List.mem_cons, List.not_mem_nil, or_false] at hp; rcases hp with rfl | rfl | rfl | rfl | rfl | rfl <;> first | exact ⟨by simp, Fg16.out.2 (g17, 0) (by simp)⟩ | exact ⟨by simp, Fg16.out.2 (g14, r1) (by simp)⟩ | exact ⟨by simp, Fg16.out.2 (g11, r0) (by simp)⟩ | exact ⟨by simp, Fg16.out.2 (g7, c) (by simp)⟩ | exact ⟨by simp, Fg16.out.2 (g_b, b) (by simp)⟩ | exact ⟨by simp, Fg16.out.2 (g_a, a) (by simp)⟩)
      go_simp
      clear hT
      have hT := hid (((hs57).cell g7 (c) (by simp)))
      refine hK.out _ _ (hT.out) ?_
      clear hK K
      try simp only [putz]
      clear hs z0 z1 z2 z3 zl zf
      change Goes _ _ _ _ _ _ _ _ (fil wn56 g16 (q))
      generalize fil wn56 g16 (q) = wn57 at *
      have hs := hs57
      clear hs57
      refine Goes.one (i := 12) (o := ⟨none, _, _, _, _, _⟩) (by kernel_rfl) rfl (fun K hK => ?_)
      obtain ⟨z0, z1, z2, z3⟩ := hs.cell g17 (0) (by simp)
      have zl := hs.lt g17 (0) (by simp)
      have zf := hs.frozen g17 (0) (by simp)
      have hs58 := hs.set g17 (0) (r) [(g16, q), (g14, r1), (g11, r0), (g7, c), (g_b, b), (g_a, a)] (by simp) Fg17.out.1 (fun p hp => by simp only [List.mem_cons, List.not_mem_nil, or_false] at hp; rcases hp with rfl | rfl | rfl | rfl | rfl | rfl <;> first | exact ⟨by simp, Ne.symm (Fg16.out.2 (g17, 0) (by simp))⟩ | exact ⟨by simp, Fg17.out.2 (g14, r1) (by simp)⟩ | exact ⟨by simp, Fg17.out.2 (g11, r0) (by simp)⟩ | exact ⟨by simp, Fg17.out.2 (g7, c) (by simp)⟩ | exact ⟨by simp, Fg17.out.2 (g_b, b) (by simp)⟩ | exact ⟨by simp, Fg17.out.2 (g_a, a) (by simp)⟩)
      go_simp
      clear hT
      have hT := hid (((hs58).cell g7 (c) (by simp)))
      refine hK.out _ _ (hT.out) ?_
      clear hK K
      try simp only [putz]
      clear hs z0 z1 z2 z3 zl zf
      change Goes _ _ _ _ _ _ _ _ (fil wn57 g17 (r))
      generalize fil wn57 g17 (r) = wn58 at *
      have hs := hs58
      clear hs58
      refine Goes.tk (i := 13) (o := ⟨some 18, _, _, _, _, _⟩) (v := ?_) [] (y := Or.inl ⟨by rfl, ?_⟩) (s := hT.out) (H := ?_)
      rotate_left
      · intro w hY; go_simp; try with_reducible rfl
      try simp only [putz]
      clear hT
      refine Goes.done (by kernel_rfl) ?_ _
      refine NoPanic.normal ?_
      exact hQ.out _ _ _ _ _ _ _ _ _ _ _ _ _ (hid (hs.perm (by simp)))
end Go.Proofs.YtaggegknnnembaaDoor

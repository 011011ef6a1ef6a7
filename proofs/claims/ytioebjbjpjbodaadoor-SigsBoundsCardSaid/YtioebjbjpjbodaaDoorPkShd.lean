/-
  mods.shifted, walked: Montgomery's form is made. Conditions: none.
-/
import Derived.Test.YtioebjbjpjbodaaDoorPkMont
import Derived.Test.YtioebjbjpjbodaaDoorPkAn
namespace Go.Proofs.YtioebjbjpjbodaaDoor
open Go.RowKit
set_option linter.unusedVariables false

theorem F1.new (w : World) (v : Value) : F1 (w.alloc (.cells #[v] 56)) w.heap.size v := heap_alloc_new _ _
theorem F1.frozen {w : World} {g : Nat} {v : Value} (h : F1 w g v) (i : Nat) : w.frozen? ⟨g, i, none⟩ = false := by
 unfold F1 at h; simp [World.frozen?, h]
theorem F1.setOther {w : World} {g g' i : Nat} {v u : Value} (h : F1 w g v) (hne : g ≠ g') : F1 (w.setCell ⟨g', i, none⟩ u) g v := (Below.heap_setCell w ⟨g', i, none⟩ u g hne).trans h
theorem F1.fil {w : World} {g g' : Nat} {v : Value} (h : F1 w g v) (hne : g ≠ g') (x : Nat) : F1 (fil w g' x) g v := (((h.setOther hne).setOther hne).setOther hne).setOther hne
theorem Env.set1 {w w' : World} {l : List (Nat × Nat)} {g : Nat} (h : Env w l w') (hg : w.heap.size ≤ g) (hl : ∀ p ∈ l, p.1 ≠ g) (v : Value) : Env w l (w'.setCell ⟨g, 0, none⟩ v) :=
 ⟨h.1.setCell (p := ⟨g, 0, none⟩) hg _, fun p hp => (h.2 p hp).fr.setOther _ (hl p hp)⟩
theorem Nm.fil3 {w : World} {g g' x : Nat} (h : Nm w g x) (hne : g ≠ g') (a b c : Value) : Nm (fil3 w g' a b c) g x := ((h.fr.setOther _ hne).setOther _ hne).setOther _ hne
theorem F1.fil3 {w : World} {g g' : Nat} {v : Value} (h : F1 w g v) (hne : g ≠ g') (a b c : Value) : F1 (fil3 w g' a b c) g v := ((h.setOther hne).setOther hne).setOther hne
theorem Shd.fil3 {w : World} {m iv gi gm gs gb gl g : Nat} (h : Shd w m iv gi gm gs gb gl) (hn : gi ≠ g ∧ gm ≠ g ∧ gb ≠ g ∧ gs ≠ g ∧ gl ≠ g) (a b c : Value) : Shd (fil3 w g a b c) m iv gi gm gs gb gl :=
 ⟨h.1.fil3 hn.1 a b c, h.2.1.fil3 hn.2.1 a b c, h.2.2.1.fil3 hn.2.2.1 a b c, h.2.2.2.1.fil3 hn.2.2.2.1 a b c, h.2.2.2.2.fil3 hn.2.2.2.2 a b c⟩
/-- the shifted form -/
abbrev sform (gm gl : Nat) : Value := .agg #[.func (.func 82) #[] #[.pointer (some ⟨gm, 0, none⟩)], .func (.func 83) #[] #[.pointer (some ⟨gl, 0, none⟩)], .func (.func 84) #[] #[.pointer (some ⟨gl, 0, none⟩)]]
/-- what shifted answers -/
def ShE (m : Nat) (e : Ending) (w' : World) : Prop := ∃ iv gi gm gs gb gl, e = .returned (sform gm gl) ∧ Shd w' m iv gi gm gs gb gl ∧ iv < 2 ^ 256 ∧ Cg (2 ^ 256) ((m : Int) * iv) 1
set_option maxRecDepth 100000 in
set_option maxHeartbeats 4000000 in
theorem shifted_any (m : Nat) (w : World) (hm2 : m < 2 ^ 256) (ho : m % 2 = 1) : Calls Tryd.prog 72 #[num m] w fun e w' => ShE m e w' ∧ Below w.heap.size w w' := by
 have hf : ∀ (g : Nat) (w : World), (Instr.field 63 (ring g) 1).run Tryd.prog w = .ok (.func (.func 40) #[] #[.pointer (some ⟨g, 0, none⟩)]) w := fun _ _ => by kernel_rfl
 have ML := hid hm2
 have HO := hid ho
 clear hm2 ho
 have hmf : ∀ (fn : Fn) (first cap : Array Value) (w : World), (Instr.makeFunc fn first cap).run Tryd.prog w = .ok (.func fn first cap) w := fun _ _ _ _ => rfl
 have HE := hid ((Env.refl w).new m)
 go_enter Tryd.func72, Tryd.ntmps72
 go_upto_region 1 with fail
 have HR := hid (R3.new (w.alloc (.cells (cls m) 24)) 101 .nilFunc .nilFunc .nilFunc)
 have E0 := hid (HE.out.alloc (.cells #[.nilFunc, .nilFunc, .nilFunc] 101))
 have HF := hid (show w.heap.size ≤ (w.alloc (.cells (cls m) 24)).heap.size ∧ w.heap.size ≠ (w.alloc (.cells (cls m) 24)).heap.size by simp)
 simp only [show ∀ (w : World) (o : Obj), (w.alloc o).heap.size = w.heap.size + 1 from fun w o => Array.size_push _] at HR HF
 clear HE
 generalize (w.alloc (.cells (cls m) 24)).alloc (.cells #[.nilFunc, .nilFunc, .nilFunc] 101) = w0 at *
 generalize hr : w.heap.size + 1 = gr at *
 generalize hm : w.heap.size = gm at *
 go_cut [3, 4] (fun s3 s4 wx => ∃ g3 g4 gb iv : Nat, s3 = .pointer (some ⟨g3, 0, none⟩) ∧ s4 = .pointer (some ⟨g4, 0, none⟩) ∧ Hid (Env w0 [(g4, iv), (gb, m)] wx) ∧ Hid (F1 wx g3 (.func (.func 40) #[] #[.pointer (some ⟨gb, 0, none⟩)])) ∧ Hid (iv < 2 ^ 256 ∧ Cg (2 ^ 256) ((m : Int) * iv) 1) ∧ Hid (w0.heap.size ≤ g4 ∧ w0.heap.size ≤ gb ∧ w0.heap.size ≤ g3))
 case first =>
  have hs := (Env.refl w0).drew
  refine wp_region_noPanic ?_
  refine Goes.region (fun (L : Array Bool) (w' : World) => (w'.cell? ⟨gm, 0, none⟩ = some (.int .u64 (wd (m) 0 : Int)) ∧ w'.cell? ⟨gm, 1, none⟩ = some (.int .u64 (wd (m) 1 : Int)) ∧ w'.cell? ⟨gm, 2, none⟩ = some (.int .u64 (wd (m) 2 : Int)) ∧ w'.cell? ⟨gm, 3, none⟩ = some (.int .u64 (wd (m) 3 : Int)))) (by kernel_rfl) ?_
  generalize w0.drew = wd at *
  refine Goes.tk (i := 0) (o := ⟨some 6, _, _, _, _, _⟩) (v := ?_) [] (y := Or.inl ⟨by rfl, ?_⟩) (s := (E0.out.on (Env.below hs)).cell gm m (by simp)) (H := ?_)
  rotate_left
  ·rintro w ⟨up, -, hX⟩; (try dsimp only at hX); go_simp; try with_reducible rfl
  try simp only [putz]
  refine Goes.tk (i := 3) (o := ⟨some 9, _, _, _, _, _⟩) (v := ?_) [] (y := Or.inl ⟨by rfl, ?_⟩) (s := (E0.out.on (Env.below hs)).cell gm m (by simp)) (H := ?_)
  rotate_left
  ·rintro w ⟨up, -, hX⟩; (try dsimp only at hX); go_simp; try with_reducible rfl
  try simp only [putz]
  refine Goes.three (i := 1) (j := 5) (k := 6) (o := ⟨some 7, _, _, _, _, _⟩) (p := ⟨some 3, _, _, _, _, _⟩) (q := ⟨some 4, _, _, _, _, _⟩) (by kernel_rfl) rfl rfl rfl (fun K hK => ?_) (fun K hK => ?_) (fun K hK => ?_)
  ·skip
   go_simp
   with_reducible refine (by_any m _).mono ?_
   rintro e wn1 ⟨rfl, hE⟩
   have hb := Env.below hE
   have hs2 := (Env.on hs hb).more (hE.nm wd.heap.size m (by simp))
   have Fgb := hid hs.fresh
   clear hs hE hb
   have hs := hs2
   clear hs2
   go_wp2_with fail
   refine hK.out _ _ ((E0.out.on (Env.below hs)).cell gm m (by simp)) ?_
   clear hK K
   try simp only [putz]
   generalize wd.heap.size = gb at *
   refine Goes.tk (i := 2) (o := ⟨some 8, _, _, _, _, _⟩) (v := ?_) [] (y := Or.inl ⟨by rfl, ?_⟩) (s := (E0.out.on (Env.below hs)).cell gm m (by simp)) (H := ?_)
   rotate_left
   ·rintro w ⟨up, -, hX⟩; (try dsimp only at hX); go_simp; try with_reducible rfl
   try simp only [putz]
   refine Goes.three (i := 4) (j := 5) (k := 6) (o := ⟨some 10, _, _, _, _, _⟩) (p := ⟨some 3, _, _, _, _, _⟩) (q := ⟨some 4, _, _, _, _, _⟩) (by kernel_rfl) rfl rfl rfl (fun K hK => ?_) (fun K hK => ?_) (fun K hK => ?_)
   ·skip
    go_simp
    with_reducible refine (invert_any m _ ML.out HO.out).mono ?_
    rintro e wn2 ⟨⟨iv, rfl, hiv, hci⟩, hb⟩
    have IV := hid (show iv < 2 ^ 256 ∧ Cg (2 ^ 256) ((m : Int) * iv) 1 from ⟨hiv, hci⟩)
    have hs2 := Env.on hs hb
    clear hs hb hiv hci
    have hs := hs2
    clear hs2
    go_wp2_with fail
    refine hK.out _ _ ((E0.out.on (Env.below hs)).cell gm m (by simp)) ?_
    clear hK K
    try simp only [putz]
    refine Goes.two (i := 5) (j := 6) (o := ⟨some 3, _, _, _, _, _⟩) (p := ⟨some 4, _, _, _, _, _⟩) (by kernel_rfl) rfl rfl (fun K hK => ?_) (fun K hK => ?_)
    ·skip
     go_simp
     have hs2 := Env.alloc hs (.cells #[.nilFunc] 56)
     have F3 := hid hs.fresh
     have HG3 := hid (F1.new wn2 .nilFunc)
     clear hs
     have hs := hs2
     clear hs2
     refine hK.out _ _ ((E0.out.on (Env.below hs)).cell gm m (by simp)) ?_
     clear hK K
     try simp only [putz]
     generalize wn2.alloc (.cells #[.nilFunc] 56) = wn3 at *
     generalize wn2.heap.size = g3 at *
     refine Goes.one (i := 6) (o := ⟨some 4, _, _, _, _, _⟩) (by kernel_rfl) rfl (fun K hK => ?_)
     go_simp
     have hs2 := hs.zero
     have Fg4 := hid hs.fresh
     have HG3b := hid (HG3.out.on ((Below.refl wn3.heap.size wn3).alloc (Nat.le_refl _) (.cells #[.int .u64 0, .int .u64 0, .int .u64 0, .int .u64 0] 24)))
     have N3g4 := hid (Nat.ne_of_lt (lt_of_block HG3.out))
     clear HG3
     have HG3 := HG3b
     clear HG3b
     clear hs
     have hs := hs2
     clear hs2
     refine hK.out _ _ ((E0.out.on (Env.below hs)).cell gm m (by simp)) ?_
     clear hK K
     try simp only [putz]
     generalize wn3.alloc (.cells #[.int .u64 0, .int .u64 0, .int .u64 0, .int .u64 0] 24) = wn4 at *
     generalize wn3.heap.size = g4 at *
     refine Goes.one (i := 7) (o := ⟨none, _, _, _, _, _⟩) (by kernel_rfl) rfl (fun K hK => ?_)
     have zc := cell_of_one HG3.out
     have zl := lt_of_block HG3.out
     have zf := F1.frozen HG3.out
     have hs2 := Env.set1 hs F3.out.1 (fun p hp => by simp only [List.mem_cons, List.not_mem_nil, or_false] at hp; rcases hp with rfl | rfl <;> first | exact (Ne.symm N3g4.out) | exact (F3.out.2 (gb, m) (by simp))) (.func (.func 40) #[] #[.pointer (some ⟨gb, 0, none⟩)])
     have HG3b : Hid (F1 (wn4.setCell ⟨g3, 0, none⟩ (.func (.func 40) #[] #[.pointer (some ⟨gb, 0, none⟩)])) g3 (.func (.func 40) #[] #[.pointer (some ⟨gb, 0, none⟩)])) := hid (one_setCell HG3.out)
     go_simp
     clear hs HG3
     have hs := hs2
     have HG3 := HG3b
     clear hs2 HG3b
     refine hK.out _ _ ((E0.out.on (Env.below hs)).cell gm m (by simp)) ?_
     clear hK K
     try simp only [putz]
     clear zc zl zf
     generalize wn4.setCell ⟨g3, 0, none⟩ (.func (.func 40) #[] #[.pointer (some ⟨gb, 0, none⟩)]) = wn5 at *
     refine Goes.one (i := 8) (o := ⟨none, _, _, _, _, _⟩) (by kernel_rfl) rfl (fun K hK => ?_)
     obtain ⟨z0, z1, z2, z3⟩ := hs.cell g4 0 (by simp)
     have zl := hs.lt g4 0 (by simp)
     have zf := hs.frozen g4 0 (by simp)
     have hs2 := hs.set g4 0 iv [(gb, m)] (by simp) Fg4.out.1 (fun p hp => by simp only [List.mem_cons, List.not_mem_nil, or_false] at hp; rcases hp with rfl <;> first | exact ⟨by simp, (Fg4.out.2 (gb, m) (by simp))⟩)
     have HG3b := hid (F1.fil HG3.out N3g4.out iv)
     go_simp
     clear hs HG3
     have hs := hs2
     have HG3 := HG3b
     clear hs2 HG3b
     refine hK.out _ _ ((E0.out.on (Env.below hs)).cell gm m (by simp)) ?_
     clear hK K
     try simp only [putz]
     clear z0 z1 z2 z3 zl zf
     change Goes _ _ _ _ _ _ _ _ (fil wn5 g4 iv)
     generalize fil wn5 g4 iv = wn6 at *
     refine Goes.done (by kernel_rfl) ?_ _
     refine NoPanic.normal ?_
     go_wp2_with fail
     go_meet
     exact ⟨_, _, gb, iv, rfl, rfl, hid (hs.perm (by simp)), HG3, IV, hid ⟨Fg4.out.1, Fgb.out.1, F3.out.1⟩⟩
    ·skip
     go_simp
     have hs2 := hs.zero
     have Fg4 := hid hs.fresh
     clear hs
     have hs := hs2
     clear hs2
     refine hK.out _ _ ((E0.out.on (Env.below hs)).cell gm m (by simp)) ?_
     clear hK K
     try simp only [putz]
     generalize wn2.alloc (.cells #[.int .u64 0, .int .u64 0, .int .u64 0, .int .u64 0] 24) = wn7 at *
     generalize wn2.heap.size = g4 at *
     refine Goes.one (i := 5) (o := ⟨some 3, _, _, _, _, _⟩) (by kernel_rfl) rfl (fun K hK => ?_)
     go_simp
     have hs2 := Env.alloc hs (.cells #[.nilFunc] 56)
     have F3 := hid hs.fresh
     have HG3 := hid (F1.new wn7 .nilFunc)
     clear hs
     have hs := hs2
     clear hs2
     refine hK.out _ _ ((E0.out.on (Env.below hs)).cell gm m (by simp)) ?_
     clear hK K
     try simp only [putz]
     generalize wn7.alloc (.cells #[.nilFunc] 56) = wn8 at *
     generalize wn7.heap.size = g3 at *
     refine Goes.one (i := 7) (o := ⟨none, _, _, _, _, _⟩) (by kernel_rfl) rfl (fun K hK => ?_)
     have zc := cell_of_one HG3.out
     have zl := lt_of_block HG3.out
     have zf := F1.frozen HG3.out
     have hs2 := Env.set1 hs F3.out.1 (fun p hp => by simp only [List.mem_cons, List.not_mem_nil, or_false] at hp; rcases hp with rfl | rfl <;> first | exact (F3.out.2 (g4, 0) (by simp)) | exact (F3.out.2 (gb, m) (by simp))) (.func (.func 40) #[] #[.pointer (some ⟨gb, 0, none⟩)])
     have HG3b : Hid (F1 (wn8.setCell ⟨g3, 0, none⟩ (.func (.func 40) #[] #[.pointer (some ⟨gb, 0, none⟩)])) g3 (.func (.func 40) #[] #[.pointer (some ⟨gb, 0, none⟩)])) := hid (one_setCell HG3.out)
     go_simp
     clear hs HG3
     have hs := hs2
     have HG3 := HG3b
     clear hs2 HG3b
     refine hK.out _ _ ((E0.out.on (Env.below hs)).cell gm m (by simp)) ?_
     clear hK K
     try simp only [putz]
     clear zc zl zf
     generalize wn8.setCell ⟨g3, 0, none⟩ (.func (.func 40) #[] #[.pointer (some ⟨gb, 0, none⟩)]) = wn9 at *
     refine Goes.one (i := 8) (o := ⟨none, _, _, _, _, _⟩) (by kernel_rfl) rfl (fun K hK => ?_)
     obtain ⟨z0, z1, z2, z3⟩ := hs.cell g4 0 (by simp)
     have zl := hs.lt g4 0 (by simp)
     have zf := hs.frozen g4 0 (by simp)
     have hs2 := hs.set g4 0 iv [(gb, m)] (by simp) Fg4.out.1 (fun p hp => by simp only [List.mem_cons, List.not_mem_nil, or_false] at hp; rcases hp with rfl <;> first | exact ⟨by simp, (Fg4.out.2 (gb, m) (by simp))⟩)
     have HG3b := hid (F1.fil HG3.out (Ne.symm (F3.out.2 (g4, 0) (by simp))) iv)
     go_simp
     clear hs HG3
     have hs := hs2
     have HG3 := HG3b
     clear hs2 HG3b
     refine hK.out _ _ ((E0.out.on (Env.below hs)).cell gm m (by simp)) ?_
     clear hK K
     try simp only [putz]
     clear z0 z1 z2 z3 zl zf
     change Goes _ _ _ _ _ _ _ _ (fil wn9 g4 iv)
     generalize fil wn9 g4 iv = wn10 at *
     refine Goes.done (by kernel_rfl) ?_ _
     refine NoPanic.normal ?_
     go_wp2_with fail
     go_meet
     exact ⟨_, _, gb, iv, rfl, rfl, hid (hs.perm (by simp)), HG3, IV, hid ⟨Fg4.out.1, Fgb.out.1, F3.out.1⟩⟩
   ·skip
    go_simp
    have hs2 := Env.alloc hs (.cells #[.nilFunc] 56)
    have F3 := hid hs.fresh
    have HG3 := hid (F1.new wn1 .nilFunc)
    clear hs
    have hs := hs2
    clear hs2
    refine hK.out _ _ ((E0.out.on (Env.below hs)).cell gm m (by simp)) ?_
    clear hK K
    try simp only [putz]
    generalize wn1.alloc (.cells #[.nilFunc] 56) = wn11 at *
    generalize wn1.heap.size = g3 at *
    refine Goes.two (i := 4) (j := 6) (o := ⟨some 10, _, _, _, _, _⟩) (p := ⟨some 4, _, _, _, _, _⟩) (by kernel_rfl) rfl rfl (fun K hK => ?_) (fun K hK => ?_)
    ·skip
     go_simp
     with_reducible refine (invert_any m _ ML.out HO.out).mono ?_
     rintro e wn12 ⟨⟨iv, rfl, hiv, hci⟩, hb⟩
     have IV := hid (show iv < 2 ^ 256 ∧ Cg (2 ^ 256) ((m : Int) * iv) 1 from ⟨hiv, hci⟩)
     have hs2 := Env.on hs hb
     have HG3b := hid (HG3.out.on hb)
     clear HG3
     have HG3 := HG3b
     clear HG3b
     clear hs hb hiv hci
     have hs := hs2
     clear hs2
     go_wp2_with fail
     refine hK.out _ _ ((E0.out.on (Env.below hs)).cell gm m (by simp)) ?_
     clear hK K
     try simp only [putz]
     refine Goes.one (i := 6) (o := ⟨some 4, _, _, _, _, _⟩) (by kernel_rfl) rfl (fun K hK => ?_)
     go_simp
     have hs2 := hs.zero
     have Fg4 := hid hs.fresh
     have HG3b := hid (HG3.out.on ((Below.refl wn12.heap.size wn12).alloc (Nat.le_refl _) (.cells #[.int .u64 0, .int .u64 0, .int .u64 0, .int .u64 0] 24)))
     have N3g4 := hid (Nat.ne_of_lt (lt_of_block HG3.out))
     clear HG3
     have HG3 := HG3b
     clear HG3b
     clear hs
     have hs := hs2
     clear hs2
     refine hK.out _ _ ((E0.out.on (Env.below hs)).cell gm m (by simp)) ?_
     clear hK K
     try simp only [putz]
     generalize wn12.alloc (.cells #[.int .u64 0, .int .u64 0, .int .u64 0, .int .u64 0] 24) = wn13 at *
     generalize wn12.heap.size = g4 at *
     refine Goes.one (i := 7) (o := ⟨none, _, _, _, _, _⟩) (by kernel_rfl) rfl (fun K hK => ?_)
     have zc := cell_of_one HG3.out
     have zl := lt_of_block HG3.out
     have zf := F1.frozen HG3.out
     have hs2 := Env.set1 hs F3.out.1 (fun p hp => by simp only [List.mem_cons, List.not_mem_nil, or_false] at hp; rcases hp with rfl | rfl <;> first | exact (Ne.symm N3g4.out) | exact (F3.out.2 (gb, m) (by simp))) (.func (.func 40) #[] #[.pointer (some ⟨gb, 0, none⟩)])
     have HG3b : Hid (F1 (wn13.setCell ⟨g3, 0, none⟩ (.func (.func 40) #[] #[.pointer (some ⟨gb, 0, none⟩)])) g3 (.func (.func 40) #[] #[.pointer (some ⟨gb, 0, none⟩)])) := hid (one_setCell HG3.out)
     go_simp
     clear hs HG3
     have hs := hs2
     have HG3 := HG3b
     clear hs2 HG3b
     refine hK.out _ _ ((E0.out.on (Env.below hs)).cell gm m (by simp)) ?_
     clear hK K
     try simp only [putz]
     clear zc zl zf
     generalize wn13.setCell ⟨g3, 0, none⟩ (.func (.func 40) #[] #[.pointer (some ⟨gb, 0, none⟩)]) = wn14 at *
     refine Goes.one (i := 8) (o := ⟨none, _, _, _, _, _⟩) (by kernel_rfl) rfl (fun K hK => ?_)
     obtain ⟨z0, z1, z2, z3⟩ := hs.cell g4 0 (by simp)
     have zl := hs.lt g4 0 (by simp)
     have zf := hs.frozen g4 0 (by simp)
     have hs2 := hs.set g4 0 iv [(gb, m)] (by simp) Fg4.out.1 (fun p hp => by simp only [List.mem_cons, List.not_mem_nil, or_false] at hp; rcases hp with rfl <;> first | exact ⟨by simp, (Fg4.out.2 (gb, m) (by simp))⟩)
     have HG3b := hid (F1.fil HG3.out N3g4.out iv)
     go_simp
     clear hs HG3
     have hs := hs2
     have HG3 := HG3b
     clear hs2 HG3b
     refine hK.out _ _ ((E0.out.on (Env.below hs)).cell gm m (by simp)) ?_
     clear hK K
     try simp only [putz]
     clear z0 z1 z2 z3 zl zf
     change Goes _ _ _ _ _ _ _ _ (fil wn14 g4 iv)
     generalize fil wn14 g4 iv = wn15 at *
     refine Goes.done (by kernel_rfl) ?_ _
     refine NoPanic.normal ?_
     go_wp2_with fail
     go_meet
     exact ⟨_, _, gb, iv, rfl, rfl, hid (hs.perm (by simp)), HG3, IV, hid ⟨Fg4.out.1, Fgb.out.1, F3.out.1⟩⟩
    ·skip
     go_simp
     have hs2 := hs.zero
     have Fg4 := hid hs.fresh
     have HG3b := hid (HG3.out.on ((Below.refl wn11.heap.size wn11).alloc (Nat.le_refl _) (.cells #[.int .u64 0, .int .u64 0, .int .u64 0, .int .u64 0] 24)))
     have N3g4 := hid (Nat.ne_of_lt (lt_of_block HG3.out))
     clear HG3
     have HG3 := HG3b
     clear HG3b
     clear hs
     have hs := hs2
     clear hs2
     refine hK.out _ _ ((E0.out.on (Env.below hs)).cell gm m (by simp)) ?_
     clear hK K
     try simp only [putz]
     generalize wn11.alloc (.cells #[.int .u64 0, .int .u64 0, .int .u64 0, .int .u64 0] 24) = wn16 at *
     generalize wn11.heap.size = g4 at *
     refine Goes.one (i := 4) (o := ⟨some 10, _, _, _, _, _⟩) (by kernel_rfl) rfl (fun K hK => ?_)
     go_simp
     with_reducible refine (invert_any m _ ML.out HO.out).mono ?_
     rintro e wn17 ⟨⟨iv, rfl, hiv, hci⟩, hb⟩
     have IV := hid (show iv < 2 ^ 256 ∧ Cg (2 ^ 256) ((m : Int) * iv) 1 from ⟨hiv, hci⟩)
     have hs2 := Env.on hs hb
     have HG3b := hid (HG3.out.on hb)
     clear HG3
     have HG3 := HG3b
     clear HG3b
     clear hs hb hiv hci
     have hs := hs2
     clear hs2
     go_wp2_with fail
     refine hK.out _ _ ((E0.out.on (Env.below hs)).cell gm m (by simp)) ?_
     clear hK K
     try simp only [putz]
     refine Goes.one (i := 7) (o := ⟨none, _, _, _, _, _⟩) (by kernel_rfl) rfl (fun K hK => ?_)
     have zc := cell_of_one HG3.out
     have zl := lt_of_block HG3.out
     have zf := F1.frozen HG3.out
     have hs2 := Env.set1 hs F3.out.1 (fun p hp => by simp only [List.mem_cons, List.not_mem_nil, or_false] at hp; rcases hp with rfl | rfl <;> first | exact (Ne.symm N3g4.out) | exact (F3.out.2 (gb, m) (by simp))) (.func (.func 40) #[] #[.pointer (some ⟨gb, 0, none⟩)])
     have HG3b : Hid (F1 (wn17.setCell ⟨g3, 0, none⟩ (.func (.func 40) #[] #[.pointer (some ⟨gb, 0, none⟩)])) g3 (.func (.func 40) #[] #[.pointer (some ⟨gb, 0, none⟩)])) := hid (one_setCell HG3.out)
     go_simp
     clear hs HG3
     have hs := hs2
     have HG3 := HG3b
     clear hs2 HG3b
     refine hK.out _ _ ((E0.out.on (Env.below hs)).cell gm m (by simp)) ?_
     clear hK K
     try simp only [putz]
     clear zc zl zf
     generalize wn17.setCell ⟨g3, 0, none⟩ (.func (.func 40) #[] #[.pointer (some ⟨gb, 0, none⟩)]) = wn18 at *
     refine Goes.one (i := 8) (o := ⟨none, _, _, _, _, _⟩) (by kernel_rfl) rfl (fun K hK => ?_)
     obtain ⟨z0, z1, z2, z3⟩ := hs.cell g4 0 (by simp)
     have zl := hs.lt g4 0 (by simp)
     have zf := hs.frozen g4 0 (by simp)
     have hs2 := hs.set g4 0 iv [(gb, m)] (by simp) Fg4.out.1 (fun p hp => by simp only [List.mem_cons, List.not_mem_nil, or_false] at hp; rcases hp with rfl <;> first | exact ⟨by simp, (Fg4.out.2 (gb, m) (by simp))⟩)
     have HG3b := hid (F1.fil HG3.out N3g4.out iv)
     go_simp
     clear hs HG3
     have hs := hs2
     have HG3 := HG3b
     clear hs2 HG3b
     refine hK.out _ _ ((E0.out.on (Env.below hs)).cell gm m (by simp)) ?_
     clear hK K
     try simp only [putz]
     clear z0 z1 z2 z3 zl zf
     change Goes _ _ _ _ _ _ _ _ (fil wn18 g4 iv)
     generalize fil wn18 g4 iv = wn19 at *
     refine Goes.done (by kernel_rfl) ?_ _
     refine NoPanic.normal ?_
     go_wp2_with fail
     go_meet
     exact ⟨_, _, gb, iv, rfl, rfl, hid (hs.perm (by simp)), HG3, IV, hid ⟨Fg4.out.1, Fgb.out.1, F3.out.1⟩⟩
   ·skip
    go_simp
    have hs2 := hs.zero
    have Fg4 := hid hs.fresh
    clear hs
    have hs := hs2
    clear hs2
    refine hK.out _ _ ((E0.out.on (Env.below hs)).cell gm m (by simp)) ?_
    clear hK K
    try simp only [putz]
    generalize wn1.alloc (.cells #[.int .u64 0, .int .u64 0, .int .u64 0, .int .u64 0] 24) = wn20 at *
    generalize wn1.heap.size = g4 at *
    refine Goes.two (i := 4) (j := 5) (o := ⟨some 10, _, _, _, _, _⟩) (p := ⟨some 3, _, _, _, _, _⟩) (by kernel_rfl) rfl rfl (fun K hK => ?_) (fun K hK => ?_)
    ·skip
     go_simp
     with_reducible refine (invert_any m _ ML.out HO.out).mono ?_
     rintro e wn21 ⟨⟨iv, rfl, hiv, hci⟩, hb⟩
     have IV := hid (show iv < 2 ^ 256 ∧ Cg (2 ^ 256) ((m : Int) * iv) 1 from ⟨hiv, hci⟩)
     have hs2 := Env.on hs hb
     clear hs hb hiv hci
     have hs := hs2
     clear hs2
     go_wp2_with fail
     refine hK.out _ _ ((E0.out.on (Env.below hs)).cell gm m (by simp)) ?_
     clear hK K
     try simp only [putz]
     refine Goes.one (i := 5) (o := ⟨some 3, _, _, _, _, _⟩) (by kernel_rfl) rfl (fun K hK => ?_)
     go_simp
     have hs2 := Env.alloc hs (.cells #[.nilFunc] 56)
     have F3 := hid hs.fresh
     have HG3 := hid (F1.new wn21 .nilFunc)
     clear hs
     have hs := hs2
     clear hs2
     refine hK.out _ _ ((E0.out.on (Env.below hs)).cell gm m (by simp)) ?_
     clear hK K
     try simp only [putz]
     generalize wn21.alloc (.cells #[.nilFunc] 56) = wn22 at *
     generalize wn21.heap.size = g3 at *
     refine Goes.one (i := 7) (o := ⟨none, _, _, _, _, _⟩) (by kernel_rfl) rfl (fun K hK => ?_)
     have zc := cell_of_one HG3.out
     have zl := lt_of_block HG3.out
     have zf := F1.frozen HG3.out
     have hs2 := Env.set1 hs F3.out.1 (fun p hp => by simp only [List.mem_cons, List.not_mem_nil, or_false] at hp; rcases hp with rfl | rfl <;> first | exact (F3.out.2 (g4, 0) (by simp)) | exact (F3.out.2 (gb, m) (by simp))) (.func (.func 40) #[] #[.pointer (some ⟨gb, 0, none⟩)])
     have HG3b : Hid (F1 (wn22.setCell ⟨g3, 0, none⟩ (.func (.func 40) #[] #[.pointer (some ⟨gb, 0, none⟩)])) g3 (.func (.func 40) #[] #[.pointer (some ⟨gb, 0, none⟩)])) := hid (one_setCell HG3.out)
     go_simp
     clear hs HG3
     have hs := hs2
     have HG3 := HG3b
     clear hs2 HG3b
     refine hK.out _ _ ((E0.out.on (Env.below hs)).cell gm m (by simp)) ?_
     clear hK K
     try simp only [putz]
     clear zc zl zf
     generalize wn22.setCell ⟨g3, 0, none⟩ (.func (.func 40) #[] #[.pointer (some ⟨gb, 0, none⟩)]) = wn23 at *
     refine Goes.one (i := 8) (o := ⟨none, _, _, _, _, _⟩) (by kernel_rfl) rfl (fun K hK => ?_)
     obtain ⟨z0, z1, z2, z3⟩ := hs.cell g4 0 (by simp)
     have zl := hs.lt g4 0 (by simp)
     have zf := hs.frozen g4 0 (by simp)
     have hs2 := hs.set g4 0 iv [(gb, m)] (by simp) Fg4.out.1 (fun p hp => by simp only [List.mem_cons, List.not_mem_nil, or_false] at hp; rcases hp with rfl <;> first | exact ⟨by simp, (Fg4.out.2 (gb, m) (by simp))⟩)
     have HG3b := hid (F1.fil HG3.out (Ne.symm (F3.out.2 (g4, 0) (by simp))) iv)
     go_simp
     clear hs HG3
     have hs := hs2
     have HG3 := HG3b
     clear hs2 HG3b
     refine hK.out _ _ ((E0.out.on (Env.below hs)).cell gm m (by simp)) ?_
     clear hK K
     try simp only [putz]
     clear z0 z1 z2 z3 zl zf
     change Goes _ _ _ _ _ _ _ _ (fil wn23 g4 iv)
     generalize fil wn23 g4 iv = wn24 at *
     refine Goes.done (by kernel_rfl) ?_ _
     refine NoPanic.normal ?_
     go_wp2_with fail
     go_meet
     exact ⟨_, _, gb, iv, rfl, rfl, hid (hs.perm (by simp)), HG3, IV, hid ⟨Fg4.out.1, Fgb.out.1, F3.out.1⟩⟩
    ·skip
     go_simp
     have hs2 := Env.alloc hs (.cells #[.nilFunc] 56)
     have F3 := hid hs.fresh
     have HG3 := hid (F1.new wn20 .nilFunc)
     clear hs
     have hs := hs2
     clear hs2
     refine hK.out _ _ ((E0.out.on (Env.below hs)).cell gm m (by simp)) ?_
     clear hK K
     try simp only [putz]
     generalize wn20.alloc (.cells #[.nilFunc] 56) = wn25 at *
     generalize wn20.heap.size = g3 at *
     refine Goes.one (i := 4) (o := ⟨some 10, _, _, _, _, _⟩) (by kernel_rfl) rfl (fun K hK => ?_)
     go_simp
     with_reducible refine (invert_any m _ ML.out HO.out).mono ?_
     rintro e wn26 ⟨⟨iv, rfl, hiv, hci⟩, hb⟩
     have IV := hid (show iv < 2 ^ 256 ∧ Cg (2 ^ 256) ((m : Int) * iv) 1 from ⟨hiv, hci⟩)
     have hs2 := Env.on hs hb
     have HG3b := hid (HG3.out.on hb)
     clear HG3
     have HG3 := HG3b
     clear HG3b
     clear hs hb hiv hci
     have hs := hs2
     clear hs2
     go_wp2_with fail
     refine hK.out _ _ ((E0.out.on (Env.below hs)).cell gm m (by simp)) ?_
     clear hK K
     try simp only [putz]
     refine Goes.one (i := 7) (o := ⟨none, _, _, _, _, _⟩) (by kernel_rfl) rfl (fun K hK => ?_)
     have zc := cell_of_one HG3.out
     have zl := lt_of_block HG3.out
     have zf := F1.frozen HG3.out
     have hs2 := Env.set1 hs F3.out.1 (fun p hp => by simp only [List.mem_cons, List.not_mem_nil, or_false] at hp; rcases hp with rfl | rfl <;> first | exact (F3.out.2 (g4, 0) (by simp)) | exact (F3.out.2 (gb, m) (by simp))) (.func (.func 40) #[] #[.pointer (some ⟨gb, 0, none⟩)])
     have HG3b : Hid (F1 (wn26.setCell ⟨g3, 0, none⟩ (.func (.func 40) #[] #[.pointer (some ⟨gb, 0, none⟩)])) g3 (.func (.func 40) #[] #[.pointer (some ⟨gb, 0, none⟩)])) := hid (one_setCell HG3.out)
     go_simp
     clear hs HG3
     have hs := hs2
     have HG3 := HG3b
     clear hs2 HG3b
     refine hK.out _ _ ((E0.out.on (Env.below hs)).cell gm m (by simp)) ?_
     clear hK K
     try simp only [putz]
     clear zc zl zf
     generalize wn26.setCell ⟨g3, 0, none⟩ (.func (.func 40) #[] #[.pointer (some ⟨gb, 0, none⟩)]) = wn27 at *
     refine Goes.one (i := 8) (o := ⟨none, _, _, _, _, _⟩) (by kernel_rfl) rfl (fun K hK => ?_)
     obtain ⟨z0, z1, z2, z3⟩ := hs.cell g4 0 (by simp)
     have zl := hs.lt g4 0 (by simp)
     have zf := hs.frozen g4 0 (by simp)
     have hs2 := hs.set g4 0 iv [(gb, m)] (by simp) Fg4.out.1 (fun p hp => by simp only [List.mem_cons, List.not_mem_nil, or_false] at hp; rcases hp with rfl <;> first | exact ⟨by simp, (Fg4.out.2 (gb, m) (by simp))⟩)
     have HG3b := hid (F1.fil HG3.out (Ne.symm (F3.out.2 (g4, 0) (by simp))) iv)
     go_simp
     clear hs HG3
     have hs := hs2
     have HG3 := HG3b
     clear hs2 HG3b
     refine hK.out _ _ ((E0.out.on (Env.below hs)).cell gm m (by simp)) ?_
     clear hK K
     try simp only [putz]
     clear z0 z1 z2 z3 zl zf
     change Goes _ _ _ _ _ _ _ _ (fil wn27 g4 iv)
     generalize fil wn27 g4 iv = wn28 at *
     refine Goes.done (by kernel_rfl) ?_ _
     refine NoPanic.normal ?_
     go_wp2_with fail
     go_meet
     exact ⟨_, _, gb, iv, rfl, rfl, hid (hs.perm (by simp)), HG3, IV, hid ⟨Fg4.out.1, Fgb.out.1, F3.out.1⟩⟩
  ·skip
   go_simp
   have hs2 := Env.alloc hs (.cells #[.nilFunc] 56)
   have F3 := hid hs.fresh
   have HG3 := hid (F1.new wd .nilFunc)
   clear hs
   have hs := hs2
   clear hs2
   refine hK.out _ _ ((E0.out.on (Env.below hs)).cell gm m (by simp)) ?_
   clear hK K
   try simp only [putz]
   generalize wd.alloc (.cells #[.nilFunc] 56) = wn29 at *
   generalize wd.heap.size = g3 at *
   refine Goes.two (i := 1) (j := 6) (o := ⟨some 7, _, _, _, _, _⟩) (p := ⟨some 4, _, _, _, _, _⟩) (by kernel_rfl) rfl rfl (fun K hK => ?_) (fun K hK => ?_)
   ·skip
    go_simp
    with_reducible refine (by_any m _).mono ?_
    rintro e wn30 ⟨rfl, hE⟩
    have hb := Env.below hE
    have hs2 := (Env.on hs hb).more (hE.nm wn29.heap.size m (by simp))
    have HG3b := hid (HG3.out.on hb)
    have N3gb := hid (Nat.ne_of_lt (lt_of_block HG3.out))
    clear HG3
    have HG3 := HG3b
    clear HG3b
    have Fgb := hid hs.fresh
    clear hs hE hb
    have hs := hs2
    clear hs2
    go_wp2_with fail
    refine hK.out _ _ ((E0.out.on (Env.below hs)).cell gm m (by simp)) ?_
    clear hK K
    try simp only [putz]
    generalize wn29.heap.size = gb at *
    refine Goes.tk (i := 2) (o := ⟨some 8, _, _, _, _, _⟩) (v := ?_) [] (y := Or.inl ⟨by rfl, ?_⟩) (s := (E0.out.on (Env.below hs)).cell gm m (by simp)) (H := ?_)
    rotate_left
    ·rintro w ⟨up, -, hX⟩; (try dsimp only at hX); go_simp; try with_reducible rfl
    try simp only [putz]
    refine Goes.two (i := 4) (j := 6) (o := ⟨some 10, _, _, _, _, _⟩) (p := ⟨some 4, _, _, _, _, _⟩) (by kernel_rfl) rfl rfl (fun K hK => ?_) (fun K hK => ?_)
    ·skip
     go_simp
     with_reducible refine (invert_any m _ ML.out HO.out).mono ?_
     rintro e wn31 ⟨⟨iv, rfl, hiv, hci⟩, hb⟩
     have IV := hid (show iv < 2 ^ 256 ∧ Cg (2 ^ 256) ((m : Int) * iv) 1 from ⟨hiv, hci⟩)
     have hs2 := Env.on hs hb
     have HG3b := hid (HG3.out.on hb)
     clear HG3
     have HG3 := HG3b
     clear HG3b
     clear hs hb hiv hci
     have hs := hs2
     clear hs2
     go_wp2_with fail
     refine hK.out _ _ ((E0.out.on (Env.below hs)).cell gm m (by simp)) ?_
     clear hK K
     try simp only [putz]
     refine Goes.one (i := 6) (o := ⟨some 4, _, _, _, _, _⟩) (by kernel_rfl) rfl (fun K hK => ?_)
     go_simp
     have hs2 := hs.zero
     have Fg4 := hid hs.fresh
     have HG3b := hid (HG3.out.on ((Below.refl wn31.heap.size wn31).alloc (Nat.le_refl _) (.cells #[.int .u64 0, .int .u64 0, .int .u64 0, .int .u64 0] 24)))
     have N3g4 := hid (Nat.ne_of_lt (lt_of_block HG3.out))
     clear HG3
     have HG3 := HG3b
     clear HG3b
     clear hs
     have hs := hs2
     clear hs2
     refine hK.out _ _ ((E0.out.on (Env.below hs)).cell gm m (by simp)) ?_
     clear hK K
     try simp only [putz]
     generalize wn31.alloc (.cells #[.int .u64 0, .int .u64 0, .int .u64 0, .int .u64 0] 24) = wn32 at *
     generalize wn31.heap.size = g4 at *
     refine Goes.one (i := 7) (o := ⟨none, _, _, _, _, _⟩) (by kernel_rfl) rfl (fun K hK => ?_)
     have zc := cell_of_one HG3.out
     have zl := lt_of_block HG3.out
     have zf := F1.frozen HG3.out
     have hs2 := Env.set1 hs F3.out.1 (fun p hp => by simp only [List.mem_cons, List.not_mem_nil, or_false] at hp; rcases hp with rfl | rfl <;> first | exact (Ne.symm N3g4.out) | exact (Ne.symm N3gb.out)) (.func (.func 40) #[] #[.pointer (some ⟨gb, 0, none⟩)])
     have HG3b : Hid (F1 (wn32.setCell ⟨g3, 0, none⟩ (.func (.func 40) #[] #[.pointer (some ⟨gb, 0, none⟩)])) g3 (.func (.func 40) #[] #[.pointer (some ⟨gb, 0, none⟩)])) := hid (one_setCell HG3.out)
     go_simp
     clear hs HG3
     have hs := hs2
     have HG3 := HG3b
     clear hs2 HG3b
     refine hK.out _ _ ((E0.out.on (Env.below hs)).cell gm m (by simp)) ?_
     clear hK K
     try simp only [putz]
     clear zc zl zf
     generalize wn32.setCell ⟨g3, 0, none⟩ (.func (.func 40) #[] #[.pointer (some ⟨gb, 0, none⟩)]) = wn33 at *
     refine Goes.one (i := 8) (o := ⟨none, _, _, _, _, _⟩) (by kernel_rfl) rfl (fun K hK => ?_)
     obtain ⟨z0, z1, z2, z3⟩ := hs.cell g4 0 (by simp)
     have zl := hs.lt g4 0 (by simp)
     have zf := hs.frozen g4 0 (by simp)
     have hs2 := hs.set g4 0 iv [(gb, m)] (by simp) Fg4.out.1 (fun p hp => by simp only [List.mem_cons, List.not_mem_nil, or_false] at hp; rcases hp with rfl <;> first | exact ⟨by simp, (Fg4.out.2 (gb, m) (by simp))⟩)
     have HG3b := hid (F1.fil HG3.out N3g4.out iv)
     go_simp
     clear hs HG3
     have hs := hs2
     have HG3 := HG3b
     clear hs2 HG3b
     refine hK.out _ _ ((E0.out.on (Env.below hs)).cell gm m (by simp)) ?_
     clear hK K
     try simp only [putz]
     clear z0 z1 z2 z3 zl zf
     change Goes _ _ _ _ _ _ _ _ (fil wn33 g4 iv)
     generalize fil wn33 g4 iv = wn34 at *
     refine Goes.done (by kernel_rfl) ?_ _
     refine NoPanic.normal ?_
     go_wp2_with fail
     go_meet
     exact ⟨_, _, gb, iv, rfl, rfl, hid (hs.perm (by simp)), HG3, IV, hid ⟨Fg4.out.1, Fgb.out.1, F3.out.1⟩⟩
    ·skip
     go_simp
     have hs2 := hs.zero
     have Fg4 := hid hs.fresh
     have HG3b := hid (HG3.out.on ((Below.refl wn30.heap.size wn30).alloc (Nat.le_refl _) (.cells #[.int .u64 0, .int .u64 0, .int .u64 0, .int .u64 0] 24)))
     have N3g4 := hid (Nat.ne_of_lt (lt_of_block HG3.out))
     clear HG3
     have HG3 := HG3b
     clear HG3b
     clear hs
     have hs := hs2
     clear hs2
     refine hK.out _ _ ((E0.out.on (Env.below hs)).cell gm m (by simp)) ?_
     clear hK K
     try simp only [putz]
     generalize wn30.alloc (.cells #[.int .u64 0, .int .u64 0, .int .u64 0, .int .u64 0] 24) = wn35 at *
     generalize wn30.heap.size = g4 at *
     refine Goes.one (i := 4) (o := ⟨some 10, _, _, _, _, _⟩) (by kernel_rfl) rfl (fun K hK => ?_)
     go_simp
     with_reducible refine (invert_any m _ ML.out HO.out).mono ?_
     rintro e wn36 ⟨⟨iv, rfl, hiv, hci⟩, hb⟩
     have IV := hid (show iv < 2 ^ 256 ∧ Cg (2 ^ 256) ((m : Int) * iv) 1 from ⟨hiv, hci⟩)
     have hs2 := Env.on hs hb
     have HG3b := hid (HG3.out.on hb)
     clear HG3
     have HG3 := HG3b
     clear HG3b
     clear hs hb hiv hci
     have hs := hs2
     clear hs2
     go_wp2_with fail
     refine hK.out _ _ ((E0.out.on (Env.below hs)).cell gm m (by simp)) ?_
     clear hK K
     try simp only [putz]
     refine Goes.one (i := 7) (o := ⟨none, _, _, _, _, _⟩) (by kernel_rfl) rfl (fun K hK => ?_)
     have zc := cell_of_one HG3.out
     have zl := lt_of_block HG3.out
     have zf := F1.frozen HG3.out
     have hs2 := Env.set1 hs F3.out.1 (fun p hp => by simp only [List.mem_cons, List.not_mem_nil, or_false] at hp; rcases hp with rfl | rfl <;> first | exact (Ne.symm N3g4.out) | exact (Ne.symm N3gb.out)) (.func (.func 40) #[] #[.pointer (some ⟨gb, 0, none⟩)])
     have HG3b : Hid (F1 (wn36.setCell ⟨g3, 0, none⟩ (.func (.func 40) #[] #[.pointer (some ⟨gb, 0, none⟩)])) g3 (.func (.func 40) #[] #[.pointer (some ⟨gb, 0, none⟩)])) := hid (one_setCell HG3.out)
     go_simp
     clear hs HG3
     have hs := hs2
     have HG3 := HG3b
     clear hs2 HG3b
     refine hK.out _ _ ((E0.out.on (Env.below hs)).cell gm m (by simp)) ?_
     clear hK K
     try simp only [putz]
     clear zc zl zf
     generalize wn36.setCell ⟨g3, 0, none⟩ (.func (.func 40) #[] #[.pointer (some ⟨gb, 0, none⟩)]) = wn37 at *
     refine Goes.one (i := 8) (o := ⟨none, _, _, _, _, _⟩) (by kernel_rfl) rfl (fun K hK => ?_)
     obtain ⟨z0, z1, z2, z3⟩ := hs.cell g4 0 (by simp)
     have zl := hs.lt g4 0 (by simp)
     have zf := hs.frozen g4 0 (by simp)
     have hs2 := hs.set g4 0 iv [(gb, m)] (by simp) Fg4.out.1 (fun p hp => by simp only [List.mem_cons, List.not_mem_nil, or_false] at hp; rcases hp with rfl <;> first | exact ⟨by simp, (Fg4.out.2 (gb, m) (by simp))⟩)
     have HG3b := hid (F1.fil HG3.out N3g4.out iv)
     go_simp
     clear hs HG3
     have hs := hs2
     have HG3 := HG3b
     clear hs2 HG3b
     refine hK.out _ _ ((E0.out.on (Env.below hs)).cell gm m (by simp)) ?_
     clear hK K
     try simp only [putz]
     clear z0 z1 z2 z3 zl zf
     change Goes _ _ _ _ _ _ _ _ (fil wn37 g4 iv)
     generalize fil wn37 g4 iv = wn38 at *
     refine Goes.done (by kernel_rfl) ?_ _
     refine NoPanic.normal ?_
     go_wp2_with fail
     go_meet
     exact ⟨_, _, gb, iv, rfl, rfl, hid (hs.perm (by simp)), HG3, IV, hid ⟨Fg4.out.1, Fgb.out.1, F3.out.1⟩⟩
   ·skip
    go_simp
    have hs2 := hs.zero
    have Fg4 := hid hs.fresh
    have HG3b := hid (HG3.out.on ((Below.refl wn29.heap.size wn29).alloc (Nat.le_refl _) (.cells #[.int .u64 0, .int .u64 0, .int .u64 0, .int .u64 0] 24)))
    have N3g4 := hid (Nat.ne_of_lt (lt_of_block HG3.out))
    clear HG3
    have HG3 := HG3b
    clear HG3b
    clear hs
    have hs := hs2
    clear hs2
    refine hK.out _ _ ((E0.out.on (Env.below hs)).cell gm m (by simp)) ?_
    clear hK K
    try simp only [putz]
    generalize wn29.alloc (.cells #[.int .u64 0, .int .u64 0, .int .u64 0, .int .u64 0] 24) = wn39 at *
    generalize wn29.heap.size = g4 at *
    refine Goes.one (i := 1) (o := ⟨some 7, _, _, _, _, _⟩) (by kernel_rfl) rfl (fun K hK => ?_)
    go_simp
    with_reducible refine (by_any m _).mono ?_
    rintro e wn40 ⟨rfl, hE⟩
    have hb := Env.below hE
    have hs2 := (Env.on hs hb).more (hE.nm wn39.heap.size m (by simp))
    have HG3b := hid (HG3.out.on hb)
    have N3gb := hid (Nat.ne_of_lt (lt_of_block HG3.out))
    clear HG3
    have HG3 := HG3b
    clear HG3b
    have Fgb := hid hs.fresh
    clear hs hE hb
    have hs := hs2
    clear hs2
    go_wp2_with fail
    refine hK.out _ _ ((E0.out.on (Env.below hs)).cell gm m (by simp)) ?_
    clear hK K
    try simp only [putz]
    generalize wn39.heap.size = gb at *
    refine Goes.tk (i := 2) (o := ⟨some 8, _, _, _, _, _⟩) (v := ?_) [] (y := Or.inl ⟨by rfl, ?_⟩) (s := (E0.out.on (Env.below hs)).cell gm m (by simp)) (H := ?_)
    rotate_left
    ·rintro w ⟨up, -, hX⟩; (try dsimp only at hX); go_simp; try with_reducible rfl
    try simp only [putz]
    refine Goes.one (i := 4) (o := ⟨some 10, _, _, _, _, _⟩) (by kernel_rfl) rfl (fun K hK => ?_)
    go_simp
    with_reducible refine (invert_any m _ ML.out HO.out).mono ?_
    rintro e wn41 ⟨⟨iv, rfl, hiv, hci⟩, hb⟩
    have IV := hid (show iv < 2 ^ 256 ∧ Cg (2 ^ 256) ((m : Int) * iv) 1 from ⟨hiv, hci⟩)
    have hs2 := Env.on hs hb
    have HG3b := hid (HG3.out.on hb)
    clear HG3
    have HG3 := HG3b
    clear HG3b
    clear hs hb hiv hci
    have hs := hs2
    clear hs2
    go_wp2_with fail
    refine hK.out _ _ ((E0.out.on (Env.below hs)).cell gm m (by simp)) ?_
    clear hK K
    try simp only [putz]
    refine Goes.one (i := 7) (o := ⟨none, _, _, _, _, _⟩) (by kernel_rfl) rfl (fun K hK => ?_)
    have zc := cell_of_one HG3.out
    have zl := lt_of_block HG3.out
    have zf := F1.frozen HG3.out
    have hs2 := Env.set1 hs F3.out.1 (fun p hp => by simp only [List.mem_cons, List.not_mem_nil, or_false] at hp; rcases hp with rfl | rfl <;> first | exact (Ne.symm N3gb.out) | exact (Ne.symm N3g4.out)) (.func (.func 40) #[] #[.pointer (some ⟨gb, 0, none⟩)])
    have HG3b : Hid (F1 (wn41.setCell ⟨g3, 0, none⟩ (.func (.func 40) #[] #[.pointer (some ⟨gb, 0, none⟩)])) g3 (.func (.func 40) #[] #[.pointer (some ⟨gb, 0, none⟩)])) := hid (one_setCell HG3.out)
    go_simp
    clear hs HG3
    have hs := hs2
    have HG3 := HG3b
    clear hs2 HG3b
    refine hK.out _ _ ((E0.out.on (Env.below hs)).cell gm m (by simp)) ?_
    clear hK K
    try simp only [putz]
    clear zc zl zf
    generalize wn41.setCell ⟨g3, 0, none⟩ (.func (.func 40) #[] #[.pointer (some ⟨gb, 0, none⟩)]) = wn42 at *
    refine Goes.one (i := 8) (o := ⟨none, _, _, _, _, _⟩) (by kernel_rfl) rfl (fun K hK => ?_)
    obtain ⟨z0, z1, z2, z3⟩ := hs.cell g4 0 (by simp)
    have zl := hs.lt g4 0 (by simp)
    have zf := hs.frozen g4 0 (by simp)
    have hs2 := hs.set g4 0 iv [(gb, m)] (by simp) Fg4.out.1 (fun p hp => by simp only [List.mem_cons, List.not_mem_nil, or_false] at hp; rcases hp with rfl <;> first | exact ⟨by simp, (Ne.symm (Fgb.out.2 (g4, 0) (by simp)))⟩)
    have HG3b := hid (F1.fil HG3.out N3g4.out iv)
    go_simp
    clear hs HG3
    have hs := hs2
    have HG3 := HG3b
    clear hs2 HG3b
    refine hK.out _ _ ((E0.out.on (Env.below hs)).cell gm m (by simp)) ?_
    clear hK K
    try simp only [putz]
    clear z0 z1 z2 z3 zl zf
    change Goes _ _ _ _ _ _ _ _ (fil wn42 g4 iv)
    generalize fil wn42 g4 iv = wn43 at *
    refine Goes.done (by kernel_rfl) ?_ _
    refine NoPanic.normal ?_
    go_wp2_with fail
    go_meet
    exact ⟨_, _, gb, iv, rfl, rfl, hid (hs.perm (by simp)), HG3, IV, hid ⟨Fg4.out.1, Fgb.out.1, F3.out.1⟩⟩
  ·skip
   go_simp
   have hs2 := hs.zero
   have Fg4 := hid hs.fresh
   clear hs
   have hs := hs2
   clear hs2
   refine hK.out _ _ ((E0.out.on (Env.below hs)).cell gm m (by simp)) ?_
   clear hK K
   try simp only [putz]
   generalize wd.alloc (.cells #[.int .u64 0, .int .u64 0, .int .u64 0, .int .u64 0] 24) = wn44 at *
   generalize wd.heap.size = g4 at *
   refine Goes.two (i := 1) (j := 5) (o := ⟨some 7, _, _, _, _, _⟩) (p := ⟨some 3, _, _, _, _, _⟩) (by kernel_rfl) rfl rfl (fun K hK => ?_) (fun K hK => ?_)
   ·skip
    go_simp
    with_reducible refine (by_any m _).mono ?_
    rintro e wn45 ⟨rfl, hE⟩
    have hb := Env.below hE
    have hs2 := (Env.on hs hb).more (hE.nm wn44.heap.size m (by simp))
    have Fgb := hid hs.fresh
    clear hs hE hb
    have hs := hs2
    clear hs2
    go_wp2_with fail
    refine hK.out _ _ ((E0.out.on (Env.below hs)).cell gm m (by simp)) ?_
    clear hK K
    try simp only [putz]
    generalize wn44.heap.size = gb at *
    refine Goes.tk (i := 2) (o := ⟨some 8, _, _, _, _, _⟩) (v := ?_) [] (y := Or.inl ⟨by rfl, ?_⟩) (s := (E0.out.on (Env.below hs)).cell gm m (by simp)) (H := ?_)
    rotate_left
    ·rintro w ⟨up, -, hX⟩; (try dsimp only at hX); go_simp; try with_reducible rfl
    try simp only [putz]
    refine Goes.two (i := 4) (j := 5) (o := ⟨some 10, _, _, _, _, _⟩) (p := ⟨some 3, _, _, _, _, _⟩) (by kernel_rfl) rfl rfl (fun K hK => ?_) (fun K hK => ?_)
    ·skip
     go_simp
     with_reducible refine (invert_any m _ ML.out HO.out).mono ?_
     rintro e wn46 ⟨⟨iv, rfl, hiv, hci⟩, hb⟩
     have IV := hid (show iv < 2 ^ 256 ∧ Cg (2 ^ 256) ((m : Int) * iv) 1 from ⟨hiv, hci⟩)
     have hs2 := Env.on hs hb
     clear hs hb hiv hci
     have hs := hs2
     clear hs2
     go_wp2_with fail
     refine hK.out _ _ ((E0.out.on (Env.below hs)).cell gm m (by simp)) ?_
     clear hK K
     try simp only [putz]
     refine Goes.one (i := 5) (o := ⟨some 3, _, _, _, _, _⟩) (by kernel_rfl) rfl (fun K hK => ?_)
     go_simp
     have hs2 := Env.alloc hs (.cells #[.nilFunc] 56)
     have F3 := hid hs.fresh
     have HG3 := hid (F1.new wn46 .nilFunc)
     clear hs
     have hs := hs2
     clear hs2
     refine hK.out _ _ ((E0.out.on (Env.below hs)).cell gm m (by simp)) ?_
     clear hK K
     try simp only [putz]
     generalize wn46.alloc (.cells #[.nilFunc] 56) = wn47 at *
     generalize wn46.heap.size = g3 at *
     refine Goes.one (i := 7) (o := ⟨none, _, _, _, _, _⟩) (by kernel_rfl) rfl (fun K hK => ?_)
     have zc := cell_of_one HG3.out
     have zl := lt_of_block HG3.out
     have zf := F1.frozen HG3.out
     have hs2 := Env.set1 hs F3.out.1 (fun p hp => by simp only [List.mem_cons, List.not_mem_nil, or_false] at hp; rcases hp with rfl | rfl <;> first | exact (F3.out.2 (gb, m) (by simp)) | exact (F3.out.2 (g4, 0) (by simp))) (.func (.func 40) #[] #[.pointer (some ⟨gb, 0, none⟩)])
     have HG3b : Hid (F1 (wn47.setCell ⟨g3, 0, none⟩ (.func (.func 40) #[] #[.pointer (some ⟨gb, 0, none⟩)])) g3 (.func (.func 40) #[] #[.pointer (some ⟨gb, 0, none⟩)])) := hid (one_setCell HG3.out)
     go_simp
     clear hs HG3
     have hs := hs2
     have HG3 := HG3b
     clear hs2 HG3b
     refine hK.out _ _ ((E0.out.on (Env.below hs)).cell gm m (by simp)) ?_
     clear hK K
     try simp only [putz]
     clear zc zl zf
     generalize wn47.setCell ⟨g3, 0, none⟩ (.func (.func 40) #[] #[.pointer (some ⟨gb, 0, none⟩)]) = wn48 at *
     refine Goes.one (i := 8) (o := ⟨none, _, _, _, _, _⟩) (by kernel_rfl) rfl (fun K hK => ?_)
     obtain ⟨z0, z1, z2, z3⟩ := hs.cell g4 0 (by simp)
     have zl := hs.lt g4 0 (by simp)
     have zf := hs.frozen g4 0 (by simp)
     have hs2 := hs.set g4 0 iv [(gb, m)] (by simp) Fg4.out.1 (fun p hp => by simp only [List.mem_cons, List.not_mem_nil, or_false] at hp; rcases hp with rfl <;> first | exact ⟨by simp, (Ne.symm (Fgb.out.2 (g4, 0) (by simp)))⟩)
     have HG3b := hid (F1.fil HG3.out (Ne.symm (F3.out.2 (g4, 0) (by simp))) iv)
     go_simp
     clear hs HG3
     have hs := hs2
     have HG3 := HG3b
     clear hs2 HG3b
     refine hK.out _ _ ((E0.out.on (Env.below hs)).cell gm m (by simp)) ?_
     clear hK K
     try simp only [putz]
     clear z0 z1 z2 z3 zl zf
     change Goes _ _ _ _ _ _ _ _ (fil wn48 g4 iv)
     generalize fil wn48 g4 iv = wn49 at *
     refine Goes.done (by kernel_rfl) ?_ _
     refine NoPanic.normal ?_
     go_wp2_with fail
     go_meet
     exact ⟨_, _, gb, iv, rfl, rfl, hid (hs.perm (by simp)), HG3, IV, hid ⟨Fg4.out.1, Fgb.out.1, F3.out.1⟩⟩
    ·skip
     go_simp
     have hs2 := Env.alloc hs (.cells #[.nilFunc] 56)
     have F3 := hid hs.fresh
     have HG3 := hid (F1.new wn45 .nilFunc)
     clear hs
     have hs := hs2
     clear hs2
     refine hK.out _ _ ((E0.out.on (Env.below hs)).cell gm m (by simp)) ?_
     clear hK K
     try simp only [putz]
     generalize wn45.alloc (.cells #[.nilFunc] 56) = wn50 at *
     generalize wn45.heap.size = g3 at *
     refine Goes.one (i := 4) (o := ⟨some 10, _, _, _, _, _⟩) (by kernel_rfl) rfl (fun K hK => ?_)
     go_simp
     with_reducible refine (invert_any m _ ML.out HO.out).mono ?_
     rintro e wn51 ⟨⟨iv, rfl, hiv, hci⟩, hb⟩
     have IV := hid (show iv < 2 ^ 256 ∧ Cg (2 ^ 256) ((m : Int) * iv) 1 from ⟨hiv, hci⟩)
     have hs2 := Env.on hs hb
     have HG3b := hid (HG3.out.on hb)
     clear HG3
     have HG3 := HG3b
     clear HG3b
     clear hs hb hiv hci
     have hs := hs2
     clear hs2
     go_wp2_with fail
     refine hK.out _ _ ((E0.out.on (Env.below hs)).cell gm m (by simp)) ?_
     clear hK K
     try simp only [putz]
     refine Goes.one (i := 7) (o := ⟨none, _, _, _, _, _⟩) (by kernel_rfl) rfl (fun K hK => ?_)
     have zc := cell_of_one HG3.out
     have zl := lt_of_block HG3.out
     have zf := F1.frozen HG3.out
     have hs2 := Env.set1 hs F3.out.1 (fun p hp => by simp only [List.mem_cons, List.not_mem_nil, or_false] at hp; rcases hp with rfl | rfl <;> first | exact (F3.out.2 (gb, m) (by simp)) | exact (F3.out.2 (g4, 0) (by simp))) (.func (.func 40) #[] #[.pointer (some ⟨gb, 0, none⟩)])
     have HG3b : Hid (F1 (wn51.setCell ⟨g3, 0, none⟩ (.func (.func 40) #[] #[.pointer (some ⟨gb, 0, none⟩)])) g3 (.func (.func 40) #[] #[.pointer (some ⟨gb, 0, none⟩)])) := hid (one_setCell HG3.out)
     go_simp
     clear hs HG3
     have hs := hs2
     have HG3 := HG3b
     clear hs2 HG3b
     refine hK.out _ _ ((E0.out.on (Env.below hs)).cell gm m (by simp)) ?_
     clear hK K
     try simp only [putz]
     clear zc zl zf
     generalize wn51.setCell ⟨g3, 0, none⟩ (.func (.func 40) #[] #[.pointer (some ⟨gb, 0, none⟩)]) = wn52 at *
     refine Goes.one (i := 8) (o := ⟨none, _, _, _, _, _⟩) (by kernel_rfl) rfl (fun K hK => ?_)
     obtain ⟨z0, z1, z2, z3⟩ := hs.cell g4 0 (by simp)
     have zl := hs.lt g4 0 (by simp)
     have zf := hs.frozen g4 0 (by simp)
     have hs2 := hs.set g4 0 iv [(gb, m)] (by simp) Fg4.out.1 (fun p hp => by simp only [List.mem_cons, List.not_mem_nil, or_false] at hp; rcases hp with rfl <;> first | exact ⟨by simp, (Ne.symm (Fgb.out.2 (g4, 0) (by simp)))⟩)
     have HG3b := hid (F1.fil HG3.out (Ne.symm (F3.out.2 (g4, 0) (by simp))) iv)
     go_simp
     clear hs HG3
     have hs := hs2
     have HG3 := HG3b
     clear hs2 HG3b
     refine hK.out _ _ ((E0.out.on (Env.below hs)).cell gm m (by simp)) ?_
     clear hK K
     try simp only [putz]
     clear z0 z1 z2 z3 zl zf
     change Goes _ _ _ _ _ _ _ _ (fil wn52 g4 iv)
     generalize fil wn52 g4 iv = wn53 at *
     refine Goes.done (by kernel_rfl) ?_ _
     refine NoPanic.normal ?_
     go_wp2_with fail
     go_meet
     exact ⟨_, _, gb, iv, rfl, rfl, hid (hs.perm (by simp)), HG3, IV, hid ⟨Fg4.out.1, Fgb.out.1, F3.out.1⟩⟩
   ·skip
    go_simp
    have hs2 := Env.alloc hs (.cells #[.nilFunc] 56)
    have F3 := hid hs.fresh
    have HG3 := hid (F1.new wn44 .nilFunc)
    clear hs
    have hs := hs2
    clear hs2
    refine hK.out _ _ ((E0.out.on (Env.below hs)).cell gm m (by simp)) ?_
    clear hK K
    try simp only [putz]
    generalize wn44.alloc (.cells #[.nilFunc] 56) = wn54 at *
    generalize wn44.heap.size = g3 at *
    refine Goes.one (i := 1) (o := ⟨some 7, _, _, _, _, _⟩) (by kernel_rfl) rfl (fun K hK => ?_)
    go_simp
    with_reducible refine (by_any m _).mono ?_
    rintro e wn55 ⟨rfl, hE⟩
    have hb := Env.below hE
    have hs2 := (Env.on hs hb).more (hE.nm wn54.heap.size m (by simp))
    have HG3b := hid (HG3.out.on hb)
    have N3gb := hid (Nat.ne_of_lt (lt_of_block HG3.out))
    clear HG3
    have HG3 := HG3b
    clear HG3b
    have Fgb := hid hs.fresh
    clear hs hE hb
    have hs := hs2
    clear hs2
    go_wp2_with fail
    refine hK.out _ _ ((E0.out.on (Env.below hs)).cell gm m (by simp)) ?_
    clear hK K
    try simp only [putz]
    generalize wn54.heap.size = gb at *
    refine Goes.tk (i := 2) (o := ⟨some 8, _, _, _, _, _⟩) (v := ?_) [] (y := Or.inl ⟨by rfl, ?_⟩) (s := (E0.out.on (Env.below hs)).cell gm m (by simp)) (H := ?_)
    rotate_left
    ·rintro w ⟨up, -, hX⟩; (try dsimp only at hX); go_simp; try with_reducible rfl
    try simp only [putz]
    refine Goes.one (i := 4) (o := ⟨some 10, _, _, _, _, _⟩) (by kernel_rfl) rfl (fun K hK => ?_)
    go_simp
    with_reducible refine (invert_any m _ ML.out HO.out).mono ?_
    rintro e wn56 ⟨⟨iv, rfl, hiv, hci⟩, hb⟩
    have IV := hid (show iv < 2 ^ 256 ∧ Cg (2 ^ 256) ((m : Int) * iv) 1 from ⟨hiv, hci⟩)
    have hs2 := Env.on hs hb
    have HG3b := hid (HG3.out.on hb)
    clear HG3
    have HG3 := HG3b
    clear HG3b
    clear hs hb hiv hci
    have hs := hs2
    clear hs2
    go_wp2_with fail
    refine hK.out _ _ ((E0.out.on (Env.below hs)).cell gm m (by simp)) ?_
    clear hK K
    try simp only [putz]
    refine Goes.one (i := 7) (o := ⟨none, _, _, _, _, _⟩) (by kernel_rfl) rfl (fun K hK => ?_)
    have zc := cell_of_one HG3.out
    have zl := lt_of_block HG3.out
    have zf := F1.frozen HG3.out
    have hs2 := Env.set1 hs F3.out.1 (fun p hp => by simp only [List.mem_cons, List.not_mem_nil, or_false] at hp; rcases hp with rfl | rfl <;> first | exact (Ne.symm N3gb.out) | exact (F3.out.2 (g4, 0) (by simp))) (.func (.func 40) #[] #[.pointer (some ⟨gb, 0, none⟩)])
    have HG3b : Hid (F1 (wn56.setCell ⟨g3, 0, none⟩ (.func (.func 40) #[] #[.pointer (some ⟨gb, 0, none⟩)])) g3 (.func (.func 40) #[] #[.pointer (some ⟨gb, 0, none⟩)])) := hid (one_setCell HG3.out)
    go_simp
    clear hs HG3
    have hs := hs2
    have HG3 := HG3b
    clear hs2 HG3b
    refine hK.out _ _ ((E0.out.on (Env.below hs)).cell gm m (by simp)) ?_
    clear hK K
    try simp only [putz]
    clear zc zl zf
    generalize wn56.setCell ⟨g3, 0, none⟩ (.func (.func 40) #[] #[.pointer (some ⟨gb, 0, none⟩)]) = wn57 at *
    refine Goes.one (i := 8) (o := ⟨none, _, _, _, _, _⟩) (by kernel_rfl) rfl (fun K hK => ?_)
    obtain ⟨z0, z1, z2, z3⟩ := hs.cell g4 0 (by simp)
    have zl := hs.lt g4 0 (by simp)
    have zf := hs.frozen g4 0 (by simp)
    have hs2 := hs.set g4 0 iv [(gb, m)] (by simp) Fg4.out.1 (fun p hp => by simp only [List.mem_cons, List.not_mem_nil, or_false] at hp; rcases hp with rfl <;> first | exact ⟨by simp, (Ne.symm (Fgb.out.2 (g4, 0) (by simp)))⟩)
    have HG3b := hid (F1.fil HG3.out (Ne.symm (F3.out.2 (g4, 0) (by simp))) iv)
    go_simp
    clear hs HG3
    have hs := hs2
    have HG3 := HG3b
    clear hs2 HG3b
    refine hK.out _ _ ((E0.out.on (Env.below hs)).cell gm m (by simp)) ?_
    clear hK K
    try simp only [putz]
    clear z0 z1 z2 z3 zl zf
    change Goes _ _ _ _ _ _ _ _ (fil wn57 g4 iv)
    generalize fil wn57 g4 iv = wn58 at *
    refine Goes.done (by kernel_rfl) ?_ _
    refine NoPanic.normal ?_
    go_wp2_with fail
    go_meet
    exact ⟨_, _, gb, iv, rfl, rfl, hid (hs.perm (by simp)), HG3, IV, hid ⟨Fg4.out.1, Fgb.out.1, F3.out.1⟩⟩
 case rest =>
  obtain ⟨gs, gi, gb, iv, rfl, rfl, H1, HG, IV, DF⟩ := hcut
  go_upto_region 3 with fail
  have HL := hid (F1.new wc (.func (.func 81) #[] #[.pointer (some ⟨gi, 0, none⟩), .pointer (some ⟨gm, 0, none⟩), .pointer (some ⟨gs, 0, none⟩)]))
  have HG2 := hid (HG.out.on ((Below.refl wc.heap.size wc).alloc (Nat.le_refl _) (.cells #[.func (.func 81) #[] #[.pointer (some ⟨gi, 0, none⟩), .pointer (some ⟨gm, 0, none⟩), .pointer (some ⟨gs, 0, none⟩)]] 56)))
  have H2 := hid (H1.out.alloc (.cells #[.func (.func 81) #[] #[.pointer (some ⟨gi, 0, none⟩), .pointer (some ⟨gm, 0, none⟩), .pointer (some ⟨gs, 0, none⟩)]] 56))
  have GI := hid (H1.out.lt gi iv (by simp))
  have BL := hid (show wc.heap.size ≠ gr from Nat.ne_of_gt (Nat.lt_of_lt_of_le HR.out.lt H1.out.below.size))
  generalize wc.alloc (.cells #[.func (.func 81) #[] #[.pointer (some ⟨gi, 0, none⟩), .pointer (some ⟨gm, 0, none⟩), .pointer (some ⟨gs, 0, none⟩)]] 56) = wd at *
  generalize wc.heap.size = gl at *
  have HR1 := hid (HR.out.on H2.out.below)
  have E1 := hid (E0.out.on H2.out.below)
  have SD := hid (show Shd wd m iv gi gm gs gb gl from ⟨H2.out.nm gi iv (by simp), E1.out.nm gm m (by simp), H2.out.nm gb m (by simp), HG2.out, HL.out⟩)
  have GNI := hid (show gi ≠ gr from Ne.symm (Nat.ne_of_lt (Nat.lt_of_lt_of_le HR.out.lt DF.out.1)))
  have GNB := hid (show gb ≠ gr from Ne.symm (Nat.ne_of_lt (Nat.lt_of_lt_of_le HR.out.lt DF.out.2.1)))
  have GNS := hid (show gs ≠ gr from Ne.symm (Nat.ne_of_lt (Nat.lt_of_lt_of_le HR.out.lt DF.out.2.2)))
  have NE := hid (show gi ≠ gr ∧ gm ≠ gr ∧ gb ≠ gr ∧ gs ≠ gr ∧ gl ≠ gr from ⟨GNI.out, HF.out.2, GNB.out, GNS.out, BL.out⟩)
  obtain ⟨z0, z1, z2⟩ := HR1.out.cell
  have zf := HR1.out.frozen
  have zl := HR1.out.lt
  go_wp2
  clear z0 z1 z2 zf zl
  have HZ := hid (E1.out.fil3 (g := gr) (a := .func (.func 82) #[] #[.pointer (some ⟨gm, 0, none⟩)]) (b := .func (.func 83) #[] #[.pointer (some ⟨gl, 0, none⟩)]) (c := .func (.func 84) #[] #[.pointer (some ⟨gl, 0, none⟩)]) (by rw [hm]; exact HF.out.1) (by simp; exact HF.out.2))
  have HY := hid (HR1.out.fil (.func (.func 82) #[] #[.pointer (some ⟨gm, 0, none⟩)]) (.func (.func 83) #[] #[.pointer (some ⟨gl, 0, none⟩)]) (.func (.func 84) #[] #[.pointer (some ⟨gl, 0, none⟩)]))
  have HS := hid (SD.out.fil3 NE.out (.func (.func 82) #[] #[.pointer (some ⟨gm, 0, none⟩)]) (.func (.func 83) #[] #[.pointer (some ⟨gl, 0, none⟩)]) (.func (.func 84) #[] #[.pointer (some ⟨gl, 0, none⟩)]))
  change bodyPost _ _ _ _ _ (fil3 wd gr _ _ _)
  generalize fil3 wd gr _ _ _ = wz at *
  obtain ⟨k0, k1, k2⟩ := HY.out.cell
  exact bodyPost_ret (v := sform gm gl) (by simp [results, Tryd.results72, go_sem, k0, k1, k2]) rfl ⟨⟨iv, gi, gm, gs, gb, gl, rfl, HS.out, IV.out.1, IV.out.2⟩, (by have hq := HZ.out.1; first | exact hq | rwa [hm] at hq)⟩
end Go.Proofs.YtioebjbjpjbodaaDoor

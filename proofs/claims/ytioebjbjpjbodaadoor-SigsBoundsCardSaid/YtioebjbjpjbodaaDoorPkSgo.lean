/-
  burrowlaw07.SigsBounds, walked: it answers true. Condition: the library's table K lies there.
-/
import Derived.Test.YtioebjbjpjbodaaDoorPkSgoB
namespace Go.Proofs.YtioebjbjpjbodaaDoor
open Go.RowKit
set_option linter.unusedVariables false
set_option linter.unusedSimpArgs false

set_option maxRecDepth 100000 in
set_option maxHeartbeats 16000000 in
theorem bounds_none (p q g x : Nat) (bs : List UInt8) (w : World) (hp : p < 2 ^ 256) (hq : q < 2 ^ 256) (hg : g < 2 ^ 256) (hx : x < 2 ^ 256) (hbs : bs.length = 32) (hv : ¬ Sec p q g x) : Calls Tryd.prog 4 #[gv p q g, num x, .agg (bvs bs).toArray] w fun e w' => e = .returned (.bool true) ∧ Below w.heap.size w w' := by
  have VV := hid hv
  clear hv
  have PL := hid hp
  have QL := hid hq
  have GL := hid hg
  have XL := hid hx
  have BL := hid hbs
  clear hp hq hg hx
  obtain ⟨hB0, hs0, f0, f1, f2⟩ := boxes3 w (gcs p q g) (cls x) ((bvs bs).toArray) 26 24 28 _ rfl
  have HFIN : Hid (∀ u, Below (((w.alloc (.cells (gcs p q g) 26)).alloc (.cells (cls x) 24)).alloc (.cells ((bvs bs).toArray) 28)).heap.size (((w.alloc (.cells (gcs p q g) 26)).alloc (.cells (cls x) 24)).alloc (.cells ((bvs bs).toArray) 28)) u → Below w.heap.size w u) := hid (fun u hu => hB0.trans (hu.mono hB0.size))
  go_enter Tryd.func4, Tryd.ntmps4
  go_upto_region 1 with fail
  generalize ((w.alloc (.cells (gcs p q g) 26)).alloc (.cells (cls x) 24)).alloc (.cells ((bvs bs).toArray) 28) = W0 at *
  have hb1 := Below.refl W0.heap.size W0
  have HB := hid hb1
  have HZ0 : Hid (W0.heap.size = w.heap.size + 1 + 1 + 1) := hid hs0
  have FG := hid ((ldG p q g 0 f0 (all_at _)).on hb1)
  have FGp := hid ((ldN p 0 f0 (four_at p _ 0 rfl rfl rfl rfl)).on hb1)
  have FGq := hid ((ldN q 4 f0 (four_at q _ 4 rfl rfl rfl rfl)).on hb1)
  have FGg := hid ((ldN g 8 f0 (four_at g _ 8 rfl rfl rfl rfl)).on hb1)
  have FNx := hid ((ldN x 0 f1 (all_at _)).on hb1)
  have Fs := hid ((ldS bs hbs 0 f2 (fun j v h => by rw [Nat.zero_add]; simpa using h)).on hb1)
  clear hB0 hs0 hb1 f0 f1 f2
  generalize w.heap.size + 1 + 1 = g_s at *
  generalize w.heap.size + 1 = g_a at *
  generalize hgp : w.heap.size = g_p at *
  clear hbs
  have l1 := FG.out.here
  have l2 := FNx.out.here
  go_wp2_with (first | (refine wp_ldw (by kernel_rfl) 26 _ rfl (.pointer (some ⟨g_p, 0, none⟩)) (by rfl) _ l1 ?_) | (refine wp_ldw (by kernel_rfl) 24 _ rfl (.pointer (some ⟨g_a, 0, none⟩)) (by rfl) _ l2 ?_))
  clear l1 l2
  refine (key_none p q g x _ PL.out QL.out GL.out XL.out VV.out).mono ?_
  rintro e w1 ⟨rfl, hb⟩
  have HB := hid (HB.out.trans (hb.mono HB.out.size))
  have FG := hid (FG.out.on hb)
  have FGp := hid (FGp.out.on hb)
  have FGq := hid (FGq.out.on hb)
  have FGg := hid (FGg.out.on hb)
  have FNx := hid (FNx.out.on hb)
  have Fs := hid (Fs.out.on hb)
  clear hb
  go_upto_region 2 with fail
  have hb := (Below.refl w1.heap.size w1).alloc (Nat.le_refl _) (.cells (cls 0) 24)
  have hn := heap_alloc_new w1 (.cells (cls 0) 24)
  have HB := hid (HB.out.trans (hb.mono HB.out.size))
  have FG := hid (FG.out.on hb)
  have FGp := hid (FGp.out.on hb)
  have FGq := hid (FGq.out.on hb)
  have FGg := hid (FGg.out.on hb)
  have FNx := hid (FNx.out.on hb)
  have Fs := hid (Fs.out.on hb)
  have FN7 := hid (ldN 0 0 hn (all_at _))
  clear hb hn
  generalize w1.alloc (.cells (cls 0) 24) = w2 at *
  generalize w1.heap.size = gN7 at *
  have l3 := FG.out.here
  have l4 := FNx.out.here
  have l5 := Fs.out.here
  go_wp2_with (first | (refine wp_ldw (by kernel_rfl) 26 _ rfl (.pointer (some ⟨g_p, 0, none⟩)) (by rfl) _ l3 ?_) | (refine wp_ldw (by kernel_rfl) 24 _ rfl (.pointer (some ⟨g_a, 0, none⟩)) (by rfl) _ l4 ?_) | (refine wp_ldw (by kernel_rfl) 28 _ rfl (.pointer (some ⟨g_s, 0, none⟩)) (by rfl) _ l5 ?_))
  clear l3 l4 l5
  refine (sign_none p q g x bs _ PL.out QL.out GL.out XL.out BL.out VV.out).mono ?_
  rintro e w3 ⟨rfl, hb⟩
  have HB := hid (HB.out.trans (hb.mono HB.out.size))
  have FG := hid (FG.out.on hb)
  have FGp := hid (FGp.out.on hb)
  have FGq := hid (FGq.out.on hb)
  have FGg := hid (FGg.out.on hb)
  have FNx := hid (FNx.out.on hb)
  have Fs := hid (Fs.out.on hb)
  have FN7 := hid (FN7.out.on hb)
  clear hb
  go_upto_region 3 with fail
  have hb := (Below.refl w3.heap.size w3).alloc (Nat.le_refl _) (.cells (sgc 0 0) 33)
  have hn := heap_alloc_new w3 (.cells (sgc 0 0) 33)
  have HB := hid (HB.out.trans (hb.mono HB.out.size))
  have FG := hid (FG.out.on hb)
  have FGp := hid (FGp.out.on hb)
  have FGq := hid (FGq.out.on hb)
  have FGg := hid (FGg.out.on hb)
  have FNx := hid (FNx.out.on hb)
  have Fs := hid (Fs.out.on hb)
  have FN7 := hid (FN7.out.on hb)
  have FN9 := hid (ldX 0 0 0 hn (all_at _))
  have FN9c := hid (ldN 0 0 hn (four_at 0 _ 0 rfl rfl rfl rfl))
  have FN9s := hid (ldN 0 4 hn (four_at 0 _ 4 rfl rfl rfl rfl))
  clear hb hn
  generalize w3.alloc (.cells (sgc 0 0) 33) = w4 at *
  generalize w3.heap.size = gN9 at *
  go_wp2_with fail
  refine (lives_any _).mono ?_
  rintro e w5 ⟨rfl, hb⟩
  have HB := hid (HB.out.trans (hb.mono HB.out.size))
  have FG := hid (FG.out.on hb)
  have FGp := hid (FGp.out.on hb)
  have FGq := hid (FGq.out.on hb)
  have FGg := hid (FGg.out.on hb)
  have FNx := hid (FNx.out.on hb)
  have Fs := hid (Fs.out.on hb)
  have FN7 := hid (FN7.out.on hb)
  have FN9 := hid (FN9.out.on hb)
  have FN9c := hid (FN9c.out.on hb)
  have FN9s := hid (FN9s.out.on hb)
  clear hb
  go_wp2_with fail
  try go_ret
  try rw [Exit.noGoto_ret]
  first | exact ⟨rfl, by first | exact HFIN.out _ HB.out | (rw [hgp]; exact HFIN.out _ HB.out)⟩ | exact bodyPost_ret (v := .bool (true)) (by simp [results, Tryd.results4, go_sem]) rfl ⟨rfl, by first | exact HFIN.out _ HB.out | (rw [hgp]; exact HFIN.out _ HB.out)⟩
theorem boundsLaw_any (p q g x : Nat) (bs : List UInt8) (w : World) (hp : p < 2 ^ 256) (hq : q < 2 ^ 256) (hg : g < 2 ^ 256) (hx : x < 2 ^ 256) (hbs : bs.length = 32) (hK : Kt w) : Calls Tryd.prog 4 #[gv p q g, num x, .agg (bvs bs).toArray] w fun e w' => e = .returned (.bool true) ∧ Below w.heap.size w w' := by
  by_cases h : Sec p q g x
  · have hc := sigC_lt p q g x bs (by have := h.2.2.1; omega)
    have ht := sigS_lt p q g x bs (by have := h.2.2.1; omega)
    rcases (show (sigC p q g x bs + q) / 2 ^ 256 = 0 ∨ (sigC p q g x bs + q) / 2 ^ 256 = 1 by omega) with h1 | h1 <;> rcases (show (sigS p q g x bs + q) / 2 ^ 256 = 0 ∨ (sigS p q g x bs + q) / 2 ^ 256 = 1 by omega) with h2 | h2
    · exact bounds_ok00 p q g x bs w hp hq hg hx hbs hK h h1 h2
    · exact bounds_ok01 p q g x bs w hp hq hg hx hbs hK h h1 h2
    · exact bounds_ok10 p q g x bs w hp hq hg hx hbs hK h h1 h2
    · exact bounds_ok11 p q g x bs w hp hq hg hx hbs hK h h1 h2
  · exact bounds_none p q g x bs w hp hq hg hx hbs h
end Go.Proofs.YtioebjbjpjbodaaDoor

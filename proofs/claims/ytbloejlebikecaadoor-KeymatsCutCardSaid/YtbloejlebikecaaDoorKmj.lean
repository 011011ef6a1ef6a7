/-
  burrowlaw10.KeymatsCut, walked: it answers true. Condition: the library's table holds what its text lays.
-/
import Derived.Test.YtbloejlebikecaaDoorKmf
import Derived.Test.YtbloejlebikecaaDoorKmd
import Derived.Test.YtbloejlebikecaaDoorTwin
import Derived.BigQuiet
namespace Go.Proofs.YtbloejlebikecaaDoor
open Go.RowKit
set_option linter.unusedVariables false
set_option linter.unusedSimpArgs false

/-- one byte against another one -/
def turn1 (b : List UInt8) (k y : Nat) : List UInt8 := b.set k (b.getD k 0 ^^^ UInt8.ofNat y)
theorem turn1_length (b : List UInt8) (k y : Nat) : (turn1 b k y).length = b.length := by simp [turn1]
theorem turn1_at (b : List UInt8) (k y j : Nat) (hj : j < b.length) : (turn1 b k y)[j]'(by rw [turn1_length]; exact hj) = if k = j then b[j] ^^^ UInt8.ofNat y else b[j] := by
  unfold turn1
  rw [List.getElem_set]
  split
  · next h => subst h; simp [hj]
  · rfl
theorem xor_zero (x : UInt8) : x ^^^ UInt8.ofNat 0 = x := by
  apply UInt8.toNat.inj
  rw [UInt8.toNat_xor]
  simp
theorem xor_moves (x : UInt8) (y : Nat) (h : y < 256) (h0 : y ≠ 0) : x ^^^ UInt8.ofNat y ≠ x := by
  intro e
  have e2 := congrArg UInt8.toNat e
  rw [UInt8.toNat_xor, UInt8.toNat_ofNat_of_lt' h] at e2
  have e3 : x.toNat ^^^ (x.toNat ^^^ y) = x.toNat ^^^ x.toNat := by rw [e2]
  rw [← Nat.xor_assoc, Nat.xor_self, Nat.zero_xor] at e3
  exact h0 e3
theorem cut_same (b : List UInt8) (k y s : Nat) (h : ¬ (s ≤ k ∧ k < s + 48) ∨ y = 0) : ((turn1 b k y).drop s).take 48 = (b.drop s).take 48 := by
  apply List.ext_getElem
  · simp [turn1_length]
  · intro j h1 h2
    simp only [List.getElem_take, List.getElem_drop]
    have hj : s + j < b.length := by simp at h2; omega
    rw [turn1_at b k y (s + j) hj]
    split
    · next e =>
      rcases h with h | rfl
      · simp at h2; omega
      · exact xor_zero _
    · rfl
theorem cut_diff (b : List UInt8) (k y s : Nat) (h1 : s ≤ k) (h2 : k < s + 48) (hk : k < b.length) (hy : y < 256) (h0 : y ≠ 0) : ¬ (b.drop s).take 48 = ((turn1 b k y).drop s).take 48 := by
  intro e
  have hl : k - s < ((b.drop s).take 48).length := by simp; omega
  have hl2 : k - s < (((turn1 b k y).drop s).take 48).length := by rw [← e]; exact hl
  have e2 : ((b.drop s).take 48)[k - s]'hl = (((turn1 b k y).drop s).take 48)[k - s]'hl2 := by simp only [e]
  simp only [List.getElem_take, List.getElem_drop] at e2
  rw [turn1_at b k y (s + (k - s)) (by omega), if_pos (by omega)] at e2
  exact xor_moves _ y hy h0 e2.symm
theorem ld4 {w : World} {g t : Nat} {v0 v1 v2 v3 : Value} (h : w.heap[g]? = some (.cells #[v0, v1, v2, v3] t (0, 0))) : w.cell? ⟨g, 0, none⟩ = some v0 ∧ w.cell? ⟨g, 1, none⟩ = some v1 ∧ w.cell? ⟨g, 2, none⟩ = some v2 ∧ w.cell? ⟨g, 3, none⟩ = some v3 := by
  refine ⟨?_, ?_, ?_, ?_⟩ <;> (rw [cell_of_row w g _ _ t (0, 0) h]; rfl)
theorem ld_keys {w : World} {g : Nat} {l : List UInt8} (h : Bt w g 43 l) (hl : l.length = 48) : (Instr.loadAt 43 (.pointer (some ⟨g, 0, none⟩))).run Tryd.prog w = .ok (.agg (bvs l).toArray) w :=
  ld_all h 43 _ Tryd.underlying43 rfl 48 hl (by kernel_rfl)
theorem twin_at (A : Option Addr) (c n : Nat) (bs : List UInt8) (w : World) (hl : bs.length = n) (hr : Rd w A bs) (hn : n ≤ 140737488351232) :
    Calls Tryd.prog 12 #[.slice A n c] w fun e w' => e = .returned (.slice (some ⟨w.heap.size, 0, none⟩) n (n + 1)) ∧ Row w' w.heap.size (bs ++ [77]) ∧ Below w.heap.size w w' := by
  subst hl; exact twin_any A c bs w hr hn
theorem bt_part {w : World} {g t : Nat} {l : List UInt8} (h : Bt w g t l) (o n : Nat) : Rd w (some ⟨g, o, none⟩) ((l.drop o).take n) := by
  intro hp
  refine ⟨g, o, rfl, h.lt, fun j hj => ?_⟩
  have hj' : o + j < l.length := by simp at hj; omega
  rw [h.cell _ hj']
  simp
theorem past_any (A : Option Addr) (f c : Nat) {w : World} {b : List UInt8} (h : Rd w A b) (k : Nat) (hk : f + k ≤ c) : Rd w (past A f c) ((b.drop f).take k) := rd_sub h f k c hk
set_option maxRecDepth 100000 in
set_option maxHeartbeats 8000000 in
theorem cut_law (A : Option Addr) (c n : Nat) (b : List UInt8) (pl at_ y : Nat) (w : World) (hn : b.length = n) (hr : Rd w A b) (hcn : n ≤ c) (hpl : pl < 256) (hat : at_ < 65536) (hy : y < 256) (hK : Kt w) :
    Calls Tryd.prog 5 #[.agg #[.slice A n c, .int .u8 (pl : Int), .int .u16 (at_ : Int), .int .u8 (y : Int)]] w fun e w' => e = .returned (.bool true) ∧ Below w.heap.size w w' := by
  have HN := hid hn
  have HK := hid hK
  have HCN := hid hcn
  have HY256 := hid hy
  have hb := (Below.refl w.heap.size w).alloc (Nat.le_refl _) (.cells #[.slice A n c, .int .u8 (pl : Int), .int .u16 (at_ : Int), .int .u8 (y : Int)] 40)
  obtain ⟨m0, m1, m2, m3⟩ := ld4 (heap_alloc_new w (.cells #[.slice A n c, .int .u8 (pl : Int), .int .u16 (at_ : Int), .int .u8 (y : Int)] 40))
  have HB1 := hid hb
  have HR := hid hr
  obtain ⟨p, hp⟩ : ∃ p, p = pl % 8 := ⟨_, rfl⟩
  obtain ⟨s, hs⟩ : ∃ s, s = 48 * p := ⟨_, rfl⟩
  obtain ⟨t, ht⟩ : ∃ t, t = s + 48 := ⟨_, rfl⟩
  obtain ⟨u, hu⟩ : ∃ u, u = s + 32 := ⟨_, rfl⟩
  have q0 : IntKind.i64.wrap (pl : Int) = (pl : Int) := by rw [IntKind.wrap_i64]; omega
  have q1 : Int.tmod (pl : Int) 8 = (p : Int) := by rw [Int.tmod_eq_emod_of_nonneg (by omega)]; omega
  have q2 : (pl : Int) % 8 = (p : Int) := by omega
  have q3 : IntKind.i64.wrap (p : Int) = (p : Int) := by rw [IntKind.wrap_i64]; omega
  have q4 : IntKind.i64.wrap (48 * (p : Int)) = (s : Int) := by rw [IntKind.wrap_i64]; omega
  have q5 : IntKind.i64.wrap ((s : Int) + 48) = (t : Int) := by rw [IntKind.wrap_i64]; omega
  have q6 : IntKind.i64.wrap ((s : Int) + 32) = (u : Int) := by rw [IntKind.wrap_i64]; omega
  have q7 : IntKind.i64.wrap (at_ : Int) = (at_ : Int) := by rw [IntKind.wrap_i64]; omega
  have HS := hid hs
  have HT := hid ht
  have HU := hid hu
  have HP8 := hid (p := p < 8) (by omega)
  clear hn hr hcn hy hK hb hp hs ht hu hpl
  go_enter Tryd.func5, Tryd.ntmps5
  go_upto_region 1 with fail
  generalize w.alloc (.cells #[.slice A n c, .int .u8 (pl : Int), .int .u16 (at_ : Int), .int .u8 (y : Int)] 40) = w1 at *
  go_upto_region 6 with fail
  clear q0 q1 q2 m0 m1 m2 m3
  by_cases hb1 : (2000 : Int) < (n : Int)
  · clear hat
    go_wp2_with fail
    refine (lives10_any w1 (HK.out.on HB1.out)).mono ?_
    rintro e w2 ⟨rfl, hb2⟩
    go_wp2
    go_ret
    exact ⟨rfl, HB1.out.trans (hb2.mono HB1.out.size)⟩
  by_cases hb2 : (n : Int) < (t : Int)
  · clear hat
    go_wp2_with fail
    refine (lives10_any w1 (HK.out.on HB1.out)).mono ?_
    rintro e w2 ⟨rfl, hb2⟩
    go_wp2
    go_ret
    exact ⟨rfl, HB1.out.trans (hb2.mono HB1.out.size)⟩
  have HTN := hid (p := t ≤ n ∧ n ≤ 2000) (by omega)
  go_upto_region 8 with fail
  clear hb1 hb2
  go_wp2_with fail
  refine (kcut_any A c n b p w1 HN.out (HR.out.below HB1.out (Nat.le_refl _)) HCN.out (by have := HTN.out; omega) (by have := HTN.out; have := HT.out; have := HS.out; omega)).mono ?_
  rintro e w2 ⟨rfl, hb2⟩
  rw [← HS.out]
  have HL1 := hid (p := ((b.drop s).take 48).length = 48) (by rw [List.length_take, List.length_drop, HN.out]; have := HTN.out; have := HT.out; omega)
  have HI1 := hi48 ((b.drop s).take 48) HL1.out
  have HO1 := ho48 ((b.drop s).take 48) HL1.out
  have hb3 := (Below.refl w2.heap.size w2).alloc (Nat.le_refl _) (.cells (bvs ((b.drop s).take 48)).toArray 43)
  have hx3 := heap_alloc_new w2 (.cells (bvs ((b.drop s).take 48)).toArray 43)
  have HB3 := hid (HB1.out.trans ((hb2.mono HB1.out.size).trans (hb3.mono (Nat.le_trans HB1.out.size hb2.size))))
  have HX3 := hid (p := Bt _ w2.heap.size 43 ((b.drop s).take 48)) hx3
  clear hb2 hb3 hx3 HB1
  go_upto_region 9 with (refine wpList_store_row rfl 43 (.tmp 8) (.tmp 42) rfl w2.heap.size (bvs ((b.drop s).take 48)).toArray rfl rfl 43 _ (heap_alloc_new _ _) HI1.out HO1.out (bvs_all _) ?_; rw [World.setRow_alloc_new])
  generalize w2.alloc (.cells (bvs ((b.drop s).take 48)).toArray 43) = w3 at *
  generalize w2.heap.size = g8 at *
  have hs32 := sl32 g8
  have hs16 := sl16 g8 32
  have hc1 := slice_cut1 A n c s u (by have := HU.out; omega) (by have := HU.out; have := HTN.out; have := HT.out; omega) HCN.out
  have hc2 := slice_cut1 A n c u t (by have := HU.out; have := HT.out; omega) HTN.out.1 HCN.out
  rw [show u - s = 32 by have := HU.out; omega] at hc1
  rw [show t - u = 16 by have := HU.out; have := HT.out; omega] at hc2
  have HRW := hid (HR.out.below HB3.out (Nat.le_refl _))
  have hm32 : ((b.drop s).take 32).length = 32 := by rw [List.length_take, List.length_drop, HN.out]; have := HTN.out; have := HT.out; omega
  have hm16 : ((b.drop u).take 16).length = 16 := by rw [List.length_take, List.length_drop, HN.out]; have := HTN.out; have := HT.out; have := HU.out; omega
  have he1 : (((b.drop s).take 48).drop 0).take 32 = (b.drop s).take 32 := by rw [List.drop_zero, List.take_take]; rfl
  have he2 : (((b.drop s).take 48).drop 32).take 16 = (b.drop u).take 16 := by rw [HU.out, List.drop_take, List.drop_drop, List.take_take]; rfl
  have HS1 := hid fun W (h : Bt W g8 43 ((b.drop s).take 48)) (hA : Rd W A b) => same_at (some ⟨g8, 0, none⟩) (past A s c) 32 (c - s) 32 32 ((b.drop s).take 32) W hm32 hm32 (by have := bt_part h 0 32; rwa [he1] at this) (past_any A s c hA 32 (by have := HTN.out; have := HT.out; have := HCN.out; omega)) (by decide)
  have HS2 := hid fun W (h : Bt W g8 43 ((b.drop s).take 48)) (hA : Rd W A b) => same_at (some ⟨g8, 32, none⟩) (past A u c) 16 (c - u) 16 16 ((b.drop u).take 16) W hm16 hm16 (by have := bt_part h 32 16; rwa [he2] at this) (past_any A u c hA 16 (by have := HTN.out; have := HT.out; have := HU.out; have := HCN.out; omega)) (by decide)
  have FX := hid (on_bt HX3.out)
  have FA := hid (on_rd HRW.out)
  have Q4 := hid q4
  have Q5 := hid q5
  have Q6 := hid q6
  have C1 := hid hc1
  have C2 := hid hc2
  clear hm32 hm16 he1 he2 q4 q5 q6 hc1 hc2 hs32 hs16
  refine wp_region_noPanic ?_
  refine Goes.region (fun (_ : Array Bool) (u : World) => Below w3.heap.size w3 u) (by as_aux_lemma => kernel_rfl) ?_
  have HB := hid (p := Below w3.heap.size w3 w3.drew) (Below.refl _ _).drew
  generalize w3.drew = w3d at *
  refine Goes.tk (i := 0) (o := ⟨some 44, _, _, _, _, _⟩) (v := ?_) [] (y := Or.inl ⟨by rfl, ?_⟩) (s := HB.out) (H := ?_)
  rotate_left
  · intro u hY; go_simp; try with_reducible rfl
  try simp only [putz]
  refine Goes.tk (i := 1) (o := ⟨some 45, _, _, _, _, _⟩) (v := ?_) [] (y := Or.inl ⟨by rfl, ?_⟩) (s := HB.out) (H := ?_)
  rotate_left
  · intro u hY; go_simp; try with_reducible rfl
  try simp only [putz]
  refine Goes.tk (i := 2) (o := ⟨some 46, _, _, _, _, _⟩) (v := ?_) [] (y := Or.inl ⟨by rfl, ?_⟩) (s := HB.out) (H := ?_)
  rotate_left
  · intro u hY; go_simp; try with_reducible rfl
  try simp only [putz]
  refine Goes.tk (i := 3) (o := ⟨some 47, _, _, _, _, _⟩) (v := ?_) [] (y := Or.inl ⟨by rfl, ?_⟩) (s := HB.out) (H := ?_)
  rotate_left
  · intro u hY; go_simp; try with_reducible rfl
  try simp only [putz]
  refine Goes.tk (i := 4) (o := ⟨some 48, _, _, _, _, _⟩) (v := ?_) [] (y := Or.inl ⟨by rfl, ?_⟩) (s := HB.out) (H := ?_)
  rotate_left
  · intro u hY; have hsl := sl32 g8; go_simp; try with_reducible rfl
  try simp only [putz]
  refine Goes.tk (i := 5) (o := ⟨some 49, _, _, _, _, _⟩) (v := ?_) [] (y := Or.inl ⟨by rfl, ?_⟩) (s := HB.out) (H := ?_)
  rotate_left
  · intro u hY; go_simp; try with_reducible rfl
  try simp only [putz]
  refine Goes.tk (i := 6) (o := ⟨some 50, _, _, _, _, _⟩) (v := ?_) [] (y := Or.inl ⟨by rfl, ?_⟩) (s := HB.out) (H := ?_)
  rotate_left
  · intro u hY; go_simp; try with_reducible rfl
  try simp only [putz]
  refine Goes.tk (i := 7) (o := ⟨some 51, _, _, _, _, _⟩) (v := ?_) [] (y := Or.inl ⟨by rfl, ?_⟩) (s := HB.out) (H := ?_)
  rotate_left
  · intro u hY; have h := Q4.out; go_simp; try with_reducible rfl
  try simp only [putz]
  refine Goes.tk (i := 8) (o := ⟨some 52, _, _, _, _, _⟩) (v := ?_) [] (y := Or.inl ⟨by rfl, ?_⟩) (s := HB.out) (H := ?_)
  rotate_left
  · intro u hY; go_simp; try with_reducible rfl
  try simp only [putz]
  refine Goes.tk (i := 9) (o := ⟨some 53, _, _, _, _, _⟩) (v := ?_) [] (y := Or.inl ⟨by rfl, ?_⟩) (s := HB.out) (H := ?_)
  rotate_left
  · intro u hY; have h := Q4.out; go_simp; try with_reducible rfl
  try simp only [putz]
  refine Goes.tk (i := 10) (o := ⟨some 54, _, _, _, _, _⟩) (v := ?_) [] (y := Or.inl ⟨by rfl, ?_⟩) (s := HB.out) (H := ?_)
  rotate_left
  · intro u hY; have h := Q6.out; go_simp; try with_reducible rfl
  try simp only [putz]
  refine Goes.tk (i := 11) (o := ⟨some 55, _, _, _, _, _⟩) (v := ?_) [] (y := Or.inl ⟨by rfl, ?_⟩) (s := HB.out) (H := ?_)
  rotate_left
  · intro u hY; have hsl := C1.out; go_simp; try with_reducible rfl
  try simp only [putz]
  refine Goes.one (i := 12) (o := ⟨some 56, _, _, _, _, _⟩) (by as_aux_lemma => kernel_rfl) rfl (fun K hK => ?_)
  rw [if_pos (by kernel_rfl)]
  go_simp
  refine (HS1.out w3d (FX.out _ HB.out) (FA.out _ HB.out)).mono ?_
  rintro e w3_1 ⟨rfl, k, rfl⟩
  go_wp2_with fail
  refine hK.out _ _ (below_dN HB.out k) ?_
  clear hK K
  try simp only [putz]
  have HB := hid (below_dN HB.out k)
  generalize w3d.drewN k = w3_1 at *
  refine Goes.tk (i := 13) (o := ⟨some 57, _, _, _, _, _⟩) (v := ?_) [] (y := Or.inl ⟨by rfl, ?_⟩) (s := HB.out) (H := ?_)
  rotate_left
  · intro u hY; go_simp; try with_reducible rfl
  try simp only [putz]
  refine Goes.tk (i := 14) (o := ⟨some 58, _, _, _, _, _⟩) (v := ?_) [] (y := Or.inl ⟨by rfl, ?_⟩) (s := HB.out) (H := ?_)
  rotate_left
  · intro u hY; go_simp; try with_reducible rfl
  try simp only [putz]
  refine Goes.tk (i := 15) (o := ⟨some 59, _, _, _, _, _⟩) (v := ?_) [] (y := Or.inl ⟨by rfl, ?_⟩) (s := HB.out) (H := ?_)
  rotate_left
  · intro u hY; go_simp; try with_reducible rfl
  try simp only [putz]
  refine Goes.tk (i := 16) (o := ⟨some 60, _, _, _, _, _⟩) (v := ?_) [] (y := Or.inl ⟨by rfl, ?_⟩) (s := HB.out) (H := ?_)
  rotate_left
  · intro u hY; go_simp; try with_reducible rfl
  try simp only [putz]
  refine Goes.tk (i := 17) (o := ⟨some 61, _, _, _, _, _⟩) (v := ?_) [] (y := Or.inl ⟨by rfl, ?_⟩) (s := HB.out) (H := ?_)
  rotate_left
  · intro u hY; have hsl := sl16 g8 32; go_simp; try with_reducible rfl
  try simp only [putz]
  refine Goes.tk (i := 18) (o := ⟨some 62, _, _, _, _, _⟩) (v := ?_) [] (y := Or.inl ⟨by rfl, ?_⟩) (s := HB.out) (H := ?_)
  rotate_left
  · intro u hY; go_simp; try with_reducible rfl
  try simp only [putz]
  refine Goes.tk (i := 19) (o := ⟨some 63, _, _, _, _, _⟩) (v := ?_) [] (y := Or.inl ⟨by rfl, ?_⟩) (s := HB.out) (H := ?_)
  rotate_left
  · intro u hY; go_simp; try with_reducible rfl
  try simp only [putz]
  refine Goes.tk (i := 20) (o := ⟨some 64, _, _, _, _, _⟩) (v := ?_) [] (y := Or.inl ⟨by rfl, ?_⟩) (s := HB.out) (H := ?_)
  rotate_left
  · intro u hY; have h := Q4.out; go_simp; try with_reducible rfl
  try simp only [putz]
  refine Goes.tk (i := 21) (o := ⟨some 65, _, _, _, _, _⟩) (v := ?_) [] (y := Or.inl ⟨by rfl, ?_⟩) (s := HB.out) (H := ?_)
  rotate_left
  · intro u hY; have h := Q6.out; go_simp; try with_reducible rfl
  try simp only [putz]
  refine Goes.tk (i := 22) (o := ⟨some 66, _, _, _, _, _⟩) (v := ?_) [] (y := Or.inl ⟨by rfl, ?_⟩) (s := HB.out) (H := ?_)
  rotate_left
  · intro u hY; go_simp; try with_reducible rfl
  try simp only [putz]
  refine Goes.tk (i := 23) (o := ⟨some 67, _, _, _, _, _⟩) (v := ?_) [] (y := Or.inl ⟨by rfl, ?_⟩) (s := HB.out) (H := ?_)
  rotate_left
  · intro u hY; have h := Q4.out; go_simp; try with_reducible rfl
  try simp only [putz]
  refine Goes.tk (i := 24) (o := ⟨some 68, _, _, _, _, _⟩) (v := ?_) [] (y := Or.inl ⟨by rfl, ?_⟩) (s := HB.out) (H := ?_)
  rotate_left
  · intro u hY; have h := Q5.out; go_simp; try with_reducible rfl
  try simp only [putz]
  refine Goes.tk (i := 25) (o := ⟨some 69, _, _, _, _, _⟩) (v := ?_) [] (y := Or.inl ⟨by rfl, ?_⟩) (s := HB.out) (H := ?_)
  rotate_left
  · intro u hY; have hsl := C2.out; go_simp; try with_reducible rfl
  try simp only [putz]
  refine Goes.one (i := 26) (o := ⟨some 70, _, _, _, _, _⟩) (by as_aux_lemma => kernel_rfl) rfl (fun K hK => ?_)
  rw [if_pos (by kernel_rfl)]
  go_simp
  refine (HS2.out w3_1 (FX.out _ HB.out) (FA.out _ HB.out)).mono ?_
  rintro e w3_2 ⟨rfl, k, rfl⟩
  go_wp2_with fail
  refine hK.out _ _ (below_dN HB.out k) ?_
  clear hK K
  try simp only [putz]
  have HB := hid (below_dN HB.out k)
  generalize w3_1.drewN k = w3_2 at *
  refine Goes.tk (i := 27) (o := ⟨some 71, _, _, _, _, _⟩) (v := ?_) [] (y := Or.inl ⟨by rfl, ?_⟩) (s := HB.out) (H := ?_)
  rotate_left
  · intro u hY; go_simp; try with_reducible rfl
  try simp only [putz]
  refine Goes.tk (i := 28) (o := ⟨some 72, _, _, _, _, _⟩) (v := ?_) [] (y := Or.inl ⟨by rfl, ?_⟩) (s := HB.out) (H := ?_)
  rotate_left
  · intro u hY; go_simp; try with_reducible rfl
  try simp only [putz]
  refine Goes.done (by as_aux_lemma => kernel_rfl) ?_ _
  refine NoPanic.normal ?_
  go_upto_region 11 with fail
  have HB4 := hid (HB3.out.trans (HB.out.mono HB3.out.size))
  have HX4 := hid (FX.out _ HB.out)
  have HR4 := hid (FA.out _ HB.out)
  clear HB FX FA HS1 HS2 C1 C2 Q6 HX3 HRW HB3
  generalize w3_2 = w4 at *
  go_wp2_with fail
  refine (twin_at A c n b w4 HN.out HR4.out (by have := HTN.out; omega)).mono ?_
  rintro e w5 ⟨rfl, hrow, hb5⟩
  have HB5 := hid (HB4.out.trans (hb5.mono HB4.out.size))
  have HX5 := hid (HX4.out.on hb5)
  have HW5 := hid hrow
  have HG5 := hid (p := w.heap.size ≤ w4.heap.size) HB4.out.size
  have HGN := hid (p := g8 ≠ w4.heap.size) (Nat.ne_of_lt HX4.out.lt)
  clear hrow hb5 HB4 HX4 HR4
  generalize w4.heap.size = g5 at *
  obtain ⟨k, hk⟩ : ∃ k, k = at_ % n := ⟨_, rfl⟩
  have hkn : k < n := by rw [hk]; exact Nat.mod_lt _ (by have := HTN.out; have := HT.out; omega)
  have r2 : (at_ : Int) % (n : Int) = (k : Int) := by rw [hk]; simp
  have r1 : Int.tmod (at_ : Int) (n : Int) = (k : Int) := by rw [Int.tmod_eq_emod_of_nonneg (by omega)]; exact r2
  have r3 : ¬ (n : Int) = 0 := by omega
  have r4 : IntKind.i64.wrap (k : Int) = (k : Int) := by have := HTN.out; rw [IntKind.wrap_i64]; omega
  have r5 : (k : Int) < (n : Int) := by omega
  have r6 : (0 : Int) ≤ (k : Int) := by omega
  have HKN := hid hkn
  have HKB := hid (p := k < b.length) (by rw [HN.out]; exact hkn)
  have hgd : b.getD k 0 = b[k]'HKB.out := by simp [HKB.out]
  obtain ⟨x, hx⟩ : ∃ x : Int, x = ((((b.getD k 0).toNat : Nat)) : Int) := ⟨_, rfl⟩
  obtain ⟨z, hz⟩ : ∃ z : Int, z = (((b.getD k 0 ^^^ UInt8.ofNat y).toNat : Nat) : Int) := ⟨_, rfl⟩
  have hcl : w5.cell? ⟨g5, k, none⟩ = some (.int .u8 x) := by rw [HW5.out.cell k (by rw [List.length_append]; have := HKB.out; omega), hx, hgd]; simp [HKB.out]
  have hfl : w5.frozen? ⟨g5, k, none⟩ = false := HW5.out.frozen k
  have hxr : bits .xor .u8 x (y : Int) = z := by
    have := xor_u8 (b.getD k 0) (UInt8.ofNat y)
    rw [UInt8.toNat_ofNat_of_lt' (show y < _ from HY256.out)] at this
    rw [hx, hz, this]
  have HB6 := hid (HB5.out.setCell (p := ⟨g5, k, none⟩) HG5.out (.int .u8 z))
  have HX6 := hid (HX5.out.other (i := k) (.int .u8 z) HGN.out)
  have HW6 := hid (p := Row (w5.setCell ⟨g5, k, none⟩ (.int .u8 z)) g5 (turn1 b k y ++ [77])) (by
    have h := Bt.set (show Bt w5 g5 5 (b ++ [77]) from HW5.out) k (b.getD k 0 ^^^ UInt8.ofNat y)
    rw [← hz, List.set_append_left _ _ HKB.out] at h
    exact h)
  clear hk hkn hgd hx hz
  go_upto_region 14 with fail
  clear r1 r2 r3 r4 r5 r6 hcl hfl hxr q7
  generalize w5.setCell ⟨g5, k, none⟩ (.int .u8 z) = w6 at *
  go_wp2_with fail
  refine (kcut_any (some ⟨g5, 0, none⟩) (n + 1) n (turn1 b k y) p w6 (by rw [turn1_length, HN.out]) (by have := HW6.out.rd0.take n; rwa [List.take_append_of_le_length (by rw [turn1_length, HN.out]; exact Nat.le_refl _), List.take_of_length_le (by rw [turn1_length, HN.out]; exact Nat.le_refl _)] at this) (Nat.le_succ _) (by have := HTN.out; omega) (by have := HTN.out; have := HT.out; have := HS.out; omega)).mono ?_
  rintro e w7 ⟨rfl, hb7⟩
  rw [← HS.out]
  have HL2 := hid (p := (((turn1 b k y).drop s).take 48).length = 48) (by rw [List.length_take, List.length_drop, turn1_length, HN.out]; have := HTN.out; have := HT.out; omega)
  have HI2 := hi48 (((turn1 b k y).drop s).take 48) HL2.out
  have HO2 := ho48 (((turn1 b k y).drop s).take 48) HL2.out
  have hb3 := (Below.refl w7.heap.size w7).alloc (Nat.le_refl _) (.cells (bvs (((turn1 b k y).drop s).take 48)).toArray 43)
  have hx3 := heap_alloc_new w7 (.cells (bvs (((turn1 b k y).drop s).take 48)).toArray 43)
  have HB9 := hid (HB6.out.trans ((hb7.mono HB6.out.size).trans (hb3.mono (Nat.le_trans HB6.out.size hb7.size))))
  have HX8 := hid ((HX6.out.on hb7).on hb3)
  have HX9 := hid (p := Bt _ w7.heap.size 43 (((turn1 b k y).drop s).take 48)) hx3
  clear hb7 hb3 hx3 HB5 HX5 HW5 HB6 HX6 HW6
  go_upto_region 15 with (refine wpList_store_row rfl 43 (.tmp 12) (.tmp 91) rfl w7.heap.size (bvs (((turn1 b k y).drop s).take 48)).toArray rfl rfl 43 _ (heap_alloc_new _ _) HI2.out HO2.out (bvs_all _) ?_; rw [World.setRow_alloc_new])
  generalize w7.alloc (.cells (bvs (((turn1 b k y).drop s).take 48)).toArray 43) = w9 at *
  generalize w7.heap.size = g12 at *
  rcases (show k < s ∨ s + 48 ≤ k ∨ (s ≤ k ∧ k < s + 48 ∧ y = 0) ∨ (s ≤ k ∧ k < s + 48 ∧ ¬ y = 0) by omega) with hc | hc | hc | hc
  · have HY := hid hc
    have i1 : ¬ (k : Int) ≥ (s : Int) := by omega
    have HEQ := hid (p := decide ((b.drop s).take 48 = ((turn1 b k y).drop s).take 48) = true) (decide_eq_true (cut_same b k y s (by omega)).symm)
    have heq := fun W : World => eq_keys ((b.drop s).take 48) (((turn1 b k y).drop s).take 48) HL1.out HL2.out W
    simp only [HEQ.out] at heq
    have hx1 := ld_keys HX8.out HL1.out
    have hx2 := ld_keys HX9.out HL2.out
    have q4 := Q4.out
    have q5 := Q5.out
    clear hc
    go_wp2_with (first | ((with_reducible refine isD 111 rfl ?_); refine wp_ld (by kernel_rfl) 43 (.tmp 8) rfl _ rfl _ hx1 ?_) | ((with_reducible refine isD 112 rfl ?_); refine wp_ld (by kernel_rfl) 43 (.tmp 12) rfl _ rfl _ hx2 ?_))
    refine (lives10_any w9 (HK.out.on HB9.out)).mono ?_
    rintro e w10 ⟨rfl, hb10⟩
    go_wp2
    go_ret
    exact ⟨rfl, HB9.out.trans (hb10.mono HB9.out.size)⟩
  · have HY := hid hc
    have i1 : (k : Int) ≥ (s : Int) := by omega
    have i2 : ¬ (k : Int) < (t : Int) := by have := HT.out; omega
    have HEQ := hid (p := decide ((b.drop s).take 48 = ((turn1 b k y).drop s).take 48) = true) (decide_eq_true (cut_same b k y s (by omega)).symm)
    have heq := fun W : World => eq_keys ((b.drop s).take 48) (((turn1 b k y).drop s).take 48) HL1.out HL2.out W
    simp only [HEQ.out] at heq
    have hx1 := ld_keys HX8.out HL1.out
    have hx2 := ld_keys HX9.out HL2.out
    have q4 := Q4.out
    have q5 := Q5.out
    clear hc
    go_wp2_with (first | ((with_reducible refine isD 111 rfl ?_); refine wp_ld (by kernel_rfl) 43 (.tmp 8) rfl _ rfl _ hx1 ?_) | ((with_reducible refine isD 112 rfl ?_); refine wp_ld (by kernel_rfl) 43 (.tmp 12) rfl _ rfl _ hx2 ?_))
    refine (lives10_any w9 (HK.out.on HB9.out)).mono ?_
    rintro e w10 ⟨rfl, hb10⟩
    go_wp2
    go_ret
    exact ⟨rfl, HB9.out.trans (hb10.mono HB9.out.size)⟩
  · have HY := hid hc
    have i1 : (k : Int) ≥ (s : Int) := by omega
    have i2 : (k : Int) < (t : Int) := by have := HT.out; omega
    have i4 : ((y : Int) != 0) = false := by rw [show (y : Int) = 0 by omega]; rfl
    have HEQ := hid (p := decide ((b.drop s).take 48 = ((turn1 b k y).drop s).take 48) = true) (decide_eq_true (cut_same b k y s (by omega)).symm)
    have heq := fun W : World => eq_keys ((b.drop s).take 48) (((turn1 b k y).drop s).take 48) HL1.out HL2.out W
    simp only [HEQ.out] at heq
    have hx1 := ld_keys HX8.out HL1.out
    have hx2 := ld_keys HX9.out HL2.out
    have q4 := Q4.out
    have q5 := Q5.out
    clear hc
    go_wp2_with (first | ((with_reducible refine isD 111 rfl ?_); refine wp_ld (by kernel_rfl) 43 (.tmp 8) rfl _ rfl _ hx1 ?_) | ((with_reducible refine isD 112 rfl ?_); refine wp_ld (by kernel_rfl) 43 (.tmp 12) rfl _ rfl _ hx2 ?_))
    refine (lives10_any w9 (HK.out.on HB9.out)).mono ?_
    rintro e w10 ⟨rfl, hb10⟩
    go_wp2
    go_ret
    exact ⟨rfl, HB9.out.trans (hb10.mono HB9.out.size)⟩
  · have HY := hid hc
    have i1 : (k : Int) ≥ (s : Int) := by omega
    have i2 : (k : Int) < (t : Int) := by have := HT.out; omega
    have i4 : ((y : Int) != 0) = true := bne_iff_ne.2 (by omega)
    have HEQ := hid (p := decide ((b.drop s).take 48 = ((turn1 b k y).drop s).take 48) = false) (decide_eq_false (cut_diff b k y s hc.1 hc.2.1 (by rw [HN.out]; exact HKN.out) HY256.out hc.2.2))
    have heq := fun W : World => eq_keys ((b.drop s).take 48) (((turn1 b k y).drop s).take 48) HL1.out HL2.out W
    simp only [HEQ.out] at heq
    have hx1 := ld_keys HX8.out HL1.out
    have hx2 := ld_keys HX9.out HL2.out
    have q4 := Q4.out
    have q5 := Q5.out
    clear hc
    go_wp2_with (first | ((with_reducible refine isD 111 rfl ?_); refine wp_ld (by kernel_rfl) 43 (.tmp 8) rfl _ rfl _ hx1 ?_) | ((with_reducible refine isD 112 rfl ?_); refine wp_ld (by kernel_rfl) 43 (.tmp 12) rfl _ rfl _ hx2 ?_))
    refine (lives10_any w9 (HK.out.on HB9.out)).mono ?_
    rintro e w10 ⟨rfl, hb10⟩
    go_wp2
    go_ret
    exact ⟨rfl, HB9.out.trans (hb10.mono HB9.out.size)⟩
end Go.Proofs.YtbloejlebikecaaDoor

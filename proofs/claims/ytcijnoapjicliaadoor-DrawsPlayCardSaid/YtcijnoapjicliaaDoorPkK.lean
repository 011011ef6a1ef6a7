/-
  What holds from a time on; shas.Number's closure: the region that sums the parts and one byte more, in all its orders. Conditions: as written.
  append of a whole list of parts onto nothing, and of one more part onto a list of one's own. Condition: a thousand parts at most.
  macs.summed, walked: the sum of a block and of all parts behind it. Conditions: the library's table holds what its text lays; a thousand parts at most, each of 2^20 bytes at most.
-/
import Derived.Test.YtcijnoapjicliaaDoorPkJ
import Derived.Test.YtcijnoapjicliaaDoorPkC
import Derived.Test.YtcijnoapjicliaaDoorNum
import Derived.Deep.CutRange
import Derived.Test.YtcijnoapjicliaaDoorPkH
namespace Go.Proofs.YtcijnoapjicliaaDoor
open Go.RowKit
set_option linter.unusedVariables false
set_option linter.unusedSimpArgs false

/-- from here on -/
def On (w : World) (P : World → Prop) : Prop := ∀ w', Below w.heap.size w w' → P w'
section
variable {w w2 w' : World} {P Q : World → Prop}
theorem On.on (h : On w P) (hb : Below w.heap.size w w2) : On w2 P := fun w' h' => h w' (hb.trans (h'.mono hb.size))
theorem On.here (h : On w P) : P w := h w (Below.refl _ _)
theorem On.both (h : On w P) (k : On w Q) : On w fun u => P u ∧ Q u := fun u hu => ⟨h u hu, k u hu⟩
theorem on_below {w0 : World} (h : Below w0.heap.size w0 w) : On w fun u => Below w0.heap.size w0 u := fun u hu => h.trans (hu.mono h.size)
theorem on_cell {g i : Nat} {v : Value} (hg : g < w.heap.size) (h : w.cell? ⟨g, i, none⟩ = some v) : On w fun u => u.cell? ⟨g, i, none⟩ = some v := fun u hu => (hu.cell (p := ⟨g, i, none⟩) hg).trans h
theorem on_rd {A : Option Addr} {bs : List UInt8} (h : Rd w A bs) : On w fun u => Rd u A bs := fun u hu => h.below hu (Nat.le_refl _)
theorem on_bt {g : Nat} {t : TypeId} {bs : List UInt8} (h : Bt w g t bs) : On w fun u => Bt u g t bs := fun u hu => h.on hu
theorem on_nm {g x : Nat} (h : Nm w g x) : On w fun u => Nm u g x := fun u hu => (hu.block g (lt_of_block h)).trans h
theorem on_rws {a0 : Option Addr} {n : Nat} {A : Nat → Option Addr} {L C : Nat → Nat} {xs : Nat → List UInt8} (h : Rws w a0 n A L C xs) : On w fun u => Rws u a0 n A L C xs := by
 intro u hu r hr
 obtain ⟨⟨go, o, h1, h2, h3⟩, h4, h5, h6, h7, h8⟩ := h r hr
 exact ⟨⟨go, o, h1, Nat.lt_of_lt_of_le h2 hu.size, (hu.cell (p := ⟨go, o + r, none⟩) h2).trans h3⟩, h4, h5.below hu (Nat.le_refl _), h6, h7, h8⟩
theorem on_kt (h : Kt w) : On w Kt := fun u hu => h.on hu
end
theorem wp_append {o : Oper} {a : Act} {w : World} {K : Act → World → Prop} {Q : Exit → Act → World → Prop} (t : TypeId) (s x : Operand) (ho : o.op = .call { callee := .builtin .append, args := #[s, x], argTypes := #[t, t] }) (hty : o.type = t) (vs vx : Value) (hs : a.eval s = vs) (hx : a.eval x = vx) (v' : Value) (w' : World)
  (hrun : (Builtin.append_ #[t, t] t #[vs, vx]).run Tryd.prog w = .ok v' w') (h : K (a.put o.dst v') w') : o.wp Tryd.prog a w K Q := by
 unfold Oper.wp
 simp [execOp, ho, hty, resolve, invoke, builtin, hs, hx, hrun, Result.andThen]
 exact h
theorem nx_le (n : Nat) (L : Nat → Nat) (h : ∀ r, r < n → L r ≤ 1048576) : ∀ r, r < n + 1 → nx n L 1 r ≤ 1048576 := by
 intro r hr
 unfold nx
 split
 ·exact h r ‹_›
 ·decide
theorem rd_one (w : World) (g : Nat) (x : UInt8) (t : TypeId) (h : w.heap[g]? = some (.cells #[.int .u8 (x.toNat : Int)] t (0, 0))) : Rd w (some ⟨g, 0, none⟩) [x] := by
 intro hp
 refine ⟨g, 0, rfl, lt_of_block h, fun j hj => ?_⟩
 obtain rfl : j = 0 := by simpa using hj
 rw [cell_of_row _ _ _ _ t _ h]
 simp
/-- shas.As, what is summed named -/
theorem as_r (st : ByteArray) (a0 : Option Addr) (n0 c0 : Nat) (A : Nat → Option Addr) (L C : Nat → Nat) (xs : Nat → List UInt8) (r : List UInt8) (w : World) (hR : Rws w a0 n0 A L C xs) (hK : Kt w) (hn : n0 ≤ 1000) (hL : ∀ r, r < n0 → L r ≤ 1048576) (hs : st.size ≤ 1000000) (hr : sha (spelt st.data.toList n0 xs n0) = r) :
  Calls Tryd.prog 48 #[.string st, .slice a0 n0 c0] w fun e w' => e = .returned (.agg (bvs r).toArray) ∧ Below w.heap.size w w' := by
 subst hr
 exact as_any st a0 n0 c0 A L C xs w hR hK hn hL hs
/-- the region -/
noncomputable def hf1 : Code := ((Tryd.f47.body.bind (findRegion 1)).getD .skip)
theorem hb0_le {w0 w : World} {o : Obj} (h : On w fun u => Below w0.heap.size w0 u) (hb : Below w.heap.size w (w.alloc o)) : w0.heap.size ≤ w.heap.size := h.here.size
theorem cells_old {w0 u : World} {ga gp : Nat} {st : ByteArray} {a0 : Option Addr} {n0 c0 : Nat} (h1 : ga < w0.heap.size) (h2 : gp < w0.heap.size) (k1 : w0.cell? ⟨ga, 0, none⟩ = some (.string st)) (k2 : w0.cell? ⟨gp, 0, none⟩ = some (.slice a0 n0 c0)) (h : Below w0.heap.size w0 u) :
  u.cell? ⟨ga, 0, none⟩ = some (.string st) ∧ u.cell? ⟨gp, 0, none⟩ = some (.slice a0 n0 c0) := ⟨(h.cell (p := ⟨ga, 0, none⟩) h1).trans k1, (h.cell (p := ⟨gp, 0, none⟩) h2).trans k2⟩
set_option maxRecDepth 100000 in
set_option maxHeartbeats 4000000 in
theorem hf1_ok {w0 : World} {st : ByteArray} {a0 : Option Addr} {n0 c0 ga gp : Nat} {A : Nat → Option Addr} {L C : Nat → Nat} {xs : Nat → List UInt8} {x : UInt8} {xi : Int} {r : List UInt8} {Q : Exit → Act → World → Prop}
  (FK0 : Hid (On w0 Kt)) (FR0 : Hid (On w0 fun u => Rws u a0 n0 A L C xs)) (FC0 : Hid (On w0 fun u => u.cell? ⟨ga, 0, none⟩ = some (.string st) ∧ u.cell? ⟨gp, 0, none⟩ = some (.slice a0 n0 c0)))
  (HO1 : Hid (ga < w0.heap.size)) (HO2 : Hid (gp < w0.heap.size)) (HCA : Hid (w0.cell? ⟨ga, 0, none⟩ = some (.string st))) (HCP : Hid (w0.cell? ⟨gp, 0, none⟩ = some (.slice a0 n0 c0)))
  (HC : Hid (n0 ≤ c0)) (HN : Hid (n0 ≤ 1000)) (HN2 : Hid (n0 ≤ 1000)) (HN1 : Hid (n0 + 1 ≤ 1000)) (H0 : Hid (a0 = none → c0 = 0)) (HZ : Hid (a0 = none → n0 = 0)) (HL1 : Hid (∀ r, r < n0 + 1 → nx n0 L 1 r ≤ 1048576)) (HS : Hid (st.size ≤ 1000000)) (HX : Hid (xi = (x.toNat : Int)))
  (ER : Hid (sha (spelt st.data.toList (n0 + 1) (nx n0 xs [x]) (n0 + 1)) = r)) (HQ : Hid (r.length = 32)) (c3 c4 c5 c6 c7 c8 c9 c10 c11 c12 c13 c14 c15 c16 c17 c18 c19 c20 c21 : Value)
  (hQ : Hid (∀ (d8 d9 d10 d11 d12 d13 d14 d15 : Value) (gz : Nat) (u : World), Hid (On u fun v => Bt v gz 23 r ∧ Below w0.heap.size w0 v) → Q .normal ⟨#[.int .u8 xi, .pointer (some ⟨ga, 0, none⟩), .pointer (some ⟨gp, 0, none⟩), c3, c4, .pointer (some ⟨gz, 0, none⟩), c6, c7, d8, d9, d10, d11, d12, d13, d14, d15, c16, c17, c18, c19, c20, c21], []⟩ u)) : Code.wp Tryd.prog hf1 Q ⟨#[.int .u8 xi, .pointer (some ⟨ga, 0, none⟩), .pointer (some ⟨gp, 0, none⟩), c3, c4, c5, c6, c7, c8, c9, c10, c11, c12, c13, c14, c15, c16, c17, c18, c19, c20, c21], []⟩ w0 := by
 conv => arg 2; whnf
 have HB := hid (on_below (Below.refl w0.heap.size w0).drew)
 have FK := hid (FK0.out.on (Below.refl w0.heap.size w0).drew)
 have FR := hid (FR0.out.on (Below.refl w0.heap.size w0).drew)
 have FC := hid (FC0.out.on (Below.refl w0.heap.size w0).drew)
 clear FK0 FR0 FC0
 refine wp_region_noPanic ?_
 refine Goes.region (fun (L : Array Bool) (u : World) => u.cell? ⟨ga, 0, none⟩ = some (.string st) ∧ u.cell? ⟨gp, 0, none⟩ = some (.slice a0 n0 c0)) (by kernel_rfl) ?_
 generalize w0.drew = wdr at *
 refine Goes.take (i := 0) (o := ⟨some 8, _, _, _, _, _⟩) (v := ?_) [] rfl (by kernel_rfl) (by kernel_rfl) (by kernel_rfl) (fun _ _ _ h => h) (by kernel_rfl) (fun L u h => h) (Or.inl ⟨by rfl, ?_⟩) FC.out.here ?_
 rotate_left
 ·rintro u ⟨up, -, hX⟩; (try dsimp only at hX); obtain ⟨x0, x1⟩ := hX; go_simp; try with_reducible rfl
 try simp only [putz]
 refine Goes.take (i := 1) (o := ⟨some 9, _, _, _, _, _⟩) (v := ?_) [] rfl (by kernel_rfl) (by kernel_rfl) (by kernel_rfl) (fun _ _ _ h => h) (by kernel_rfl) (fun L u h => h) (Or.inl ⟨by rfl, ?_⟩) FC.out.here ?_
 rotate_left
 ·rintro u ⟨up, -, hX⟩; (try dsimp only at hX); obtain ⟨x0, x1⟩ := hX; go_simp; try with_reducible rfl
 try simp only [putz]
 refine Goes.take (i := 3) (o := ⟨some 11, _, _, _, _, _⟩) (v := ?_) [] rfl (by kernel_rfl) (by kernel_rfl) (by kernel_rfl) (fun _ _ _ h => h) (by kernel_rfl) (fun L u h => h) (Or.inl ⟨by rfl, ?_⟩) FC.out.here ?_
 rotate_left
 ·intro u hY; go_simp; try with_reducible rfl
 try simp only [putz]
 refine Goes.three (i := 2) (j := 4) (k := 8) (o := ⟨some 10, _, _, _, _, _⟩) (p := ⟨some 12, _, _, _, _, _⟩) (q := ⟨some 5, _, _, _, _, _⟩) (by kernel_rfl) rfl rfl rfl (fun K hK => ?_) (fun K hK => ?_) (fun K hK => ?_)
 ·skip
  go_simp
  with_reducible refine (clip_any a0 n0 c0 _ HC.out HN2.out H0.out).mono ?_
  rintro e wx ⟨rfl, rfl⟩
  go_wp2_with fail
  refine hK.out _ _ FC.out.here ?_
  clear hK K
  try simp only [putz]
  refine Goes.two (i := 4) (j := 8) (o := ⟨some 12, _, _, _, _, _⟩) (p := ⟨some 5, _, _, _, _, _⟩) (by kernel_rfl) rfl rfl (fun K hK => ?_) (fun K hK => ?_)
  ·skip
   go_simp
   have hb := (Below.refl wdr.heap.size wdr).alloc (Nat.le_refl _) (.cells #[.int .u8 xi] 5)
   have hh := heap_alloc_new wdr (.cells #[.int .u8 xi] 5)
   refine hK.out _ _ (FC.out.on hb).here ?_
   clear hK K
   try simp only [putz]
   have HB := hid (HB.out.on hb)
   have FK := hid (FK.out.on hb)
   have FR := hid (FR.out.on hb)
   have FC := hid (FC.out.on hb)
   generalize wdr.alloc (.cells #[.int .u8 xi] 5) = w2 at *
   generalize wdr.heap.size = g1 at *
   have F1 := hid (on_rd (rd_one _ _ x 5 (by rw [← HX.out]; exact hh)))
   clear hb hh
   refine Goes.two (i := 5) (j := 8) (o := ⟨some 13, _, _, _, _, _⟩) (p := ⟨some 5, _, _, _, _, _⟩) (by kernel_rfl) rfl rfl (fun K hK => ?_) (fun K hK => ?_)
   ·skip
    go_simp
    have hb := (Below.refl w2.heap.size w2).alloc (Nat.le_refl _) (.cells #[.slice (some ⟨g1, 0, none⟩) 1 1] 47)
    have hh := heap_alloc_new w2 (.cells #[.slice (some ⟨g1, 0, none⟩) 1 1] 47)
    refine hK.out _ _ (FC.out.on hb).here ?_
    clear hK K
    try simp only [putz]
    have HB := hid (HB.out.on hb)
    have FK := hid (FK.out.on hb)
    have FR := hid (FR.out.on hb)
    have FC := hid (FC.out.on hb)
    have F1 := hid (F1.out.on hb)
    generalize w2.alloc (.cells #[.slice (some ⟨g1, 0, none⟩) 1 1] 47) = w3 at *
    generalize w2.heap.size = g2 at *
    have F2 := hid (on_cell (i := 0) (lt_of_block hh) (by rw [cell_of_row _ _ _ _ 47 _ hh]; rfl))
    clear hb hh
    refine Goes.two (i := 6) (j := 8) (o := ⟨some 14, _, _, _, _, _⟩) (p := ⟨some 5, _, _, _, _, _⟩) (by kernel_rfl) rfl rfl (fun K hK => ?_) (fun K hK => ?_)
    ·skip
     rw [if_pos (by rfl)]
     obtain ⟨gA, cA, w4, hrun, hb, hge, hc1, hc2, hrw⟩ := rows_more w3 a0 n0 A L C xs FR.out.here HN.out HZ.out g2 1 g1 x F2.out.here F1.out.here
     refine wp_append 69 (.tmp 10) (.tmp 13) (by rfl) (by rfl) _ _ (by rfl) (by rfl) _ _ hrun ?_
     refine hK.out _ _ (FC.out.on hb).here ?_
     clear hK K
     try simp only [putz]
     have HB := hid (HB.out.on hb)
     have FK := hid (FK.out.on hb)
     have FR := hid (FR.out.on hb)
     have FC := hid (FC.out.on hb)
     have F1 := hid (F1.out.on hb)
     have F2 := hid (F2.out.on hb)
     have FA := hid (on_rws hrw)
     clear hrun hb hge hc1 hc2 hrw
     refine Goes.two (i := 7) (j := 8) (o := ⟨some 15, _, _, _, _, _⟩) (p := ⟨some 5, _, _, _, _, _⟩) (by kernel_rfl) rfl rfl (fun K hK => ?_) (fun K hK => ?_)
     ·skip
      go_simp
      with_reducible refine (as_r st (some ⟨gA, 0, none⟩) (n0 + 1) cA _ _ _ _ r w4 FA.out.here FK.out.here HN1.out HL1.out HS.out ER.out).mono ?_
      rintro e w5 ⟨rfl, hb⟩
      go_wp2_with fail
      refine hK.out _ _ (FC.out.on hb).here ?_
      clear hK K
      try simp only [putz]
      have HB := hid (HB.out.on hb)
      have FK := hid (FK.out.on hb)
      have FR := hid (FR.out.on hb)
      have FC := hid (FC.out.on hb)
      have F1 := hid (F1.out.on hb)
      have F2 := hid (F2.out.on hb)
      have FA := hid (FA.out.on hb)
      clear hb
      refine Goes.one (i := 8) (o := ⟨some 5, _, _, _, _, _⟩) (by kernel_rfl) rfl (fun K hK => ?_)
      go_simp
      have hb := (Below.refl w5.heap.size w5).alloc (Nat.le_refl _) (.cells #[.int .u8 0, .int .u8 0, .int .u8 0, .int .u8 0, .int .u8 0, .int .u8 0, .int .u8 0, .int .u8 0, .int .u8 0, .int .u8 0, .int .u8 0, .int .u8 0, .int .u8 0, .int .u8 0, .int .u8 0, .int .u8 0, .int .u8 0, .int .u8 0, .int .u8 0, .int .u8 0, .int .u8 0, .int .u8 0, .int .u8 0, .int .u8 0, .int .u8 0, .int .u8 0, .int .u8 0, .int .u8 0, .int .u8 0, .int .u8 0, .int .u8 0, .int .u8 0] 23)
      have hh := heap_alloc_new w5 (.cells #[.int .u8 0, .int .u8 0, .int .u8 0, .int .u8 0, .int .u8 0, .int .u8 0, .int .u8 0, .int .u8 0, .int .u8 0, .int .u8 0, .int .u8 0, .int .u8 0, .int .u8 0, .int .u8 0, .int .u8 0, .int .u8 0, .int .u8 0, .int .u8 0, .int .u8 0, .int .u8 0, .int .u8 0, .int .u8 0, .int .u8 0, .int .u8 0, .int .u8 0, .int .u8 0, .int .u8 0, .int .u8 0, .int .u8 0, .int .u8 0, .int .u8 0, .int .u8 0] 23)
      refine hK.out _ _ (FC.out.on hb).here ?_
      clear hK K
      try simp only [putz]
      have FG := hid (HB.out.here.size)
      have HB := hid (HB.out.on hb)
      have FK := hid (FK.out.on hb)
      have FR := hid (FR.out.on hb)
      have FC := hid (FC.out.on hb)
      have F1 := hid (F1.out.on hb)
      have F2 := hid (F2.out.on hb)
      have FA := hid (FA.out.on hb)
      generalize w5.alloc (.cells #[.int .u8 0, .int .u8 0, .int .u8 0, .int .u8 0, .int .u8 0, .int .u8 0, .int .u8 0, .int .u8 0, .int .u8 0, .int .u8 0, .int .u8 0, .int .u8 0, .int .u8 0, .int .u8 0, .int .u8 0, .int .u8 0, .int .u8 0, .int .u8 0, .int .u8 0, .int .u8 0, .int .u8 0, .int .u8 0, .int .u8 0, .int .u8 0, .int .u8 0, .int .u8 0, .int .u8 0, .int .u8 0, .int .u8 0, .int .u8 0, .int .u8 0, .int .u8 0] 23) = w6 at *
      generalize w5.heap.size = gz at *
      have FZ := hid (on_bt (show Bt _ gz 23 (List.replicate 32 0) from hh))
      clear hb hh
      refine Goes.one (i := 9) (o := ⟨none, _, _, _, _, _⟩) (by kernel_rfl) rfl (fun K hK => ?_)
      rw [if_pos (by rfl)]
      have hz := FZ.out.here
      unfold Bt at hz
      refine wp_store_row 23 (.tmp 5) (.tmp 15) (by rfl) gz (bvs r).toArray (by rfl) (by rfl) 23 _ hz (hi44 r HQ.out).out (by rw [bvs_size, bvs_size, HQ.out, List.length_replicate]) (bvs_all r) ?_
      have HW := below_setRow HB.out.here FG.out (bvs r).toArray
      have HT := FZ.out.here.row (m := r)
      refine hK.out _ _ (cells_old HO1.out HO2.out HCA.out HCP.out HW) ?_
      clear hK K
      try simp only [putz]
      have FZ := hid ((on_bt HT).both (on_below HW))
      clear hz HW HT
      refine Goes.done (by kernel_rfl) ?_ _
      refine NoPanic.normal ?_
      exact hQ.out _ _ _ _ _ _ _ _ _ _ FZ
     ·skip
      go_simp
      have hb := (Below.refl w4.heap.size w4).alloc (Nat.le_refl _) (.cells #[.int .u8 0, .int .u8 0, .int .u8 0, .int .u8 0, .int .u8 0, .int .u8 0, .int .u8 0, .int .u8 0, .int .u8 0, .int .u8 0, .int .u8 0, .int .u8 0, .int .u8 0, .int .u8 0, .int .u8 0, .int .u8 0, .int .u8 0, .int .u8 0, .int .u8 0, .int .u8 0, .int .u8 0, .int .u8 0, .int .u8 0, .int .u8 0, .int .u8 0, .int .u8 0, .int .u8 0, .int .u8 0, .int .u8 0, .int .u8 0, .int .u8 0, .int .u8 0] 23)
      have hh := heap_alloc_new w4 (.cells #[.int .u8 0, .int .u8 0, .int .u8 0, .int .u8 0, .int .u8 0, .int .u8 0, .int .u8 0, .int .u8 0, .int .u8 0, .int .u8 0, .int .u8 0, .int .u8 0, .int .u8 0, .int .u8 0, .int .u8 0, .int .u8 0, .int .u8 0, .int .u8 0, .int .u8 0, .int .u8 0, .int .u8 0, .int .u8 0, .int .u8 0, .int .u8 0, .int .u8 0, .int .u8 0, .int .u8 0, .int .u8 0, .int .u8 0, .int .u8 0, .int .u8 0, .int .u8 0] 23)
      refine hK.out _ _ (FC.out.on hb).here ?_
      clear hK K
      try simp only [putz]
      have FG := hid (HB.out.here.size)
      have HB := hid (HB.out.on hb)
      have FK := hid (FK.out.on hb)
      have FR := hid (FR.out.on hb)
      have FC := hid (FC.out.on hb)
      have F1 := hid (F1.out.on hb)
      have F2 := hid (F2.out.on hb)
      have FA := hid (FA.out.on hb)
      generalize w4.alloc (.cells #[.int .u8 0, .int .u8 0, .int .u8 0, .int .u8 0, .int .u8 0, .int .u8 0, .int .u8 0, .int .u8 0, .int .u8 0, .int .u8 0, .int .u8 0, .int .u8 0, .int .u8 0, .int .u8 0, .int .u8 0, .int .u8 0, .int .u8 0, .int .u8 0, .int .u8 0, .int .u8 0, .int .u8 0, .int .u8 0, .int .u8 0, .int .u8 0, .int .u8 0, .int .u8 0, .int .u8 0, .int .u8 0, .int .u8 0, .int .u8 0, .int .u8 0, .int .u8 0] 23) = w8 at *
      generalize w4.heap.size = gz at *
      have FZ := hid (on_bt (show Bt _ gz 23 (List.replicate 32 0) from hh))
      clear hb hh
      refine Goes.one (i := 7) (o := ⟨some 15, _, _, _, _, _⟩) (by kernel_rfl) rfl (fun K hK => ?_)
      go_simp
      with_reducible refine (as_r st (some ⟨gA, 0, none⟩) (n0 + 1) cA _ _ _ _ r w8 FA.out.here FK.out.here HN1.out HL1.out HS.out ER.out).mono ?_
      rintro e w9 ⟨rfl, hb⟩
      go_wp2_with fail
      refine hK.out _ _ (FC.out.on hb).here ?_
      clear hK K
      try simp only [putz]
      have HB := hid (HB.out.on hb)
      have FK := hid (FK.out.on hb)
      have FR := hid (FR.out.on hb)
      have FC := hid (FC.out.on hb)
      have F1 := hid (F1.out.on hb)
      have F2 := hid (F2.out.on hb)
      have FA := hid (FA.out.on hb)
      have FZ := hid (FZ.out.on hb)
      clear hb
      refine Goes.one (i := 9) (o := ⟨none, _, _, _, _, _⟩) (by kernel_rfl) rfl (fun K hK => ?_)
      rw [if_pos (by rfl)]
      have hz := FZ.out.here
      unfold Bt at hz
      refine wp_store_row 23 (.tmp 5) (.tmp 15) (by rfl) gz (bvs r).toArray (by rfl) (by rfl) 23 _ hz (hi44 r HQ.out).out (by rw [bvs_size, bvs_size, HQ.out, List.length_replicate]) (bvs_all r) ?_
      have HW := below_setRow HB.out.here FG.out (bvs r).toArray
      have HT := FZ.out.here.row (m := r)
      refine hK.out _ _ (cells_old HO1.out HO2.out HCA.out HCP.out HW) ?_
      clear hK K
      try simp only [putz]
      have FZ := hid ((on_bt HT).both (on_below HW))
      clear hz HW HT
      refine Goes.done (by kernel_rfl) ?_ _
      refine NoPanic.normal ?_
      exact hQ.out _ _ _ _ _ _ _ _ _ _ FZ
    ·skip
     go_simp
     have hb := (Below.refl w3.heap.size w3).alloc (Nat.le_refl _) (.cells #[.int .u8 0, .int .u8 0, .int .u8 0, .int .u8 0, .int .u8 0, .int .u8 0, .int .u8 0, .int .u8 0, .int .u8 0, .int .u8 0, .int .u8 0, .int .u8 0, .int .u8 0, .int .u8 0, .int .u8 0, .int .u8 0, .int .u8 0, .int .u8 0, .int .u8 0, .int .u8 0, .int .u8 0, .int .u8 0, .int .u8 0, .int .u8 0, .int .u8 0, .int .u8 0, .int .u8 0, .int .u8 0, .int .u8 0, .int .u8 0, .int .u8 0, .int .u8 0] 23)
     have hh := heap_alloc_new w3 (.cells #[.int .u8 0, .int .u8 0, .int .u8 0, .int .u8 0, .int .u8 0, .int .u8 0, .int .u8 0, .int .u8 0, .int .u8 0, .int .u8 0, .int .u8 0, .int .u8 0, .int .u8 0, .int .u8 0, .int .u8 0, .int .u8 0, .int .u8 0, .int .u8 0, .int .u8 0, .int .u8 0, .int .u8 0, .int .u8 0, .int .u8 0, .int .u8 0, .int .u8 0, .int .u8 0, .int .u8 0, .int .u8 0, .int .u8 0, .int .u8 0, .int .u8 0, .int .u8 0] 23)
     refine hK.out _ _ (FC.out.on hb).here ?_
     clear hK K
     try simp only [putz]
     have FG := hid (HB.out.here.size)
     have HB := hid (HB.out.on hb)
     have FK := hid (FK.out.on hb)
     have FR := hid (FR.out.on hb)
     have FC := hid (FC.out.on hb)
     have F1 := hid (F1.out.on hb)
     have F2 := hid (F2.out.on hb)
     generalize w3.alloc (.cells #[.int .u8 0, .int .u8 0, .int .u8 0, .int .u8 0, .int .u8 0, .int .u8 0, .int .u8 0, .int .u8 0, .int .u8 0, .int .u8 0, .int .u8 0, .int .u8 0, .int .u8 0, .int .u8 0, .int .u8 0, .int .u8 0, .int .u8 0, .int .u8 0, .int .u8 0, .int .u8 0, .int .u8 0, .int .u8 0, .int .u8 0, .int .u8 0, .int .u8 0, .int .u8 0, .int .u8 0, .int .u8 0, .int .u8 0, .int .u8 0, .int .u8 0, .int .u8 0] 23) = w11 at *
     generalize w3.heap.size = gz at *
     have FZ := hid (on_bt (show Bt _ gz 23 (List.replicate 32 0) from hh))
     clear hb hh
     refine Goes.one (i := 6) (o := ⟨some 14, _, _, _, _, _⟩) (by kernel_rfl) rfl (fun K hK => ?_)
     rw [if_pos (by rfl)]
     obtain ⟨gA, cA, w12, hrun, hb, hge, hc1, hc2, hrw⟩ := rows_more w11 a0 n0 A L C xs FR.out.here HN.out HZ.out g2 1 g1 x F2.out.here F1.out.here
     refine wp_append 69 (.tmp 10) (.tmp 13) (by rfl) (by rfl) _ _ (by rfl) (by rfl) _ _ hrun ?_
     refine hK.out _ _ (FC.out.on hb).here ?_
     clear hK K
     try simp only [putz]
     have HB := hid (HB.out.on hb)
     have FK := hid (FK.out.on hb)
     have FR := hid (FR.out.on hb)
     have FC := hid (FC.out.on hb)
     have F1 := hid (F1.out.on hb)
     have F2 := hid (F2.out.on hb)
     have FZ := hid (FZ.out.on hb)
     have FA := hid (on_rws hrw)
     clear hrun hb hge hc1 hc2 hrw
     refine Goes.one (i := 7) (o := ⟨some 15, _, _, _, _, _⟩) (by kernel_rfl) rfl (fun K hK => ?_)
     go_simp
     with_reducible refine (as_r st (some ⟨gA, 0, none⟩) (n0 + 1) cA _ _ _ _ r w12 FA.out.here FK.out.here HN1.out HL1.out HS.out ER.out).mono ?_
     rintro e w13 ⟨rfl, hb⟩
     go_wp2_with fail
     refine hK.out _ _ (FC.out.on hb).here ?_
     clear hK K
     try simp only [putz]
     have HB := hid (HB.out.on hb)
     have FK := hid (FK.out.on hb)
     have FR := hid (FR.out.on hb)
     have FC := hid (FC.out.on hb)
     have F1 := hid (F1.out.on hb)
     have F2 := hid (F2.out.on hb)
     have FA := hid (FA.out.on hb)
     have FZ := hid (FZ.out.on hb)
     clear hb
     refine Goes.one (i := 9) (o := ⟨none, _, _, _, _, _⟩) (by kernel_rfl) rfl (fun K hK => ?_)
     rw [if_pos (by rfl)]
     have hz := FZ.out.here
     unfold Bt at hz
     refine wp_store_row 23 (.tmp 5) (.tmp 15) (by rfl) gz (bvs r).toArray (by rfl) (by rfl) 23 _ hz (hi44 r HQ.out).out (by rw [bvs_size, bvs_size, HQ.out, List.length_replicate]) (bvs_all r) ?_
     have HW := below_setRow HB.out.here FG.out (bvs r).toArray
     have HT := FZ.out.here.row (m := r)
     refine hK.out _ _ (cells_old HO1.out HO2.out HCA.out HCP.out HW) ?_
     clear hK K
     try simp only [putz]
     have FZ := hid ((on_bt HT).both (on_below HW))
     clear hz HW HT
     refine Goes.done (by kernel_rfl) ?_ _
     refine NoPanic.normal ?_
     exact hQ.out _ _ _ _ _ _ _ _ _ _ FZ
   ·skip
    go_simp
    have hb := (Below.refl w2.heap.size w2).alloc (Nat.le_refl _) (.cells #[.int .u8 0, .int .u8 0, .int .u8 0, .int .u8 0, .int .u8 0, .int .u8 0, .int .u8 0, .int .u8 0, .int .u8 0, .int .u8 0, .int .u8 0, .int .u8 0, .int .u8 0, .int .u8 0, .int .u8 0, .int .u8 0, .int .u8 0, .int .u8 0, .int .u8 0, .int .u8 0, .int .u8 0, .int .u8 0, .int .u8 0, .int .u8 0, .int .u8 0, .int .u8 0, .int .u8 0, .int .u8 0, .int .u8 0, .int .u8 0, .int .u8 0, .int .u8 0] 23)
    have hh := heap_alloc_new w2 (.cells #[.int .u8 0, .int .u8 0, .int .u8 0, .int .u8 0, .int .u8 0, .int .u8 0, .int .u8 0, .int .u8 0, .int .u8 0, .int .u8 0, .int .u8 0, .int .u8 0, .int .u8 0, .int .u8 0, .int .u8 0, .int .u8 0, .int .u8 0, .int .u8 0, .int .u8 0, .int .u8 0, .int .u8 0, .int .u8 0, .int .u8 0, .int .u8 0, .int .u8 0, .int .u8 0, .int .u8 0, .int .u8 0, .int .u8 0, .int .u8 0, .int .u8 0, .int .u8 0] 23)
    refine hK.out _ _ (FC.out.on hb).here ?_
    clear hK K
    try simp only [putz]
    have FG := hid (HB.out.here.size)
    have HB := hid (HB.out.on hb)
    have FK := hid (FK.out.on hb)
    have FR := hid (FR.out.on hb)
    have FC := hid (FC.out.on hb)
    have F1 := hid (F1.out.on hb)
    generalize w2.alloc (.cells #[.int .u8 0, .int .u8 0, .int .u8 0, .int .u8 0, .int .u8 0, .int .u8 0, .int .u8 0, .int .u8 0, .int .u8 0, .int .u8 0, .int .u8 0, .int .u8 0, .int .u8 0, .int .u8 0, .int .u8 0, .int .u8 0, .int .u8 0, .int .u8 0, .int .u8 0, .int .u8 0, .int .u8 0, .int .u8 0, .int .u8 0, .int .u8 0, .int .u8 0, .int .u8 0, .int .u8 0, .int .u8 0, .int .u8 0, .int .u8 0, .int .u8 0, .int .u8 0] 23) = w15 at *
    generalize w2.heap.size = gz at *
    have FZ := hid (on_bt (show Bt _ gz 23 (List.replicate 32 0) from hh))
    clear hb hh
    refine Goes.one (i := 5) (o := ⟨some 13, _, _, _, _, _⟩) (by kernel_rfl) rfl (fun K hK => ?_)
    go_simp
    have hb := (Below.refl w15.heap.size w15).alloc (Nat.le_refl _) (.cells #[.slice (some ⟨g1, 0, none⟩) 1 1] 47)
    have hh := heap_alloc_new w15 (.cells #[.slice (some ⟨g1, 0, none⟩) 1 1] 47)
    refine hK.out _ _ (FC.out.on hb).here ?_
    clear hK K
    try simp only [putz]
    have HB := hid (HB.out.on hb)
    have FK := hid (FK.out.on hb)
    have FR := hid (FR.out.on hb)
    have FC := hid (FC.out.on hb)
    have F1 := hid (F1.out.on hb)
    have FZ := hid (FZ.out.on hb)
    generalize w15.alloc (.cells #[.slice (some ⟨g1, 0, none⟩) 1 1] 47) = w16 at *
    generalize w15.heap.size = g2 at *
    have F2 := hid (on_cell (i := 0) (lt_of_block hh) (by rw [cell_of_row _ _ _ _ 47 _ hh]; rfl))
    clear hb hh
    refine Goes.one (i := 6) (o := ⟨some 14, _, _, _, _, _⟩) (by kernel_rfl) rfl (fun K hK => ?_)
    rw [if_pos (by rfl)]
    obtain ⟨gA, cA, w17, hrun, hb, hge, hc1, hc2, hrw⟩ := rows_more w16 a0 n0 A L C xs FR.out.here HN.out HZ.out g2 1 g1 x F2.out.here F1.out.here
    refine wp_append 69 (.tmp 10) (.tmp 13) (by rfl) (by rfl) _ _ (by rfl) (by rfl) _ _ hrun ?_
    refine hK.out _ _ (FC.out.on hb).here ?_
    clear hK K
    try simp only [putz]
    have HB := hid (HB.out.on hb)
    have FK := hid (FK.out.on hb)
    have FR := hid (FR.out.on hb)
    have FC := hid (FC.out.on hb)
    have F1 := hid (F1.out.on hb)
    have F2 := hid (F2.out.on hb)
    have FZ := hid (FZ.out.on hb)
    have FA := hid (on_rws hrw)
    clear hrun hb hge hc1 hc2 hrw
    refine Goes.one (i := 7) (o := ⟨some 15, _, _, _, _, _⟩) (by kernel_rfl) rfl (fun K hK => ?_)
    go_simp
    with_reducible refine (as_r st (some ⟨gA, 0, none⟩) (n0 + 1) cA _ _ _ _ r w17 FA.out.here FK.out.here HN1.out HL1.out HS.out ER.out).mono ?_
    rintro e w18 ⟨rfl, hb⟩
    go_wp2_with fail
    refine hK.out _ _ (FC.out.on hb).here ?_
    clear hK K
    try simp only [putz]
    have HB := hid (HB.out.on hb)
    have FK := hid (FK.out.on hb)
    have FR := hid (FR.out.on hb)
    have FC := hid (FC.out.on hb)
    have F1 := hid (F1.out.on hb)
    have F2 := hid (F2.out.on hb)
    have FA := hid (FA.out.on hb)
    have FZ := hid (FZ.out.on hb)
    clear hb
    refine Goes.one (i := 9) (o := ⟨none, _, _, _, _, _⟩) (by kernel_rfl) rfl (fun K hK => ?_)
    rw [if_pos (by rfl)]
    have hz := FZ.out.here
    unfold Bt at hz
    refine wp_store_row 23 (.tmp 5) (.tmp 15) (by rfl) gz (bvs r).toArray (by rfl) (by rfl) 23 _ hz (hi44 r HQ.out).out (by rw [bvs_size, bvs_size, HQ.out, List.length_replicate]) (bvs_all r) ?_
    have HW := below_setRow HB.out.here FG.out (bvs r).toArray
    have HT := FZ.out.here.row (m := r)
    refine hK.out _ _ (cells_old HO1.out HO2.out HCA.out HCP.out HW) ?_
    clear hK K
    try simp only [putz]
    have FZ := hid ((on_bt HT).both (on_below HW))
    clear hz HW HT
    refine Goes.done (by kernel_rfl) ?_ _
    refine NoPanic.normal ?_
    exact hQ.out _ _ _ _ _ _ _ _ _ _ FZ
  ·skip
   go_simp
   have hb := (Below.refl wdr.heap.size wdr).alloc (Nat.le_refl _) (.cells #[.int .u8 0, .int .u8 0, .int .u8 0, .int .u8 0, .int .u8 0, .int .u8 0, .int .u8 0, .int .u8 0, .int .u8 0, .int .u8 0, .int .u8 0, .int .u8 0, .int .u8 0, .int .u8 0, .int .u8 0, .int .u8 0, .int .u8 0, .int .u8 0, .int .u8 0, .int .u8 0, .int .u8 0, .int .u8 0, .int .u8 0, .int .u8 0, .int .u8 0, .int .u8 0, .int .u8 0, .int .u8 0, .int .u8 0, .int .u8 0, .int .u8 0, .int .u8 0] 23)
   have hh := heap_alloc_new wdr (.cells #[.int .u8 0, .int .u8 0, .int .u8 0, .int .u8 0, .int .u8 0, .int .u8 0, .int .u8 0, .int .u8 0, .int .u8 0, .int .u8 0, .int .u8 0, .int .u8 0, .int .u8 0, .int .u8 0, .int .u8 0, .int .u8 0, .int .u8 0, .int .u8 0, .int .u8 0, .int .u8 0, .int .u8 0, .int .u8 0, .int .u8 0, .int .u8 0, .int .u8 0, .int .u8 0, .int .u8 0, .int .u8 0, .int .u8 0, .int .u8 0, .int .u8 0, .int .u8 0] 23)
   refine hK.out _ _ (FC.out.on hb).here ?_
   clear hK K
   try simp only [putz]
   have FG := hid (HB.out.here.size)
   have HB := hid (HB.out.on hb)
   have FK := hid (FK.out.on hb)
   have FR := hid (FR.out.on hb)
   have FC := hid (FC.out.on hb)
   generalize wdr.alloc (.cells #[.int .u8 0, .int .u8 0, .int .u8 0, .int .u8 0, .int .u8 0, .int .u8 0, .int .u8 0, .int .u8 0, .int .u8 0, .int .u8 0, .int .u8 0, .int .u8 0, .int .u8 0, .int .u8 0, .int .u8 0, .int .u8 0, .int .u8 0, .int .u8 0, .int .u8 0, .int .u8 0, .int .u8 0, .int .u8 0, .int .u8 0, .int .u8 0, .int .u8 0, .int .u8 0, .int .u8 0, .int .u8 0, .int .u8 0, .int .u8 0, .int .u8 0, .int .u8 0] 23) = w20 at *
   generalize wdr.heap.size = gz at *
   have FZ := hid (on_bt (show Bt _ gz 23 (List.replicate 32 0) from hh))
   clear hb hh
   refine Goes.one (i := 4) (o := ⟨some 12, _, _, _, _, _⟩) (by kernel_rfl) rfl (fun K hK => ?_)
   go_simp
   have hb := (Below.refl w20.heap.size w20).alloc (Nat.le_refl _) (.cells #[.int .u8 xi] 5)
   have hh := heap_alloc_new w20 (.cells #[.int .u8 xi] 5)
   refine hK.out _ _ (FC.out.on hb).here ?_
   clear hK K
   try simp only [putz]
   have HB := hid (HB.out.on hb)
   have FK := hid (FK.out.on hb)
   have FR := hid (FR.out.on hb)
   have FC := hid (FC.out.on hb)
   have FZ := hid (FZ.out.on hb)
   generalize w20.alloc (.cells #[.int .u8 xi] 5) = w21 at *
   generalize w20.heap.size = g1 at *
   have F1 := hid (on_rd (rd_one _ _ x 5 (by rw [← HX.out]; exact hh)))
   clear hb hh
   refine Goes.one (i := 5) (o := ⟨some 13, _, _, _, _, _⟩) (by kernel_rfl) rfl (fun K hK => ?_)
   go_simp
   have hb := (Below.refl w21.heap.size w21).alloc (Nat.le_refl _) (.cells #[.slice (some ⟨g1, 0, none⟩) 1 1] 47)
   have hh := heap_alloc_new w21 (.cells #[.slice (some ⟨g1, 0, none⟩) 1 1] 47)
   refine hK.out _ _ (FC.out.on hb).here ?_
   clear hK K
   try simp only [putz]
   have HB := hid (HB.out.on hb)
   have FK := hid (FK.out.on hb)
   have FR := hid (FR.out.on hb)
   have FC := hid (FC.out.on hb)
   have F1 := hid (F1.out.on hb)
   have FZ := hid (FZ.out.on hb)
   generalize w21.alloc (.cells #[.slice (some ⟨g1, 0, none⟩) 1 1] 47) = w22 at *
   generalize w21.heap.size = g2 at *
   have F2 := hid (on_cell (i := 0) (lt_of_block hh) (by rw [cell_of_row _ _ _ _ 47 _ hh]; rfl))
   clear hb hh
   refine Goes.one (i := 6) (o := ⟨some 14, _, _, _, _, _⟩) (by kernel_rfl) rfl (fun K hK => ?_)
   rw [if_pos (by rfl)]
   obtain ⟨gA, cA, w23, hrun, hb, hge, hc1, hc2, hrw⟩ := rows_more w22 a0 n0 A L C xs FR.out.here HN.out HZ.out g2 1 g1 x F2.out.here F1.out.here
   refine wp_append 69 (.tmp 10) (.tmp 13) (by rfl) (by rfl) _ _ (by rfl) (by rfl) _ _ hrun ?_
   refine hK.out _ _ (FC.out.on hb).here ?_
   clear hK K
   try simp only [putz]
   have HB := hid (HB.out.on hb)
   have FK := hid (FK.out.on hb)
   have FR := hid (FR.out.on hb)
   have FC := hid (FC.out.on hb)
   have F1 := hid (F1.out.on hb)
   have F2 := hid (F2.out.on hb)
   have FZ := hid (FZ.out.on hb)
   have FA := hid (on_rws hrw)
   clear hrun hb hge hc1 hc2 hrw
   refine Goes.one (i := 7) (o := ⟨some 15, _, _, _, _, _⟩) (by kernel_rfl) rfl (fun K hK => ?_)
   go_simp
   with_reducible refine (as_r st (some ⟨gA, 0, none⟩) (n0 + 1) cA _ _ _ _ r w23 FA.out.here FK.out.here HN1.out HL1.out HS.out ER.out).mono ?_
   rintro e w24 ⟨rfl, hb⟩
   go_wp2_with fail
   refine hK.out _ _ (FC.out.on hb).here ?_
   clear hK K
   try simp only [putz]
   have HB := hid (HB.out.on hb)
   have FK := hid (FK.out.on hb)
   have FR := hid (FR.out.on hb)
   have FC := hid (FC.out.on hb)
   have F1 := hid (F1.out.on hb)
   have F2 := hid (F2.out.on hb)
   have FA := hid (FA.out.on hb)
   have FZ := hid (FZ.out.on hb)
   clear hb
   refine Goes.one (i := 9) (o := ⟨none, _, _, _, _, _⟩) (by kernel_rfl) rfl (fun K hK => ?_)
   rw [if_pos (by rfl)]
   have hz := FZ.out.here
   unfold Bt at hz
   refine wp_store_row 23 (.tmp 5) (.tmp 15) (by rfl) gz (bvs r).toArray (by rfl) (by rfl) 23 _ hz (hi44 r HQ.out).out (by rw [bvs_size, bvs_size, HQ.out, List.length_replicate]) (bvs_all r) ?_
   have HW := below_setRow HB.out.here FG.out (bvs r).toArray
   have HT := FZ.out.here.row (m := r)
   refine hK.out _ _ (cells_old HO1.out HO2.out HCA.out HCP.out HW) ?_
   clear hK K
   try simp only [putz]
   have FZ := hid ((on_bt HT).both (on_below HW))
   clear hz HW HT
   refine Goes.done (by kernel_rfl) ?_ _
   refine NoPanic.normal ?_
   exact hQ.out _ _ _ _ _ _ _ _ _ _ FZ
 ·skip
  go_simp
  have hb := (Below.refl wdr.heap.size wdr).alloc (Nat.le_refl _) (.cells #[.int .u8 xi] 5)
  have hh := heap_alloc_new wdr (.cells #[.int .u8 xi] 5)
  refine hK.out _ _ (FC.out.on hb).here ?_
  clear hK K
  try simp only [putz]
  have HB := hid (HB.out.on hb)
  have FK := hid (FK.out.on hb)
  have FR := hid (FR.out.on hb)
  have FC := hid (FC.out.on hb)
  generalize wdr.alloc (.cells #[.int .u8 xi] 5) = w26 at *
  generalize wdr.heap.size = g1 at *
  have F1 := hid (on_rd (rd_one _ _ x 5 (by rw [← HX.out]; exact hh)))
  clear hb hh
  refine Goes.three (i := 2) (j := 5) (k := 8) (o := ⟨some 10, _, _, _, _, _⟩) (p := ⟨some 13, _, _, _, _, _⟩) (q := ⟨some 5, _, _, _, _, _⟩) (by kernel_rfl) rfl rfl rfl (fun K hK => ?_) (fun K hK => ?_) (fun K hK => ?_)
  ·skip
   go_simp
   with_reducible refine (clip_any a0 n0 c0 _ HC.out HN2.out H0.out).mono ?_
   rintro e wx ⟨rfl, rfl⟩
   go_wp2_with fail
   refine hK.out _ _ FC.out.here ?_
   clear hK K
   try simp only [putz]
   refine Goes.two (i := 5) (j := 8) (o := ⟨some 13, _, _, _, _, _⟩) (p := ⟨some 5, _, _, _, _, _⟩) (by kernel_rfl) rfl rfl (fun K hK => ?_) (fun K hK => ?_)
   ·skip
    go_simp
    have hb := (Below.refl w26.heap.size w26).alloc (Nat.le_refl _) (.cells #[.slice (some ⟨g1, 0, none⟩) 1 1] 47)
    have hh := heap_alloc_new w26 (.cells #[.slice (some ⟨g1, 0, none⟩) 1 1] 47)
    refine hK.out _ _ (FC.out.on hb).here ?_
    clear hK K
    try simp only [putz]
    have HB := hid (HB.out.on hb)
    have FK := hid (FK.out.on hb)
    have FR := hid (FR.out.on hb)
    have FC := hid (FC.out.on hb)
    have F1 := hid (F1.out.on hb)
    generalize w26.alloc (.cells #[.slice (some ⟨g1, 0, none⟩) 1 1] 47) = w28 at *
    generalize w26.heap.size = g2 at *
    have F2 := hid (on_cell (i := 0) (lt_of_block hh) (by rw [cell_of_row _ _ _ _ 47 _ hh]; rfl))
    clear hb hh
    refine Goes.two (i := 6) (j := 8) (o := ⟨some 14, _, _, _, _, _⟩) (p := ⟨some 5, _, _, _, _, _⟩) (by kernel_rfl) rfl rfl (fun K hK => ?_) (fun K hK => ?_)
    ·skip
     rw [if_pos (by rfl)]
     obtain ⟨gA, cA, w29, hrun, hb, hge, hc1, hc2, hrw⟩ := rows_more w28 a0 n0 A L C xs FR.out.here HN.out HZ.out g2 1 g1 x F2.out.here F1.out.here
     refine wp_append 69 (.tmp 10) (.tmp 13) (by rfl) (by rfl) _ _ (by rfl) (by rfl) _ _ hrun ?_
     refine hK.out _ _ (FC.out.on hb).here ?_
     clear hK K
     try simp only [putz]
     have HB := hid (HB.out.on hb)
     have FK := hid (FK.out.on hb)
     have FR := hid (FR.out.on hb)
     have FC := hid (FC.out.on hb)
     have F1 := hid (F1.out.on hb)
     have F2 := hid (F2.out.on hb)
     have FA := hid (on_rws hrw)
     clear hrun hb hge hc1 hc2 hrw
     refine Goes.two (i := 7) (j := 8) (o := ⟨some 15, _, _, _, _, _⟩) (p := ⟨some 5, _, _, _, _, _⟩) (by kernel_rfl) rfl rfl (fun K hK => ?_) (fun K hK => ?_)
     ·skip
      go_simp
      with_reducible refine (as_r st (some ⟨gA, 0, none⟩) (n0 + 1) cA _ _ _ _ r w29 FA.out.here FK.out.here HN1.out HL1.out HS.out ER.out).mono ?_
      rintro e w30 ⟨rfl, hb⟩
      go_wp2_with fail
      refine hK.out _ _ (FC.out.on hb).here ?_
      clear hK K
      try simp only [putz]
      have HB := hid (HB.out.on hb)
      have FK := hid (FK.out.on hb)
      have FR := hid (FR.out.on hb)
      have FC := hid (FC.out.on hb)
      have F1 := hid (F1.out.on hb)
      have F2 := hid (F2.out.on hb)
      have FA := hid (FA.out.on hb)
      clear hb
      refine Goes.one (i := 8) (o := ⟨some 5, _, _, _, _, _⟩) (by kernel_rfl) rfl (fun K hK => ?_)
      go_simp
      have hb := (Below.refl w30.heap.size w30).alloc (Nat.le_refl _) (.cells #[.int .u8 0, .int .u8 0, .int .u8 0, .int .u8 0, .int .u8 0, .int .u8 0, .int .u8 0, .int .u8 0, .int .u8 0, .int .u8 0, .int .u8 0, .int .u8 0, .int .u8 0, .int .u8 0, .int .u8 0, .int .u8 0, .int .u8 0, .int .u8 0, .int .u8 0, .int .u8 0, .int .u8 0, .int .u8 0, .int .u8 0, .int .u8 0, .int .u8 0, .int .u8 0, .int .u8 0, .int .u8 0, .int .u8 0, .int .u8 0, .int .u8 0, .int .u8 0] 23)
      have hh := heap_alloc_new w30 (.cells #[.int .u8 0, .int .u8 0, .int .u8 0, .int .u8 0, .int .u8 0, .int .u8 0, .int .u8 0, .int .u8 0, .int .u8 0, .int .u8 0, .int .u8 0, .int .u8 0, .int .u8 0, .int .u8 0, .int .u8 0, .int .u8 0, .int .u8 0, .int .u8 0, .int .u8 0, .int .u8 0, .int .u8 0, .int .u8 0, .int .u8 0, .int .u8 0, .int .u8 0, .int .u8 0, .int .u8 0, .int .u8 0, .int .u8 0, .int .u8 0, .int .u8 0, .int .u8 0] 23)
      refine hK.out _ _ (FC.out.on hb).here ?_
      clear hK K
      try simp only [putz]
      have FG := hid (HB.out.here.size)
      have HB := hid (HB.out.on hb)
      have FK := hid (FK.out.on hb)
      have FR := hid (FR.out.on hb)
      have FC := hid (FC.out.on hb)
      have F1 := hid (F1.out.on hb)
      have F2 := hid (F2.out.on hb)
      have FA := hid (FA.out.on hb)
      generalize w30.alloc (.cells #[.int .u8 0, .int .u8 0, .int .u8 0, .int .u8 0, .int .u8 0, .int .u8 0, .int .u8 0, .int .u8 0, .int .u8 0, .int .u8 0, .int .u8 0, .int .u8 0, .int .u8 0, .int .u8 0, .int .u8 0, .int .u8 0, .int .u8 0, .int .u8 0, .int .u8 0, .int .u8 0, .int .u8 0, .int .u8 0, .int .u8 0, .int .u8 0, .int .u8 0, .int .u8 0, .int .u8 0, .int .u8 0, .int .u8 0, .int .u8 0, .int .u8 0, .int .u8 0] 23) = w31 at *
      generalize w30.heap.size = gz at *
      have FZ := hid (on_bt (show Bt _ gz 23 (List.replicate 32 0) from hh))
      clear hb hh
      refine Goes.one (i := 9) (o := ⟨none, _, _, _, _, _⟩) (by kernel_rfl) rfl (fun K hK => ?_)
      rw [if_pos (by rfl)]
      have hz := FZ.out.here
      unfold Bt at hz
      refine wp_store_row 23 (.tmp 5) (.tmp 15) (by rfl) gz (bvs r).toArray (by rfl) (by rfl) 23 _ hz (hi44 r HQ.out).out (by rw [bvs_size, bvs_size, HQ.out, List.length_replicate]) (bvs_all r) ?_
      have HW := below_setRow HB.out.here FG.out (bvs r).toArray
      have HT := FZ.out.here.row (m := r)
      refine hK.out _ _ (cells_old HO1.out HO2.out HCA.out HCP.out HW) ?_
      clear hK K
      try simp only [putz]
      have FZ := hid ((on_bt HT).both (on_below HW))
      clear hz HW HT
      refine Goes.done (by kernel_rfl) ?_ _
      refine NoPanic.normal ?_
      exact hQ.out _ _ _ _ _ _ _ _ _ _ FZ
     ·skip
      go_simp
      have hb := (Below.refl w29.heap.size w29).alloc (Nat.le_refl _) (.cells #[.int .u8 0, .int .u8 0, .int .u8 0, .int .u8 0, .int .u8 0, .int .u8 0, .int .u8 0, .int .u8 0, .int .u8 0, .int .u8 0, .int .u8 0, .int .u8 0, .int .u8 0, .int .u8 0, .int .u8 0, .int .u8 0, .int .u8 0, .int .u8 0, .int .u8 0, .int .u8 0, .int .u8 0, .int .u8 0, .int .u8 0, .int .u8 0, .int .u8 0, .int .u8 0, .int .u8 0, .int .u8 0, .int .u8 0, .int .u8 0, .int .u8 0, .int .u8 0] 23)
      have hh := heap_alloc_new w29 (.cells #[.int .u8 0, .int .u8 0, .int .u8 0, .int .u8 0, .int .u8 0, .int .u8 0, .int .u8 0, .int .u8 0, .int .u8 0, .int .u8 0, .int .u8 0, .int .u8 0, .int .u8 0, .int .u8 0, .int .u8 0, .int .u8 0, .int .u8 0, .int .u8 0, .int .u8 0, .int .u8 0, .int .u8 0, .int .u8 0, .int .u8 0, .int .u8 0, .int .u8 0, .int .u8 0, .int .u8 0, .int .u8 0, .int .u8 0, .int .u8 0, .int .u8 0, .int .u8 0] 23)
      refine hK.out _ _ (FC.out.on hb).here ?_
      clear hK K
      try simp only [putz]
      have FG := hid (HB.out.here.size)
      have HB := hid (HB.out.on hb)
      have FK := hid (FK.out.on hb)
      have FR := hid (FR.out.on hb)
      have FC := hid (FC.out.on hb)
      have F1 := hid (F1.out.on hb)
      have F2 := hid (F2.out.on hb)
      have FA := hid (FA.out.on hb)
      generalize w29.alloc (.cells #[.int .u8 0, .int .u8 0, .int .u8 0, .int .u8 0, .int .u8 0, .int .u8 0, .int .u8 0, .int .u8 0, .int .u8 0, .int .u8 0, .int .u8 0, .int .u8 0, .int .u8 0, .int .u8 0, .int .u8 0, .int .u8 0, .int .u8 0, .int .u8 0, .int .u8 0, .int .u8 0, .int .u8 0, .int .u8 0, .int .u8 0, .int .u8 0, .int .u8 0, .int .u8 0, .int .u8 0, .int .u8 0, .int .u8 0, .int .u8 0, .int .u8 0, .int .u8 0] 23) = w33 at *
      generalize w29.heap.size = gz at *
      have FZ := hid (on_bt (show Bt _ gz 23 (List.replicate 32 0) from hh))
      clear hb hh
      refine Goes.one (i := 7) (o := ⟨some 15, _, _, _, _, _⟩) (by kernel_rfl) rfl (fun K hK => ?_)
      go_simp
      with_reducible refine (as_r st (some ⟨gA, 0, none⟩) (n0 + 1) cA _ _ _ _ r w33 FA.out.here FK.out.here HN1.out HL1.out HS.out ER.out).mono ?_
      rintro e w34 ⟨rfl, hb⟩
      go_wp2_with fail
      refine hK.out _ _ (FC.out.on hb).here ?_
      clear hK K
      try simp only [putz]
      have HB := hid (HB.out.on hb)
      have FK := hid (FK.out.on hb)
      have FR := hid (FR.out.on hb)
      have FC := hid (FC.out.on hb)
      have F1 := hid (F1.out.on hb)
      have F2 := hid (F2.out.on hb)
      have FA := hid (FA.out.on hb)
      have FZ := hid (FZ.out.on hb)
      clear hb
      refine Goes.one (i := 9) (o := ⟨none, _, _, _, _, _⟩) (by kernel_rfl) rfl (fun K hK => ?_)
      rw [if_pos (by rfl)]
      have hz := FZ.out.here
      unfold Bt at hz
      refine wp_store_row 23 (.tmp 5) (.tmp 15) (by rfl) gz (bvs r).toArray (by rfl) (by rfl) 23 _ hz (hi44 r HQ.out).out (by rw [bvs_size, bvs_size, HQ.out, List.length_replicate]) (bvs_all r) ?_
      have HW := below_setRow HB.out.here FG.out (bvs r).toArray
      have HT := FZ.out.here.row (m := r)
      refine hK.out _ _ (cells_old HO1.out HO2.out HCA.out HCP.out HW) ?_
      clear hK K
      try simp only [putz]
      have FZ := hid ((on_bt HT).both (on_below HW))
      clear hz HW HT
      refine Goes.done (by kernel_rfl) ?_ _
      refine NoPanic.normal ?_
      exact hQ.out _ _ _ _ _ _ _ _ _ _ FZ
    ·skip
     go_simp
     have hb := (Below.refl w28.heap.size w28).alloc (Nat.le_refl _) (.cells #[.int .u8 0, .int .u8 0, .int .u8 0, .int .u8 0, .int .u8 0, .int .u8 0, .int .u8 0, .int .u8 0, .int .u8 0, .int .u8 0, .int .u8 0, .int .u8 0, .int .u8 0, .int .u8 0, .int .u8 0, .int .u8 0, .int .u8 0, .int .u8 0, .int .u8 0, .int .u8 0, .int .u8 0, .int .u8 0, .int .u8 0, .int .u8 0, .int .u8 0, .int .u8 0, .int .u8 0, .int .u8 0, .int .u8 0, .int .u8 0, .int .u8 0, .int .u8 0] 23)
     have hh := heap_alloc_new w28 (.cells #[.int .u8 0, .int .u8 0, .int .u8 0, .int .u8 0, .int .u8 0, .int .u8 0, .int .u8 0, .int .u8 0, .int .u8 0, .int .u8 0, .int .u8 0, .int .u8 0, .int .u8 0, .int .u8 0, .int .u8 0, .int .u8 0, .int .u8 0, .int .u8 0, .int .u8 0, .int .u8 0, .int .u8 0, .int .u8 0, .int .u8 0, .int .u8 0, .int .u8 0, .int .u8 0, .int .u8 0, .int .u8 0, .int .u8 0, .int .u8 0, .int .u8 0, .int .u8 0] 23)
     refine hK.out _ _ (FC.out.on hb).here ?_
     clear hK K
     try simp only [putz]
     have FG := hid (HB.out.here.size)
     have HB := hid (HB.out.on hb)
     have FK := hid (FK.out.on hb)
     have FR := hid (FR.out.on hb)
     have FC := hid (FC.out.on hb)
     have F1 := hid (F1.out.on hb)
     have F2 := hid (F2.out.on hb)
     generalize w28.alloc (.cells #[.int .u8 0, .int .u8 0, .int .u8 0, .int .u8 0, .int .u8 0, .int .u8 0, .int .u8 0, .int .u8 0, .int .u8 0, .int .u8 0, .int .u8 0, .int .u8 0, .int .u8 0, .int .u8 0, .int .u8 0, .int .u8 0, .int .u8 0, .int .u8 0, .int .u8 0, .int .u8 0, .int .u8 0, .int .u8 0, .int .u8 0, .int .u8 0, .int .u8 0, .int .u8 0, .int .u8 0, .int .u8 0, .int .u8 0, .int .u8 0, .int .u8 0, .int .u8 0] 23) = w36 at *
     generalize w28.heap.size = gz at *
     have FZ := hid (on_bt (show Bt _ gz 23 (List.replicate 32 0) from hh))
     clear hb hh
     refine Goes.one (i := 6) (o := ⟨some 14, _, _, _, _, _⟩) (by kernel_rfl) rfl (fun K hK => ?_)
     rw [if_pos (by rfl)]
     obtain ⟨gA, cA, w37, hrun, hb, hge, hc1, hc2, hrw⟩ := rows_more w36 a0 n0 A L C xs FR.out.here HN.out HZ.out g2 1 g1 x F2.out.here F1.out.here
     refine wp_append 69 (.tmp 10) (.tmp 13) (by rfl) (by rfl) _ _ (by rfl) (by rfl) _ _ hrun ?_
     refine hK.out _ _ (FC.out.on hb).here ?_
     clear hK K
     try simp only [putz]
     have HB := hid (HB.out.on hb)
     have FK := hid (FK.out.on hb)
     have FR := hid (FR.out.on hb)
     have FC := hid (FC.out.on hb)
     have F1 := hid (F1.out.on hb)
     have F2 := hid (F2.out.on hb)
     have FZ := hid (FZ.out.on hb)
     have FA := hid (on_rws hrw)
     clear hrun hb hge hc1 hc2 hrw
     refine Goes.one (i := 7) (o := ⟨some 15, _, _, _, _, _⟩) (by kernel_rfl) rfl (fun K hK => ?_)
     go_simp
     with_reducible refine (as_r st (some ⟨gA, 0, none⟩) (n0 + 1) cA _ _ _ _ r w37 FA.out.here FK.out.here HN1.out HL1.out HS.out ER.out).mono ?_
     rintro e w38 ⟨rfl, hb⟩
     go_wp2_with fail
     refine hK.out _ _ (FC.out.on hb).here ?_
     clear hK K
     try simp only [putz]
     have HB := hid (HB.out.on hb)
     have FK := hid (FK.out.on hb)
     have FR := hid (FR.out.on hb)
     have FC := hid (FC.out.on hb)
     have F1 := hid (F1.out.on hb)
     have F2 := hid (F2.out.on hb)
     have FA := hid (FA.out.on hb)
     have FZ := hid (FZ.out.on hb)
     clear hb
     refine Goes.one (i := 9) (o := ⟨none, _, _, _, _, _⟩) (by kernel_rfl) rfl (fun K hK => ?_)
     rw [if_pos (by rfl)]
     have hz := FZ.out.here
     unfold Bt at hz
     refine wp_store_row 23 (.tmp 5) (.tmp 15) (by rfl) gz (bvs r).toArray (by rfl) (by rfl) 23 _ hz (hi44 r HQ.out).out (by rw [bvs_size, bvs_size, HQ.out, List.length_replicate]) (bvs_all r) ?_
     have HW := below_setRow HB.out.here FG.out (bvs r).toArray
     have HT := FZ.out.here.row (m := r)
     refine hK.out _ _ (cells_old HO1.out HO2.out HCA.out HCP.out HW) ?_
     clear hK K
     try simp only [putz]
     have FZ := hid ((on_bt HT).both (on_below HW))
     clear hz HW HT
     refine Goes.done (by kernel_rfl) ?_ _
     refine NoPanic.normal ?_
     exact hQ.out _ _ _ _ _ _ _ _ _ _ FZ
   ·skip
    go_simp
    have hb := (Below.refl w26.heap.size w26).alloc (Nat.le_refl _) (.cells #[.int .u8 0, .int .u8 0, .int .u8 0, .int .u8 0, .int .u8 0, .int .u8 0, .int .u8 0, .int .u8 0, .int .u8 0, .int .u8 0, .int .u8 0, .int .u8 0, .int .u8 0, .int .u8 0, .int .u8 0, .int .u8 0, .int .u8 0, .int .u8 0, .int .u8 0, .int .u8 0, .int .u8 0, .int .u8 0, .int .u8 0, .int .u8 0, .int .u8 0, .int .u8 0, .int .u8 0, .int .u8 0, .int .u8 0, .int .u8 0, .int .u8 0, .int .u8 0] 23)
    have hh := heap_alloc_new w26 (.cells #[.int .u8 0, .int .u8 0, .int .u8 0, .int .u8 0, .int .u8 0, .int .u8 0, .int .u8 0, .int .u8 0, .int .u8 0, .int .u8 0, .int .u8 0, .int .u8 0, .int .u8 0, .int .u8 0, .int .u8 0, .int .u8 0, .int .u8 0, .int .u8 0, .int .u8 0, .int .u8 0, .int .u8 0, .int .u8 0, .int .u8 0, .int .u8 0, .int .u8 0, .int .u8 0, .int .u8 0, .int .u8 0, .int .u8 0, .int .u8 0, .int .u8 0, .int .u8 0] 23)
    refine hK.out _ _ (FC.out.on hb).here ?_
    clear hK K
    try simp only [putz]
    have FG := hid (HB.out.here.size)
    have HB := hid (HB.out.on hb)
    have FK := hid (FK.out.on hb)
    have FR := hid (FR.out.on hb)
    have FC := hid (FC.out.on hb)
    have F1 := hid (F1.out.on hb)
    generalize w26.alloc (.cells #[.int .u8 0, .int .u8 0, .int .u8 0, .int .u8 0, .int .u8 0, .int .u8 0, .int .u8 0, .int .u8 0, .int .u8 0, .int .u8 0, .int .u8 0, .int .u8 0, .int .u8 0, .int .u8 0, .int .u8 0, .int .u8 0, .int .u8 0, .int .u8 0, .int .u8 0, .int .u8 0, .int .u8 0, .int .u8 0, .int .u8 0, .int .u8 0, .int .u8 0, .int .u8 0, .int .u8 0, .int .u8 0, .int .u8 0, .int .u8 0, .int .u8 0, .int .u8 0] 23) = w40 at *
    generalize w26.heap.size = gz at *
    have FZ := hid (on_bt (show Bt _ gz 23 (List.replicate 32 0) from hh))
    clear hb hh
    refine Goes.one (i := 5) (o := ⟨some 13, _, _, _, _, _⟩) (by kernel_rfl) rfl (fun K hK => ?_)
    go_simp
    have hb := (Below.refl w40.heap.size w40).alloc (Nat.le_refl _) (.cells #[.slice (some ⟨g1, 0, none⟩) 1 1] 47)
    have hh := heap_alloc_new w40 (.cells #[.slice (some ⟨g1, 0, none⟩) 1 1] 47)
    refine hK.out _ _ (FC.out.on hb).here ?_
    clear hK K
    try simp only [putz]
    have HB := hid (HB.out.on hb)
    have FK := hid (FK.out.on hb)
    have FR := hid (FR.out.on hb)
    have FC := hid (FC.out.on hb)
    have F1 := hid (F1.out.on hb)
    have FZ := hid (FZ.out.on hb)
    generalize w40.alloc (.cells #[.slice (some ⟨g1, 0, none⟩) 1 1] 47) = w41 at *
    generalize w40.heap.size = g2 at *
    have F2 := hid (on_cell (i := 0) (lt_of_block hh) (by rw [cell_of_row _ _ _ _ 47 _ hh]; rfl))
    clear hb hh
    refine Goes.one (i := 6) (o := ⟨some 14, _, _, _, _, _⟩) (by kernel_rfl) rfl (fun K hK => ?_)
    rw [if_pos (by rfl)]
    obtain ⟨gA, cA, w42, hrun, hb, hge, hc1, hc2, hrw⟩ := rows_more w41 a0 n0 A L C xs FR.out.here HN.out HZ.out g2 1 g1 x F2.out.here F1.out.here
    refine wp_append 69 (.tmp 10) (.tmp 13) (by rfl) (by rfl) _ _ (by rfl) (by rfl) _ _ hrun ?_
    refine hK.out _ _ (FC.out.on hb).here ?_
    clear hK K
    try simp only [putz]
    have HB := hid (HB.out.on hb)
    have FK := hid (FK.out.on hb)
    have FR := hid (FR.out.on hb)
    have FC := hid (FC.out.on hb)
    have F1 := hid (F1.out.on hb)
    have F2 := hid (F2.out.on hb)
    have FZ := hid (FZ.out.on hb)
    have FA := hid (on_rws hrw)
    clear hrun hb hge hc1 hc2 hrw
    refine Goes.one (i := 7) (o := ⟨some 15, _, _, _, _, _⟩) (by kernel_rfl) rfl (fun K hK => ?_)
    go_simp
    with_reducible refine (as_r st (some ⟨gA, 0, none⟩) (n0 + 1) cA _ _ _ _ r w42 FA.out.here FK.out.here HN1.out HL1.out HS.out ER.out).mono ?_
    rintro e w43 ⟨rfl, hb⟩
    go_wp2_with fail
    refine hK.out _ _ (FC.out.on hb).here ?_
    clear hK K
    try simp only [putz]
    have HB := hid (HB.out.on hb)
    have FK := hid (FK.out.on hb)
    have FR := hid (FR.out.on hb)
    have FC := hid (FC.out.on hb)
    have F1 := hid (F1.out.on hb)
    have F2 := hid (F2.out.on hb)
    have FA := hid (FA.out.on hb)
    have FZ := hid (FZ.out.on hb)
    clear hb
    refine Goes.one (i := 9) (o := ⟨none, _, _, _, _, _⟩) (by kernel_rfl) rfl (fun K hK => ?_)
    rw [if_pos (by rfl)]
    have hz := FZ.out.here
    unfold Bt at hz
    refine wp_store_row 23 (.tmp 5) (.tmp 15) (by rfl) gz (bvs r).toArray (by rfl) (by rfl) 23 _ hz (hi44 r HQ.out).out (by rw [bvs_size, bvs_size, HQ.out, List.length_replicate]) (bvs_all r) ?_
    have HW := below_setRow HB.out.here FG.out (bvs r).toArray
    have HT := FZ.out.here.row (m := r)
    refine hK.out _ _ (cells_old HO1.out HO2.out HCA.out HCP.out HW) ?_
    clear hK K
    try simp only [putz]
    have FZ := hid ((on_bt HT).both (on_below HW))
    clear hz HW HT
    refine Goes.done (by kernel_rfl) ?_ _
    refine NoPanic.normal ?_
    exact hQ.out _ _ _ _ _ _ _ _ _ _ FZ
  ·skip
   go_simp
   have hb := (Below.refl w26.heap.size w26).alloc (Nat.le_refl _) (.cells #[.slice (some ⟨g1, 0, none⟩) 1 1] 47)
   have hh := heap_alloc_new w26 (.cells #[.slice (some ⟨g1, 0, none⟩) 1 1] 47)
   refine hK.out _ _ (FC.out.on hb).here ?_
   clear hK K
   try simp only [putz]
   have HB := hid (HB.out.on hb)
   have FK := hid (FK.out.on hb)
   have FR := hid (FR.out.on hb)
   have FC := hid (FC.out.on hb)
   have F1 := hid (F1.out.on hb)
   generalize w26.alloc (.cells #[.slice (some ⟨g1, 0, none⟩) 1 1] 47) = w45 at *
   generalize w26.heap.size = g2 at *
   have F2 := hid (on_cell (i := 0) (lt_of_block hh) (by rw [cell_of_row _ _ _ _ 47 _ hh]; rfl))
   clear hb hh
   refine Goes.two (i := 2) (j := 8) (o := ⟨some 10, _, _, _, _, _⟩) (p := ⟨some 5, _, _, _, _, _⟩) (by kernel_rfl) rfl rfl (fun K hK => ?_) (fun K hK => ?_)
   ·skip
    go_simp
    with_reducible refine (clip_any a0 n0 c0 _ HC.out HN2.out H0.out).mono ?_
    rintro e wx ⟨rfl, rfl⟩
    go_wp2_with fail
    refine hK.out _ _ FC.out.here ?_
    clear hK K
    try simp only [putz]
    refine Goes.two (i := 6) (j := 8) (o := ⟨some 14, _, _, _, _, _⟩) (p := ⟨some 5, _, _, _, _, _⟩) (by kernel_rfl) rfl rfl (fun K hK => ?_) (fun K hK => ?_)
    ·skip
     rw [if_pos (by rfl)]
     obtain ⟨gA, cA, w47, hrun, hb, hge, hc1, hc2, hrw⟩ := rows_more w45 a0 n0 A L C xs FR.out.here HN.out HZ.out g2 1 g1 x F2.out.here F1.out.here
     refine wp_append 69 (.tmp 10) (.tmp 13) (by rfl) (by rfl) _ _ (by rfl) (by rfl) _ _ hrun ?_
     refine hK.out _ _ (FC.out.on hb).here ?_
     clear hK K
     try simp only [putz]
     have HB := hid (HB.out.on hb)
     have FK := hid (FK.out.on hb)
     have FR := hid (FR.out.on hb)
     have FC := hid (FC.out.on hb)
     have F1 := hid (F1.out.on hb)
     have F2 := hid (F2.out.on hb)
     have FA := hid (on_rws hrw)
     clear hrun hb hge hc1 hc2 hrw
     refine Goes.two (i := 7) (j := 8) (o := ⟨some 15, _, _, _, _, _⟩) (p := ⟨some 5, _, _, _, _, _⟩) (by kernel_rfl) rfl rfl (fun K hK => ?_) (fun K hK => ?_)
     ·skip
      go_simp
      with_reducible refine (as_r st (some ⟨gA, 0, none⟩) (n0 + 1) cA _ _ _ _ r w47 FA.out.here FK.out.here HN1.out HL1.out HS.out ER.out).mono ?_
      rintro e w48 ⟨rfl, hb⟩
      go_wp2_with fail
      refine hK.out _ _ (FC.out.on hb).here ?_
      clear hK K
      try simp only [putz]
      have HB := hid (HB.out.on hb)
      have FK := hid (FK.out.on hb)
      have FR := hid (FR.out.on hb)
      have FC := hid (FC.out.on hb)
      have F1 := hid (F1.out.on hb)
      have F2 := hid (F2.out.on hb)
      have FA := hid (FA.out.on hb)
      clear hb
      refine Goes.one (i := 8) (o := ⟨some 5, _, _, _, _, _⟩) (by kernel_rfl) rfl (fun K hK => ?_)
      go_simp
      have hb := (Below.refl w48.heap.size w48).alloc (Nat.le_refl _) (.cells #[.int .u8 0, .int .u8 0, .int .u8 0, .int .u8 0, .int .u8 0, .int .u8 0, .int .u8 0, .int .u8 0, .int .u8 0, .int .u8 0, .int .u8 0, .int .u8 0, .int .u8 0, .int .u8 0, .int .u8 0, .int .u8 0, .int .u8 0, .int .u8 0, .int .u8 0, .int .u8 0, .int .u8 0, .int .u8 0, .int .u8 0, .int .u8 0, .int .u8 0, .int .u8 0, .int .u8 0, .int .u8 0, .int .u8 0, .int .u8 0, .int .u8 0, .int .u8 0] 23)
      have hh := heap_alloc_new w48 (.cells #[.int .u8 0, .int .u8 0, .int .u8 0, .int .u8 0, .int .u8 0, .int .u8 0, .int .u8 0, .int .u8 0, .int .u8 0, .int .u8 0, .int .u8 0, .int .u8 0, .int .u8 0, .int .u8 0, .int .u8 0, .int .u8 0, .int .u8 0, .int .u8 0, .int .u8 0, .int .u8 0, .int .u8 0, .int .u8 0, .int .u8 0, .int .u8 0, .int .u8 0, .int .u8 0, .int .u8 0, .int .u8 0, .int .u8 0, .int .u8 0, .int .u8 0, .int .u8 0] 23)
      refine hK.out _ _ (FC.out.on hb).here ?_
      clear hK K
      try simp only [putz]
      have FG := hid (HB.out.here.size)
      have HB := hid (HB.out.on hb)
      have FK := hid (FK.out.on hb)
      have FR := hid (FR.out.on hb)
      have FC := hid (FC.out.on hb)
      have F1 := hid (F1.out.on hb)
      have F2 := hid (F2.out.on hb)
      have FA := hid (FA.out.on hb)
      generalize w48.alloc (.cells #[.int .u8 0, .int .u8 0, .int .u8 0, .int .u8 0, .int .u8 0, .int .u8 0, .int .u8 0, .int .u8 0, .int .u8 0, .int .u8 0, .int .u8 0, .int .u8 0, .int .u8 0, .int .u8 0, .int .u8 0, .int .u8 0, .int .u8 0, .int .u8 0, .int .u8 0, .int .u8 0, .int .u8 0, .int .u8 0, .int .u8 0, .int .u8 0, .int .u8 0, .int .u8 0, .int .u8 0, .int .u8 0, .int .u8 0, .int .u8 0, .int .u8 0, .int .u8 0] 23) = w49 at *
      generalize w48.heap.size = gz at *
      have FZ := hid (on_bt (show Bt _ gz 23 (List.replicate 32 0) from hh))
      clear hb hh
      refine Goes.one (i := 9) (o := ⟨none, _, _, _, _, _⟩) (by kernel_rfl) rfl (fun K hK => ?_)
      rw [if_pos (by rfl)]
      have hz := FZ.out.here
      unfold Bt at hz
      refine wp_store_row 23 (.tmp 5) (.tmp 15) (by rfl) gz (bvs r).toArray (by rfl) (by rfl) 23 _ hz (hi44 r HQ.out).out (by rw [bvs_size, bvs_size, HQ.out, List.length_replicate]) (bvs_all r) ?_
      have HW := below_setRow HB.out.here FG.out (bvs r).toArray
      have HT := FZ.out.here.row (m := r)
      refine hK.out _ _ (cells_old HO1.out HO2.out HCA.out HCP.out HW) ?_
      clear hK K
      try simp only [putz]
      have FZ := hid ((on_bt HT).both (on_below HW))
      clear hz HW HT
      refine Goes.done (by kernel_rfl) ?_ _
      refine NoPanic.normal ?_
      exact hQ.out _ _ _ _ _ _ _ _ _ _ FZ
     ·skip
      go_simp
      have hb := (Below.refl w47.heap.size w47).alloc (Nat.le_refl _) (.cells #[.int .u8 0, .int .u8 0, .int .u8 0, .int .u8 0, .int .u8 0, .int .u8 0, .int .u8 0, .int .u8 0, .int .u8 0, .int .u8 0, .int .u8 0, .int .u8 0, .int .u8 0, .int .u8 0, .int .u8 0, .int .u8 0, .int .u8 0, .int .u8 0, .int .u8 0, .int .u8 0, .int .u8 0, .int .u8 0, .int .u8 0, .int .u8 0, .int .u8 0, .int .u8 0, .int .u8 0, .int .u8 0, .int .u8 0, .int .u8 0, .int .u8 0, .int .u8 0] 23)
      have hh := heap_alloc_new w47 (.cells #[.int .u8 0, .int .u8 0, .int .u8 0, .int .u8 0, .int .u8 0, .int .u8 0, .int .u8 0, .int .u8 0, .int .u8 0, .int .u8 0, .int .u8 0, .int .u8 0, .int .u8 0, .int .u8 0, .int .u8 0, .int .u8 0, .int .u8 0, .int .u8 0, .int .u8 0, .int .u8 0, .int .u8 0, .int .u8 0, .int .u8 0, .int .u8 0, .int .u8 0, .int .u8 0, .int .u8 0, .int .u8 0, .int .u8 0, .int .u8 0, .int .u8 0, .int .u8 0] 23)
      refine hK.out _ _ (FC.out.on hb).here ?_
      clear hK K
      try simp only [putz]
      have FG := hid (HB.out.here.size)
      have HB := hid (HB.out.on hb)
      have FK := hid (FK.out.on hb)
      have FR := hid (FR.out.on hb)
      have FC := hid (FC.out.on hb)
      have F1 := hid (F1.out.on hb)
      have F2 := hid (F2.out.on hb)
      have FA := hid (FA.out.on hb)
      generalize w47.alloc (.cells #[.int .u8 0, .int .u8 0, .int .u8 0, .int .u8 0, .int .u8 0, .int .u8 0, .int .u8 0, .int .u8 0, .int .u8 0, .int .u8 0, .int .u8 0, .int .u8 0, .int .u8 0, .int .u8 0, .int .u8 0, .int .u8 0, .int .u8 0, .int .u8 0, .int .u8 0, .int .u8 0, .int .u8 0, .int .u8 0, .int .u8 0, .int .u8 0, .int .u8 0, .int .u8 0, .int .u8 0, .int .u8 0, .int .u8 0, .int .u8 0, .int .u8 0, .int .u8 0] 23) = w51 at *
      generalize w47.heap.size = gz at *
      have FZ := hid (on_bt (show Bt _ gz 23 (List.replicate 32 0) from hh))
      clear hb hh
      refine Goes.one (i := 7) (o := ⟨some 15, _, _, _, _, _⟩) (by kernel_rfl) rfl (fun K hK => ?_)
      go_simp
      with_reducible refine (as_r st (some ⟨gA, 0, none⟩) (n0 + 1) cA _ _ _ _ r w51 FA.out.here FK.out.here HN1.out HL1.out HS.out ER.out).mono ?_
      rintro e w52 ⟨rfl, hb⟩
      go_wp2_with fail
      refine hK.out _ _ (FC.out.on hb).here ?_
      clear hK K
      try simp only [putz]
      have HB := hid (HB.out.on hb)
      have FK := hid (FK.out.on hb)
      have FR := hid (FR.out.on hb)
      have FC := hid (FC.out.on hb)
      have F1 := hid (F1.out.on hb)
      have F2 := hid (F2.out.on hb)
      have FA := hid (FA.out.on hb)
      have FZ := hid (FZ.out.on hb)
      clear hb
      refine Goes.one (i := 9) (o := ⟨none, _, _, _, _, _⟩) (by kernel_rfl) rfl (fun K hK => ?_)
      rw [if_pos (by rfl)]
      have hz := FZ.out.here
      unfold Bt at hz
      refine wp_store_row 23 (.tmp 5) (.tmp 15) (by rfl) gz (bvs r).toArray (by rfl) (by rfl) 23 _ hz (hi44 r HQ.out).out (by rw [bvs_size, bvs_size, HQ.out, List.length_replicate]) (bvs_all r) ?_
      have HW := below_setRow HB.out.here FG.out (bvs r).toArray
      have HT := FZ.out.here.row (m := r)
      refine hK.out _ _ (cells_old HO1.out HO2.out HCA.out HCP.out HW) ?_
      clear hK K
      try simp only [putz]
      have FZ := hid ((on_bt HT).both (on_below HW))
      clear hz HW HT
      refine Goes.done (by kernel_rfl) ?_ _
      refine NoPanic.normal ?_
      exact hQ.out _ _ _ _ _ _ _ _ _ _ FZ
    ·skip
     go_simp
     have hb := (Below.refl w45.heap.size w45).alloc (Nat.le_refl _) (.cells #[.int .u8 0, .int .u8 0, .int .u8 0, .int .u8 0, .int .u8 0, .int .u8 0, .int .u8 0, .int .u8 0, .int .u8 0, .int .u8 0, .int .u8 0, .int .u8 0, .int .u8 0, .int .u8 0, .int .u8 0, .int .u8 0, .int .u8 0, .int .u8 0, .int .u8 0, .int .u8 0, .int .u8 0, .int .u8 0, .int .u8 0, .int .u8 0, .int .u8 0, .int .u8 0, .int .u8 0, .int .u8 0, .int .u8 0, .int .u8 0, .int .u8 0, .int .u8 0] 23)
     have hh := heap_alloc_new w45 (.cells #[.int .u8 0, .int .u8 0, .int .u8 0, .int .u8 0, .int .u8 0, .int .u8 0, .int .u8 0, .int .u8 0, .int .u8 0, .int .u8 0, .int .u8 0, .int .u8 0, .int .u8 0, .int .u8 0, .int .u8 0, .int .u8 0, .int .u8 0, .int .u8 0, .int .u8 0, .int .u8 0, .int .u8 0, .int .u8 0, .int .u8 0, .int .u8 0, .int .u8 0, .int .u8 0, .int .u8 0, .int .u8 0, .int .u8 0, .int .u8 0, .int .u8 0, .int .u8 0] 23)
     refine hK.out _ _ (FC.out.on hb).here ?_
     clear hK K
     try simp only [putz]
     have FG := hid (HB.out.here.size)
     have HB := hid (HB.out.on hb)
     have FK := hid (FK.out.on hb)
     have FR := hid (FR.out.on hb)
     have FC := hid (FC.out.on hb)
     have F1 := hid (F1.out.on hb)
     have F2 := hid (F2.out.on hb)
     generalize w45.alloc (.cells #[.int .u8 0, .int .u8 0, .int .u8 0, .int .u8 0, .int .u8 0, .int .u8 0, .int .u8 0, .int .u8 0, .int .u8 0, .int .u8 0, .int .u8 0, .int .u8 0, .int .u8 0, .int .u8 0, .int .u8 0, .int .u8 0, .int .u8 0, .int .u8 0, .int .u8 0, .int .u8 0, .int .u8 0, .int .u8 0, .int .u8 0, .int .u8 0, .int .u8 0, .int .u8 0, .int .u8 0, .int .u8 0, .int .u8 0, .int .u8 0, .int .u8 0, .int .u8 0] 23) = w54 at *
     generalize w45.heap.size = gz at *
     have FZ := hid (on_bt (show Bt _ gz 23 (List.replicate 32 0) from hh))
     clear hb hh
     refine Goes.one (i := 6) (o := ⟨some 14, _, _, _, _, _⟩) (by kernel_rfl) rfl (fun K hK => ?_)
     rw [if_pos (by rfl)]
     obtain ⟨gA, cA, w55, hrun, hb, hge, hc1, hc2, hrw⟩ := rows_more w54 a0 n0 A L C xs FR.out.here HN.out HZ.out g2 1 g1 x F2.out.here F1.out.here
     refine wp_append 69 (.tmp 10) (.tmp 13) (by rfl) (by rfl) _ _ (by rfl) (by rfl) _ _ hrun ?_
     refine hK.out _ _ (FC.out.on hb).here ?_
     clear hK K
     try simp only [putz]
     have HB := hid (HB.out.on hb)
     have FK := hid (FK.out.on hb)
     have FR := hid (FR.out.on hb)
     have FC := hid (FC.out.on hb)
     have F1 := hid (F1.out.on hb)
     have F2 := hid (F2.out.on hb)
     have FZ := hid (FZ.out.on hb)
     have FA := hid (on_rws hrw)
     clear hrun hb hge hc1 hc2 hrw
     refine Goes.one (i := 7) (o := ⟨some 15, _, _, _, _, _⟩) (by kernel_rfl) rfl (fun K hK => ?_)
     go_simp
     with_reducible refine (as_r st (some ⟨gA, 0, none⟩) (n0 + 1) cA _ _ _ _ r w55 FA.out.here FK.out.here HN1.out HL1.out HS.out ER.out).mono ?_
     rintro e w56 ⟨rfl, hb⟩
     go_wp2_with fail
     refine hK.out _ _ (FC.out.on hb).here ?_
     clear hK K
     try simp only [putz]
     have HB := hid (HB.out.on hb)
     have FK := hid (FK.out.on hb)
     have FR := hid (FR.out.on hb)
     have FC := hid (FC.out.on hb)
     have F1 := hid (F1.out.on hb)
     have F2 := hid (F2.out.on hb)
     have FA := hid (FA.out.on hb)
     have FZ := hid (FZ.out.on hb)
     clear hb
     refine Goes.one (i := 9) (o := ⟨none, _, _, _, _, _⟩) (by kernel_rfl) rfl (fun K hK => ?_)
     rw [if_pos (by rfl)]
     have hz := FZ.out.here
     unfold Bt at hz
     refine wp_store_row 23 (.tmp 5) (.tmp 15) (by rfl) gz (bvs r).toArray (by rfl) (by rfl) 23 _ hz (hi44 r HQ.out).out (by rw [bvs_size, bvs_size, HQ.out, List.length_replicate]) (bvs_all r) ?_
     have HW := below_setRow HB.out.here FG.out (bvs r).toArray
     have HT := FZ.out.here.row (m := r)
     refine hK.out _ _ (cells_old HO1.out HO2.out HCA.out HCP.out HW) ?_
     clear hK K
     try simp only [putz]
     have FZ := hid ((on_bt HT).both (on_below HW))
     clear hz HW HT
     refine Goes.done (by kernel_rfl) ?_ _
     refine NoPanic.normal ?_
     exact hQ.out _ _ _ _ _ _ _ _ _ _ FZ
   ·skip
    go_simp
    have hb := (Below.refl w45.heap.size w45).alloc (Nat.le_refl _) (.cells #[.int .u8 0, .int .u8 0, .int .u8 0, .int .u8 0, .int .u8 0, .int .u8 0, .int .u8 0, .int .u8 0, .int .u8 0, .int .u8 0, .int .u8 0, .int .u8 0, .int .u8 0, .int .u8 0, .int .u8 0, .int .u8 0, .int .u8 0, .int .u8 0, .int .u8 0, .int .u8 0, .int .u8 0, .int .u8 0, .int .u8 0, .int .u8 0, .int .u8 0, .int .u8 0, .int .u8 0, .int .u8 0, .int .u8 0, .int .u8 0, .int .u8 0, .int .u8 0] 23)
    have hh := heap_alloc_new w45 (.cells #[.int .u8 0, .int .u8 0, .int .u8 0, .int .u8 0, .int .u8 0, .int .u8 0, .int .u8 0, .int .u8 0, .int .u8 0, .int .u8 0, .int .u8 0, .int .u8 0, .int .u8 0, .int .u8 0, .int .u8 0, .int .u8 0, .int .u8 0, .int .u8 0, .int .u8 0, .int .u8 0, .int .u8 0, .int .u8 0, .int .u8 0, .int .u8 0, .int .u8 0, .int .u8 0, .int .u8 0, .int .u8 0, .int .u8 0, .int .u8 0, .int .u8 0, .int .u8 0] 23)
    refine hK.out _ _ (FC.out.on hb).here ?_
    clear hK K
    try simp only [putz]
    have FG := hid (HB.out.here.size)
    have HB := hid (HB.out.on hb)
    have FK := hid (FK.out.on hb)
    have FR := hid (FR.out.on hb)
    have FC := hid (FC.out.on hb)
    have F1 := hid (F1.out.on hb)
    have F2 := hid (F2.out.on hb)
    generalize w45.alloc (.cells #[.int .u8 0, .int .u8 0, .int .u8 0, .int .u8 0, .int .u8 0, .int .u8 0, .int .u8 0, .int .u8 0, .int .u8 0, .int .u8 0, .int .u8 0, .int .u8 0, .int .u8 0, .int .u8 0, .int .u8 0, .int .u8 0, .int .u8 0, .int .u8 0, .int .u8 0, .int .u8 0, .int .u8 0, .int .u8 0, .int .u8 0, .int .u8 0, .int .u8 0, .int .u8 0, .int .u8 0, .int .u8 0, .int .u8 0, .int .u8 0, .int .u8 0, .int .u8 0] 23) = w58 at *
    generalize w45.heap.size = gz at *
    have FZ := hid (on_bt (show Bt _ gz 23 (List.replicate 32 0) from hh))
    clear hb hh
    refine Goes.one (i := 2) (o := ⟨some 10, _, _, _, _, _⟩) (by kernel_rfl) rfl (fun K hK => ?_)
    go_simp
    with_reducible refine (clip_any a0 n0 c0 _ HC.out HN2.out H0.out).mono ?_
    rintro e wx ⟨rfl, rfl⟩
    go_wp2_with fail
    refine hK.out _ _ FC.out.here ?_
    clear hK K
    try simp only [putz]
    refine Goes.one (i := 6) (o := ⟨some 14, _, _, _, _, _⟩) (by kernel_rfl) rfl (fun K hK => ?_)
    rw [if_pos (by rfl)]
    obtain ⟨gA, cA, w60, hrun, hb, hge, hc1, hc2, hrw⟩ := rows_more w58 a0 n0 A L C xs FR.out.here HN.out HZ.out g2 1 g1 x F2.out.here F1.out.here
    refine wp_append 69 (.tmp 10) (.tmp 13) (by rfl) (by rfl) _ _ (by rfl) (by rfl) _ _ hrun ?_
    refine hK.out _ _ (FC.out.on hb).here ?_
    clear hK K
    try simp only [putz]
    have HB := hid (HB.out.on hb)
    have FK := hid (FK.out.on hb)
    have FR := hid (FR.out.on hb)
    have FC := hid (FC.out.on hb)
    have F1 := hid (F1.out.on hb)
    have F2 := hid (F2.out.on hb)
    have FZ := hid (FZ.out.on hb)
    have FA := hid (on_rws hrw)
    clear hrun hb hge hc1 hc2 hrw
    refine Goes.one (i := 7) (o := ⟨some 15, _, _, _, _, _⟩) (by kernel_rfl) rfl (fun K hK => ?_)
    go_simp
    with_reducible refine (as_r st (some ⟨gA, 0, none⟩) (n0 + 1) cA _ _ _ _ r w60 FA.out.here FK.out.here HN1.out HL1.out HS.out ER.out).mono ?_
    rintro e w61 ⟨rfl, hb⟩
    go_wp2_with fail
    refine hK.out _ _ (FC.out.on hb).here ?_
    clear hK K
    try simp only [putz]
    have HB := hid (HB.out.on hb)
    have FK := hid (FK.out.on hb)
    have FR := hid (FR.out.on hb)
    have FC := hid (FC.out.on hb)
    have F1 := hid (F1.out.on hb)
    have F2 := hid (F2.out.on hb)
    have FA := hid (FA.out.on hb)
    have FZ := hid (FZ.out.on hb)
    clear hb
    refine Goes.one (i := 9) (o := ⟨none, _, _, _, _, _⟩) (by kernel_rfl) rfl (fun K hK => ?_)
    rw [if_pos (by rfl)]
    have hz := FZ.out.here
    unfold Bt at hz
    refine wp_store_row 23 (.tmp 5) (.tmp 15) (by rfl) gz (bvs r).toArray (by rfl) (by rfl) 23 _ hz (hi44 r HQ.out).out (by rw [bvs_size, bvs_size, HQ.out, List.length_replicate]) (bvs_all r) ?_
    have HW := below_setRow HB.out.here FG.out (bvs r).toArray
    have HT := FZ.out.here.row (m := r)
    refine hK.out _ _ (cells_old HO1.out HO2.out HCA.out HCP.out HW) ?_
    clear hK K
    try simp only [putz]
    have FZ := hid ((on_bt HT).both (on_below HW))
    clear hz HW HT
    refine Goes.done (by kernel_rfl) ?_ _
    refine NoPanic.normal ?_
    exact hQ.out _ _ _ _ _ _ _ _ _ _ FZ
  ·skip
   go_simp
   have hb := (Below.refl w26.heap.size w26).alloc (Nat.le_refl _) (.cells #[.int .u8 0, .int .u8 0, .int .u8 0, .int .u8 0, .int .u8 0, .int .u8 0, .int .u8 0, .int .u8 0, .int .u8 0, .int .u8 0, .int .u8 0, .int .u8 0, .int .u8 0, .int .u8 0, .int .u8 0, .int .u8 0, .int .u8 0, .int .u8 0, .int .u8 0, .int .u8 0, .int .u8 0, .int .u8 0, .int .u8 0, .int .u8 0, .int .u8 0, .int .u8 0, .int .u8 0, .int .u8 0, .int .u8 0, .int .u8 0, .int .u8 0, .int .u8 0] 23)
   have hh := heap_alloc_new w26 (.cells #[.int .u8 0, .int .u8 0, .int .u8 0, .int .u8 0, .int .u8 0, .int .u8 0, .int .u8 0, .int .u8 0, .int .u8 0, .int .u8 0, .int .u8 0, .int .u8 0, .int .u8 0, .int .u8 0, .int .u8 0, .int .u8 0, .int .u8 0, .int .u8 0, .int .u8 0, .int .u8 0, .int .u8 0, .int .u8 0, .int .u8 0, .int .u8 0, .int .u8 0, .int .u8 0, .int .u8 0, .int .u8 0, .int .u8 0, .int .u8 0, .int .u8 0, .int .u8 0] 23)
   refine hK.out _ _ (FC.out.on hb).here ?_
   clear hK K
   try simp only [putz]
   have FG := hid (HB.out.here.size)
   have HB := hid (HB.out.on hb)
   have FK := hid (FK.out.on hb)
   have FR := hid (FR.out.on hb)
   have FC := hid (FC.out.on hb)
   have F1 := hid (F1.out.on hb)
   generalize w26.alloc (.cells #[.int .u8 0, .int .u8 0, .int .u8 0, .int .u8 0, .int .u8 0, .int .u8 0, .int .u8 0, .int .u8 0, .int .u8 0, .int .u8 0, .int .u8 0, .int .u8 0, .int .u8 0, .int .u8 0, .int .u8 0, .int .u8 0, .int .u8 0, .int .u8 0, .int .u8 0, .int .u8 0, .int .u8 0, .int .u8 0, .int .u8 0, .int .u8 0, .int .u8 0, .int .u8 0, .int .u8 0, .int .u8 0, .int .u8 0, .int .u8 0, .int .u8 0, .int .u8 0] 23) = w63 at *
   generalize w26.heap.size = gz at *
   have FZ := hid (on_bt (show Bt _ gz 23 (List.replicate 32 0) from hh))
   clear hb hh
   refine Goes.two (i := 2) (j := 5) (o := ⟨some 10, _, _, _, _, _⟩) (p := ⟨some 13, _, _, _, _, _⟩) (by kernel_rfl) rfl rfl (fun K hK => ?_) (fun K hK => ?_)
   ·skip
    go_simp
    with_reducible refine (clip_any a0 n0 c0 _ HC.out HN2.out H0.out).mono ?_
    rintro e wx ⟨rfl, rfl⟩
    go_wp2_with fail
    refine hK.out _ _ FC.out.here ?_
    clear hK K
    try simp only [putz]
    refine Goes.one (i := 5) (o := ⟨some 13, _, _, _, _, _⟩) (by kernel_rfl) rfl (fun K hK => ?_)
    go_simp
    have hb := (Below.refl w63.heap.size w63).alloc (Nat.le_refl _) (.cells #[.slice (some ⟨g1, 0, none⟩) 1 1] 47)
    have hh := heap_alloc_new w63 (.cells #[.slice (some ⟨g1, 0, none⟩) 1 1] 47)
    refine hK.out _ _ (FC.out.on hb).here ?_
    clear hK K
    try simp only [putz]
    have HB := hid (HB.out.on hb)
    have FK := hid (FK.out.on hb)
    have FR := hid (FR.out.on hb)
    have FC := hid (FC.out.on hb)
    have F1 := hid (F1.out.on hb)
    have FZ := hid (FZ.out.on hb)
    generalize w63.alloc (.cells #[.slice (some ⟨g1, 0, none⟩) 1 1] 47) = w65 at *
    generalize w63.heap.size = g2 at *
    have F2 := hid (on_cell (i := 0) (lt_of_block hh) (by rw [cell_of_row _ _ _ _ 47 _ hh]; rfl))
    clear hb hh
    refine Goes.one (i := 6) (o := ⟨some 14, _, _, _, _, _⟩) (by kernel_rfl) rfl (fun K hK => ?_)
    rw [if_pos (by rfl)]
    obtain ⟨gA, cA, w66, hrun, hb, hge, hc1, hc2, hrw⟩ := rows_more w65 a0 n0 A L C xs FR.out.here HN.out HZ.out g2 1 g1 x F2.out.here F1.out.here
    refine wp_append 69 (.tmp 10) (.tmp 13) (by rfl) (by rfl) _ _ (by rfl) (by rfl) _ _ hrun ?_
    refine hK.out _ _ (FC.out.on hb).here ?_
    clear hK K
    try simp only [putz]
    have HB := hid (HB.out.on hb)
    have FK := hid (FK.out.on hb)
    have FR := hid (FR.out.on hb)
    have FC := hid (FC.out.on hb)
    have F1 := hid (F1.out.on hb)
    have F2 := hid (F2.out.on hb)
    have FZ := hid (FZ.out.on hb)
    have FA := hid (on_rws hrw)
    clear hrun hb hge hc1 hc2 hrw
    refine Goes.one (i := 7) (o := ⟨some 15, _, _, _, _, _⟩) (by kernel_rfl) rfl (fun K hK => ?_)
    go_simp
    with_reducible refine (as_r st (some ⟨gA, 0, none⟩) (n0 + 1) cA _ _ _ _ r w66 FA.out.here FK.out.here HN1.out HL1.out HS.out ER.out).mono ?_
    rintro e w67 ⟨rfl, hb⟩
    go_wp2_with fail
    refine hK.out _ _ (FC.out.on hb).here ?_
    clear hK K
    try simp only [putz]
    have HB := hid (HB.out.on hb)
    have FK := hid (FK.out.on hb)
    have FR := hid (FR.out.on hb)
    have FC := hid (FC.out.on hb)
    have F1 := hid (F1.out.on hb)
    have F2 := hid (F2.out.on hb)
    have FA := hid (FA.out.on hb)
    have FZ := hid (FZ.out.on hb)
    clear hb
    refine Goes.one (i := 9) (o := ⟨none, _, _, _, _, _⟩) (by kernel_rfl) rfl (fun K hK => ?_)
    rw [if_pos (by rfl)]
    have hz := FZ.out.here
    unfold Bt at hz
    refine wp_store_row 23 (.tmp 5) (.tmp 15) (by rfl) gz (bvs r).toArray (by rfl) (by rfl) 23 _ hz (hi44 r HQ.out).out (by rw [bvs_size, bvs_size, HQ.out, List.length_replicate]) (bvs_all r) ?_
    have HW := below_setRow HB.out.here FG.out (bvs r).toArray
    have HT := FZ.out.here.row (m := r)
    refine hK.out _ _ (cells_old HO1.out HO2.out HCA.out HCP.out HW) ?_
    clear hK K
    try simp only [putz]
    have FZ := hid ((on_bt HT).both (on_below HW))
    clear hz HW HT
    refine Goes.done (by kernel_rfl) ?_ _
    refine NoPanic.normal ?_
    exact hQ.out _ _ _ _ _ _ _ _ _ _ FZ
   ·skip
    go_simp
    have hb := (Below.refl w63.heap.size w63).alloc (Nat.le_refl _) (.cells #[.slice (some ⟨g1, 0, none⟩) 1 1] 47)
    have hh := heap_alloc_new w63 (.cells #[.slice (some ⟨g1, 0, none⟩) 1 1] 47)
    refine hK.out _ _ (FC.out.on hb).here ?_
    clear hK K
    try simp only [putz]
    have HB := hid (HB.out.on hb)
    have FK := hid (FK.out.on hb)
    have FR := hid (FR.out.on hb)
    have FC := hid (FC.out.on hb)
    have F1 := hid (F1.out.on hb)
    have FZ := hid (FZ.out.on hb)
    generalize w63.alloc (.cells #[.slice (some ⟨g1, 0, none⟩) 1 1] 47) = w69 at *
    generalize w63.heap.size = g2 at *
    have F2 := hid (on_cell (i := 0) (lt_of_block hh) (by rw [cell_of_row _ _ _ _ 47 _ hh]; rfl))
    clear hb hh
    refine Goes.one (i := 2) (o := ⟨some 10, _, _, _, _, _⟩) (by kernel_rfl) rfl (fun K hK => ?_)
    go_simp
    with_reducible refine (clip_any a0 n0 c0 _ HC.out HN2.out H0.out).mono ?_
    rintro e wx ⟨rfl, rfl⟩
    go_wp2_with fail
    refine hK.out _ _ FC.out.here ?_
    clear hK K
    try simp only [putz]
    refine Goes.one (i := 6) (o := ⟨some 14, _, _, _, _, _⟩) (by kernel_rfl) rfl (fun K hK => ?_)
    rw [if_pos (by rfl)]
    obtain ⟨gA, cA, w71, hrun, hb, hge, hc1, hc2, hrw⟩ := rows_more w69 a0 n0 A L C xs FR.out.here HN.out HZ.out g2 1 g1 x F2.out.here F1.out.here
    refine wp_append 69 (.tmp 10) (.tmp 13) (by rfl) (by rfl) _ _ (by rfl) (by rfl) _ _ hrun ?_
    refine hK.out _ _ (FC.out.on hb).here ?_
    clear hK K
    try simp only [putz]
    have HB := hid (HB.out.on hb)
    have FK := hid (FK.out.on hb)
    have FR := hid (FR.out.on hb)
    have FC := hid (FC.out.on hb)
    have F1 := hid (F1.out.on hb)
    have F2 := hid (F2.out.on hb)
    have FZ := hid (FZ.out.on hb)
    have FA := hid (on_rws hrw)
    clear hrun hb hge hc1 hc2 hrw
    refine Goes.one (i := 7) (o := ⟨some 15, _, _, _, _, _⟩) (by kernel_rfl) rfl (fun K hK => ?_)
    go_simp
    with_reducible refine (as_r st (some ⟨gA, 0, none⟩) (n0 + 1) cA _ _ _ _ r w71 FA.out.here FK.out.here HN1.out HL1.out HS.out ER.out).mono ?_
    rintro e w72 ⟨rfl, hb⟩
    go_wp2_with fail
    refine hK.out _ _ (FC.out.on hb).here ?_
    clear hK K
    try simp only [putz]
    have HB := hid (HB.out.on hb)
    have FK := hid (FK.out.on hb)
    have FR := hid (FR.out.on hb)
    have FC := hid (FC.out.on hb)
    have F1 := hid (F1.out.on hb)
    have F2 := hid (F2.out.on hb)
    have FA := hid (FA.out.on hb)
    have FZ := hid (FZ.out.on hb)
    clear hb
    refine Goes.one (i := 9) (o := ⟨none, _, _, _, _, _⟩) (by kernel_rfl) rfl (fun K hK => ?_)
    rw [if_pos (by rfl)]
    have hz := FZ.out.here
    unfold Bt at hz
    refine wp_store_row 23 (.tmp 5) (.tmp 15) (by rfl) gz (bvs r).toArray (by rfl) (by rfl) 23 _ hz (hi44 r HQ.out).out (by rw [bvs_size, bvs_size, HQ.out, List.length_replicate]) (bvs_all r) ?_
    have HW := below_setRow HB.out.here FG.out (bvs r).toArray
    have HT := FZ.out.here.row (m := r)
    refine hK.out _ _ (cells_old HO1.out HO2.out HCA.out HCP.out HW) ?_
    clear hK K
    try simp only [putz]
    have FZ := hid ((on_bt HT).both (on_below HW))
    clear hz HW HT
    refine Goes.done (by kernel_rfl) ?_ _
    refine NoPanic.normal ?_
    exact hQ.out _ _ _ _ _ _ _ _ _ _ FZ
 ·skip
  go_simp
  have hb := (Below.refl wdr.heap.size wdr).alloc (Nat.le_refl _) (.cells #[.int .u8 0, .int .u8 0, .int .u8 0, .int .u8 0, .int .u8 0, .int .u8 0, .int .u8 0, .int .u8 0, .int .u8 0, .int .u8 0, .int .u8 0, .int .u8 0, .int .u8 0, .int .u8 0, .int .u8 0, .int .u8 0, .int .u8 0, .int .u8 0, .int .u8 0, .int .u8 0, .int .u8 0, .int .u8 0, .int .u8 0, .int .u8 0, .int .u8 0, .int .u8 0, .int .u8 0, .int .u8 0, .int .u8 0, .int .u8 0, .int .u8 0, .int .u8 0] 23)
  have hh := heap_alloc_new wdr (.cells #[.int .u8 0, .int .u8 0, .int .u8 0, .int .u8 0, .int .u8 0, .int .u8 0, .int .u8 0, .int .u8 0, .int .u8 0, .int .u8 0, .int .u8 0, .int .u8 0, .int .u8 0, .int .u8 0, .int .u8 0, .int .u8 0, .int .u8 0, .int .u8 0, .int .u8 0, .int .u8 0, .int .u8 0, .int .u8 0, .int .u8 0, .int .u8 0, .int .u8 0, .int .u8 0, .int .u8 0, .int .u8 0, .int .u8 0, .int .u8 0, .int .u8 0, .int .u8 0] 23)
  refine hK.out _ _ (FC.out.on hb).here ?_
  clear hK K
  try simp only [putz]
  have FG := hid (HB.out.here.size)
  have HB := hid (HB.out.on hb)
  have FK := hid (FK.out.on hb)
  have FR := hid (FR.out.on hb)
  have FC := hid (FC.out.on hb)
  generalize wdr.alloc (.cells #[.int .u8 0, .int .u8 0, .int .u8 0, .int .u8 0, .int .u8 0, .int .u8 0, .int .u8 0, .int .u8 0, .int .u8 0, .int .u8 0, .int .u8 0, .int .u8 0, .int .u8 0, .int .u8 0, .int .u8 0, .int .u8 0, .int .u8 0, .int .u8 0, .int .u8 0, .int .u8 0, .int .u8 0, .int .u8 0, .int .u8 0, .int .u8 0, .int .u8 0, .int .u8 0, .int .u8 0, .int .u8 0, .int .u8 0, .int .u8 0, .int .u8 0, .int .u8 0] 23) = w74 at *
  generalize wdr.heap.size = gz at *
  have FZ := hid (on_bt (show Bt _ gz 23 (List.replicate 32 0) from hh))
  clear hb hh
  refine Goes.two (i := 2) (j := 4) (o := ⟨some 10, _, _, _, _, _⟩) (p := ⟨some 12, _, _, _, _, _⟩) (by kernel_rfl) rfl rfl (fun K hK => ?_) (fun K hK => ?_)
  ·skip
   go_simp
   with_reducible refine (clip_any a0 n0 c0 _ HC.out HN2.out H0.out).mono ?_
   rintro e wx ⟨rfl, rfl⟩
   go_wp2_with fail
   refine hK.out _ _ FC.out.here ?_
   clear hK K
   try simp only [putz]
   refine Goes.one (i := 4) (o := ⟨some 12, _, _, _, _, _⟩) (by kernel_rfl) rfl (fun K hK => ?_)
   go_simp
   have hb := (Below.refl w74.heap.size w74).alloc (Nat.le_refl _) (.cells #[.int .u8 xi] 5)
   have hh := heap_alloc_new w74 (.cells #[.int .u8 xi] 5)
   refine hK.out _ _ (FC.out.on hb).here ?_
   clear hK K
   try simp only [putz]
   have HB := hid (HB.out.on hb)
   have FK := hid (FK.out.on hb)
   have FR := hid (FR.out.on hb)
   have FC := hid (FC.out.on hb)
   have FZ := hid (FZ.out.on hb)
   generalize w74.alloc (.cells #[.int .u8 xi] 5) = w76 at *
   generalize w74.heap.size = g1 at *
   have F1 := hid (on_rd (rd_one _ _ x 5 (by rw [← HX.out]; exact hh)))
   clear hb hh
   refine Goes.one (i := 5) (o := ⟨some 13, _, _, _, _, _⟩) (by kernel_rfl) rfl (fun K hK => ?_)
   go_simp
   have hb := (Below.refl w76.heap.size w76).alloc (Nat.le_refl _) (.cells #[.slice (some ⟨g1, 0, none⟩) 1 1] 47)
   have hh := heap_alloc_new w76 (.cells #[.slice (some ⟨g1, 0, none⟩) 1 1] 47)
   refine hK.out _ _ (FC.out.on hb).here ?_
   clear hK K
   try simp only [putz]
   have HB := hid (HB.out.on hb)
   have FK := hid (FK.out.on hb)
   have FR := hid (FR.out.on hb)
   have FC := hid (FC.out.on hb)
   have F1 := hid (F1.out.on hb)
   have FZ := hid (FZ.out.on hb)
   generalize w76.alloc (.cells #[.slice (some ⟨g1, 0, none⟩) 1 1] 47) = w77 at *
   generalize w76.heap.size = g2 at *
   have F2 := hid (on_cell (i := 0) (lt_of_block hh) (by rw [cell_of_row _ _ _ _ 47 _ hh]; rfl))
   clear hb hh
   refine Goes.one (i := 6) (o := ⟨some 14, _, _, _, _, _⟩) (by kernel_rfl) rfl (fun K hK => ?_)
   rw [if_pos (by rfl)]
   obtain ⟨gA, cA, w78, hrun, hb, hge, hc1, hc2, hrw⟩ := rows_more w77 a0 n0 A L C xs FR.out.here HN.out HZ.out g2 1 g1 x F2.out.here F1.out.here
   refine wp_append 69 (.tmp 10) (.tmp 13) (by rfl) (by rfl) _ _ (by rfl) (by rfl) _ _ hrun ?_
   refine hK.out _ _ (FC.out.on hb).here ?_
   clear hK K
   try simp only [putz]
   have HB := hid (HB.out.on hb)
   have FK := hid (FK.out.on hb)
   have FR := hid (FR.out.on hb)
   have FC := hid (FC.out.on hb)
   have F1 := hid (F1.out.on hb)
   have F2 := hid (F2.out.on hb)
   have FZ := hid (FZ.out.on hb)
   have FA := hid (on_rws hrw)
   clear hrun hb hge hc1 hc2 hrw
   refine Goes.one (i := 7) (o := ⟨some 15, _, _, _, _, _⟩) (by kernel_rfl) rfl (fun K hK => ?_)
   go_simp
   with_reducible refine (as_r st (some ⟨gA, 0, none⟩) (n0 + 1) cA _ _ _ _ r w78 FA.out.here FK.out.here HN1.out HL1.out HS.out ER.out).mono ?_
   rintro e w79 ⟨rfl, hb⟩
   go_wp2_with fail
   refine hK.out _ _ (FC.out.on hb).here ?_
   clear hK K
   try simp only [putz]
   have HB := hid (HB.out.on hb)
   have FK := hid (FK.out.on hb)
   have FR := hid (FR.out.on hb)
   have FC := hid (FC.out.on hb)
   have F1 := hid (F1.out.on hb)
   have F2 := hid (F2.out.on hb)
   have FA := hid (FA.out.on hb)
   have FZ := hid (FZ.out.on hb)
   clear hb
   refine Goes.one (i := 9) (o := ⟨none, _, _, _, _, _⟩) (by kernel_rfl) rfl (fun K hK => ?_)
   rw [if_pos (by rfl)]
   have hz := FZ.out.here
   unfold Bt at hz
   refine wp_store_row 23 (.tmp 5) (.tmp 15) (by rfl) gz (bvs r).toArray (by rfl) (by rfl) 23 _ hz (hi44 r HQ.out).out (by rw [bvs_size, bvs_size, HQ.out, List.length_replicate]) (bvs_all r) ?_
   have HW := below_setRow HB.out.here FG.out (bvs r).toArray
   have HT := FZ.out.here.row (m := r)
   refine hK.out _ _ (cells_old HO1.out HO2.out HCA.out HCP.out HW) ?_
   clear hK K
   try simp only [putz]
   have FZ := hid ((on_bt HT).both (on_below HW))
   clear hz HW HT
   refine Goes.done (by kernel_rfl) ?_ _
   refine NoPanic.normal ?_
   exact hQ.out _ _ _ _ _ _ _ _ _ _ FZ
  ·skip
   go_simp
   have hb := (Below.refl w74.heap.size w74).alloc (Nat.le_refl _) (.cells #[.int .u8 xi] 5)
   have hh := heap_alloc_new w74 (.cells #[.int .u8 xi] 5)
   refine hK.out _ _ (FC.out.on hb).here ?_
   clear hK K
   try simp only [putz]
   have HB := hid (HB.out.on hb)
   have FK := hid (FK.out.on hb)
   have FR := hid (FR.out.on hb)
   have FC := hid (FC.out.on hb)
   have FZ := hid (FZ.out.on hb)
   generalize w74.alloc (.cells #[.int .u8 xi] 5) = w81 at *
   generalize w74.heap.size = g1 at *
   have F1 := hid (on_rd (rd_one _ _ x 5 (by rw [← HX.out]; exact hh)))
   clear hb hh
   refine Goes.two (i := 2) (j := 5) (o := ⟨some 10, _, _, _, _, _⟩) (p := ⟨some 13, _, _, _, _, _⟩) (by kernel_rfl) rfl rfl (fun K hK => ?_) (fun K hK => ?_)
   ·skip
    go_simp
    with_reducible refine (clip_any a0 n0 c0 _ HC.out HN2.out H0.out).mono ?_
    rintro e wx ⟨rfl, rfl⟩
    go_wp2_with fail
    refine hK.out _ _ FC.out.here ?_
    clear hK K
    try simp only [putz]
    refine Goes.one (i := 5) (o := ⟨some 13, _, _, _, _, _⟩) (by kernel_rfl) rfl (fun K hK => ?_)
    go_simp
    have hb := (Below.refl w81.heap.size w81).alloc (Nat.le_refl _) (.cells #[.slice (some ⟨g1, 0, none⟩) 1 1] 47)
    have hh := heap_alloc_new w81 (.cells #[.slice (some ⟨g1, 0, none⟩) 1 1] 47)
    refine hK.out _ _ (FC.out.on hb).here ?_
    clear hK K
    try simp only [putz]
    have HB := hid (HB.out.on hb)
    have FK := hid (FK.out.on hb)
    have FR := hid (FR.out.on hb)
    have FC := hid (FC.out.on hb)
    have F1 := hid (F1.out.on hb)
    have FZ := hid (FZ.out.on hb)
    generalize w81.alloc (.cells #[.slice (some ⟨g1, 0, none⟩) 1 1] 47) = w83 at *
    generalize w81.heap.size = g2 at *
    have F2 := hid (on_cell (i := 0) (lt_of_block hh) (by rw [cell_of_row _ _ _ _ 47 _ hh]; rfl))
    clear hb hh
    refine Goes.one (i := 6) (o := ⟨some 14, _, _, _, _, _⟩) (by kernel_rfl) rfl (fun K hK => ?_)
    rw [if_pos (by rfl)]
    obtain ⟨gA, cA, w84, hrun, hb, hge, hc1, hc2, hrw⟩ := rows_more w83 a0 n0 A L C xs FR.out.here HN.out HZ.out g2 1 g1 x F2.out.here F1.out.here
    refine wp_append 69 (.tmp 10) (.tmp 13) (by rfl) (by rfl) _ _ (by rfl) (by rfl) _ _ hrun ?_
    refine hK.out _ _ (FC.out.on hb).here ?_
    clear hK K
    try simp only [putz]
    have HB := hid (HB.out.on hb)
    have FK := hid (FK.out.on hb)
    have FR := hid (FR.out.on hb)
    have FC := hid (FC.out.on hb)
    have F1 := hid (F1.out.on hb)
    have F2 := hid (F2.out.on hb)
    have FZ := hid (FZ.out.on hb)
    have FA := hid (on_rws hrw)
    clear hrun hb hge hc1 hc2 hrw
    refine Goes.one (i := 7) (o := ⟨some 15, _, _, _, _, _⟩) (by kernel_rfl) rfl (fun K hK => ?_)
    go_simp
    with_reducible refine (as_r st (some ⟨gA, 0, none⟩) (n0 + 1) cA _ _ _ _ r w84 FA.out.here FK.out.here HN1.out HL1.out HS.out ER.out).mono ?_
    rintro e w85 ⟨rfl, hb⟩
    go_wp2_with fail
    refine hK.out _ _ (FC.out.on hb).here ?_
    clear hK K
    try simp only [putz]
    have HB := hid (HB.out.on hb)
    have FK := hid (FK.out.on hb)
    have FR := hid (FR.out.on hb)
    have FC := hid (FC.out.on hb)
    have F1 := hid (F1.out.on hb)
    have F2 := hid (F2.out.on hb)
    have FA := hid (FA.out.on hb)
    have FZ := hid (FZ.out.on hb)
    clear hb
    refine Goes.one (i := 9) (o := ⟨none, _, _, _, _, _⟩) (by kernel_rfl) rfl (fun K hK => ?_)
    rw [if_pos (by rfl)]
    have hz := FZ.out.here
    unfold Bt at hz
    refine wp_store_row 23 (.tmp 5) (.tmp 15) (by rfl) gz (bvs r).toArray (by rfl) (by rfl) 23 _ hz (hi44 r HQ.out).out (by rw [bvs_size, bvs_size, HQ.out, List.length_replicate]) (bvs_all r) ?_
    have HW := below_setRow HB.out.here FG.out (bvs r).toArray
    have HT := FZ.out.here.row (m := r)
    refine hK.out _ _ (cells_old HO1.out HO2.out HCA.out HCP.out HW) ?_
    clear hK K
    try simp only [putz]
    have FZ := hid ((on_bt HT).both (on_below HW))
    clear hz HW HT
    refine Goes.done (by kernel_rfl) ?_ _
    refine NoPanic.normal ?_
    exact hQ.out _ _ _ _ _ _ _ _ _ _ FZ
   ·skip
    go_simp
    have hb := (Below.refl w81.heap.size w81).alloc (Nat.le_refl _) (.cells #[.slice (some ⟨g1, 0, none⟩) 1 1] 47)
    have hh := heap_alloc_new w81 (.cells #[.slice (some ⟨g1, 0, none⟩) 1 1] 47)
    refine hK.out _ _ (FC.out.on hb).here ?_
    clear hK K
    try simp only [putz]
    have HB := hid (HB.out.on hb)
    have FK := hid (FK.out.on hb)
    have FR := hid (FR.out.on hb)
    have FC := hid (FC.out.on hb)
    have F1 := hid (F1.out.on hb)
    have FZ := hid (FZ.out.on hb)
    generalize w81.alloc (.cells #[.slice (some ⟨g1, 0, none⟩) 1 1] 47) = w87 at *
    generalize w81.heap.size = g2 at *
    have F2 := hid (on_cell (i := 0) (lt_of_block hh) (by rw [cell_of_row _ _ _ _ 47 _ hh]; rfl))
    clear hb hh
    refine Goes.one (i := 2) (o := ⟨some 10, _, _, _, _, _⟩) (by kernel_rfl) rfl (fun K hK => ?_)
    go_simp
    with_reducible refine (clip_any a0 n0 c0 _ HC.out HN2.out H0.out).mono ?_
    rintro e wx ⟨rfl, rfl⟩
    go_wp2_with fail
    refine hK.out _ _ FC.out.here ?_
    clear hK K
    try simp only [putz]
    refine Goes.one (i := 6) (o := ⟨some 14, _, _, _, _, _⟩) (by kernel_rfl) rfl (fun K hK => ?_)
    rw [if_pos (by rfl)]
    obtain ⟨gA, cA, w89, hrun, hb, hge, hc1, hc2, hrw⟩ := rows_more w87 a0 n0 A L C xs FR.out.here HN.out HZ.out g2 1 g1 x F2.out.here F1.out.here
    refine wp_append 69 (.tmp 10) (.tmp 13) (by rfl) (by rfl) _ _ (by rfl) (by rfl) _ _ hrun ?_
    refine hK.out _ _ (FC.out.on hb).here ?_
    clear hK K
    try simp only [putz]
    have HB := hid (HB.out.on hb)
    have FK := hid (FK.out.on hb)
    have FR := hid (FR.out.on hb)
    have FC := hid (FC.out.on hb)
    have F1 := hid (F1.out.on hb)
    have F2 := hid (F2.out.on hb)
    have FZ := hid (FZ.out.on hb)
    have FA := hid (on_rws hrw)
    clear hrun hb hge hc1 hc2 hrw
    refine Goes.one (i := 7) (o := ⟨some 15, _, _, _, _, _⟩) (by kernel_rfl) rfl (fun K hK => ?_)
    go_simp
    with_reducible refine (as_r st (some ⟨gA, 0, none⟩) (n0 + 1) cA _ _ _ _ r w89 FA.out.here FK.out.here HN1.out HL1.out HS.out ER.out).mono ?_
    rintro e w90 ⟨rfl, hb⟩
    go_wp2_with fail
    refine hK.out _ _ (FC.out.on hb).here ?_
    clear hK K
    try simp only [putz]
    have HB := hid (HB.out.on hb)
    have FK := hid (FK.out.on hb)
    have FR := hid (FR.out.on hb)
    have FC := hid (FC.out.on hb)
    have F1 := hid (F1.out.on hb)
    have F2 := hid (F2.out.on hb)
    have FA := hid (FA.out.on hb)
    have FZ := hid (FZ.out.on hb)
    clear hb
    refine Goes.one (i := 9) (o := ⟨none, _, _, _, _, _⟩) (by kernel_rfl) rfl (fun K hK => ?_)
    rw [if_pos (by rfl)]
    have hz := FZ.out.here
    unfold Bt at hz
    refine wp_store_row 23 (.tmp 5) (.tmp 15) (by rfl) gz (bvs r).toArray (by rfl) (by rfl) 23 _ hz (hi44 r HQ.out).out (by rw [bvs_size, bvs_size, HQ.out, List.length_replicate]) (bvs_all r) ?_
    have HW := below_setRow HB.out.here FG.out (bvs r).toArray
    have HT := FZ.out.here.row (m := r)
    refine hK.out _ _ (cells_old HO1.out HO2.out HCA.out HCP.out HW) ?_
    clear hK K
    try simp only [putz]
    have FZ := hid ((on_bt HT).both (on_below HW))
    clear hz HW HT
    refine Goes.done (by kernel_rfl) ?_ _
    refine NoPanic.normal ?_
    exact hQ.out _ _ _ _ _ _ _ _ _ _ FZ
end Go.Proofs.YtcijnoapjicliaaDoor
namespace Go.Proofs.YtcijnoapjicliaaDoor
open Go.RowKit
set_option linter.unusedVariables false
theorem rowo_below {w w' : World} {B : Nat} {v : Value} {n : Nat} {l : List Value} (h : w.ownsRow B 47 1 v n l) (hb : Below w.heap.size w w') : w'.ownsRow B 47 1 v n l := by
  refine ⟨h.1, ?_⟩
  rcases h.2 with h | ⟨g, cap, cur, e, h1, h2, h3⟩
  · exact .inl h
  · exact .inr ⟨g, cap, cur, e, h1, (hb.block g (lt_of_block h2)).trans h2, h3⟩
theorem on_own {w : World} {B : Nat} {v : Value} {n : Nat} {l : List Value} (h : w.ownsRow B 47 1 v n l) : On w fun u => u.ownsRow B 47 1 v n l := fun u hu => rowo_below h hu
theorem on_blk {w : World} {g : Nat} {o : Obj} (h : w.heap[g]? = some o) : On w fun u => u.heap[g]? = some o := fun u hu => (hu.block g (lt_of_block h)).trans h
theorem cells_one (n : Nat) (A : Nat → Option Addr) (L C : Nat → Nat) : ∀ u ∈ cellsOf n A L C, u.oneCell' = true := by
  intro u hu
  obtain ⟨r, _, rfl⟩ := List.mem_map.1 hu
  rfl
set_option maxRecDepth 100000 in
theorem rows_all (w : World) (a0 : Option Addr) (n0 c0 : Nat) (A : Nat → Option Addr) (L C : Nat → Nat) (xs : Nat → List UInt8) (hR : Rws w a0 n0 A L C xs) (hn : n0 ≤ 1000) (hc : n0 ≤ c0) (h0 : a0 = none → c0 = 0) :
    ∃ v w', (Builtin.append_ #[69, 69] 69 #[.slice none 0 0, .slice a0 n0 c0]).run Tryd.prog w = .ok v w' ∧ w'.ownsRow w.heap.size 47 1 v n0 (cellsOf n0 A L C) ∧ Below w.heap.size w w' := by
  obtain ⟨i0, hi, hz0, hz1, hz2⟩ := info_parts row_info
  rcases a0 with _ | ad
  · obtain rfl := h0 rfl
    obtain rfl : n0 = 0 := by omega
    refine ⟨_, w, run_append_owned_none (P := Tryd.prog) (w := w) w.heap.size 69 69 47 i0 1 Tryd.underlying69 hi (.slice none 0 0) 0 [] (World.ownsRow_nil w _ 47 1), World.ownsRow_nil w _ 47 1, Below.refl _ _⟩
  · obtain ⟨v', w', hrun, h2, h3, _⟩ := run_append_own_at (P := Tryd.prog) w w.heap.size 69 69 47 i0 (.slice none 0 0) 1 24 Tryd.underlying69 hi hz0 hz1 hz2 rfl (by omega) (.slice none 0 0) 0 [] (World.ownsRow_nil w _ 47 1) ad n0 c0 (cellsOf n0 A L C) (by rw [cellsOf_length, Nat.mul_one])
      (fun j u hj => by
        have hj2 : j < n0 := by
          rcases Nat.lt_or_ge j n0 with h | h
          · exact h
          · rw [List.getElem?_eq_none (by rw [cellsOf_length]; exact h)] at hj; cases hj
        rw [cellsOf_at A L C hj2] at hj
        injection hj with hj; subst hj
        obtain ⟨⟨go, o, e1, _, hc⟩, _⟩ := hR j hj2
        injection e1 with e1; subst e1
        rw [Addr.add_lit]; exact hc) (cells_one n0 A L C) (by simp only [maxLen]; omega) (by omega) (Nat.le_refl _)
    rw [Nat.zero_add, List.nil_append] at h2
    exact ⟨v', w', hrun, h2, below_grown (Below.refl _ _) (h3.but (some w.heap.size)) (Nat.le_refl _) (Nat.le_refl _)⟩
set_option maxRecDepth 100000 in
theorem rows_put (w0 w : World) (B : Nat) (a0 : Option Addr) (v : Value) (n : Nat) (A : Nat → Option Addr) (L C : Nat → Nat) (xs : Nat → List UInt8) (hB0 : w0.heap.size ≤ B) (hB : Below w0.heap.size w0 w) (hBw : B ≤ w.heap.size)
    (ho : w.ownsRow B 47 1 v n (cellsOf n A L C)) (hR : Rws w0 a0 n A L C xs) (hn : n ≤ 1000) (b d b1 : Nat) (x : UInt8) (hb : w.cell? ⟨b, 0, none⟩ = some (.slice (some ⟨b1, 0, none⟩) 1 1)) (hr : w.heap[b1]? = some (.cells #[.int .u8 (x.toNat : Int)] 5 (0, 0))) (hne : v.ownBlock ≠ some b1) :
    ∃ g c w', (Builtin.append_ #[69, 69] 69 #[v, .slice (some ⟨b, 0, none⟩) 1 d]).run Tryd.prog w = .ok (.slice (some ⟨g, 0, none⟩) (n + 1) c) w' ∧ Below w0.heap.size w0 w' ∧ w.heap.size ≤ w'.heap.size ∧ n + 1 ≤ c ∧
      Rws w' (some ⟨g, 0, none⟩) (n + 1) (nx n A (some ⟨b1, 0, none⟩)) (nx n L 1) (nx n C 1) (nx n xs [x]) ∧ (∀ k, k < w.heap.size → v.ownBlock ≠ some k → w'.heap[k]? = w.heap[k]?) := by
  obtain ⟨i0, hi, hz0, hz1, hz2⟩ := info_parts row_info
  have hnew : ∀ j u, ([Value.slice (some ⟨b1, 0, none⟩) 1 1] : List Value)[j]? = some u → w.cell? ((⟨b, 0, none⟩ : Addr).add j) = some u := by
    intro j u hj
    rcases j with _ | j
    · simp only [List.getElem?_cons_zero, Option.some.injEq] at hj
      subst hj
      rw [Addr.add_lit]; exact hb
    · simp at hj
  obtain ⟨v', w', hrun, hown, hgr, _⟩ := run_append_own_at (P := Tryd.prog) w B 69 69 47 i0 (.slice none 0 0) 1 24 Tryd.underlying69 hi hz0 hz1 hz2 rfl (by omega) v n (cellsOf n A L C) ho ⟨b, 0, none⟩ 1 d _ rfl hnew (by simp [Value.oneCell']) (by simp only [maxLen]; omega) (by omega) hBw
  have hkeep : ∀ k, k < w.heap.size → v.ownBlock ≠ some k → w'.heap[k]? = w.heap[k]? := fun k hk hv => hgr.block k hk (by intro e; exact hv e.symm)
  have hlo : ∀ k, v.ownBlock = some k → B ≤ k ∧ k < w.heap.size := World.ownsRow.lt ho
  have hB2 : Below w0.heap.size w0 w' := hB.trans ⟨hgr.os, hgr.tape, hgr.output, hgr.size, fun k hk => hkeep k (by have := hB.size; omega) (fun e => by have := (hlo k e).1; omega)⟩
  have hb1 : w'.heap[b1]? = some (.cells #[.int .u8 (x.toNat : Int)] 5 (0, 0)) := (hkeep b1 (lt_of_block hr) hne).trans hr
  rcases hown.2 with ⟨_, h⟩ | ⟨g, cap, cur, rfl, hbg, hh, hnc, hm, hs, ht⟩
  · omega
  · refine ⟨g, cap, w', hrun, hB2, hgr.size, hnc, fun r hr2 => ?_, hkeep⟩
    have hcell := World.ownsRow.cellAt hown r (by omega)
    rcases Nat.lt_or_ge r n with hlt | hge
    · obtain ⟨_, k1, k2, k3, k4, k5⟩ := hR r hlt
      simp only [nx, hlt, if_true]
      refine ⟨⟨g, 0, rfl, lt_of_block hh, ?_⟩, k1, k2.below hB2 (Nat.le_refl _), k3, k4, k5⟩
      rw [Nat.zero_add, hcell, List.getElem?_append_left (by rw [cellsOf_length]; exact hlt), cellsOf_at A L C hlt]
    · obtain rfl : r = n := by omega
      simp only [nx, Nat.lt_irrefl, if_false]
      refine ⟨⟨g, 0, rfl, lt_of_block hh, ?_⟩, rfl, rd_one w' b1 x 5 hb1, Nat.le_refl _, by omega, fun h => by cases h⟩
      rw [Nat.zero_add, hcell, List.getElem?_append_right (by rw [cellsOf_length]; exact Nat.le_refl _), cellsOf_length]
      simp
end Go.Proofs.YtcijnoapjicliaaDoor
namespace Go.Proofs.YtcijnoapjicliaaDoor
open Go.RowKit
set_option linter.unusedVariables false
set_option linter.unusedSimpArgs false

set_option maxRecDepth 100000 in
set_option maxHeartbeats 2000000 in
theorem summed_any (k : List UInt8) (a0 : Option Addr) (n0 c0 : Nat) (A : Nat → Option Addr) (L C : Nat → Nat) (xs : Nat → List UInt8) (w : World) (hk : k.length = 64) (hR : Rws w a0 n0 A L C xs) (hK : Kt w) (hn : n0 ≤ 1000) (hL : ∀ r, r < n0 → L r ≤ 1048576) :
    Calls Tryd.prog 62 #[.agg (bvs k).toArray, .slice a0 n0 c0] w fun e w' => e = .returned (.agg (bvs (sha (k ++ cat xs n0))).toArray) ∧ Below w.heap.size w w' := by
  have HKL := hid hk
  have HR := hid hR
  have HK := hid hK
  have HL := hid hL
  have HN := hid hn
  clear hk hR hK hL
  obtain ⟨HB1, HX1, HZ1, HS1⟩ := box2 w 91 23 k (List.replicate 32 0)
  go_enter Tryd.func62, Tryd.ntmps62
  go_wp2_with fail
  rw [← lit32]
  generalize (w.alloc (.cells (bvs k).toArray 91)).alloc (.cells (bvs (List.replicate 32 0)).toArray 23) = w1 at *
  refine (new_at w1 (HK.out.on HB1.out)).mono ?_
  rintro e w2 ⟨g, rfl, H2⟩
  have hge := H2.out.new
  have HC2 := hid (p := Cb w1 g [] [(w.heap.size + 1, List.replicate 32 0)] w2) ⟨H2.out, fun p hp => by
    obtain rfl := List.mem_singleton.1 hp
    have hs := HS1.out
    exact ⟨HZ1.out.on H2.out.below, by show w.heap.size + 1 ≠ g; omega⟩⟩
  have HGW := hid (show w.heap.size < g by have := HS1.out; omega)
  have HX2 := hid (HX1.out.on H2.out.below)
  have hsl := sl64 w.heap.size
  clear H2 hge
  go_wp2_with fail
  refine (write_cb HC2 (some ⟨w.heap.size, 0, none⟩) 64 64 k HKL.out (bt_rd HX2.out) (fun _ ad e => by injection e with e; subst e; exact Nat.ne_of_lt HGW.out) (Nat.le_refl _) (by simp)).mono ?_
  rintro e w3 ⟨rfl, HC3⟩
  have HC4 := hid (p := Cb w1 g (k ++ cat xs 0) [(w.heap.size + 1, List.replicate 32 0)] w3) (by have := HC3.out; simpa [cat] using this)
  clear hsl HC2 HC3 HX2
  go_wp2_with fail
  go_loopw [14] (fun i wr => ∃ j : Nat, j ≤ n0 ∧ i = .int .i64 j ∧ Hid (Cb w1 g (k ++ cat xs j) [(w.heap.size + 1, List.replicate 32 0)] wr)) (fun i _ => n0 - (intOf i).toNat)
  case atStart => exact ⟨0, Nat.zero_le _, rfl, HC4⟩
  case round =>
    clear HC4
    obtain ⟨j, hj, rfl, HC⟩ := hrel
    have HBW := hid (p := Below w.heap.size w wr) (HB1.out.trans (HC.out.old.mono HB1.out.size))
    by_cases hlt : j < n0
    · obtain ⟨⟨go, o, rfl, hgo, hcell⟩, hl1, hrd1, hlc, hcb, hac⟩ := HR.out j hlt
      have hcell2 := (HBW.out.cell (p := ⟨go, o + j, none⟩) hgo).trans hcell
      have HL1 := hid hl1
      have HRD0 := hid hrd1
      have HRD := hid (hrd1.below HBW.out (Nat.le_refl _))
      have HLk := hid (HL.out j hlt)
      have HLT := hid hlt
      have HLC := hid hlc
      have HSP := hid (cat_length xs j (fun r hr => by rw [(HR.out r (by omega)).2.1]; exact HL.out r (by omega)))
      clear hcell hl1 hrd1 hlc hcb hac hgo
      have hlti : (j : Int) < (n0 : Int) := by omega
      go_wp2_with fail
      refine (write_cb HC (A j) (C j) (L j) (xs j) HL1.out HRD.out (fun hp => par_block HRD0.out (by rw [HL1.out]; exact hp) (Nat.le_of_lt HGW.out)) HLC.out (by rw [List.length_append, HKL.out]; have h1 := HSP.out; have h2 := HLk.out; have h3 := HLT.out; have h4 := HN.out; omega)).mono ?_
      rintro e w10 ⟨rfl, HC10⟩
      have HC11 := hid (p := Cb w1 g (k ++ cat xs (j + 1)) [(w.heap.size + 1, List.replicate 32 0)] w10) (by have := HC10.out; simpa [cat] using this)
      clear HC HC10 hcell2
      go_wp2
      exact ⟨⟨j + 1, HLT.out, by go_num, HC11⟩, by have := HLT.out; simp [intOf]; omega⟩
    · obtain rfl : j = n0 := by omega
      have HSP := hid (cat_length xs j (fun r hr => by rw [(HR.out r hr).2.1]; exact HL.out r hr))
      go_wp2_with fail
      refine (sum_cb HC (by rw [List.length_append, HKL.out]; have h1 := HSP.out; have h4 := HN.out; omega)).mono ?_
      rintro e w12 ⟨rfl, HC12⟩
      have HB12 := hid (p := Below w.heap.size w w12) (HB1.out.trans (HC12.out.old.mono HB1.out.size))
      have HZ12 := hid (HC12.out.2 (w.heap.size + 1, List.replicate 32 0) (by simp)).1
      have HQ := hid (sha_length (k ++ cat xs j))
      generalize hr : sha (k ++ cat xs j) = r at *
      have HRR := hid hr
      clear hr
      have HI44 := hi44 r HQ.out
      have HO8 := hsz (List.replicate 32 0) r (by rw [HQ.out, List.length_replicate])
      have HZR := hid (HZ12.out.row (m := r))
      have HBR := hid (p := Below w.heap.size w (w12.setRow (w.heap.size + 1) (bvs r).toArray)) (below_setRow HB12.out (Nat.le_succ _) _)
      have HDA := bvs_all r
      have HZZ := HZ12.out
      unfold Bt at HZZ
      have HZZ := hid HZZ
      go_wp2_with (refine wpList_store_row rfl 23 (.tmp 4) (.tmp 23) rfl (w.heap.size + 1) (bvs r).toArray rfl rfl 23 _ HZZ.out HI44.out HO8.out HDA ?_)
      exact bodyPost_ret (v := .agg (bvs r).toArray) (results_cell_row (p := 4) (ty := 23) Tryd.results62 _ _ (w.heap.size + 1) 23 (bvs r).toArray (0, 0) _ rfl HZR.out Tryd.underlying23 rfl HI44.out) rfl ⟨by rw [HRR.out], HBR.out⟩
end Go.Proofs.YtcijnoapjicliaaDoor

/-
  Whole values in boxes, loaded; boxes laid one behind the other. Conditions: none.
  draws.exponent, walked: what is left of a sum by q less one, and one. Condition: the library's table holds what its text lays.
  Exponent of a stream, walked: refused, or one drawn. Condition: the library's table holds what its text lays.
  burrowlaw11.lives, walked: it answers true. Condition: the library's table holds what its text lays.
  burrowlaw11.DrawsTurns, walked: it answers true. Condition: the library's table holds what its text lays.
-/
import Derived.Test.YtcijnoapjicliaaDoorPkL
import Derived.Test.YtcijnoapjicliaaDoorPkP
import Derived.Test.YtcijnoapjicliaaDoorPkM
import Derived.Test.YtcijnoapjicliaaDoorPkN
import Derived.Test.YtcijnoapjicliaaDoorPkO
import Derived.Test.YtcijnoapjicliaaDoorPkD
namespace Go.Proofs.YtcijnoapjicliaaDoor
open Go.RowKit
set_option linter.unusedVariables false
set_option linter.unusedSimpArgs false

/-- a group's cells -/
abbrev gcs (p q g : Nat) : Array Value := #[.int .u64 (wd p 0 : Int), .int .u64 (wd p 1 : Int), .int .u64 (wd p 2 : Int), .int .u64 (wd p 3 : Int), .int .u64 (wd q 0 : Int), .int .u64 (wd q 1 : Int), .int .u64 (wd q 2 : Int), .int .u64 (wd q 3 : Int), .int .u64 (wd g 0 : Int), .int .u64 (wd g 1 : Int), .int .u64 (wd g 2 : Int), .int .u64 (wd g 3 : Int)]
/-- a group, as a value -/
abbrev gv (p q g : Nat) : Value := .agg (gcs p q g)
theorem sz1 (w : World) (o : Obj) : (w.alloc o).heap.size = w.heap.size + 1 := Array.size_push _
theorem boxes2 (w : World) (a b : Array Value) (ta tb : TypeId) : Below w.heap.size w ((w.alloc (.cells a ta)).alloc (.cells b tb)) ∧ ((w.alloc (.cells a ta)).alloc (.cells b tb)).heap.size = w.heap.size + 1 + 1 ∧
    ((w.alloc (.cells a ta)).alloc (.cells b tb)).heap[w.heap.size]? = some (.cells a ta (0, 0)) ∧ ((w.alloc (.cells a ta)).alloc (.cells b tb)).heap[w.heap.size + 1]? = some (.cells b tb (0, 0)) := by
  have h1 := (Below.refl w.heap.size w).alloc (Nat.le_refl _) (.cells a ta)
  have h2 := h1.alloc (by rw [sz1]; omega) (.cells b tb)
  refine ⟨h2, by rw [sz1, sz1], ?_, ?_⟩
  · exact (Below.heap_alloc (w.alloc (.cells a ta)) _ _ (by rw [sz1]; omega)).trans (heap_alloc_new w _)
  · have := heap_alloc_new (w.alloc (.cells a ta)) (.cells b tb)
    rw [sz1] at this; exact this
theorem boxes3 (w : World) (a b c : Array Value) (ta tb tc : TypeId) (W : World) (hW : ((w.alloc (.cells a ta)).alloc (.cells b tb)).alloc (.cells c tc) = W) : Below w.heap.size w W ∧ W.heap.size = w.heap.size + 1 + 1 + 1 ∧
    W.heap[w.heap.size]? = some (.cells a ta (0, 0)) ∧ W.heap[w.heap.size + 1]? = some (.cells b tb (0, 0)) ∧ W.heap[w.heap.size + 1 + 1]? = some (.cells c tc (0, 0)) := by
  obtain ⟨h1, h2, h3, h4⟩ := boxes2 w a b ta tb
  subst hW
  generalize (w.alloc (.cells a ta)).alloc (.cells b tb) = u at *
  refine ⟨h1.alloc (by omega) _, by rw [sz1, h2], ?_, ?_, ?_⟩
  · exact (Below.heap_alloc u _ _ (by omega)).trans h3
  · exact (Below.heap_alloc u _ _ (by omega)).trans h4
  · have := heap_alloc_new u (.cells c tc)
    rw [h2] at this; exact this
theorem boxes4 (w : World) (a b c d : Array Value) (ta tb tc td : TypeId) (W : World) (hW : (((w.alloc (.cells a ta)).alloc (.cells b tb)).alloc (.cells c tc)).alloc (.cells d td) = W) : Below w.heap.size w W ∧ W.heap.size = w.heap.size + 1 + 1 + 1 + 1 ∧
    W.heap[w.heap.size]? = some (.cells a ta (0, 0)) ∧ W.heap[w.heap.size + 1]? = some (.cells b tb (0, 0)) ∧ W.heap[w.heap.size + 1 + 1]? = some (.cells c tc (0, 0)) ∧ W.heap[w.heap.size + 1 + 1 + 1]? = some (.cells d td (0, 0)) := by
  obtain ⟨h1, h2, h3, h4, h5⟩ := boxes3 w a b c ta tb tc _ rfl
  subst hW
  generalize ((w.alloc (.cells a ta)).alloc (.cells b tb)).alloc (.cells c tc) = u at *
  refine ⟨h1.alloc (by omega) _, by rw [sz1, h2], ?_, ?_, ?_, ?_⟩
  · exact (Below.heap_alloc u _ _ (by omega)).trans h3
  · exact (Below.heap_alloc u _ _ (by omega)).trans h4
  · exact (Below.heap_alloc u _ _ (by omega)).trans h5
  · have := heap_alloc_new u (.cells d td)
    rw [h2] at this; exact this
/-- from here on, what is loaded there is this -/
def Ld (w : World) (ty g o : Nat) (v : Value) : Prop := ∀ u, Below w.heap.size w u → (Instr.loadAt ty (.pointer (some ⟨g, o, none⟩))).run Tryd.prog u = .ok v u
theorem Ld.on {w w' : World} {ty g o : Nat} {v : Value} (h : Ld w ty g o v) (hb : Below w.heap.size w w') : Ld w' ty g o v := fun u hu => h u (hb.trans (hu.mono hb.size))
theorem Ld.here {w : World} {ty g o : Nat} {v : Value} (h : Ld w ty g o v) : (Instr.loadAt ty (.pointer (some ⟨g, o, none⟩))).run Tryd.prog w = .ok v w := h w (Below.refl _ _)
theorem rng_of {w : World} {g t : Nat} {cs : Array Value} (h : w.heap[g]? = some (.cells cs t (0, 0))) (o : Nat) (vs : List Value) (hv : ∀ j v, vs[j]? = some v → cs[o + j]? = some v) : w.rangeAt g o vs := fun j v hj => by
  rw [cell_of_row w g (o + j) _ t (0, 0) h]; exact hv j v hj
theorem ld_of {w : World} {g t : Nat} {cs : Array Value} (h : w.heap[g]? = some (.cells cs t (0, 0))) (ty o : Nat) (vs : List Value) (d : TypeDesc) (hv : ∀ j v, vs[j]? = some v → cs[o + j]? = some v)
    (hu : Tryd.prog.underlying ty = some d) (hd : d.isRow = true) (hi : (Tryd.prog.info? ty).map (·.size) = some vs.length) : Ld w ty g o (.agg vs.toArray) := fun u hu2 =>
  run_loadAt_mid u g o ty vs d (rng_of ((hu2.block g (lt_of_block h)).trans h) o vs hv) hu hd hi
theorem four_at (x : Nat) (cs : Array Value) (o : Nat) (h0 : cs[o]? = some (.int .u64 (wd x 0 : Int))) (h1 : cs[o + 1]? = some (.int .u64 (wd x 1 : Int))) (h2 : cs[o + 2]? = some (.int .u64 (wd x 2 : Int))) (h3 : cs[o + 3]? = some (.int .u64 (wd x 3 : Int))) : ∀ j v, (cls x).toList[j]? = some v → cs[o + j]? = some v := by
  intro j v hj
  match j, hj with
  | 0, hj => rw [← hj]; exact h0
  | 1, hj => rw [← hj]; exact h1
  | 2, hj => rw [← hj]; exact h2
  | 3, hj => rw [← hj]; exact h3
  | n + 4, hj => simp at hj
theorem ldN {w : World} {g t : Nat} {cs : Array Value} (x o : Nat) (h : w.heap[g]? = some (.cells cs t (0, 0))) (hv : ∀ j v, (cls x).toList[j]? = some v → cs[o + j]? = some v) : Ld w 26 g o (num x) :=
  ld_of h 26 o (cls x).toList _ hv Tryd.underlying26 rfl (by kernel_rfl)
theorem ldG {w : World} {g t : Nat} {cs : Array Value} (p q g0 o : Nat) (h : w.heap[g]? = some (.cells cs t (0, 0))) (hv : ∀ j v, (gcs p q g0).toList[j]? = some v → cs[o + j]? = some v) : Ld w 28 g o (gv p q g0) :=
  ld_of h 28 o (gcs p q g0).toList _ hv Tryd.underlying28 rfl (by kernel_rfl)
theorem ldS {w : World} {g t : Nat} {cs : Array Value} (bs : List UInt8) (hl : bs.length = 32) (o : Nat) (h : w.heap[g]? = some (.cells cs t (0, 0))) (hv : ∀ j v, (bvs bs)[j]? = some v → cs[o + j]? = some v) : Ld w 23 g o (.agg (bvs bs).toArray) :=
  ld_of h 23 o (bvs bs) _ hv Tryd.underlying23 rfl (by rw [bvs_length, hl]; kernel_rfl)
theorem all_at (cs : Array Value) : ∀ j v, cs.toList[j]? = some v → cs[0 + j]? = some v := fun j v h => by rw [Nat.zero_add]; simpa using h
theorem nm_zero {w : World} {g : Nat} (h : w.heap[g]? = some (.cells #[.int .u64 0, .int .u64 0, .int .u64 0, .int .u64 0] 26 (0, 0))) : Nm w g 0 := by unfold Nm; rw [← cls_zero]; exact h
theorem env_one {W0 w : World} {g x : Nat} (h : Below W0.heap.size W0 w) (hn : Nm w g x) : Env W0 [(g, x)] w := ⟨h, fun p hp => by obtain rfl := List.mem_singleton.1 hp; exact hn⟩
theorem onNm {w : World} {g x : Nat} (h : Nm w g x) : On w fun u => Nm u g x := fun u hu => (hu.block g (lt_of_block h)).trans h
theorem onbk {w : World} {g : Nat} {o : Obj} (h : w.heap[g]? = some o) : On w fun u => u.heap[g]? = some o := fun u hu => (hu.block g (lt_of_block h)).trans h
end Go.Proofs.YtcijnoapjicliaaDoor
namespace Go.Proofs.YtcijnoapjicliaaDoor
open Go.RowKit
set_option linter.unusedVariables false
set_option linter.unusedSimpArgs false

theorem inum (x : Nat) : (Tryd.prog.info? 26).map (·.size) = some (cls x).size := by kernel_rfl
theorem clsall (x : Nat) : (cls x).all (·.oneCell') = true := by simp [Value.oneCell']
theorem nm_row {w : World} {g y : Nat} (h : Nm w g y) (x : Nat) : Nm (w.setRow g (cls x)) g x := setRow_heap w g _ _ 26 (0, 0) h
/-- a sum as a number below m, as exponent -/
def expT : List UInt8 := [101, 120, 112, 111, 110, 101, 110, 116]
def xof (bs : List UInt8) (m : Nat) : Nat := nof expT 1 (fun _ => bs) m
theorem xof_lt (bs : List UInt8) (m : Nat) (h : m ≠ 0) : xof bs m < m := Nat.mod_lt _ (by omega)
/-- an exponent by a sum -/
def dexp (q : Nat) (bs : List UInt8) : Nat := xof bs (q - 1) + 1
theorem dexp_lt (q : Nat) (bs : List UInt8) (h : 1 < q) : dexp q bs < q := by
  have := xof_lt bs (q - 1) (by omega)
  unfold dexp; omega
theorem dexp_pos (q : Nat) (bs : List UInt8) : 0 < dexp q bs := Nat.succ_pos _
theorem rws1 {w : World} {gb l c : Nat} {A : Option Addr} {x : List UInt8} (h : Blk w gb #[.slice A l c] 47) (hr : Rd w A x) (hl : x.length = l) (hc : l ≤ c) (hm : c ≤ 140737488351232) (hn : A = none → c = 0) :
    Rws w (some ⟨gb, 0, none⟩) 1 (fun _ => A) (fun _ => l) (fun _ => c) (fun _ => x) := by
  intro r hr2
  obtain rfl : r = 0 := by omega
  exact ⟨⟨gb, 0, rfl, h.lt, by rw [h.cell]; rfl⟩, hl, hr, hc, hm, hn⟩
theorem num_ex (m r gb gs : Nat) (bs : List UInt8) (w : World) (hm : m < 2 ^ 256) (h0 : m ≠ 0) (h : Blk w gb #[.slice (some ⟨gs, 0, none⟩) 32 32] 47) (hr : Rd w (some ⟨gs, 0, none⟩) bs) (hl : bs.length = 32) (hk : Kt w) (hv : xof bs m = r) :
    Calls Tryd.prog 34 #[num m, .string ⟨#[101, 120, 112, 111, 110, 101, 110, 116]⟩, .slice (some ⟨gb, 0, none⟩) 1 1] w fun e w' => e = .returned (.tuple #[num r, .int .i64 0]) ∧ Below w.heap.size w w' :=
  number_any ⟨#[101, 120, 112, 111, 110, 101, 110, 116]⟩ (some ⟨gb, 0, none⟩) 1 1 _ _ _ _ m r 0 w hm (rws1 h hr hl (by decide) (by decide) (fun h => by cases h)) hk (by decide) (fun r hr => by decide) (by decide) (by decide) (fun h => by cases h) (by rw [if_neg h0]; exact hv) (by rw [if_neg h0])
set_option maxRecDepth 100000 in
set_option maxHeartbeats 4000000 in
theorem exponent_any (q : Nat) (bs : List UInt8) (w : World) (hq : q < 2 ^ 256) (h1 : 1 < q) (hbs : bs.length = 32) (hK : Kt w) :
    Calls Tryd.prog 20 #[num q, .agg (bvs bs).toArray] w fun e w' => e = .returned (num (dexp q bs)) ∧ Below w.heap.size w w' := by
  obtain ⟨m, hm⟩ : ∃ m, m = q - 1 := ⟨_, rfl⟩
  obtain ⟨r, hr⟩ : ∃ r, xof bs m = r := ⟨_, rfl⟩
  have hd : dexp q bs = r + 1 := by unfold dexp; rw [← hm, hr]
  rw [hd]
  have HR := hid hr
  have hrl := xof_lt bs m (by omega)
  rw [hr] at hrl
  obtain ⟨d, hd2⟩ : ∃ d, d = r + 1 := ⟨_, rfl⟩
  rw [← hd2]
  have HSB := hid (show dif q 1 = m by unfold dif; rw [if_neg (by omega), hm])
  have HLT := hid (show ((lent q 1 : Nat) : Int) = 0 by unfold lent; rw [if_neg (by omega)]; rfl)
  have HQ := hid hq
  have HM := hid (show m < 2 ^ 256 by omega)
  have H0 := hid (show m ≠ 0 by omega)
  have HL := hid hbs
  have HRB := hid (show r < 2 ^ 256 by omega)
  have HA1 := hid (show (r + 1) % 2 ^ 256 = d by rw [Nat.mod_eq_of_lt (by omega), hd2])
  have HA2 := hid (show (((r + 1) / 2 ^ 256 : Nat) : Int) = 0 by rw [Nat.div_eq_of_lt (by omega)]; rfl)
  clear hq h1 hm hr hd hrl hd2
  obtain ⟨hB0, hs0, f0, f1⟩ := boxes2 w (cls q) ((bvs bs).toArray) 26 23
  have HFIN : Hid (∀ u, Below ((w.alloc (.cells (cls q) 26)).alloc (.cells ((bvs bs).toArray) 23)).heap.size ((w.alloc (.cells (cls q) 26)).alloc (.cells ((bvs bs).toArray) 23)) u → Below w.heap.size w u) := hid (fun u hu => hB0.trans (hu.mono hB0.size))
  have HKT := hid (hK.on hB0)
  clear hK
  go_enter Tryd.func20, Tryd.ntmps20
  go_upto_region 1 with fail
  generalize (w.alloc (.cells (cls q) 26)).alloc (.cells ((bvs bs).toArray) 23) = W0 at *
  have hb1 := (Below.refl W0.heap.size W0).alloc (Nat.le_refl _) (.cells #[.int .u64 0, .int .u64 0, .int .u64 0, .int .u64 0] 26)
  have hz1 := heap_alloc_new W0 (.cells #[.int .u64 0, .int .u64 0, .int .u64 0, .int .u64 0] 26)
  rw [hs0] at hz1
  have HB := hid hb1
  have HZ0 : Hid (W0.heap.size = w.heap.size + 1 + 1) := hid hs0
  have HZW : Hid (w.heap.size < w.heap.size + 1 + 1) := hid (by omega)
  have FBNq := hid (ldN q 0 f0 (all_at _))
  have FNq := hid ((ldN q 0 f0 (all_at _)).on hb1)
  have FBS := hid (ldS bs hbs 0 f1 (fun j v h => by rw [Nat.zero_add]; simpa using h))
  have Fs := hid ((ldS bs hbs 0 f1 (fun j v h => by rw [Nat.zero_add]; simpa using h)).on hb1)
  have FRS := hid (On.on (on_rd (bt_rd (show Bt W0 _ 23 bs from f1))) hb1)
  have FK := hid (HKT.out.on hb1)
  clear HKT
  have FZ : Hid (On (W0.alloc (.cells #[.int .u64 0, .int .u64 0, .int .u64 0, .int .u64 0] 26)) fun u => Nm u (w.heap.size + 1 + 1) 0) := hid (onNm (nm_zero hz1))
  clear hz1
  generalize W0.alloc (.cells #[.int .u64 0, .int .u64 0, .int .u64 0, .int .u64 0] 26) = w0 at *
  clear hB0 hs0 hb1 f0 f1
  generalize w.heap.size + 1 + 1 = g_z at *
  generalize w.heap.size + 1 = g_s at *
  generalize hgp : w.heap.size = g_q at *
  clear hbs
  go_wp2_with fail
  refine (lof_at 1 1 (Env.refl _) (by decide) rfl).mono ?_
  rintro e w1 ⟨rfl, hb⟩
  have hb := hb.1
  have HB := hid (HB.out.trans (hb.mono HB.out.size))
  have FNq := hid (FNq.out.on hb)
  have Fs := hid (Fs.out.on hb)
  have FRS := hid (FRS.out.on hb)
  have FK := hid (FK.out.on hb)
  have FZ := hid (FZ.out.on hb)
  clear hb
  go_upto_region 2 with fail
  have hb := (Below.refl w1.heap.size w1).alloc (Nat.le_refl _) (.cells (cls 1) 26)
  have hn := heap_alloc_new w1 (.cells (cls 1) 26)
  have HB := hid (HB.out.trans (hb.mono HB.out.size))
  have FNq := hid (FNq.out.on hb)
  have Fs := hid (Fs.out.on hb)
  have FRS := hid (FRS.out.on hb)
  have FK := hid (FK.out.on hb)
  have FZ := hid (FZ.out.on hb)
  have FN5 := hid (ldN 1 0 hn (all_at _))
  clear hb hn
  generalize w1.alloc (.cells (cls 1) 26) = w2 at *
  generalize w1.heap.size = gN5 at *
  have l1 := FNq.out.here
  have l2 := FN5.out.here
  go_wp2_with (first | (refine wp_ld rfl _ _ rfl _ rfl _ (by first | exact l1 | exact l2) ?_))
  clear l1 l2
  refine (sub_b q 1 m 0 _ HQ.out (by decide) HSB.out HLT.out).mono ?_
  rintro e w3 ⟨rfl, hb⟩
  have HB := hid (HB.out.trans (hb.mono HB.out.size))
  have FNq := hid (FNq.out.on hb)
  have Fs := hid (Fs.out.on hb)
  have FRS := hid (FRS.out.on hb)
  have FN5 := hid (FN5.out.on hb)
  have FK := hid (FK.out.on hb)
  have FZ := hid (FZ.out.on hb)
  clear hb
  go_upto_region 3 with fail
  have hb := (Below.refl w3.heap.size w3).alloc (Nat.le_refl _) (.cells (cls m) 26)
  have hn := heap_alloc_new w3 (.cells (cls m) 26)
  have HB := hid (HB.out.trans (hb.mono HB.out.size))
  have FNq := hid (FNq.out.on hb)
  have Fs := hid (Fs.out.on hb)
  have FRS := hid (FRS.out.on hb)
  have FN5 := hid (FN5.out.on hb)
  have FK := hid (FK.out.on hb)
  have FZ := hid (FZ.out.on hb)
  have FN6 := hid (ldN m 0 hn (all_at _))
  clear hb hn
  generalize w3.alloc (.cells (cls m) 26) = w4 at *
  generalize w3.heap.size = gN6 at *
  go_cut [8, 9] (fun s8 s9 wx => ∃ g8 : Nat, s8 = .pointer (some ⟨g8, 0, none⟩) ∧ s9 = .int .i64 0 ∧ Hid (Below w4.heap.size w4 wx ∧ Nm wx g8 r))
  case first =>
    refine wp_region_noPanic ?_
    refine Goes.region (fun (_ : Array Bool) (u : World) => Below w4.heap.size w4 u) (by as_aux_lemma => kernel_rfl) ?_
    have HB := hid (p := Below w4.heap.size w4 w4.drew) (Below.refl _ _).drew
    generalize w4.drew = w4d at *
    refine Goes.tk (i := 0) (o := ⟨some 20, _, _, _, _, _⟩) [] (y := Or.inl ⟨by rfl, fun u hY => y_ld _ _ rfl (.pointer (some ⟨gN6, 0, none⟩)) _ rfl (FN6.out u (yet_of hY))⟩) (s := HB.out) (H := ?_)
    try simp only [putz]
    refine Goes.tk (i := 1) (o := ⟨some 21, _, _, _, _, _⟩) (v := ?_) [] (y := Or.inl ⟨by rfl, ?_⟩) (s := HB.out) (H := ?_)
    rotate_left
    · intro u hY; have hsl := sl32 g_s; go_simp; try with_reducible rfl
    try simp only [putz]
    refine Goes.two (i := 2) (j := 7) (o := ⟨some 22, _, _, _, _, _⟩) (p := ⟨some 8, _, _, _, _, _⟩) (by as_aux_lemma => kernel_rfl) rfl rfl (fun K hK => ?_) (fun K hK => ?_)
    · skip
      go_simp
      have hb := (Below.refl w4d.heap.size w4d).alloc (Nat.le_refl _) (.cells #[.slice (some ⟨g_s, 0, none⟩) 32 32] 47)
      have hh := Blk.new w4d #[.slice (some ⟨g_s, 0, none⟩) 32 32] 47
      have hz := HB.out.size
      refine hK.out _ _ (HB.out.trans (hb.mono HB.out.size)) ?_
      clear hK K
      try simp only [putz]
      have HB := hid (HB.out.trans (hb.mono HB.out.size))
      generalize w4d.alloc (.cells #[.slice (some ⟨g_s, 0, none⟩) 32 32] 47) = w4_1 at *
      generalize w4d.heap.size = g_1 at *
      have F3 := hid (And.intro hh hz)
      clear hb hh hz
      refine Goes.two (i := 3) (j := 7) (o := ⟨some 23, _, _, _, _, _⟩) (p := ⟨some 8, _, _, _, _, _⟩) (by as_aux_lemma => kernel_rfl) rfl rfl (fun K hK => ?_) (fun K hK => ?_)
      · skip
        go_simp
        refine (num_ex m r g_1 g_s bs w4_1 HM.out H0.out F3.out.1 (FRS.out _ HB.out) HL.out (FK.out.on HB.out) HR.out).mono ?_
        rintro e w4_2 ⟨rfl, hb⟩
        go_wp2_with fail
        refine hK.out _ _ (HB.out.trans (hb.mono HB.out.size)) ?_
        clear hK K
        try simp only [putz]
        have HB := hid (HB.out.trans (hb.mono HB.out.size))
        have F3 := hid (And.intro (F3.out.1.on hb) F3.out.2)
        clear hb
        refine Goes.tk (i := 4) (o := ⟨some 19, _, _, _, _, _⟩) (v := ?_) [] (y := Or.inl ⟨by rfl, ?_⟩) (s := HB.out) (H := ?_)
        rotate_left
        · intro u hY; go_simp; try with_reducible rfl
        try simp only [putz]
        refine Goes.tk (i := 5) (o := ⟨some 24, _, _, _, _, _⟩) (v := ?_) [] (y := Or.inl ⟨by rfl, ?_⟩) (s := HB.out) (H := ?_)
        rotate_left
        · intro u hY; go_simp; try with_reducible rfl
        try simp only [putz]
        refine Goes.tk (i := 6) (o := ⟨some 25, _, _, _, _, _⟩) (v := ?_) [] (y := Or.inl ⟨by rfl, ?_⟩) (s := HB.out) (H := ?_)
        rotate_left
        · intro u hY; go_simp; try with_reducible rfl
        try simp only [putz]
        refine Goes.one (i := 7) (o := ⟨some 8, _, _, _, _, _⟩) (by as_aux_lemma => kernel_rfl) rfl (fun K hK => ?_)
        go_simp
        have hb := (Below.refl w4_2.heap.size w4_2).alloc (Nat.le_refl _) (.cells #[.int .u64 0, .int .u64 0, .int .u64 0, .int .u64 0] 26)
        have hh := nm_zero (heap_alloc_new w4_2 (.cells #[.int .u64 0, .int .u64 0, .int .u64 0, .int .u64 0] 26))
        have hz := HB.out.size
        refine hK.out _ _ (HB.out.trans (hb.mono HB.out.size)) ?_
        clear hK K
        try simp only [putz]
        have HB := hid (HB.out.trans (hb.mono HB.out.size))
        have F3 := hid (And.intro (F3.out.1.on hb) F3.out.2)
        generalize w4_2.alloc (.cells #[.int .u64 0, .int .u64 0, .int .u64 0, .int .u64 0] 26) = w4_3 at *
        generalize w4_2.heap.size = gz_3 at *
        have FZ := hid (And.intro hh hz)
        clear hb hh hz
        refine Goes.one (i := 8) (o := ⟨none, _, _, _, _, _⟩) (by as_aux_lemma => kernel_rfl) rfl (fun K hK => ?_)
        rw [if_pos (by rfl)]
        have hz := FZ.out.1
        unfold Nm at hz
        refine wp_store_row 26 (.tmp 8) (.tmp 24) (by rfl) gz_3 (cls r) (by rfl) (by rfl) 26 _ hz (inum r) rfl (clsall r) ?_
        have HW := below_setRow HB.out FZ.out.2 (cls r)
        have HT := hid (nm_row FZ.out.1 r)
        refine hK.out _ _ HW ?_
        clear hK K
        try simp only [putz]
        have HB := hid HW
        refine Goes.tk (i := 9) (o := ⟨some 9, _, _, _, _, _⟩) (v := ?_) [] (y := Or.inl ⟨by rfl, ?_⟩) (s := HB.out) (H := ?_)
        rotate_left
        · intro u hY; go_simp; try with_reducible rfl
        try simp only [putz]
        refine Goes.done (by as_aux_lemma => kernel_rfl) ?_ _
        refine NoPanic.normal ?_
        go_wp2
        go_meet
        exact ⟨_, rfl, rfl, hid ⟨HW, HT.out⟩⟩
      · skip
        go_simp
        have hb := (Below.refl w4_1.heap.size w4_1).alloc (Nat.le_refl _) (.cells #[.int .u64 0, .int .u64 0, .int .u64 0, .int .u64 0] 26)
        have hh := nm_zero (heap_alloc_new w4_1 (.cells #[.int .u64 0, .int .u64 0, .int .u64 0, .int .u64 0] 26))
        have hz := HB.out.size
        refine hK.out _ _ (HB.out.trans (hb.mono HB.out.size)) ?_
        clear hK K
        try simp only [putz]
        have HB := hid (HB.out.trans (hb.mono HB.out.size))
        have F3 := hid (And.intro (F3.out.1.on hb) F3.out.2)
        generalize w4_1.alloc (.cells #[.int .u64 0, .int .u64 0, .int .u64 0, .int .u64 0] 26) = w4_4 at *
        generalize w4_1.heap.size = gz_4 at *
        have FZ := hid (And.intro hh hz)
        clear hb hh hz
        refine Goes.one (i := 3) (o := ⟨some 23, _, _, _, _, _⟩) (by as_aux_lemma => kernel_rfl) rfl (fun K hK => ?_)
        go_simp
        refine (num_ex m r g_1 g_s bs w4_4 HM.out H0.out F3.out.1 (FRS.out _ HB.out) HL.out (FK.out.on HB.out) HR.out).mono ?_
        rintro e w4_5 ⟨rfl, hb⟩
        go_wp2_with fail
        refine hK.out _ _ (HB.out.trans (hb.mono HB.out.size)) ?_
        clear hK K
        try simp only [putz]
        have HB := hid (HB.out.trans (hb.mono HB.out.size))
        have F3 := hid (And.intro (F3.out.1.on hb) F3.out.2)
        have FZ := hid (And.intro (FZ.out.1.on hb) FZ.out.2)
        clear hb
        refine Goes.tk (i := 4) (o := ⟨some 19, _, _, _, _, _⟩) (v := ?_) [] (y := Or.inl ⟨by rfl, ?_⟩) (s := HB.out) (H := ?_)
        rotate_left
        · intro u hY; go_simp; try with_reducible rfl
        try simp only [putz]
        refine Goes.tk (i := 5) (o := ⟨some 24, _, _, _, _, _⟩) (v := ?_) [] (y := Or.inl ⟨by rfl, ?_⟩) (s := HB.out) (H := ?_)
        rotate_left
        · intro u hY; go_simp; try with_reducible rfl
        try simp only [putz]
        refine Goes.tk (i := 6) (o := ⟨some 25, _, _, _, _, _⟩) (v := ?_) [] (y := Or.inl ⟨by rfl, ?_⟩) (s := HB.out) (H := ?_)
        rotate_left
        · intro u hY; go_simp; try with_reducible rfl
        try simp only [putz]
        refine Goes.one (i := 8) (o := ⟨none, _, _, _, _, _⟩) (by as_aux_lemma => kernel_rfl) rfl (fun K hK => ?_)
        rw [if_pos (by rfl)]
        have hz := FZ.out.1
        unfold Nm at hz
        refine wp_store_row 26 (.tmp 8) (.tmp 24) (by rfl) gz_4 (cls r) (by rfl) (by rfl) 26 _ hz (inum r) rfl (clsall r) ?_
        have HW := below_setRow HB.out FZ.out.2 (cls r)
        have HT := hid (nm_row FZ.out.1 r)
        refine hK.out _ _ HW ?_
        clear hK K
        try simp only [putz]
        have HB := hid HW
        refine Goes.tk (i := 9) (o := ⟨some 9, _, _, _, _, _⟩) (v := ?_) [] (y := Or.inl ⟨by rfl, ?_⟩) (s := HB.out) (H := ?_)
        rotate_left
        · intro u hY; go_simp; try with_reducible rfl
        try simp only [putz]
        refine Goes.done (by as_aux_lemma => kernel_rfl) ?_ _
        refine NoPanic.normal ?_
        go_wp2
        go_meet
        exact ⟨_, rfl, rfl, hid ⟨HW, HT.out⟩⟩
    · skip
      go_simp
      have hb := (Below.refl w4d.heap.size w4d).alloc (Nat.le_refl _) (.cells #[.int .u64 0, .int .u64 0, .int .u64 0, .int .u64 0] 26)
      have hh := nm_zero (heap_alloc_new w4d (.cells #[.int .u64 0, .int .u64 0, .int .u64 0, .int .u64 0] 26))
      have hz := HB.out.size
      refine hK.out _ _ (HB.out.trans (hb.mono HB.out.size)) ?_
      clear hK K
      try simp only [putz]
      have HB := hid (HB.out.trans (hb.mono HB.out.size))
      generalize w4d.alloc (.cells #[.int .u64 0, .int .u64 0, .int .u64 0, .int .u64 0] 26) = w4_6 at *
      generalize w4d.heap.size = gz_6 at *
      have FZ := hid (And.intro hh hz)
      clear hb hh hz
      refine Goes.one (i := 2) (o := ⟨some 22, _, _, _, _, _⟩) (by as_aux_lemma => kernel_rfl) rfl (fun K hK => ?_)
      go_simp
      have hb := (Below.refl w4_6.heap.size w4_6).alloc (Nat.le_refl _) (.cells #[.slice (some ⟨g_s, 0, none⟩) 32 32] 47)
      have hh := Blk.new w4_6 #[.slice (some ⟨g_s, 0, none⟩) 32 32] 47
      have hz := HB.out.size
      refine hK.out _ _ (HB.out.trans (hb.mono HB.out.size)) ?_
      clear hK K
      try simp only [putz]
      have HB := hid (HB.out.trans (hb.mono HB.out.size))
      have FZ := hid (And.intro (FZ.out.1.on hb) FZ.out.2)
      generalize w4_6.alloc (.cells #[.slice (some ⟨g_s, 0, none⟩) 32 32] 47) = w4_7 at *
      generalize w4_6.heap.size = g_7 at *
      have F3 := hid (And.intro hh hz)
      clear hb hh hz
      refine Goes.one (i := 3) (o := ⟨some 23, _, _, _, _, _⟩) (by as_aux_lemma => kernel_rfl) rfl (fun K hK => ?_)
      go_simp
      refine (num_ex m r g_7 g_s bs w4_7 HM.out H0.out F3.out.1 (FRS.out _ HB.out) HL.out (FK.out.on HB.out) HR.out).mono ?_
      rintro e w4_8 ⟨rfl, hb⟩
      go_wp2_with fail
      refine hK.out _ _ (HB.out.trans (hb.mono HB.out.size)) ?_
      clear hK K
      try simp only [putz]
      have HB := hid (HB.out.trans (hb.mono HB.out.size))
      have FZ := hid (And.intro (FZ.out.1.on hb) FZ.out.2)
      have F3 := hid (And.intro (F3.out.1.on hb) F3.out.2)
      clear hb
      refine Goes.tk (i := 4) (o := ⟨some 19, _, _, _, _, _⟩) (v := ?_) [] (y := Or.inl ⟨by rfl, ?_⟩) (s := HB.out) (H := ?_)
      rotate_left
      · intro u hY; go_simp; try with_reducible rfl
      try simp only [putz]
      refine Goes.tk (i := 5) (o := ⟨some 24, _, _, _, _, _⟩) (v := ?_) [] (y := Or.inl ⟨by rfl, ?_⟩) (s := HB.out) (H := ?_)
      rotate_left
      · intro u hY; go_simp; try with_reducible rfl
      try simp only [putz]
      refine Goes.tk (i := 6) (o := ⟨some 25, _, _, _, _, _⟩) (v := ?_) [] (y := Or.inl ⟨by rfl, ?_⟩) (s := HB.out) (H := ?_)
      rotate_left
      · intro u hY; go_simp; try with_reducible rfl
      try simp only [putz]
      refine Goes.one (i := 8) (o := ⟨none, _, _, _, _, _⟩) (by as_aux_lemma => kernel_rfl) rfl (fun K hK => ?_)
      rw [if_pos (by rfl)]
      have hz := FZ.out.1
      unfold Nm at hz
      refine wp_store_row 26 (.tmp 8) (.tmp 24) (by rfl) gz_6 (cls r) (by rfl) (by rfl) 26 _ hz (inum r) rfl (clsall r) ?_
      have HW := below_setRow HB.out FZ.out.2 (cls r)
      have HT := hid (nm_row FZ.out.1 r)
      refine hK.out _ _ HW ?_
      clear hK K
      try simp only [putz]
      have HB := hid HW
      refine Goes.tk (i := 9) (o := ⟨some 9, _, _, _, _, _⟩) (v := ?_) [] (y := Or.inl ⟨by rfl, ?_⟩) (s := HB.out) (H := ?_)
      rotate_left
      · intro u hY; go_simp; try with_reducible rfl
      try simp only [putz]
      refine Goes.done (by as_aux_lemma => kernel_rfl) ?_ _
      refine NoPanic.normal ?_
      go_wp2
      go_meet
      exact ⟨_, rfl, rfl, hid ⟨HW, HT.out⟩⟩
  case rest =>
    obtain ⟨g8, rfl, rfl, HC⟩ := hcut
    have hb := HC.out.1
    have hn := HC.out.2
    have HB := hid (HB.out.trans (hb.mono HB.out.size))
    have FNq := hid (FNq.out.on hb)
    have Fs := hid (Fs.out.on hb)
    have FRS := hid (FRS.out.on hb)
    have FN5 := hid (FN5.out.on hb)
    have FN6 := hid (FN6.out.on hb)
    have FK := hid (FK.out.on hb)
    have FZ := hid (FZ.out.on hb)
    have FN8 := hid (ldN r 0 hn (all_at _))
    clear hb hn HC
    have l3 := FN8.out.here
    have l4 := FN5.out.here
    go_wp2_with (first | (refine wp_ld rfl _ _ rfl _ rfl _ (by first | exact l3 | exact l4) ?_))
    clear l3 l4
    refine (add_b r 1 d 0 _ HRB.out (by decide) HA1.out HA2.out).mono ?_
    rintro e w5 ⟨rfl, hb⟩
    have HB := hid (HB.out.trans (hb.mono HB.out.size))
    have FNq := hid (FNq.out.on hb)
    have Fs := hid (Fs.out.on hb)
    have FRS := hid (FRS.out.on hb)
    have FN5 := hid (FN5.out.on hb)
    have FN6 := hid (FN6.out.on hb)
    have FN8 := hid (FN8.out.on hb)
    have FK := hid (FK.out.on hb)
    have FZ := hid (FZ.out.on hb)
    clear hb
    go_upto_region 5 with fail
    have hb := (Below.refl w5.heap.size w5).alloc (Nat.le_refl _) (.cells (cls d) 26)
    have hn := heap_alloc_new w5 (.cells (cls d) 26)
    have HB := hid (HB.out.trans (hb.mono HB.out.size))
    have FNq := hid (FNq.out.on hb)
    have Fs := hid (Fs.out.on hb)
    have FRS := hid (FRS.out.on hb)
    have FN5 := hid (FN5.out.on hb)
    have FN6 := hid (FN6.out.on hb)
    have FN8 := hid (FN8.out.on hb)
    have FK := hid (FK.out.on hb)
    have FZ := hid (FZ.out.on hb)
    have FN10 := hid (ldN d 0 hn (all_at _))
    clear hb hn
    generalize w5.alloc (.cells (cls d) 26) = w6 at *
    generalize w5.heap.size = gN10 at *
    have hE := env_one HB.out FZ.out.here
    obtain ⟨z0, z1, z2, z3⟩ := hE.cell g_z 0 (by simp)
    have zl := hE.lt g_z 0 (by simp)
    have zf := hE.frozen g_z 0 (by simp)
    have HZ := hid (hE.set g_z 0 (d) [] (by simp) (Nat.le_of_eq HZ0.out) (by simp))
    have l5 := FN10.out.here
    go_wp2_with (first | (refine wp_ld rfl _ _ rfl _ rfl _ (by first | exact l5) ?_))
    clear hE z0 z1 z2 z3 zl zf l5
    try rw [Exit.noGoto_ret]
    change bodyPost _ _ _ _ _ (fil w6 g_z (d))
    generalize fil w6 g_z (d) = wz at *
    obtain ⟨k0, k1, k2, k3⟩ := HZ.out.cell g_z (d) (by simp)
    exact bodyPost_ret (v := num (d)) (by simp [results, Tryd.results20, go_sem, k0, k1, k2, k3]) rfl ⟨rfl, by first | exact HFIN.out _ HZ.out.1 | (rw [hgp]; exact HFIN.out _ HZ.out.1)⟩
end Go.Proofs.YtcijnoapjicliaaDoor
namespace Go.Proofs.YtcijnoapjicliaaDoor
open Go.RowKit
set_option linter.unusedVariables false
set_option linter.unusedSimpArgs false

theorem bk_grown {w w' : World} {b k : Nat} {o : Obj} (h : w.heap[b]? = some o) (hg : w.grownBy w' (some k)) (hne : b ≠ k) : w'.heap[b]? = some o := (hg.block b (lt_of_block h) (by intro e; injection e with e; exact hne e)).trans h
/-- whether a number is below three -/
theorem cmp_three (q : Nat) : (cmpN q 3 = -1 ∧ q < 3) ∨ (¬ cmpN q 3 < 0 ∧ ¬ q < 3) := by
  unfold cmpN
  by_cases h : q < 3
  · left; rw [if_pos h]; exact ⟨rfl, h⟩
  · right; rw [if_neg h]; split <;> exact ⟨by decide, h⟩
set_option maxRecDepth 100000 in
set_option maxHeartbeats 4000000 in
theorem expo_no (v : Value) (p q g0 : Nat) (w : World) (h : Nos w v) :
    Calls Tryd.prog 11 #[v, gv p q g0] w fun e w' => e = .returned (.tuple #[num 0, .int .i64 2]) ∧ Below w.heap.size w w' := by
  have HTH := hid h
  clear h
  have hB0 := (Below.refl w.heap.size w).alloc (Nat.le_refl _) (.cells (gcs p q g0) 28)
  have hs0 : (w.alloc (.cells (gcs p q g0) 28)).heap.size = w.heap.size + 1 := sz1 _ _
  have f0 := heap_alloc_new w (.cells (gcs p q g0) 28)
  have HFIN : Hid (∀ u, Below (w.alloc (.cells (gcs p q g0) 28)).heap.size (w.alloc (.cells (gcs p q g0) 28)) u → Below w.heap.size w u) := hid (fun u hu => hB0.trans (hu.mono hB0.size))
  go_enter Tryd.func11, Tryd.ntmps11
  go_upto_region 1 with fail
  generalize w.alloc (.cells (gcs p q g0) 28) = W0 at *
  have hb1 := (Below.refl W0.heap.size W0).alloc (Nat.le_refl _) (.cells #[.int .u64 0, .int .u64 0, .int .u64 0, .int .u64 0] 26)
  have hz1 := heap_alloc_new W0 (.cells #[.int .u64 0, .int .u64 0, .int .u64 0, .int .u64 0] 26)
  rw [hs0] at hz1
  have HB := hid hb1
  have HZ0 : Hid (W0.heap.size = w.heap.size + 1) := hid hs0
  have HZW : Hid (w.heap.size < w.heap.size + 1) := hid (by omega)
  have FG := hid ((ldG p q g0 0 f0 (all_at _)).on hb1)
  have FGp := hid ((ldN p 0 f0 (four_at p _ 0 rfl rfl rfl rfl)).on hb1)
  have FGq := hid ((ldN q 4 f0 (four_at q _ 4 rfl rfl rfl rfl)).on hb1)
  have FGg0 := hid ((ldN g0 8 f0 (four_at g0 _ 8 rfl rfl rfl rfl)).on hb1)
  have FGB := hid (onbk f0 _ hb1)
  have FGBx := hid (onbk (onbk f0 _ hb1))
  have FZ : Hid (On (W0.alloc (.cells #[.int .u64 0, .int .u64 0, .int .u64 0, .int .u64 0] 26)) fun u => Nm u (w.heap.size + 1) 0) := hid (onNm (nm_zero hz1))
  clear hz1
  generalize W0.alloc (.cells #[.int .u64 0, .int .u64 0, .int .u64 0, .int .u64 0] 26) = w0 at *
  clear hB0 hs0 hb1 f0
  generalize w.heap.size + 1 = g_z at *
  generalize hgp : w.heap.size = g_p at *
  have HT := hid (HTH.out w0 (by first | exact HFIN.out _ HB.out | (rw [hgp]; exact HFIN.out _ HB.out)))
  clear HTH
  go_wp2_with fail
  refine HT.out.mono ?_
  rintro e wx ⟨rfl, rfl⟩
  clear HT
  have hE := env_one HB.out FZ.out.here
  obtain ⟨z0, z1, z2, z3⟩ := hE.cell g_z 0 (by simp)
  have zl := hE.lt g_z 0 (by simp)
  have zf := hE.frozen g_z 0 (by simp)
  have HZ := hid (hE.set g_z 0 (0) [] (by simp) (Nat.le_of_eq HZ0.out) (by simp))
  go_wp2
  clear hE z0 z1 z2 z3 zl zf 
  try rw [Exit.noGoto_ret]
  change bodyPost _ _ _ _ _ (fil w0 g_z (0))
  generalize fil w0 g_z (0) = wz at *
  obtain ⟨k0, k1, k2, k3⟩ := HZ.out.cell g_z (0) (by simp)
  exact bodyPost_ret (v := .tuple #[num (0), .int .i64 2]) (by simp [results, Tryd.results11, go_sem, k0, k1, k2, k3]) rfl ⟨rfl, by first | exact HFIN.out _ HZ.out.1 | (rw [hgp]; exact HFIN.out _ HZ.out.1)⟩
set_option maxRecDepth 100000 in
set_option maxHeartbeats 4000000 in
theorem expo_small (g n p q g0 : Nat) (bs : List UInt8) (w : World) (h : St w g bs n) (hq : q < 2 ^ 256) (h3 : q < 3) :
    Calls Tryd.prog 11 #[.pointer (some ⟨g, 0, none⟩), gv p q g0] w fun e w' => e = .returned (.tuple #[num 0, .int .i64 1]) ∧ Below w.heap.size w w' := by
  have HTH := hid (fun u (hu : Below w.heap.size w u) => sthere_any g true u (St.made (Sc.on h hu)))
  have HQ := hid hq
  obtain ⟨c, hc⟩ : ∃ c, cmpN q 3 = c := ⟨_, rfl⟩
  have HC := hid hc
  have HCD := hid (show decide (c < 0) = true by rcases cmp_three q with ⟨h1, _⟩ | ⟨_, h1⟩; (rw [← hc, h1]; rfl); exact absurd h3 h1)
  clear h hq hc h3
  have hB0 := (Below.refl w.heap.size w).alloc (Nat.le_refl _) (.cells (gcs p q g0) 28)
  have hs0 : (w.alloc (.cells (gcs p q g0) 28)).heap.size = w.heap.size + 1 := sz1 _ _
  have f0 := heap_alloc_new w (.cells (gcs p q g0) 28)
  have HFIN : Hid (∀ u, Below (w.alloc (.cells (gcs p q g0) 28)).heap.size (w.alloc (.cells (gcs p q g0) 28)) u → Below w.heap.size w u) := hid (fun u hu => hB0.trans (hu.mono hB0.size))
  go_enter Tryd.func11, Tryd.ntmps11
  go_upto_region 1 with fail
  generalize w.alloc (.cells (gcs p q g0) 28) = W0 at *
  have hb1 := (Below.refl W0.heap.size W0).alloc (Nat.le_refl _) (.cells #[.int .u64 0, .int .u64 0, .int .u64 0, .int .u64 0] 26)
  have hz1 := heap_alloc_new W0 (.cells #[.int .u64 0, .int .u64 0, .int .u64 0, .int .u64 0] 26)
  rw [hs0] at hz1
  have HB := hid hb1
  have HZ0 : Hid (W0.heap.size = w.heap.size + 1) := hid hs0
  have HZW : Hid (w.heap.size < w.heap.size + 1) := hid (by omega)
  have FG := hid ((ldG p q g0 0 f0 (all_at _)).on hb1)
  have FGp := hid ((ldN p 0 f0 (four_at p _ 0 rfl rfl rfl rfl)).on hb1)
  have FGq := hid ((ldN q 4 f0 (four_at q _ 4 rfl rfl rfl rfl)).on hb1)
  have FGg0 := hid ((ldN g0 8 f0 (four_at g0 _ 8 rfl rfl rfl rfl)).on hb1)
  have FGB := hid (onbk f0 _ hb1)
  have FGBx := hid (onbk (onbk f0 _ hb1))
  have FZ : Hid (On (W0.alloc (.cells #[.int .u64 0, .int .u64 0, .int .u64 0, .int .u64 0] 26)) fun u => Nm u (w.heap.size + 1) 0) := hid (onNm (nm_zero hz1))
  clear hz1
  generalize W0.alloc (.cells #[.int .u64 0, .int .u64 0, .int .u64 0, .int .u64 0] 26) = w0 at *
  clear hB0 hs0 hb1 f0
  generalize w.heap.size + 1 = g_z at *
  generalize hgp : w.heap.size = g_p at *
  have HT := hid (HTH.out w0 (by first | exact HFIN.out _ HB.out | (rw [hgp]; exact HFIN.out _ HB.out)))
  clear HTH
  have HGB := hid (show w0.heap[g_p]? = some (.cells (gcs p q g0) 28 (0, 0)) from FGB.out)
  go_wp2_with fail
  refine HT.out.mono ?_
  rintro e wx ⟨rfl, rfl⟩
  clear HT
  go_upto_region 3 with fail
  go_cut [14] (fun s14 wx => s14 = .bool true ∧ Hid (Below w0.heap.size w0 wx))
  case first =>
    refine wp_region_noPanic ?_
    refine Goes.region (fun (_ : Array Bool) (u : World) => u.heap[g_p]? = some (.cells (gcs p q g0) 28 (0, 0))) (by as_aux_lemma => kernel_rfl) ?_
    have HW := hid (p := Below w0.heap.size w0 w0.drew) (Below.refl _ _).drew
    have HB : Hid (w0.drew.heap[g_p]? = _) := hid HGB.out
    generalize w0.drew = w0d at *
    refine Goes.tk (i := 0) (o := ⟨some 10, _, _, _, _, _⟩) (v := ?_) [] (y := Or.inl ⟨by rfl, ?_⟩) (s := HB.out) (H := ?_)
    rotate_left
    · intro u hY; go_simp; try with_reducible rfl
    try simp only [putz]
    refine Goes.tk (i := 1) (o := ⟨some 11, _, _, _, _, _⟩) [] (y := Or.inl ⟨by rfl, fun u hY => y_ld _ _ rfl (.pointer (some ⟨g_p, 4, none⟩)) _ rfl ((ldN q 4 (yet_of hY) (four_at q _ 4 rfl rfl rfl rfl)).here)⟩) (s := HB.out) (H := ?_)
    try simp only [putz]
    refine Goes.one (i := 2) (o := ⟨some 12, _, _, _, _, _⟩) (by as_aux_lemma => kernel_rfl) rfl (fun K hK => ?_)
    go_simp
    refine (lof_at 3 3 (Env.refl w0d) (by decide) rfl).mono ?_
    rintro e w0_1 ⟨rfl, hb⟩
    have hb := hb.1
    go_wp2_with fail
    refine hK.out _ _ (onbk HB.out _ hb) ?_
    clear hK K
    try simp only [putz]
    have HB := hid (onbk HB.out _ hb)
    have HW := hid (HW.out.trans (hb.mono HW.out.size))
    clear hb
    refine Goes.one (i := 3) (o := ⟨some 13, _, _, _, _, _⟩) (by as_aux_lemma => kernel_rfl) rfl (fun K hK => ?_)
    go_simp
    refine (cmp_at q 3 c (Env.refl w0_1) HQ.out (by decide) HC.out).mono ?_
    rintro e w0_2 ⟨rfl, hb⟩
    have hb := hb.1
    go_wp2_with fail
    refine hK.out _ _ (onbk HB.out _ hb) ?_
    clear hK K
    try simp only [putz]
    have HB := hid (onbk HB.out _ hb)
    have HW := hid (HW.out.trans (hb.mono HW.out.size))
    clear hb
    refine Goes.tk (i := 4) (o := ⟨some 14, _, _, _, _, _⟩) (v := ?_) [] (y := Or.inl ⟨by rfl, ?_⟩) (s := HB.out) (H := ?_)
    rotate_left
    · intro u hY; have hcd := HCD.out; go_simp; try with_reducible rfl
    try simp only [putz]
    refine Goes.done (by as_aux_lemma => kernel_rfl) ?_ _
    refine NoPanic.normal ?_
    go_wp2
    go_meet
    exact ⟨by first | rfl | simp, hid HW.out⟩
  case rest =>
    obtain ⟨rfl, hcu⟩ := hcut
    have hb := hcu.out
    clear hcu
    have HB := hid (HB.out.trans (hb.mono HB.out.size))
    have FG := hid (FG.out.on hb)
    have FGp := hid (FGp.out.on hb)
    have FGq := hid (FGq.out.on hb)
    have FGg0 := hid (FGg0.out.on hb)
    have FGBx := hid (FGBx.out.on hb)
    have FZ := hid (FZ.out.on hb)
    clear hb
    have hE := env_one HB.out FZ.out.here
    obtain ⟨z0, z1, z2, z3⟩ := hE.cell g_z 0 (by simp)
    have zl := hE.lt g_z 0 (by simp)
    have zf := hE.frozen g_z 0 (by simp)
    have HZ := hid (hE.set g_z 0 (0) [] (by simp) (Nat.le_of_eq HZ0.out) (by simp))
    go_wp2
    clear hE z0 z1 z2 z3 zl zf 
    try rw [Exit.noGoto_ret]
    change bodyPost _ _ _ _ _ (fil wc g_z (0))
    generalize fil wc g_z (0) = wz at *
    obtain ⟨k0, k1, k2, k3⟩ := HZ.out.cell g_z (0) (by simp)
    exact bodyPost_ret (v := .tuple #[num (0), .int .i64 1]) (by simp [results, Tryd.results11, go_sem, k0, k1, k2, k3]) rfl ⟨rfl, by first | exact HFIN.out _ HZ.out.1 | (rw [hgp]; exact HFIN.out _ HZ.out.1)⟩
set_option maxRecDepth 100000 in
set_option maxHeartbeats 4000000 in
theorem expo_st (g n p q g0 : Nat) (bs : List UInt8) (w : World) (h : St w g bs n) (hb : bs.length = 32) (hn : n + 1 < 18446744073709551616) (hk : Kt w) (h2 : 2 ≠ g) (hq : q < 2 ^ 256) (h3 : ¬ q < 3) :
    Calls Tryd.prog 11 #[.pointer (some ⟨g, 0, none⟩), gv p q g0] w fun e w' => e = .returned (.tuple #[num (dexp q (dsum bs n)), .int .i64 0]) ∧ Hid (w.grownBy w' (some g) ∧ St w' g bs (n + 1)) := by
  have HL := hid hb
  have HN := hid hn
  have HK := hid hk
  have N2 := hid h2
  have HQ := hid hq
  have H1 := hid (show 1 < q by omega)
  obtain ⟨c, hc⟩ : ∃ c, cmpN q 3 = c := ⟨_, rfl⟩
  have HC := hid hc
  have HCD := hid (show decide (c < 0) = false by rcases cmp_three q with ⟨_, h1⟩ | ⟨h1, _⟩; exact absurd h1 h3; (rw [← hc]; exact decide_eq_false h1))
  have KL := hid (dsum_length bs n)
  obtain ⟨kk, hkk⟩ : ∃ kk, dsum bs n = kk := ⟨_, rfl⟩
  have KE := hid hkk
  rw [hkk] at KL ⊢
  obtain ⟨d, hd⟩ : ∃ d, dexp q kk = d := ⟨_, rfl⟩
  have DE := hid hd
  rw [hd]
  have HST := hid (fun u (hu : Below w.heap.size w u) => Sc.on h hu)
  have HLT := hid (Sc.lt h)
  clear h hq hc h3 hb hn hk h2 hkk hd
  have HGW := hid (fun u (hu : Below w.heap.size w u) => grown_of hu (some g))
  have hB0 := (Below.refl w.heap.size w).alloc (Nat.le_refl _) (.cells (gcs p q g0) 28)
  have hs0 : (w.alloc (.cells (gcs p q g0) 28)).heap.size = w.heap.size + 1 := sz1 _ _
  have f0 := heap_alloc_new w (.cells (gcs p q g0) 28)
  have HFIN : Hid (∀ u, Below (w.alloc (.cells (gcs p q g0) 28)).heap.size (w.alloc (.cells (gcs p q g0) 28)) u → Below w.heap.size w u) := hid (fun u hu => hB0.trans (hu.mono hB0.size))
  go_enter Tryd.func11, Tryd.ntmps11
  go_upto_region 1 with fail
  generalize w.alloc (.cells (gcs p q g0) 28) = W0 at *
  have hb1 := (Below.refl W0.heap.size W0).alloc (Nat.le_refl _) (.cells #[.int .u64 0, .int .u64 0, .int .u64 0, .int .u64 0] 26)
  have hz1 := heap_alloc_new W0 (.cells #[.int .u64 0, .int .u64 0, .int .u64 0, .int .u64 0] 26)
  rw [hs0] at hz1
  have HB := hid hb1
  have HZ0 : Hid (W0.heap.size = w.heap.size + 1) := hid hs0
  have HZW : Hid (w.heap.size < w.heap.size + 1) := hid (by omega)
  have FG := hid ((ldG p q g0 0 f0 (all_at _)).on hb1)
  have FGp := hid ((ldN p 0 f0 (four_at p _ 0 rfl rfl rfl rfl)).on hb1)
  have FGq := hid ((ldN q 4 f0 (four_at q _ 4 rfl rfl rfl rfl)).on hb1)
  have FGg0 := hid ((ldN g0 8 f0 (four_at g0 _ 8 rfl rfl rfl rfl)).on hb1)
  have FGB := hid (onbk f0 _ hb1)
  have FGBx := hid (onbk (onbk f0 _ hb1))
  have FZ : Hid (On (W0.alloc (.cells #[.int .u64 0, .int .u64 0, .int .u64 0, .int .u64 0] 26)) fun u => Nm u (w.heap.size + 1) 0) := hid (onNm (nm_zero hz1))
  clear hz1
  generalize W0.alloc (.cells #[.int .u64 0, .int .u64 0, .int .u64 0, .int .u64 0] 26) = w0 at *
  clear hB0 hs0 hb1 f0
  generalize w.heap.size + 1 = g_z at *
  generalize hgp : w.heap.size = g_p at *
  have HBW := hid (show Below _ w w0 from HFIN.out _ HB.out)
  have HSB := hid (HST.out w0 HBW.out)
  have HW0 := hid (HGW.out w0 HBW.out)
  have HGB := hid (show w0.heap[g_p]? = some (.cells (gcs p q g0) 28 (0, 0)) from FGB.out)
  have HTH := hid (sthere_any g true w0 (St.made HSB.out))
  have HFZ := hid (show w0.heap[g_z]? = some (.cells (cls 0) 26 (0, 0)) from FZ.out.here)
  have NPg := hid (show g_p ≠ g by have := HLT.out; omega)
  have NZg := hid (show g_z ≠ g by have := HLT.out; have := HZW.out; omega)
  have HGZ := hid (show w.heap.size ≤ g_z by have := HZW.out; omega)
  have NPZ := hid (show g_p ≠ g_z by have := HZW.out; omega)
  clear HST HGW
  go_wp2_with fail
  refine HTH.out.mono ?_
  rintro e wx ⟨rfl, rfl⟩
  clear HTH
  go_upto_region 3 with fail
  go_cut [14] (fun s14 wx => s14 = .bool false ∧ Hid (Below w0.heap.size w0 wx))
  case first =>
    refine wp_region_noPanic ?_
    refine Goes.region (fun (_ : Array Bool) (u : World) => u.heap[g_p]? = some (.cells (gcs p q g0) 28 (0, 0))) (by as_aux_lemma => kernel_rfl) ?_
    have HW := hid (p := Below w0.heap.size w0 w0.drew) (Below.refl _ _).drew
    have HB : Hid (w0.drew.heap[g_p]? = _) := hid HGB.out
    generalize w0.drew = w0d at *
    refine Goes.tk (i := 0) (o := ⟨some 10, _, _, _, _, _⟩) (v := ?_) [] (y := Or.inl ⟨by rfl, ?_⟩) (s := HB.out) (H := ?_)
    rotate_left
    · intro u hY; go_simp; try with_reducible rfl
    try simp only [putz]
    refine Goes.tk (i := 1) (o := ⟨some 11, _, _, _, _, _⟩) [] (y := Or.inl ⟨by rfl, fun u hY => y_ld _ _ rfl (.pointer (some ⟨g_p, 4, none⟩)) _ rfl ((ldN q 4 (yet_of hY) (four_at q _ 4 rfl rfl rfl rfl)).here)⟩) (s := HB.out) (H := ?_)
    try simp only [putz]
    refine Goes.one (i := 2) (o := ⟨some 12, _, _, _, _, _⟩) (by as_aux_lemma => kernel_rfl) rfl (fun K hK => ?_)
    go_simp
    refine (lof_at 3 3 (Env.refl w0d) (by decide) rfl).mono ?_
    rintro e w0_1 ⟨rfl, hb⟩
    have hb := hb.1
    go_wp2_with fail
    refine hK.out _ _ (onbk HB.out _ hb) ?_
    clear hK K
    try simp only [putz]
    have HB := hid (onbk HB.out _ hb)
    have HW := hid (HW.out.trans (hb.mono HW.out.size))
    clear hb
    refine Goes.one (i := 3) (o := ⟨some 13, _, _, _, _, _⟩) (by as_aux_lemma => kernel_rfl) rfl (fun K hK => ?_)
    go_simp
    refine (cmp_at q 3 c (Env.refl w0_1) HQ.out (by decide) HC.out).mono ?_
    rintro e w0_2 ⟨rfl, hb⟩
    have hb := hb.1
    go_wp2_with fail
    refine hK.out _ _ (onbk HB.out _ hb) ?_
    clear hK K
    try simp only [putz]
    have HB := hid (onbk HB.out _ hb)
    have HW := hid (HW.out.trans (hb.mono HW.out.size))
    clear hb
    refine Goes.tk (i := 4) (o := ⟨some 14, _, _, _, _, _⟩) (v := ?_) [] (y := Or.inl ⟨by rfl, ?_⟩) (s := HB.out) (H := ?_)
    rotate_left
    · intro u hY; have hcd := HCD.out; go_simp; try with_reducible rfl
    try simp only [putz]
    refine Goes.done (by as_aux_lemma => kernel_rfl) ?_ _
    refine NoPanic.normal ?_
    go_wp2
    go_meet
    exact ⟨by first | rfl | simp, hid HW.out⟩
  case rest =>
    obtain ⟨rfl, hcu⟩ := hcut
    have hb := hcu.out
    clear hcu
    have HGB := hid (onbk HGB.out _ hb)
    have HFZ := hid (onbk HFZ.out _ hb)
    have HSB := hid (Sc.on HSB.out hb)
    have HW0 := hid (gr_on HW0.out hb)
    clear hb HBW HB HFIN FG FGp FGq FGg0 FGB FZ
    go_upto_region 5 with fail
    refine wp_region_noPanic ?_
    refine Goes.region (fun (_ : Array Bool) (u : World) => u.heap[g_p]? = some (.cells (gcs p q g0) 28 (0, 0))) (by as_aux_lemma => kernel_rfl) ?_
    have HB : Hid (wc.drew.heap[g_p]? = _) := hid HGB.out
    have HS : Hid (St wc.drew g bs n) := hid HSB.out
    have HW : Hid (_) := hid (grown_drew HW0.out)
    have FZ : Hid (wc.drew.heap[g_z]? = _) := hid HFZ.out
    clear HGB HFZ HSB HW0
    generalize wc.drew = wcd at *
    refine Goes.tk (i := 0) (o := ⟨some 16, _, _, _, _, _⟩) (v := ?_) [] (y := Or.inl ⟨by rfl, ?_⟩) (s := HB.out) (H := ?_)
    rotate_left
    · intro u hY; go_simp; try with_reducible rfl
    try simp only [putz]
    refine Goes.tk (i := 1) (o := ⟨some 17, _, _, _, _, _⟩) [] (y := Or.inl ⟨by rfl, fun u hY => y_ld _ _ rfl (.pointer (some ⟨g_p, 4, none⟩)) _ rfl ((ldN q 4 (yet_of hY) (four_at q _ 4 rfl rfl rfl rfl)).here)⟩) (s := HB.out) (H := ?_)
    try simp only [putz]
    refine Goes.tk (i := 2) (o := ⟨some 18, _, _, _, _, _⟩) (v := ?_) [] (y := Or.inl ⟨by rfl, ?_⟩) (s := HB.out) (H := ?_)
    rotate_left
    · intro u hY; go_simp; try with_reducible rfl
    try simp only [putz]
    refine Goes.one (i := 3) (o := ⟨some 19, _, _, _, _, _⟩) (by as_aux_lemma => kernel_rfl) rfl (fun K hK => ?_)
    go_simp
    refine (next_st g n bs wcd HS.out HL.out HN.out (HK.out.grown HW.out N2.out) N2.out).mono ?_
    rintro e wc_1 ⟨rfl, hq⟩
    go_wp2_with fail
    refine hK.out _ _ (bk_grown HB.out hq.out.1 NPg.out) ?_
    clear hK K
    try simp only [putz]
    have HB := hid (bk_grown HB.out hq.out.1 NPg.out)
    have HW := hid (gr_put HW.out hq.out.1)
    have FZ := hid (bk_grown FZ.out hq.out.1 NZg.out)
    have HS := hid hq.out.2
    clear hq
    refine Goes.one (i := 4) (o := ⟨some 20, _, _, _, _, _⟩) (by as_aux_lemma => kernel_rfl) rfl (fun K hK => ?_)
    rw [KE.out]
    go_simp
    refine (exponent_any q kk wc_1 HQ.out H1.out KL.out (HK.out.grown HW.out N2.out)).mono ?_
    rintro e wc_2 ⟨rfl, hb⟩
    go_wp2_with fail
    refine hK.out _ _ (onbk HB.out _ hb) ?_
    clear hK K
    try simp only [putz]
    have HB := hid (onbk HB.out _ hb)
    have HW := hid (gr_on HW.out hb)
    have FZ := hid (onbk FZ.out _ hb)
    have HS := hid (Sc.on HS.out hb)
    clear hb
    rw [DE.out]
    refine Goes.one (i := 5) (o := ⟨none, _, _, _, _, _⟩) (by as_aux_lemma => kernel_rfl) rfl (fun K hK => ?_)
    rw [if_pos (by rfl)]
    refine wp_store_row 26 (.tmp 4) (.tmp 20) (by rfl) g_z (cls d) (by rfl) (by rfl) 26 _ FZ.out (inum d) rfl (clsall d) ?_
    have HWR := hid (gr_row HW.out HGZ.out (cls d))
    have HT := hid (nm_row FZ.out d)
    have HSR := hid (st_row HS.out NZg.out.symm (cls d))
    have HBR := hid ((setRow_other _ g_z g_p (cls d) NPZ.out).trans HB.out)
    refine hK.out _ _ HBR.out ?_
    clear hK K
    try simp only [putz]
    have HB := hid HBR.out
    refine Goes.tk (i := 6) (o := ⟨some 5, _, _, _, _, _⟩) (v := ?_) [] (y := Or.inl ⟨by rfl, ?_⟩) (s := HB.out) (H := ?_)
    rotate_left
    · intro u hY; go_simp; try with_reducible rfl
    try simp only [putz]
    refine Goes.done (by as_aux_lemma => kernel_rfl) ?_ _
    refine NoPanic.normal ?_
    go_wp2
    obtain ⟨k0, k1, k2, k3⟩ := HT.out.cell
    exact bodyPost_ret (v := .tuple #[num d, .int .i64 0]) (by simp [results, Tryd.results11, go_sem, k0, k1, k2, k3]) rfl ⟨rfl, hid ⟨HWR.out, HSR.out⟩⟩
end Go.Proofs.YtcijnoapjicliaaDoor
namespace Go.Proofs.YtcijnoapjicliaaDoor
open Go.RowKit
set_option linter.unusedVariables false
set_option linter.unusedSimpArgs false

theorem z32_length : z32.length = 32 := rfl
theorem lit32z : (bvs z32).toArray = #[.int .u8 0, .int .u8 0, .int .u8 0, .int .u8 0, .int .u8 0, .int .u8 0, .int .u8 0, .int .u8 0, .int .u8 0, .int .u8 0, .int .u8 0, .int .u8 0, .int .u8 0, .int .u8 0, .int .u8 0, .int .u8 0, .int .u8 0, .int .u8 0, .int .u8 0, .int .u8 0, .int .u8 0, .int .u8 0, .int .u8 0, .int .u8 0, .int .u8 0, .int .u8 0, .int .u8 0, .int .u8 0, .int .u8 0, .int .u8 0, .int .u8 0, .int .u8 0] := rfl
theorem first_in : sha (xr (kof z32) 54 ++ (drawT ++ be 0 8)) = [98, 38, 48, 166, 41, 203, 120, 131, 45, 200, 1, 78, 15, 231, 251, 134, 29, 247, 221, 10, 206, 32, 53, 89, 246, 154, 237, 71, 159, 167, 252, 43] := by decide +kernel
theorem first_out : sha (xr (kof z32) 92 ++ [98, 38, 48, 166, 41, 203, 120, 131, 45, 200, 1, 78, 15, 231, 251, 134, 29, 247, 221, 10, 206, 32, 53, 89, 246, 154, 237, 71, 159, 167, 252, 43]) = [246, 151, 184, 129, 38, 249, 95, 62, 252, 182, 181, 160, 122, 119, 2, 19, 161, 157, 123, 3, 40, 189, 214, 168, 20, 74, 82, 189, 177, 198, 181, 191] := by decide +kernel
/-- the first sum of noughts -/
theorem first_sum : dsum z32 0 = [246, 151, 184, 129, 38, 249, 95, 62, 252, 182, 181, 160, 122, 119, 2, 19, 161, 157, 123, 3, 40, 189, 214, 168, 20, 74, 82, 189, 177, 198, 181, 191] := by unfold dsum hm; rw [first_in, first_out]
theorem first_ne : ¬ dsum z32 0 = z32 := by rw [first_sum]; decide
theorem gl_two : (.agg #[.int .u64 0, .int .u64 0, .int .u64 0, .int .u64 0, .int .u64 2, .int .u64 0, .int .u64 0, .int .u64 0, .int .u64 0, .int .u64 0, .int .u64 0, .int .u64 0] : Value) = gv 0 2 0 := by kernel_rfl
theorem gl_three : (.agg #[.int .u64 0, .int .u64 0, .int .u64 0, .int .u64 0, .int .u64 3, .int .u64 0, .int .u64 0, .int .u64 0, .int .u64 0, .int .u64 0, .int .u64 0, .int .u64 0] : Value) = gv 0 3 0 := by kernel_rfl
theorem gl_none : (.agg #[.int .u64 0, .int .u64 0, .int .u64 0, .int .u64 0, .int .u64 0, .int .u64 0, .int .u64 0, .int .u64 0, .int .u64 0, .int .u64 0, .int .u64 0, .int .u64 0] : Value) = gv 0 0 0 := by kernel_rfl
theorem drawn_ex (g n : Nat) (z : Int) (bs : List UInt8) (w : World) (h : St w g bs n) (hb : bs.length = 32) (hz : (n : Int) = z) : Calls Tryd.prog 15 #[.pointer (some ⟨g, 0, none⟩)] w fun e w' => e = .returned (.int .u64 z) ∧ w = w' := hz ▸ drawn_st g n bs w h hb
theorem new0 (w : World) : Calls Tryd.prog 9 #[.agg #[.int .u8 0, .int .u8 0, .int .u8 0, .int .u8 0, .int .u8 0, .int .u8 0, .int .u8 0, .int .u8 0, .int .u8 0, .int .u8 0, .int .u8 0, .int .u8 0, .int .u8 0, .int .u8 0, .int .u8 0, .int .u8 0, .int .u8 0, .int .u8 0, .int .u8 0, .int .u8 0, .int .u8 0, .int .u8 0, .int .u8 0, .int .u8 0, .int .u8 0, .int .u8 0, .int .u8 0, .int .u8 0, .int .u8 0, .int .u8 0, .int .u8 0, .int .u8 0]] w fun e w' => ∃ g, e = .returned (.pointer (some ⟨g, 0, none⟩)) ∧ Hid (w.heap.size ≤ g ∧ St w' g z32 0 ∧ Below w.heap.size w w') := by
  rw [← lit32z]; exact new_st z32 w rfl
theorem ex2 (g n : Nat) (bs : List UInt8) (w : World) (h : St w g bs n) : Calls Tryd.prog 11 #[.pointer (some ⟨g, 0, none⟩), .agg #[.int .u64 0, .int .u64 0, .int .u64 0, .int .u64 0, .int .u64 2, .int .u64 0, .int .u64 0, .int .u64 0, .int .u64 0, .int .u64 0, .int .u64 0, .int .u64 0]] w fun e w' => e = .returned (.tuple #[num 0, .int .i64 1]) ∧ Below w.heap.size w w' := by
  rw [gl_two]; exact expo_small g n 0 2 0 bs w h (by decide) (by decide)
theorem ex3 (g n d : Nat) (bs kk : List UInt8) (w : World) (h : St w g bs n) (hb : bs.length = 32) (hn : n + 1 < 18446744073709551616) (hk : Kt w) (h2 : 2 ≠ g) (hkk : dsum bs n = kk) (hd : dexp 3 kk = d) : Calls Tryd.prog 11 #[.pointer (some ⟨g, 0, none⟩), .agg #[.int .u64 0, .int .u64 0, .int .u64 0, .int .u64 0, .int .u64 3, .int .u64 0, .int .u64 0, .int .u64 0, .int .u64 0, .int .u64 0, .int .u64 0, .int .u64 0]] w fun e w' => e = .returned (.tuple #[num d, .int .i64 0]) ∧ Hid (w.grownBy w' (some g) ∧ St w' g bs (n + 1)) := by
  rw [gl_three, ← hd, ← hkk]; exact expo_st g n 0 3 0 bs w h hb hn hk h2 (by decide) (by decide)
theorem ex0 (w : World) : Calls Tryd.prog 11 #[.pointer none, .agg #[.int .u64 0, .int .u64 0, .int .u64 0, .int .u64 0, .int .u64 0, .int .u64 0, .int .u64 0, .int .u64 0, .int .u64 0, .int .u64 0, .int .u64 0, .int .u64 0]] w fun e w' => e = .returned (.tuple #[num 0, .int .i64 2]) ∧ Below w.heap.size w w' := by
  rw [gl_none]; exact expo_no _ 0 0 0 w (nos_none w)
set_option maxRecDepth 100000 in
set_option maxHeartbeats 4000000 in
theorem lives11_any (w : World) (hk : Kt w) : Calls Tryd.prog 8 #[] w fun e w' => e = .returned (.bool true) ∧ Below w.heap.size w w' := by
  have HK := hid hk
  have HB := hid (Below.refl w.heap.size w)
  have HL := hid z32_length
  obtain ⟨k0, hk0⟩ : ∃ k0, dsum z32 0 = k0 := ⟨_, rfl⟩
  have KE0 := hid hk0
  have KLk0 : Hid (k0.length = 32) := hid (by rw [← hk0]; exact dsum_length _ _)
  have KN := hid (show ¬ k0 = z32 by rw [← hk0]; exact first_ne)
  obtain ⟨k1, hk1⟩ : ∃ k1, dsum z32 1 = k1 := ⟨_, rfl⟩
  have KE1 := hid hk1
  obtain ⟨d, hd⟩ : ∃ d, dexp 3 k1 = d := ⟨_, rfl⟩
  have DE := hid hd
  have HD := hid (show d = 1 ∨ d = 2 by have a := dexp_lt 3 k1 (by decide); have b := dexp_pos 3 k1; omega)
  clear hk hk0 hk1 hd
  go_enter Tryd.func8, Tryd.ntmps8
  go_wp2_with fail
  refine (new0 w).mono ?_
  rintro e w1 ⟨g_a, rfl, hq⟩
  have hb := hq.out.2.2
  have HGa := hid (Nat.le_trans HB.out.size hq.out.1)
  have N2a := hid (show 2 ≠ g_a by have := HK.out.lt; have := hq.out.1; omega)
  have HB := hid (HB.out.trans (hb.mono HB.out.size))
  have HK := hid (HK.out.on hb)
  have HSa := hid hq.out.2.1
  clear hb hq
  go_wp2_with fail
  refine (drawn_ex g_a 0 0 z32 _ HSa.out HL.out rfl).mono ?_
  rintro e wx ⟨rfl, rfl⟩
  go_wp2_with fail
  refine (next_st g_a 0 z32 _ HSa.out HL.out (by decide) HK.out N2a.out).mono ?_
  rintro e w2 ⟨rfl, hq⟩
  have hg := hq.out.1
  have HB := hid (below_gr HB.out hg HGa.out)
  have HK := hid (HK.out.grown hg N2a.out)
  have HSa := hid hq.out.2
  clear hg hq
  rw [KE0.out]
  go_upto_region 4 with (refine wpList_store_row rfl 23 (.tmp 3) (.tmp 18) rfl w2.heap.size (bvs k0).toArray rfl rfl 23 _ (heap_alloc_new _ _) (hi44 k0 KLk0.out).out (ho32 k0 KLk0.out).out (bvs_all _) ?_; rw [World.setRow_alloc_new])
  have hb := (Below.refl w2.heap.size w2).alloc (Nat.le_refl _) (.cells (bvs k0).toArray 23)
  have hn := heap_alloc_new w2 (.cells (bvs k0).toArray 23)
  have NXxa := hid (show w2.heap.size ≠ g_a by have := Sc.lt HSa.out; omega)
  have HB := hid (HB.out.trans (hb.mono HB.out.size))
  have HK := hid (HK.out.on hb)
  have HSa := hid (Sc.on HSa.out hb)
  have HXx := hid hn
  clear hb hn
  generalize w2.alloc (.cells (bvs k0).toArray 23) = w3 at *
  generalize w2.heap.size = g_x at *
  go_wp2_with fail
  refine (drawn_ex g_a 1 1 z32 _ HSa.out HL.out rfl).mono ?_
  rintro e wx ⟨rfl, rfl⟩
  go_wp2_with fail
  refine (ex2 g_a 1 z32 _ HSa.out).mono ?_
  rintro e w4 ⟨rfl, hb⟩
  have HB := hid (HB.out.trans (hb.mono HB.out.size))
  have HK := hid (HK.out.on hb)
  have HSa := hid (Sc.on HSa.out hb)
  have HXx := hid (onbk HXx.out _ hb)
  clear hb
  go_upto_region 6 with fail
  have hb := (Below.refl w4.heap.size w4).alloc (Nat.le_refl _) (.cells (cls 0) 26)
  have hn := heap_alloc_new w4 (.cells (cls 0) 26)
  have NXma := hid (show w4.heap.size ≠ g_a by have := Sc.lt HSa.out; omega)
  have HB := hid (HB.out.trans (hb.mono HB.out.size))
  have HK := hid (HK.out.on hb)
  have HSa := hid (Sc.on HSa.out hb)
  have HXx := hid (onbk HXx.out _ hb)
  have HXm := hid hn
  clear hb hn
  generalize w4.alloc (.cells (cls 0) 26) = w5 at *
  generalize w4.heap.size = g_m at *
  go_wp2_with fail
  refine (drawn_ex g_a 1 1 z32 _ HSa.out HL.out rfl).mono ?_
  rintro e wx ⟨rfl, rfl⟩
  go_wp2_with fail
  refine (ex3 g_a 1 d z32 k1 _ HSa.out HL.out (by decide) HK.out N2a.out KE1.out DE.out).mono ?_
  rintro e w6 ⟨rfl, hq⟩
  have hg := hq.out.1
  have HB := hid (below_gr HB.out hg HGa.out)
  have HK := hid (HK.out.grown hg N2a.out)
  have HXx := hid (bk_grown HXx.out hg NXxa.out)
  have HXm := hid (bk_grown HXm.out hg NXma.out)
  have HSa := hid hq.out.2
  clear hg hq
  go_upto_region 8 with fail
  have hb := (Below.refl w6.heap.size w6).alloc (Nat.le_refl _) (.cells (cls d) 26)
  have hn := heap_alloc_new w6 (.cells (cls d) 26)
  have NXna := hid (show w6.heap.size ≠ g_a by have := Sc.lt HSa.out; omega)
  have HB := hid (HB.out.trans (hb.mono HB.out.size))
  have HK := hid (HK.out.on hb)
  have HSa := hid (Sc.on HSa.out hb)
  have HXx := hid (onbk HXx.out _ hb)
  have HXm := hid (onbk HXm.out _ hb)
  have HXn := hid hn
  clear hb hn
  generalize w6.alloc (.cells (cls d) 26) = w7 at *
  generalize w6.heap.size = g_n at *
  go_wp2_with fail
  refine (ex0 _).mono ?_
  rintro e w8 ⟨rfl, hb⟩
  have HB := hid (HB.out.trans (hb.mono HB.out.size))
  have HK := hid (HK.out.on hb)
  have HSa := hid (Sc.on HSa.out hb)
  have HXx := hid (onbk HXx.out _ hb)
  have HXm := hid (onbk HXm.out _ hb)
  have HXn := hid (onbk HXn.out _ hb)
  clear hb
  go_upto_region 10 with fail
  have hb := (Below.refl w8.heap.size w8).alloc (Nat.le_refl _) (.cells (cls 0) 26)
  have hn := heap_alloc_new w8 (.cells (cls 0) 26)
  have NXoa := hid (show w8.heap.size ≠ g_a by have := Sc.lt HSa.out; omega)
  have HB := hid (HB.out.trans (hb.mono HB.out.size))
  have HK := hid (HK.out.on hb)
  have HSa := hid (Sc.on HSa.out hb)
  have HXx := hid (onbk HXx.out _ hb)
  have HXm := hid (onbk HXm.out _ hb)
  have HXn := hid (onbk HXn.out _ hb)
  have HXo := hid hn
  clear hb hn
  generalize w8.alloc (.cells (cls 0) 26) = w9 at *
  generalize w8.heap.size = g_o at *
  rcases HD.out with hdd | hdd
  · have HDD := hid hdd
    clear hdd HK HL KE0 KE1 DE HD
    refine wp_region_noPanic ?_
    refine Goes.region (fun (_ : Array Bool) (u : World) => u.heap[g_n]? = some (.cells (cls d) 26 (0, 0)) ∧ u.heap[g_x]? = some (.cells (bvs k0).toArray 23 (0, 0))) (by as_aux_lemma => kernel_rfl) ?_
    have HU : Hid (w9.drew.heap[g_n]? = some (.cells (cls d) 26 (0, 0)) ∧ w9.drew.heap[g_x]? = some (.cells (bvs k0).toArray 23 (0, 0))) := hid ⟨HXn.out, HXx.out⟩
    have HW := hid (HB.out.drew)
    generalize w9.drew = w9d at *
    refine Goes.tk (i := 0) (o := ⟨some 43, _, _, _, _, _⟩) (v := ?_) [] (y := Or.inl ⟨by rfl, ?_⟩) (s := HU.out) (H := ?_)
    rotate_left
    · intro u hY; go_simp; try with_reducible rfl
    try simp only [putz]
    refine Goes.tk (i := 1) (o := ⟨some 44, _, _, _, _, _⟩) (v := ?_) [] (y := Or.inl ⟨by rfl, ?_⟩) (s := HU.out) (H := ?_)
    rotate_left
    · intro u hY; go_simp; try with_reducible rfl
    try simp only [putz]
    refine Goes.tk (i := 2) (o := ⟨some 45, _, _, _, _, _⟩) (v := ?_) [] (y := Or.inl ⟨by rfl, ?_⟩) (s := HU.out) (H := ?_)
    rotate_left
    · intro u hY; go_simp; try with_reducible rfl
    try simp only [putz]
    refine Goes.tk (i := 3) (o := ⟨some 46, _, _, _, _, _⟩) (v := ?_) [] (y := Or.inl ⟨by rfl, ?_⟩) (s := HU.out) (H := ?_)
    rotate_left
    · intro u hY; go_simp; try with_reducible rfl
    try simp only [putz]
    refine Goes.tk (i := 4) (o := ⟨some 47, _, _, _, _, _⟩) (v := ?_) [] (y := Or.inl ⟨by rfl, ?_⟩) (s := HU.out) (H := ?_)
    rotate_left
    · intro u hY; go_simp; try with_reducible rfl
    try simp only [putz]
    refine Goes.tk (i := 5) (o := ⟨some 48, _, _, _, _, _⟩) (v := ?_) [] (y := Or.inl ⟨by rfl, ?_⟩) (s := HU.out) (H := ?_)
    rotate_left
    · intro u hY; go_simp; try with_reducible rfl
    try simp only [putz]
    refine Goes.tk (i := 6) (o := ⟨some 49, _, _, _, _, _⟩) (v := ?_) [] (y := Or.inl ⟨by rfl, ?_⟩) (s := HU.out) (H := ?_)
    rotate_left
    · intro u hY; go_simp; try with_reducible rfl
    try simp only [putz]
    refine Goes.tk (i := 7) (o := ⟨some 50, _, _, _, _, _⟩) (v := ?_) [] (y := Or.inl ⟨by rfl, ?_⟩) (s := HU.out) (H := ?_)
    rotate_left
    · intro u hY; go_simp; try with_reducible rfl
    try simp only [putz]
    refine Goes.tk (i := 8) (o := ⟨some 51, _, _, _, _, _⟩) (v := ?_) [] (y := Or.inl ⟨by rfl, ?_⟩) (s := HU.out) (H := ?_)
    rotate_left
    · intro u hY; go_simp; try with_reducible rfl
    try simp only [putz]
    refine Goes.tk (i := 9) (o := ⟨some 52, _, _, _, _, _⟩) (v := ?_) [] (y := Or.inl ⟨by rfl, ?_⟩) (s := HU.out) (H := ?_)
    rotate_left
    · intro u hY; go_simp; try with_reducible rfl
    try simp only [putz]
    refine Goes.tk (i := 10) (o := ⟨some 53, _, _, _, _, _⟩) (v := ?_) [] (y := Or.inl ⟨by rfl, ?_⟩) (s := HU.out) (H := ?_)
    rotate_left
    · intro u hY; go_simp; try with_reducible rfl
    try simp only [putz]
    refine Goes.tk (i := 11) (o := ⟨some 54, _, _, _, _, _⟩) (v := ?_) [] (y := Or.inl ⟨by rfl, ?_⟩) (s := HU.out) (H := ?_)
    rotate_left
    · intro u hY; go_simp; try with_reducible rfl
    try simp only [putz]
    refine Goes.tk (i := 12) (o := ⟨some 55, _, _, _, _, _⟩) (v := ?_) [] (y := Or.inl ⟨by rfl, ?_⟩) (s := HU.out) (H := ?_)
    rotate_left
    · intro u hY; go_simp; try with_reducible rfl
    try simp only [putz]
    refine Goes.tk (i := 13) (o := ⟨some 56, _, _, _, _, _⟩) (v := ?_) [] (y := Or.inl ⟨by rfl, ?_⟩) (s := HU.out) (H := ?_)
    rotate_left
    · intro u hY; go_simp; try with_reducible rfl
    try simp only [putz]
    refine Goes.tk (i := 14) (o := ⟨some 57, _, _, _, _, _⟩) (v := ?_) [] (y := Or.inl ⟨by rfl, ?_⟩) (s := HU.out) (H := ?_)
    rotate_left
    · intro u hY; go_simp; try with_reducible rfl
    try simp only [putz]
    refine Goes.tk (i := 15) (o := ⟨some 58, _, _, _, _, _⟩) (v := ?_) [] (y := Or.inl ⟨by rfl, ?_⟩) (s := HU.out) (H := ?_)
    rotate_left
    · intro u hY; go_simp; try with_reducible rfl
    try simp only [putz]
    refine Goes.tk (i := 16) (o := ⟨some 59, _, _, _, _, _⟩) (v := ?_) [] (y := Or.inl ⟨by rfl, ?_⟩) (s := HU.out) (H := ?_)
    rotate_left
    · intro u hY; go_simp; try with_reducible rfl
    try simp only [putz]
    refine Goes.tk (i := 17) (o := ⟨some 60, _, _, _, _, _⟩) (v := ?_) [] (y := Or.inl ⟨by rfl, ?_⟩) (s := HU.out) (H := ?_)
    rotate_left
    · intro u hY; go_simp; try with_reducible rfl
    try simp only [putz]
    refine Goes.tk (i := 18) (o := ⟨some 61, _, _, _, _, _⟩) (v := ?_) [] (y := Or.inl ⟨by rfl, ?_⟩) (s := HU.out) (H := ?_)
    rotate_left
    · intro u hY; go_simp; try with_reducible rfl
    try simp only [putz]
    refine Goes.tk (i := 19) (o := ⟨some 62, _, _, _, _, _⟩) [] (y := Or.inl ⟨by rfl, fun u hY => y_ld _ _ rfl (.pointer (some ⟨g_n, 0, none⟩)) _ rfl ((ldN d 0 (yet_of hY).1 (all_at _)).here)⟩) (s := HU.out) (H := ?_)
    try simp only [putz]
    refine Goes.one (i := 20) (o := ⟨some 63, _, _, _, _, _⟩) (by as_aux_lemma => kernel_rfl) rfl (fun K hK => ?_)
    rw [if_pos (by kernel_rfl)]
    go_simp
    refine (lof_at 1 1 (Env.refl _) (by decide) rfl).mono ?_
    rintro e w9d1 ⟨rfl, hb⟩
    have hb := hb.1
    go_wp2_with fail
    refine hK.out _ _ ⟨onbk HU.out.1 _ hb, onbk HU.out.2 _ hb⟩ ?_
    have HU := hid (And.intro (onbk HU.out.1 _ hb) (onbk HU.out.2 _ hb))
    have HW := hid (HW.out.trans (hb.mono HW.out.size))
    clear hb
    clear hK K
    try simp only [putz]
    refine Goes.tk (i := 21) (o := ⟨some 64, _, _, _, _, _⟩) (v := ?_) [] (y := Or.inl ⟨by rfl, ?_⟩) (s := HU.out) (H := ?_)
    rotate_left
    · intro u hY; have hq : ∀ W, (Op.equalIn 10000 26 (num d) (num 1)).run Tryd.prog W = .ok true W := fun W => eq_yes d 1 HDD.out W; go_simp; try with_reducible rfl
    try simp only [putz]
    refine Goes.tk (i := 22) (o := ⟨some 65, _, _, _, _, _⟩) (v := ?_) [] (y := Or.inl ⟨by rfl, ?_⟩) (s := HU.out) (H := ?_)
    rotate_left
    · intro u hY; go_simp; try with_reducible rfl
    try simp only [putz]
    refine Goes.tk (i := 23) (o := ⟨some 66, _, _, _, _, _⟩) (v := undef) [] (y := Or.inr ⟨by rfl, rfl⟩) (s := HU.out) (H := ?_)
    try simp only [putz]
    refine Goes.tk (i := 24) (o := ⟨some 67, _, _, _, _, _⟩) (v := undef) [] (y := Or.inr ⟨by rfl, rfl⟩) (s := HU.out) (H := ?_)
    try simp only [putz]
    refine Goes.tk (i := 25) (o := ⟨some 68, _, _, _, _, _⟩) (v := undef) [] (y := Or.inr ⟨by rfl, rfl⟩) (s := HU.out) (H := ?_)
    try simp only [putz]
    refine Goes.tk (i := 26) (o := ⟨some 69, _, _, _, _, _⟩) (v := ?_) [] (y := Or.inl ⟨by rfl, ?_⟩) (s := HU.out) (H := ?_)
    rotate_left
    · intro u hY; go_simp; try with_reducible rfl
    try simp only [putz]
    refine Goes.tk (i := 27) (o := ⟨some 70, _, _, _, _, _⟩) (v := ?_) [] (y := Or.inl ⟨by rfl, ?_⟩) (s := HU.out) (H := ?_)
    rotate_left
    · intro u hY; go_simp; try with_reducible rfl
    try simp only [putz]
    refine Goes.tk (i := 28) (o := ⟨some 71, _, _, _, _, _⟩) (v := ?_) [] (y := Or.inl ⟨by rfl, ?_⟩) (s := HU.out) (H := ?_)
    rotate_left
    · intro u hY; go_simp; try with_reducible rfl
    try simp only [putz]
    refine Goes.tk (i := 29) (o := ⟨some 72, _, _, _, _, _⟩) [] (y := Or.inl ⟨by rfl, fun u hY => y_ld _ _ rfl (.pointer (some ⟨g_x, 0, none⟩)) _ rfl ((ldS k0 KLk0.out 0 (yet_of hY).2 (fun j v h => by rw [Nat.zero_add]; simpa using h)).here)⟩) (s := HU.out) (H := ?_)
    try simp only [putz]
    refine Goes.tk (i := 30) (o := ⟨some 73, _, _, _, _, _⟩) (v := ?_) [] (y := Or.inl ⟨by rfl, ?_⟩) (s := HU.out) (H := ?_)
    rotate_left
    · intro u hY; go_simp; try with_reducible rfl
    try simp only [putz]
    refine Goes.tk (i := 31) (o := ⟨some 74, _, _, _, _, _⟩) (v := ?_) [] (y := Or.inl ⟨by rfl, ?_⟩) (s := HU.out) (H := ?_)
    rotate_left
    · intro u hY; have hq : ∀ W, (Op.equalIn 10000 23 (.agg (bvs k0).toArray) (.agg (bvs z32).toArray)).run Tryd.prog W = .ok false W := fun W => (by rw [eq_sum k0 z32 KLk0.out rfl W, decide_eq_false KN.out]); rw [lit32z] at hq; go_simp; try with_reducible rfl
    try simp only [putz]
    refine Goes.tk (i := 32) (o := ⟨some 75, _, _, _, _, _⟩) (v := ?_) [] (y := Or.inl ⟨by rfl, ?_⟩) (s := HU.out) (H := ?_)
    rotate_left
    · intro u hY; go_simp; try with_reducible rfl
    try simp only [putz]
    refine Goes.tk (i := 33) (o := ⟨some 76, _, _, _, _, _⟩) (v := ?_) [] (y := Or.inl ⟨by rfl, ?_⟩) (s := HU.out) (H := ?_)
    rotate_left
    · intro u hY; go_simp; try with_reducible rfl
    try simp only [putz]
    refine Goes.tk (i := 34) (o := ⟨some 77, _, _, _, _, _⟩) (v := ?_) [] (y := Or.inl ⟨by rfl, ?_⟩) (s := HU.out) (H := ?_)
    rotate_left
    · intro u hY; go_simp; try with_reducible rfl
    try simp only [putz]
    refine Goes.tk (i := 35) (o := ⟨some 78, _, _, _, _, _⟩) (v := ?_) [] (y := Or.inl ⟨by rfl, ?_⟩) (s := HU.out) (H := ?_)
    rotate_left
    · intro u hY; go_simp; try with_reducible rfl
    try simp only [putz]
    refine Goes.tk (i := 36) (o := ⟨some 79, _, _, _, _, _⟩) (v := ?_) [] (y := Or.inl ⟨by rfl, ?_⟩) (s := HU.out) (H := ?_)
    rotate_left
    · intro u hY; go_simp; try with_reducible rfl
    try simp only [putz]
    refine Goes.tk (i := 37) (o := ⟨some 80, _, _, _, _, _⟩) (v := ?_) [] (y := Or.inl ⟨by rfl, ?_⟩) (s := HU.out) (H := ?_)
    rotate_left
    · intro u hY; go_simp; try with_reducible rfl
    try simp only [putz]
    refine Goes.tk (i := 38) (o := ⟨some 81, _, _, _, _, _⟩) (v := ?_) [] (y := Or.inl ⟨by rfl, ?_⟩) (s := HU.out) (H := ?_)
    rotate_left
    · intro u hY; go_simp; try with_reducible rfl
    try simp only [putz]
    refine Goes.one (i := 39) (o := ⟨some 82, _, _, _, _, _⟩) (by as_aux_lemma => kernel_rfl) rfl (fun K hK => ?_)
    rw [if_pos (by kernel_rfl)]
    go_simp
    refine (drawn_no _ _ (nos_none _)).mono ?_
    rintro e wx ⟨rfl, rfl⟩
    go_wp2_with fail
    refine hK.out _ _ HU.out ?_
    clear hK K
    try simp only [putz]
    refine Goes.tk (i := 40) (o := ⟨some 83, _, _, _, _, _⟩) (v := ?_) [] (y := Or.inl ⟨by rfl, ?_⟩) (s := HU.out) (H := ?_)
    rotate_left
    · intro u hY; go_simp; try with_reducible rfl
    try simp only [putz]
    refine Goes.tk (i := 41) (o := ⟨some 84, _, _, _, _, _⟩) (v := ?_) [] (y := Or.inl ⟨by rfl, ?_⟩) (s := HU.out) (H := ?_)
    rotate_left
    · intro u hY; go_simp; try with_reducible rfl
    try simp only [putz]
    refine Goes.tk (i := 42) (o := ⟨some 0, _, _, _, _, _⟩) (v := ?_) [] (y := Or.inl ⟨by rfl, ?_⟩) (s := HU.out) (H := ?_)
    rotate_left
    · intro u hY; go_simp; try with_reducible rfl
    try simp only [putz]
    refine Goes.done (by as_aux_lemma => kernel_rfl) ?_ _
    refine NoPanic.normal ?_
    go_wp2
    go_ret
    exact ⟨rfl, HW.out⟩
  · have HDD := hid hdd
    clear hdd HK HL KE0 KE1 DE HD
    refine wp_region_noPanic ?_
    refine Goes.region (fun (_ : Array Bool) (u : World) => u.heap[g_n]? = some (.cells (cls d) 26 (0, 0)) ∧ u.heap[g_x]? = some (.cells (bvs k0).toArray 23 (0, 0))) (by as_aux_lemma => kernel_rfl) ?_
    have HU : Hid (w9.drew.heap[g_n]? = some (.cells (cls d) 26 (0, 0)) ∧ w9.drew.heap[g_x]? = some (.cells (bvs k0).toArray 23 (0, 0))) := hid ⟨HXn.out, HXx.out⟩
    have HW := hid (HB.out.drew)
    generalize w9.drew = w9d at *
    refine Goes.tk (i := 0) (o := ⟨some 43, _, _, _, _, _⟩) (v := ?_) [] (y := Or.inl ⟨by rfl, ?_⟩) (s := HU.out) (H := ?_)
    rotate_left
    · intro u hY; go_simp; try with_reducible rfl
    try simp only [putz]
    refine Goes.tk (i := 1) (o := ⟨some 44, _, _, _, _, _⟩) (v := ?_) [] (y := Or.inl ⟨by rfl, ?_⟩) (s := HU.out) (H := ?_)
    rotate_left
    · intro u hY; go_simp; try with_reducible rfl
    try simp only [putz]
    refine Goes.tk (i := 2) (o := ⟨some 45, _, _, _, _, _⟩) (v := ?_) [] (y := Or.inl ⟨by rfl, ?_⟩) (s := HU.out) (H := ?_)
    rotate_left
    · intro u hY; go_simp; try with_reducible rfl
    try simp only [putz]
    refine Goes.tk (i := 3) (o := ⟨some 46, _, _, _, _, _⟩) (v := ?_) [] (y := Or.inl ⟨by rfl, ?_⟩) (s := HU.out) (H := ?_)
    rotate_left
    · intro u hY; go_simp; try with_reducible rfl
    try simp only [putz]
    refine Goes.tk (i := 4) (o := ⟨some 47, _, _, _, _, _⟩) (v := ?_) [] (y := Or.inl ⟨by rfl, ?_⟩) (s := HU.out) (H := ?_)
    rotate_left
    · intro u hY; go_simp; try with_reducible rfl
    try simp only [putz]
    refine Goes.tk (i := 5) (o := ⟨some 48, _, _, _, _, _⟩) (v := ?_) [] (y := Or.inl ⟨by rfl, ?_⟩) (s := HU.out) (H := ?_)
    rotate_left
    · intro u hY; go_simp; try with_reducible rfl
    try simp only [putz]
    refine Goes.tk (i := 6) (o := ⟨some 49, _, _, _, _, _⟩) (v := ?_) [] (y := Or.inl ⟨by rfl, ?_⟩) (s := HU.out) (H := ?_)
    rotate_left
    · intro u hY; go_simp; try with_reducible rfl
    try simp only [putz]
    refine Goes.tk (i := 7) (o := ⟨some 50, _, _, _, _, _⟩) (v := ?_) [] (y := Or.inl ⟨by rfl, ?_⟩) (s := HU.out) (H := ?_)
    rotate_left
    · intro u hY; go_simp; try with_reducible rfl
    try simp only [putz]
    refine Goes.tk (i := 8) (o := ⟨some 51, _, _, _, _, _⟩) (v := ?_) [] (y := Or.inl ⟨by rfl, ?_⟩) (s := HU.out) (H := ?_)
    rotate_left
    · intro u hY; go_simp; try with_reducible rfl
    try simp only [putz]
    refine Goes.tk (i := 9) (o := ⟨some 52, _, _, _, _, _⟩) (v := ?_) [] (y := Or.inl ⟨by rfl, ?_⟩) (s := HU.out) (H := ?_)
    rotate_left
    · intro u hY; go_simp; try with_reducible rfl
    try simp only [putz]
    refine Goes.tk (i := 10) (o := ⟨some 53, _, _, _, _, _⟩) (v := ?_) [] (y := Or.inl ⟨by rfl, ?_⟩) (s := HU.out) (H := ?_)
    rotate_left
    · intro u hY; go_simp; try with_reducible rfl
    try simp only [putz]
    refine Goes.tk (i := 11) (o := ⟨some 54, _, _, _, _, _⟩) (v := ?_) [] (y := Or.inl ⟨by rfl, ?_⟩) (s := HU.out) (H := ?_)
    rotate_left
    · intro u hY; go_simp; try with_reducible rfl
    try simp only [putz]
    refine Goes.tk (i := 12) (o := ⟨some 55, _, _, _, _, _⟩) (v := ?_) [] (y := Or.inl ⟨by rfl, ?_⟩) (s := HU.out) (H := ?_)
    rotate_left
    · intro u hY; go_simp; try with_reducible rfl
    try simp only [putz]
    refine Goes.tk (i := 13) (o := ⟨some 56, _, _, _, _, _⟩) (v := ?_) [] (y := Or.inl ⟨by rfl, ?_⟩) (s := HU.out) (H := ?_)
    rotate_left
    · intro u hY; go_simp; try with_reducible rfl
    try simp only [putz]
    refine Goes.tk (i := 14) (o := ⟨some 57, _, _, _, _, _⟩) (v := ?_) [] (y := Or.inl ⟨by rfl, ?_⟩) (s := HU.out) (H := ?_)
    rotate_left
    · intro u hY; go_simp; try with_reducible rfl
    try simp only [putz]
    refine Goes.tk (i := 15) (o := ⟨some 58, _, _, _, _, _⟩) (v := ?_) [] (y := Or.inl ⟨by rfl, ?_⟩) (s := HU.out) (H := ?_)
    rotate_left
    · intro u hY; go_simp; try with_reducible rfl
    try simp only [putz]
    refine Goes.tk (i := 16) (o := ⟨some 59, _, _, _, _, _⟩) (v := ?_) [] (y := Or.inl ⟨by rfl, ?_⟩) (s := HU.out) (H := ?_)
    rotate_left
    · intro u hY; go_simp; try with_reducible rfl
    try simp only [putz]
    refine Goes.tk (i := 17) (o := ⟨some 60, _, _, _, _, _⟩) (v := ?_) [] (y := Or.inl ⟨by rfl, ?_⟩) (s := HU.out) (H := ?_)
    rotate_left
    · intro u hY; go_simp; try with_reducible rfl
    try simp only [putz]
    refine Goes.tk (i := 18) (o := ⟨some 61, _, _, _, _, _⟩) (v := ?_) [] (y := Or.inl ⟨by rfl, ?_⟩) (s := HU.out) (H := ?_)
    rotate_left
    · intro u hY; go_simp; try with_reducible rfl
    try simp only [putz]
    refine Goes.tk (i := 19) (o := ⟨some 62, _, _, _, _, _⟩) [] (y := Or.inl ⟨by rfl, fun u hY => y_ld _ _ rfl (.pointer (some ⟨g_n, 0, none⟩)) _ rfl ((ldN d 0 (yet_of hY).1 (all_at _)).here)⟩) (s := HU.out) (H := ?_)
    try simp only [putz]
    refine Goes.one (i := 20) (o := ⟨some 63, _, _, _, _, _⟩) (by as_aux_lemma => kernel_rfl) rfl (fun K hK => ?_)
    rw [if_pos (by kernel_rfl)]
    go_simp
    refine (lof_at 1 1 (Env.refl _) (by decide) rfl).mono ?_
    rintro e w9d1 ⟨rfl, hb⟩
    have hb := hb.1
    go_wp2_with fail
    refine hK.out _ _ ⟨onbk HU.out.1 _ hb, onbk HU.out.2 _ hb⟩ ?_
    have HU := hid (And.intro (onbk HU.out.1 _ hb) (onbk HU.out.2 _ hb))
    have HW := hid (HW.out.trans (hb.mono HW.out.size))
    clear hb
    clear hK K
    try simp only [putz]
    refine Goes.tk (i := 21) (o := ⟨some 64, _, _, _, _, _⟩) (v := ?_) [] (y := Or.inl ⟨by rfl, ?_⟩) (s := HU.out) (H := ?_)
    rotate_left
    · intro u hY; have hq : ∀ W, (Op.equalIn 10000 26 (num d) (num 1)).run Tryd.prog W = .ok false W := fun W => eq_no d 1 (by rw [HDD.out]; decide) (by decide) (by rw [HDD.out]; decide) W; go_simp; try with_reducible rfl
    try simp only [putz]
    refine Goes.tk (i := 22) (o := ⟨some 65, _, _, _, _, _⟩) (v := ?_) [] (y := Or.inl ⟨by rfl, ?_⟩) (s := HU.out) (H := ?_)
    rotate_left
    · intro u hY; go_simp; try with_reducible rfl
    try simp only [putz]
    refine Goes.tk (i := 23) (o := ⟨some 66, _, _, _, _, _⟩) [] (y := Or.inl ⟨by rfl, fun u hY => y_ld _ _ rfl (.pointer (some ⟨g_n, 0, none⟩)) _ rfl ((ldN d 0 (yet_of hY).1 (all_at _)).here)⟩) (s := HU.out) (H := ?_)
    try simp only [putz]
    refine Goes.one (i := 24) (o := ⟨some 67, _, _, _, _, _⟩) (by as_aux_lemma => kernel_rfl) rfl (fun K hK => ?_)
    rw [if_pos (by kernel_rfl)]
    go_simp
    refine (lof_at 2 2 (Env.refl _) (by decide) rfl).mono ?_
    rintro e w9d2 ⟨rfl, hb⟩
    have hb := hb.1
    go_wp2_with fail
    refine hK.out _ _ ⟨onbk HU.out.1 _ hb, onbk HU.out.2 _ hb⟩ ?_
    have HU := hid (And.intro (onbk HU.out.1 _ hb) (onbk HU.out.2 _ hb))
    have HW := hid (HW.out.trans (hb.mono HW.out.size))
    clear hb
    clear hK K
    try simp only [putz]
    refine Goes.tk (i := 25) (o := ⟨some 68, _, _, _, _, _⟩) (v := ?_) [] (y := Or.inl ⟨by rfl, ?_⟩) (s := HU.out) (H := ?_)
    rotate_left
    · intro u hY; have hq : ∀ W, (Op.equalIn 10000 26 (num d) (num 2)).run Tryd.prog W = .ok true W := fun W => eq_yes d 2 HDD.out W; go_simp; try with_reducible rfl
    try simp only [putz]
    refine Goes.tk (i := 26) (o := ⟨some 69, _, _, _, _, _⟩) (v := ?_) [] (y := Or.inl ⟨by rfl, ?_⟩) (s := HU.out) (H := ?_)
    rotate_left
    · intro u hY; go_simp; try with_reducible rfl
    try simp only [putz]
    refine Goes.tk (i := 27) (o := ⟨some 70, _, _, _, _, _⟩) (v := ?_) [] (y := Or.inl ⟨by rfl, ?_⟩) (s := HU.out) (H := ?_)
    rotate_left
    · intro u hY; go_simp; try with_reducible rfl
    try simp only [putz]
    refine Goes.tk (i := 28) (o := ⟨some 71, _, _, _, _, _⟩) (v := ?_) [] (y := Or.inl ⟨by rfl, ?_⟩) (s := HU.out) (H := ?_)
    rotate_left
    · intro u hY; go_simp; try with_reducible rfl
    try simp only [putz]
    refine Goes.tk (i := 29) (o := ⟨some 72, _, _, _, _, _⟩) [] (y := Or.inl ⟨by rfl, fun u hY => y_ld _ _ rfl (.pointer (some ⟨g_x, 0, none⟩)) _ rfl ((ldS k0 KLk0.out 0 (yet_of hY).2 (fun j v h => by rw [Nat.zero_add]; simpa using h)).here)⟩) (s := HU.out) (H := ?_)
    try simp only [putz]
    refine Goes.tk (i := 30) (o := ⟨some 73, _, _, _, _, _⟩) (v := ?_) [] (y := Or.inl ⟨by rfl, ?_⟩) (s := HU.out) (H := ?_)
    rotate_left
    · intro u hY; go_simp; try with_reducible rfl
    try simp only [putz]
    refine Goes.tk (i := 31) (o := ⟨some 74, _, _, _, _, _⟩) (v := ?_) [] (y := Or.inl ⟨by rfl, ?_⟩) (s := HU.out) (H := ?_)
    rotate_left
    · intro u hY; have hq : ∀ W, (Op.equalIn 10000 23 (.agg (bvs k0).toArray) (.agg (bvs z32).toArray)).run Tryd.prog W = .ok false W := fun W => (by rw [eq_sum k0 z32 KLk0.out rfl W, decide_eq_false KN.out]); rw [lit32z] at hq; go_simp; try with_reducible rfl
    try simp only [putz]
    refine Goes.tk (i := 32) (o := ⟨some 75, _, _, _, _, _⟩) (v := ?_) [] (y := Or.inl ⟨by rfl, ?_⟩) (s := HU.out) (H := ?_)
    rotate_left
    · intro u hY; go_simp; try with_reducible rfl
    try simp only [putz]
    refine Goes.tk (i := 33) (o := ⟨some 76, _, _, _, _, _⟩) (v := ?_) [] (y := Or.inl ⟨by rfl, ?_⟩) (s := HU.out) (H := ?_)
    rotate_left
    · intro u hY; go_simp; try with_reducible rfl
    try simp only [putz]
    refine Goes.tk (i := 34) (o := ⟨some 77, _, _, _, _, _⟩) (v := ?_) [] (y := Or.inl ⟨by rfl, ?_⟩) (s := HU.out) (H := ?_)
    rotate_left
    · intro u hY; go_simp; try with_reducible rfl
    try simp only [putz]
    refine Goes.tk (i := 35) (o := ⟨some 78, _, _, _, _, _⟩) (v := ?_) [] (y := Or.inl ⟨by rfl, ?_⟩) (s := HU.out) (H := ?_)
    rotate_left
    · intro u hY; go_simp; try with_reducible rfl
    try simp only [putz]
    refine Goes.tk (i := 36) (o := ⟨some 79, _, _, _, _, _⟩) (v := ?_) [] (y := Or.inl ⟨by rfl, ?_⟩) (s := HU.out) (H := ?_)
    rotate_left
    · intro u hY; go_simp; try with_reducible rfl
    try simp only [putz]
    refine Goes.tk (i := 37) (o := ⟨some 80, _, _, _, _, _⟩) (v := ?_) [] (y := Or.inl ⟨by rfl, ?_⟩) (s := HU.out) (H := ?_)
    rotate_left
    · intro u hY; go_simp; try with_reducible rfl
    try simp only [putz]
    refine Goes.tk (i := 38) (o := ⟨some 81, _, _, _, _, _⟩) (v := ?_) [] (y := Or.inl ⟨by rfl, ?_⟩) (s := HU.out) (H := ?_)
    rotate_left
    · intro u hY; go_simp; try with_reducible rfl
    try simp only [putz]
    refine Goes.one (i := 39) (o := ⟨some 82, _, _, _, _, _⟩) (by as_aux_lemma => kernel_rfl) rfl (fun K hK => ?_)
    rw [if_pos (by kernel_rfl)]
    go_simp
    refine (drawn_no _ _ (nos_none _)).mono ?_
    rintro e wx ⟨rfl, rfl⟩
    go_wp2_with fail
    refine hK.out _ _ HU.out ?_
    clear hK K
    try simp only [putz]
    refine Goes.tk (i := 40) (o := ⟨some 83, _, _, _, _, _⟩) (v := ?_) [] (y := Or.inl ⟨by rfl, ?_⟩) (s := HU.out) (H := ?_)
    rotate_left
    · intro u hY; go_simp; try with_reducible rfl
    try simp only [putz]
    refine Goes.tk (i := 41) (o := ⟨some 84, _, _, _, _, _⟩) (v := ?_) [] (y := Or.inl ⟨by rfl, ?_⟩) (s := HU.out) (H := ?_)
    rotate_left
    · intro u hY; go_simp; try with_reducible rfl
    try simp only [putz]
    refine Goes.tk (i := 42) (o := ⟨some 0, _, _, _, _, _⟩) (v := ?_) [] (y := Or.inl ⟨by rfl, ?_⟩) (s := HU.out) (H := ?_)
    rotate_left
    · intro u hY; go_simp; try with_reducible rfl
    try simp only [putz]
    refine Goes.done (by as_aux_lemma => kernel_rfl) ?_ _
    refine NoPanic.normal ?_
    go_wp2
    go_ret
    exact ⟨rfl, HW.out⟩
end Go.Proofs.YtcijnoapjicliaaDoor
namespace Go.Proofs.YtcijnoapjicliaaDoor
open Go.RowKit
set_option linter.unusedVariables false
set_option linter.unusedSimpArgs false

/-- the slice at address A reads as these -/
def Fl (w : World) (A : Option Addr) (n : Nat) (B : Nat → Bool) : Prop := 0 < n → ∃ g o, A = some ⟨g, o, none⟩ ∧ g < w.heap.size ∧ ∀ i, i < n → w.cell? ⟨g, o + i, none⟩ = some (.bool (B i))
set_option maxRecDepth 100000 in
set_option maxHeartbeats 4000000 in
theorem turns11_law (bs : List UInt8) (p q g0 : Nat) (A : Option Addr) (nn cc : Nat) (B : Nat → Bool) (w : World) (hb : bs.length = 32) (hq : q < 2 ^ 256) (hr : Fl w A nn B) (hk : Kt w) : Calls Tryd.prog 7 #[.agg (bvs bs).toArray, gv p q g0, .slice A nn cc] w fun e w' => e = .returned (.bool true) ∧ Below w.heap.size w w' := by
  have HK := hid hk
  have HB := hid (Below.refl w.heap.size w)
  have HL := hid hb
  have HQ := hid hq
  have HR := hid hr
  obtain ⟨c, hc⟩ : ∃ c, cmpN q 3 = c := ⟨_, rfl⟩
  have HC := hid hc
  have HCX := hid (cmp_three q)
  rw [hc] at HCX
  clear hk hb hq hr hc
  by_cases hlong : nn > 100
  · have HLI := hid (show (nn : Int) > 100 by omega)
    go_enter Tryd.func7, Tryd.ntmps7
    go_upto_region 1 with fail
    have hb := (Below.refl w.heap.size w).alloc (Nat.le_refl _) (.cells (bvs bs).toArray 23)
    have hn := heap_alloc_new w (.cells (bvs bs).toArray 23)
    have HB := hid (HB.out.trans (hb.mono HB.out.size))
    have HK := hid (HK.out.on hb)
    have HXs := hid hn
    clear hb hn
    have hsz := sz1 w (.cells (bvs bs).toArray 23)
    generalize w.alloc (.cells (bvs bs).toArray 23) = w1 at *
    generalize hgs : w.heap.size = g_s at HXs hsz ⊢
    rw [← hsz]
    clear hsz
    have hb := (Below.refl w1.heap.size w1).alloc (Nat.le_refl _) (.cells (gcs p q g0) 28)
    have hn := heap_alloc_new w1 (.cells (gcs p q g0) 28)
    have HB := hid (HB.out.trans (hb.mono HB.out.size))
    have HK := hid (HK.out.on hb)
    have HXs := hid (onbk HXs.out _ hb)
    have HXp := hid hn
    clear hb hn
    generalize w1.alloc (.cells (gcs p q g0) 28) = w2 at *
    generalize w1.heap.size = g_p at *
    go_cut [22] (fun s1 wx => s1 = .bool true ∧ Hid ((Below w.heap.size w wx) ∧ (Kt wx) ∧ (wx.heap[g_s]? = some (.cells (bvs bs).toArray 23 (0, 0))) ∧ (wx.heap[g_p]? = some (.cells (gcs p q g0) 28 (0, 0)))))
    case first =>
      refine wp_region_noPanic ?_
      refine Goes.region (fun (_ : Array Bool) (u : World) => u.heap[g_p]? = some (.cells (gcs p q g0) 28 (0, 0))) (by as_aux_lemma => kernel_rfl) ?_
      have hb := (Below.refl w2.heap.size w2).drew
      have HB := hid (HB.out.trans (hb.mono HB.out.size))
      have HK := hid (HK.out.on hb)
      have HXs := hid (onbk HXs.out _ hb)
      have HXp := hid (onbk HXp.out _ hb)
      clear hb
      generalize w2.drew = w2d at *
      refine Goes.tk (i := 0) (o := ⟨some 13, _, _, _, _, _⟩) (v := ?_) [] (y := Or.inl ⟨by rfl, ?_⟩) (s := HXp.out) (H := ?_)
      rotate_left
      · intro u hY; go_simp; try with_reducible rfl
      try simp only [putz]
      refine Goes.tk (i := 1) (o := ⟨some 14, _, _, _, _, _⟩) (v := ?_) [] (y := Or.inl ⟨by rfl, ?_⟩) (s := HXp.out) (H := ?_)
      rotate_left
      · intro u hY; go_simp; try with_reducible rfl
      try simp only [putz]
      refine Goes.tk (i := 2) (o := ⟨some 15, _, _, _, _, _⟩) (v := ?_) [] (y := Or.inl ⟨by rfl, ?_⟩) (s := HXp.out) (H := ?_)
      rotate_left
      · intro u hY; have hli := HLI.out; go_simp; try with_reducible rfl
      try simp only [putz]
      refine Goes.tk (i := 3) (o := ⟨some 16, _, _, _, _, _⟩) (v := ?_) [] (y := Or.inl ⟨by rfl, ?_⟩) (s := HXp.out) (H := ?_)
      rotate_left
      · intro u hY; go_simp; try with_reducible rfl
      try simp only [putz]
      refine Goes.tk (i := 4) (o := ⟨some 17, _, _, _, _, _⟩) (v := undef) [] (y := Or.inr ⟨by rfl, rfl⟩) (s := HXp.out) (H := ?_)
      try simp only [putz]
      refine Goes.tk (i := 5) (o := ⟨some 18, _, _, _, _, _⟩) (v := undef) [] (y := Or.inr ⟨by rfl, rfl⟩) (s := HXp.out) (H := ?_)
      try simp only [putz]
      refine Goes.tk (i := 6) (o := ⟨some 19, _, _, _, _, _⟩) (v := undef) [] (y := Or.inr ⟨by rfl, rfl⟩) (s := HXp.out) (H := ?_)
      try simp only [putz]
      refine Goes.tk (i := 7) (o := ⟨some 20, _, _, _, _, _⟩) (v := undef) [] (y := Or.inr ⟨by rfl, rfl⟩) (s := HXp.out) (H := ?_)
      try simp only [putz]
      refine Goes.tk (i := 8) (o := ⟨some 21, _, _, _, _, _⟩) (v := undef) [] (y := Or.inr ⟨by rfl, rfl⟩) (s := HXp.out) (H := ?_)
      try simp only [putz]
      refine Goes.tk (i := 9) (o := ⟨some 22, _, _, _, _, _⟩) (v := ?_) [] (y := Or.inl ⟨by rfl, ?_⟩) (s := HXp.out) (H := ?_)
      rotate_left
      · intro u hY; go_simp; try with_reducible rfl
      try simp only [putz]
      refine Goes.done (by as_aux_lemma => kernel_rfl) ?_ _
      refine NoPanic.normal ?_
      go_wp2
      go_meet
      exact ⟨by first | rfl | simp, hid ⟨HB.out, HK.out, HXs.out, HXp.out⟩⟩
    case rest =>
      obtain ⟨rfl, HI⟩ := hcut
      clear HB HK HXs HXp
      have HB := hid HI.out.1
      have HK := hid HI.out.2.1
      have HXs := hid HI.out.2.2.1
      have HXp := hid HI.out.2.2.2
      clear HI
      go_wp2_with fail
      refine (lives11_any _ HK.out).mono ?_
      rintro e w3 ⟨rfl, hb⟩
      have HB := hid (HB.out.trans (hb.mono HB.out.size))
      have HK := hid (HK.out.on hb)
      have HXs := hid (onbk HXs.out _ hb)
      have HXp := hid (onbk HXp.out _ hb)
      clear hb
      go_wp2
      go_ret
      exact ⟨rfl, HB.out⟩
  · have HLI := hid (show ¬ (nn : Int) > 100 by omega)
    have HNL := hid (show nn ≤ 100 by omega)
    clear hlong
    rcases HCX.out with hcx | hcx
    · have HCD := hid (show decide (c < 0) = true by rw [hcx.1]; rfl)
      clear hcx
      go_enter Tryd.func7, Tryd.ntmps7
      go_upto_region 1 with fail
      have hb := (Below.refl w.heap.size w).alloc (Nat.le_refl _) (.cells (bvs bs).toArray 23)
      have hn := heap_alloc_new w (.cells (bvs bs).toArray 23)
      have HB := hid (HB.out.trans (hb.mono HB.out.size))
      have HK := hid (HK.out.on hb)
      have HXs := hid hn
      clear hb hn
      have hsz := sz1 w (.cells (bvs bs).toArray 23)
      generalize w.alloc (.cells (bvs bs).toArray 23) = w4 at *
      generalize hgs : w.heap.size = g_s at HXs hsz ⊢
      rw [← hsz]
      clear hsz
      have hb := (Below.refl w4.heap.size w4).alloc (Nat.le_refl _) (.cells (gcs p q g0) 28)
      have hn := heap_alloc_new w4 (.cells (gcs p q g0) 28)
      have HB := hid (HB.out.trans (hb.mono HB.out.size))
      have HK := hid (HK.out.on hb)
      have HXs := hid (onbk HXs.out _ hb)
      have HXp := hid hn
      clear hb hn
      generalize w4.alloc (.cells (gcs p q g0) 28) = w5 at *
      generalize w4.heap.size = g_p at *
      go_cut [22] (fun s1 wx => s1 = .bool true ∧ Hid ((Below w.heap.size w wx) ∧ (Kt wx) ∧ (wx.heap[g_s]? = some (.cells (bvs bs).toArray 23 (0, 0))) ∧ (wx.heap[g_p]? = some (.cells (gcs p q g0) 28 (0, 0)))))
      case first =>
        refine wp_region_noPanic ?_
        refine Goes.region (fun (_ : Array Bool) (u : World) => u.heap[g_p]? = some (.cells (gcs p q g0) 28 (0, 0))) (by as_aux_lemma => kernel_rfl) ?_
        have hb := (Below.refl w5.heap.size w5).drew
        have HB := hid (HB.out.trans (hb.mono HB.out.size))
        have HK := hid (HK.out.on hb)
        have HXs := hid (onbk HXs.out _ hb)
        have HXp := hid (onbk HXp.out _ hb)
        clear hb
        generalize w5.drew = w5d at *
        refine Goes.tk (i := 0) (o := ⟨some 13, _, _, _, _, _⟩) (v := ?_) [] (y := Or.inl ⟨by rfl, ?_⟩) (s := HXp.out) (H := ?_)
        rotate_left
        · intro u hY; go_simp; try with_reducible rfl
        try simp only [putz]
        refine Goes.tk (i := 1) (o := ⟨some 14, _, _, _, _, _⟩) (v := ?_) [] (y := Or.inl ⟨by rfl, ?_⟩) (s := HXp.out) (H := ?_)
        rotate_left
        · intro u hY; go_simp; try with_reducible rfl
        try simp only [putz]
        refine Goes.tk (i := 2) (o := ⟨some 15, _, _, _, _, _⟩) (v := ?_) [] (y := Or.inl ⟨by rfl, ?_⟩) (s := HXp.out) (H := ?_)
        rotate_left
        · intro u hY; have hli := HLI.out; go_simp; try with_reducible rfl
        try simp only [putz]
        refine Goes.tk (i := 3) (o := ⟨some 16, _, _, _, _, _⟩) (v := ?_) [] (y := Or.inl ⟨by rfl, ?_⟩) (s := HXp.out) (H := ?_)
        rotate_left
        · intro u hY; go_simp; try with_reducible rfl
        try simp only [putz]
        refine Goes.tk (i := 4) (o := ⟨some 17, _, _, _, _, _⟩) (v := ?_) [] (y := Or.inl ⟨by rfl, ?_⟩) (s := HXp.out) (H := ?_)
        rotate_left
        · intro u hY; go_simp; try with_reducible rfl
        try simp only [putz]
        refine Goes.tk (i := 5) (o := ⟨some 18, _, _, _, _, _⟩) [] (y := Or.inl ⟨by rfl, fun u hY => y_ld _ _ rfl (.pointer (some ⟨g_p, 4, none⟩)) _ rfl ((ldN q 4 (yet_of hY) (four_at q _ 4 rfl rfl rfl rfl)).here)⟩) (s := HXp.out) (H := ?_)
        try simp only [putz]
        refine Goes.one (i := 6) (o := ⟨some 19, _, _, _, _, _⟩) (by as_aux_lemma => kernel_rfl) rfl (fun K hK => ?_)
        rw [if_pos (by kernel_rfl)]
        go_simp
        refine (lof_at 3 3 (Env.refl _) (by decide) rfl).mono ?_
        rintro e w6 ⟨rfl, hb⟩
        have hb := hb.1
        have HB := hid (HB.out.trans (hb.mono HB.out.size))
        have HK := hid (HK.out.on hb)
        have HXs := hid (onbk HXs.out _ hb)
        have HXp := hid (onbk HXp.out _ hb)
        clear hb
        go_wp2_with fail
        refine hK.out _ _ HXp.out ?_
        clear hK K
        try simp only [putz]
        refine Goes.one (i := 7) (o := ⟨some 20, _, _, _, _, _⟩) (by as_aux_lemma => kernel_rfl) rfl (fun K hK => ?_)
        rw [if_pos (by kernel_rfl)]
        go_simp
        refine (cmp_at q 3 c (Env.refl _) HQ.out (by decide) HC.out).mono ?_
        rintro e w7 ⟨rfl, hb⟩
        have hb := hb.1
        have HB := hid (HB.out.trans (hb.mono HB.out.size))
        have HK := hid (HK.out.on hb)
        have HXs := hid (onbk HXs.out _ hb)
        have HXp := hid (onbk HXp.out _ hb)
        clear hb
        go_wp2_with fail
        refine hK.out _ _ HXp.out ?_
        clear hK K
        try simp only [putz]
        refine Goes.tk (i := 8) (o := ⟨some 21, _, _, _, _, _⟩) (v := ?_) [] (y := Or.inl ⟨by rfl, ?_⟩) (s := HXp.out) (H := ?_)
        rotate_left
        · intro u hY; have hcd := HCD.out; go_simp; try with_reducible rfl
        try simp only [putz]
        refine Goes.tk (i := 9) (o := ⟨some 22, _, _, _, _, _⟩) (v := ?_) [] (y := Or.inl ⟨by rfl, ?_⟩) (s := HXp.out) (H := ?_)
        rotate_left
        · intro u hY; go_simp; try with_reducible rfl
        try simp only [putz]
        refine Goes.done (by as_aux_lemma => kernel_rfl) ?_ _
        refine NoPanic.normal ?_
        go_wp2
        go_meet
        exact ⟨by first | rfl | simp, hid ⟨HB.out, HK.out, HXs.out, HXp.out⟩⟩
      case rest =>
        obtain ⟨rfl, HI⟩ := hcut
        clear HB HK HXs HXp
        have HB := hid HI.out.1
        have HK := hid HI.out.2.1
        have HXs := hid HI.out.2.2.1
        have HXp := hid HI.out.2.2.2
        clear HI
        go_wp2_with fail
        refine (lives11_any _ HK.out).mono ?_
        rintro e w8 ⟨rfl, hb⟩
        have HB := hid (HB.out.trans (hb.mono HB.out.size))
        have HK := hid (HK.out.on hb)
        have HXs := hid (onbk HXs.out _ hb)
        have HXp := hid (onbk HXp.out _ hb)
        clear hb
        go_wp2
        go_ret
        exact ⟨rfl, HB.out⟩
    · have HCD := hid (show decide (c < 0) = false from decide_eq_false (by have := hcx.1; omega))
      have H3 := hid hcx.2
      clear hcx
      go_enter Tryd.func7, Tryd.ntmps7
      go_upto_region 1 with fail
      have hb := (Below.refl w.heap.size w).alloc (Nat.le_refl _) (.cells (bvs bs).toArray 23)
      have hn := heap_alloc_new w (.cells (bvs bs).toArray 23)
      have HB := hid (HB.out.trans (hb.mono HB.out.size))
      have HK := hid (HK.out.on hb)
      have HXs := hid hn
      clear hb hn
      have hsz := sz1 w (.cells (bvs bs).toArray 23)
      generalize w.alloc (.cells (bvs bs).toArray 23) = w9 at *
      generalize hgs : w.heap.size = g_s at HXs hsz ⊢
      rw [← hsz]
      clear hsz
      have hb := (Below.refl w9.heap.size w9).alloc (Nat.le_refl _) (.cells (gcs p q g0) 28)
      have hn := heap_alloc_new w9 (.cells (gcs p q g0) 28)
      have HB := hid (HB.out.trans (hb.mono HB.out.size))
      have HK := hid (HK.out.on hb)
      have HXs := hid (onbk HXs.out _ hb)
      have HXp := hid hn
      clear hb hn
      generalize w9.alloc (.cells (gcs p q g0) 28) = w10 at *
      generalize w9.heap.size = g_p at *
      go_cut [22] (fun s1 wx => s1 = .bool false ∧ Hid ((Below w.heap.size w wx) ∧ (Kt wx) ∧ (wx.heap[g_s]? = some (.cells (bvs bs).toArray 23 (0, 0))) ∧ (wx.heap[g_p]? = some (.cells (gcs p q g0) 28 (0, 0)))))
      case first =>
        refine wp_region_noPanic ?_
        refine Goes.region (fun (_ : Array Bool) (u : World) => u.heap[g_p]? = some (.cells (gcs p q g0) 28 (0, 0))) (by as_aux_lemma => kernel_rfl) ?_
        have hb := (Below.refl w10.heap.size w10).drew
        have HB := hid (HB.out.trans (hb.mono HB.out.size))
        have HK := hid (HK.out.on hb)
        have HXs := hid (onbk HXs.out _ hb)
        have HXp := hid (onbk HXp.out _ hb)
        clear hb
        generalize w10.drew = w10d at *
        refine Goes.tk (i := 0) (o := ⟨some 13, _, _, _, _, _⟩) (v := ?_) [] (y := Or.inl ⟨by rfl, ?_⟩) (s := HXp.out) (H := ?_)
        rotate_left
        · intro u hY; go_simp; try with_reducible rfl
        try simp only [putz]
        refine Goes.tk (i := 1) (o := ⟨some 14, _, _, _, _, _⟩) (v := ?_) [] (y := Or.inl ⟨by rfl, ?_⟩) (s := HXp.out) (H := ?_)
        rotate_left
        · intro u hY; go_simp; try with_reducible rfl
        try simp only [putz]
        refine Goes.tk (i := 2) (o := ⟨some 15, _, _, _, _, _⟩) (v := ?_) [] (y := Or.inl ⟨by rfl, ?_⟩) (s := HXp.out) (H := ?_)
        rotate_left
        · intro u hY; have hli := HLI.out; go_simp; try with_reducible rfl
        try simp only [putz]
        refine Goes.tk (i := 3) (o := ⟨some 16, _, _, _, _, _⟩) (v := ?_) [] (y := Or.inl ⟨by rfl, ?_⟩) (s := HXp.out) (H := ?_)
        rotate_left
        · intro u hY; go_simp; try with_reducible rfl
        try simp only [putz]
        refine Goes.tk (i := 4) (o := ⟨some 17, _, _, _, _, _⟩) (v := ?_) [] (y := Or.inl ⟨by rfl, ?_⟩) (s := HXp.out) (H := ?_)
        rotate_left
        · intro u hY; go_simp; try with_reducible rfl
        try simp only [putz]
        refine Goes.tk (i := 5) (o := ⟨some 18, _, _, _, _, _⟩) [] (y := Or.inl ⟨by rfl, fun u hY => y_ld _ _ rfl (.pointer (some ⟨g_p, 4, none⟩)) _ rfl ((ldN q 4 (yet_of hY) (four_at q _ 4 rfl rfl rfl rfl)).here)⟩) (s := HXp.out) (H := ?_)
        try simp only [putz]
        refine Goes.one (i := 6) (o := ⟨some 19, _, _, _, _, _⟩) (by as_aux_lemma => kernel_rfl) rfl (fun K hK => ?_)
        rw [if_pos (by kernel_rfl)]
        go_simp
        refine (lof_at 3 3 (Env.refl _) (by decide) rfl).mono ?_
        rintro e w11 ⟨rfl, hb⟩
        have hb := hb.1
        have HB := hid (HB.out.trans (hb.mono HB.out.size))
        have HK := hid (HK.out.on hb)
        have HXs := hid (onbk HXs.out _ hb)
        have HXp := hid (onbk HXp.out _ hb)
        clear hb
        go_wp2_with fail
        refine hK.out _ _ HXp.out ?_
        clear hK K
        try simp only [putz]
        refine Goes.one (i := 7) (o := ⟨some 20, _, _, _, _, _⟩) (by as_aux_lemma => kernel_rfl) rfl (fun K hK => ?_)
        rw [if_pos (by kernel_rfl)]
        go_simp
        refine (cmp_at q 3 c (Env.refl _) HQ.out (by decide) HC.out).mono ?_
        rintro e w12 ⟨rfl, hb⟩
        have hb := hb.1
        have HB := hid (HB.out.trans (hb.mono HB.out.size))
        have HK := hid (HK.out.on hb)
        have HXs := hid (onbk HXs.out _ hb)
        have HXp := hid (onbk HXp.out _ hb)
        clear hb
        go_wp2_with fail
        refine hK.out _ _ HXp.out ?_
        clear hK K
        try simp only [putz]
        refine Goes.tk (i := 8) (o := ⟨some 21, _, _, _, _, _⟩) (v := ?_) [] (y := Or.inl ⟨by rfl, ?_⟩) (s := HXp.out) (H := ?_)
        rotate_left
        · intro u hY; have hcd := HCD.out; go_simp; try with_reducible rfl
        try simp only [putz]
        refine Goes.tk (i := 9) (o := ⟨some 22, _, _, _, _, _⟩) (v := ?_) [] (y := Or.inl ⟨by rfl, ?_⟩) (s := HXp.out) (H := ?_)
        rotate_left
        · intro u hY; go_simp; try with_reducible rfl
        try simp only [putz]
        refine Goes.done (by as_aux_lemma => kernel_rfl) ?_ _
        refine NoPanic.normal ?_
        go_wp2
        go_meet
        exact ⟨by first | rfl | simp, hid ⟨HB.out, HK.out, HXs.out, HXp.out⟩⟩
      case rest =>
        obtain ⟨rfl, HI⟩ := hcut
        clear HB HK HXs HXp
        have HB := hid HI.out.1
        have HK := hid HI.out.2.1
        have HXs := hid HI.out.2.2.1
        have HXp := hid HI.out.2.2.2
        clear HI
        have l1 := (ldS bs HL.out 0 HXs.out (fun j v h => by rw [Nat.zero_add]; simpa using h)).here
        go_wp2_with (first | (refine wp_ld rfl _ _ rfl _ rfl _ (by first | exact l1) ?_))
        clear l1
        refine (new_st bs _ HL.out).mono ?_
        rintro e w13 ⟨g_a, rfl, hq⟩
        have hb := hq.out.2.2
        have HGa := hid (Nat.le_trans HB.out.size hq.out.1)
        have N2a := hid (show 2 ≠ g_a by have := HK.out.lt; have := hq.out.1; omega)
        have NXsa := hid (show g_s ≠ g_a by have := lt_of_block HXs.out; have := hq.out.1; omega)
        have NXpa := hid (show g_p ≠ g_a by have := lt_of_block HXp.out; have := hq.out.1; omega)
        have HB := hid (HB.out.trans (hb.mono HB.out.size))
        have HK := hid (HK.out.on hb)
        have HXs := hid (onbk HXs.out _ hb)
        have HXp := hid (onbk HXp.out _ hb)
        have HSa := hid hq.out.2.1
        clear hb hq
        have l2 := (ldS bs HL.out 0 HXs.out (fun j v h => by rw [Nat.zero_add]; simpa using h)).here
        go_wp2_with (first | (refine wp_ld rfl _ _ rfl _ rfl _ (by first | exact l2) ?_))
        clear l2
        refine (new_st bs _ HL.out).mono ?_
        rintro e w14 ⟨g_b, rfl, hq⟩
        have hb := hq.out.2.2
        have HGb := hid (Nat.le_trans HB.out.size hq.out.1)
        have N2b := hid (show 2 ≠ g_b by have := HK.out.lt; have := hq.out.1; omega)
        have NEab := hid (show g_a ≠ g_b by have := Sc.lt HSa.out; have := hq.out.1; omega)
        have NXsb := hid (show g_s ≠ g_b by have := lt_of_block HXs.out; have := hq.out.1; omega)
        have NXpb := hid (show g_p ≠ g_b by have := lt_of_block HXp.out; have := hq.out.1; omega)
        have HB := hid (HB.out.trans (hb.mono HB.out.size))
        have HK := hid (HK.out.on hb)
        have HSa := hid (Sc.on HSa.out hb)
        have HXs := hid (onbk HXs.out _ hb)
        have HXp := hid (onbk HXp.out _ hb)
        have HSb := hid hq.out.2.1
        clear hb hq
        go_upto_region 6 with fail
        go_loopw [9] (fun i wr => ∃ k : Nat, k ≤ nn ∧ i = .int .i64 k ∧ Hid ((Below w.heap.size w wr) ∧ (Kt wr) ∧ (St wr g_a bs k) ∧ (St wr g_b bs k) ∧ (wr.heap[g_s]? = some (.cells (bvs bs).toArray 23 (0, 0))) ∧ (wr.heap[g_p]? = some (.cells (gcs p q g0) 28 (0, 0))))) (fun i _ => nn - (intOf i).toNat)
        case atStart => exact ⟨0, Nat.zero_le _, rfl, hid ⟨HB.out, HK.out, HSa.out, HSb.out, HXs.out, HXp.out⟩⟩
        case round =>
          clear HB HK HSa HSb HXs HXp
          obtain ⟨k, hkm, rfl, HI⟩ := hrel
          have HB := hid HI.out.1
          have HK := hid HI.out.2.1
          have HSa := hid HI.out.2.2.1
          have HSb := hid HI.out.2.2.2.1
          have HXs := hid HI.out.2.2.2.2.1
          have HXp := hid HI.out.2.2.2.2.2
          clear HI
          have HKN := hid hkm
          by_cases hlt : k < nn
          · have hki : (k : Int) < (nn : Int) := by omega
            have HLTK := hid hlt
            obtain ⟨gt, ot, hA, hgt, hcell⟩ := HR.out (by omega)
            subst hA
            obtain ⟨t, htt⟩ : ∃ t : Bool, B k = t := ⟨_, rfl⟩
            have HTC := hid (show ∀ u, Below w.heap.size w u → u.cell? ⟨gt, ot + k, none⟩ = some (.bool t) from fun u hu => by rw [World.cell?_of_block (a := ⟨gt, ot + k, none⟩) (hu.block gt hgt), ← htt]; exact hcell k hlt)
            clear hcell hgt htt hlt
            obtain ⟨kk, hkk⟩ : ∃ kk, dsum bs k = kk := ⟨_, rfl⟩
            have KE := hid hkk
            have KLkk : Hid (kk.length = 32) := hid (by rw [← hkk]; exact dsum_length _ _)
            clear hkk
            have HKB := hid (show k + 1 < 18446744073709551616 by have := HNL.out; have := HLTK.out; omega)
            have hw1 : IntKind.i64.wrap ((k : Int) + 1) = (k : Int) + 1 := by have := HNL.out; rw [IntKind.wrap_i64]; omega
            go_wp2_with fail
            refine (next_st g_a k bs _ HSa.out HL.out HKB.out HK.out N2a.out).mono ?_
            rintro e w15 ⟨rfl, hq⟩
            have hg := hq.out.1
            have HB := hid (below_gr HB.out hg HGa.out)
            have HK := hid (HK.out.grown hg N2a.out)
            have HSb := hid (Sc.grown HSb.out hg NEab.out.symm)
            have HXs := hid (bk_grown HXs.out hg NXsa.out)
            have HXp := hid (bk_grown HXp.out hg NXpa.out)
            have HSa := hid hq.out.2
            clear hg hq
            rw [KE.out]
            go_upto_region 9 with (refine wpList_store_row rfl 23 (.tmp 10) (.tmp 35) rfl w15.heap.size (bvs kk).toArray rfl rfl 23 _ (heap_alloc_new _ _) (hi44 kk KLkk.out).out (ho32 kk KLkk.out).out (bvs_all _) ?_; rw [World.setRow_alloc_new])
            have hb := (Below.refl w15.heap.size w15).alloc (Nat.le_refl _) (.cells (bvs kk).toArray 23)
            have hn := heap_alloc_new w15 (.cells (bvs kk).toArray 23)
            have NXxa := hid (show w15.heap.size ≠ g_a by have := Sc.lt HSa.out; omega)
            have NXxb := hid (show w15.heap.size ≠ g_b by have := Sc.lt HSb.out; omega)
            have HB := hid (HB.out.trans (hb.mono HB.out.size))
            have HK := hid (HK.out.on hb)
            have HSa := hid (Sc.on HSa.out hb)
            have HSb := hid (Sc.on HSb.out hb)
            have HXs := hid (onbk HXs.out _ hb)
            have HXp := hid (onbk HXp.out _ hb)
            have HXx := hid hn
            clear hb hn
            generalize w15.alloc (.cells (bvs kk).toArray 23) = w16 at *
            generalize w15.heap.size = g_x at *
            have hcell := HTC.out _ HB.out
            have hb2 : (0 : Int) ≤ (k : Int) ∧ (k : Int) < (nn : Int) := ⟨by omega, by have := HLTK.out; omega⟩
            cases t
            · skip
              go_upto_region 10 with fail
              clear hcell hb2
              go_cut [44] (fun s1 wx => s1 = .bool false ∧ Hid ((Below w.heap.size w wx) ∧ (Kt wx) ∧ (St wx g_a bs (k + 1)) ∧ (St wx g_b bs (k + 1)) ∧ (wx.heap[g_s]? = some (.cells (bvs bs).toArray 23 (0, 0))) ∧ (wx.heap[g_p]? = some (.cells (gcs p q g0) 28 (0, 0))) ∧ (wx.heap[g_x]? = some (.cells (bvs kk).toArray 23 (0, 0)))))
              case first =>
                refine wp_region_noPanic ?_
                refine Goes.region (fun (_ : Array Bool) (u : World) => u.heap[g_x]? = some (.cells (bvs kk).toArray 23 (0, 0))) (by as_aux_lemma => kernel_rfl) ?_
                have hb := (Below.refl w16.heap.size w16).drew
                have HB := hid (HB.out.trans (hb.mono HB.out.size))
                have HK := hid (HK.out.on hb)
                have HSa := hid (Sc.on HSa.out hb)
                have HSb := hid (Sc.on HSb.out hb)
                have HXs := hid (onbk HXs.out _ hb)
                have HXp := hid (onbk HXp.out _ hb)
                have HXx := hid (onbk HXx.out _ hb)
                clear hb
                generalize w16.drew = w16d at *
                refine Goes.tk (i := 0) (o := ⟨some 41, _, _, _, _, _⟩) (v := ?_) [] (y := Or.inl ⟨by rfl, ?_⟩) (s := HXx.out) (H := ?_)
                rotate_left
                · intro u hY; go_simp; try with_reducible rfl
                try simp only [putz]
                refine Goes.tk (i := 2) (o := ⟨some 43, _, _, _, _, _⟩) [] (y := Or.inl ⟨by rfl, fun u hY => y_ld _ _ rfl (.pointer (some ⟨g_x, 0, none⟩)) _ rfl ((ldS kk KLkk.out 0 (yet_of hY) (fun j v h => by rw [Nat.zero_add]; simpa using h)).here)⟩) (s := HXx.out) (H := ?_)
                try simp only [putz]
                refine Goes.one (i := 1) (o := ⟨some 42, _, _, _, _, _⟩) (by as_aux_lemma => kernel_rfl) rfl (fun K hK => ?_)
                go_simp
                refine (next_st g_b k bs _ HSb.out HL.out HKB.out HK.out N2b.out).mono ?_
                rintro e w17 ⟨rfl, hq⟩
                have hg := hq.out.1
                have HB := hid (below_gr HB.out hg HGb.out)
                have HK := hid (HK.out.grown hg N2b.out)
                have HSa := hid (Sc.grown HSa.out hg NEab.out)
                have HXs := hid (bk_grown HXs.out hg NXsb.out)
                have HXp := hid (bk_grown HXp.out hg NXpb.out)
                have HXx := hid (bk_grown HXx.out hg NXxb.out)
                have HSb := hid hq.out.2
                clear hg hq
                rw [KE.out]
                go_wp2_with fail
                refine hK.out _ _ HXx.out ?_
                clear hK K
                try simp only [putz]
                refine Goes.tk (i := 3) (o := ⟨some 44, _, _, _, _, _⟩) (v := ?_) [] (y := Or.inl ⟨by rfl, ?_⟩) (s := HXx.out) (H := ?_)
                rotate_left
                · intro u hY; have hq : ∀ W, (Op.equalIn 10000 23 (.agg (bvs kk).toArray) (.agg (bvs kk).toArray)).run Tryd.prog W = .ok true W := fun W => (by rw [eq_sum kk kk KLkk.out KLkk.out W]; simp); go_simp; try with_reducible rfl
                try simp only [putz]
                refine Goes.done (by as_aux_lemma => kernel_rfl) ?_ _
                refine NoPanic.normal ?_
                go_wp2
                go_meet
                exact ⟨by first | rfl | simp, hid ⟨HB.out, HK.out, HSa.out, HSb.out, HXs.out, HXp.out, HXx.out⟩⟩
              case rest =>
                obtain ⟨rfl, HI⟩ := hcut
                clear HB HK HSa HSb HXs HXp HXx
                have HB := hid HI.out.1
                have HK := hid HI.out.2.1
                have HSa := hid HI.out.2.2.1
                have HSb := hid HI.out.2.2.2.1
                have HXs := hid HI.out.2.2.2.2.1
                have HXp := hid HI.out.2.2.2.2.2.1
                have HXx := hid HI.out.2.2.2.2.2.2
                clear HI
                go_wp2
                go_roundw
                case rel => exact ⟨k + 1, HLTK.out, by go_num, hid ⟨HB.out, HK.out, HSa.out, HSb.out, HXs.out, HXp.out⟩⟩
                case measure => simp [intOf]; have := HLTK.out; omega
            · skip
              go_upto_region 12 with fail
              clear hcell hb2
              have l3 := (ldG p q g0 0 HXp.out (all_at _)).here
              go_wp2_with (first | (refine wp_ld rfl _ _ rfl _ rfl _ (by first | exact l3) ?_))
              clear l3
              refine (expo_st g_b k p q g0 bs _ HSb.out HL.out HKB.out HK.out N2b.out HQ.out H3.out).mono ?_
              rintro e w18 ⟨rfl, hq⟩
              have hg := hq.out.1
              have HB := hid (below_gr HB.out hg HGb.out)
              have HK := hid (HK.out.grown hg N2b.out)
              have HSa := hid (Sc.grown HSa.out hg NEab.out)
              have HXs := hid (bk_grown HXs.out hg NXsb.out)
              have HXp := hid (bk_grown HXp.out hg NXpb.out)
              have HXx := hid (bk_grown HXx.out hg NXxb.out)
              have HSb := hid hq.out.2
              clear hg hq
              obtain ⟨d, hd⟩ : ∃ d, dexp q (dsum bs k) = d := ⟨_, rfl⟩
              rw [hd]
              clear hd
              go_upto_region 13 with fail
              have hb := (Below.refl w18.heap.size w18).alloc (Nat.le_refl _) (.cells (cls d) 26)
              have hn := heap_alloc_new w18 (.cells (cls d) 26)
              have NXya := hid (show w18.heap.size ≠ g_a by have := Sc.lt HSa.out; omega)
              have NXyb := hid (show w18.heap.size ≠ g_b by have := Sc.lt HSb.out; omega)
              have HB := hid (HB.out.trans (hb.mono HB.out.size))
              have HK := hid (HK.out.on hb)
              have HSa := hid (Sc.on HSa.out hb)
              have HSb := hid (Sc.on HSb.out hb)
              have HXs := hid (onbk HXs.out _ hb)
              have HXp := hid (onbk HXp.out _ hb)
              have HXx := hid (onbk HXx.out _ hb)
              have HXy := hid hn
              clear hb hn
              generalize w18.alloc (.cells (cls d) 26) = w19 at *
              generalize w18.heap.size = g_y at *
              go_wp2
              go_roundw
              case rel => exact ⟨k + 1, HLTK.out, by go_num, hid ⟨HB.out, HK.out, HSa.out, HSb.out, HXs.out, HXp.out⟩⟩
              case measure => simp [intOf]; have := HLTK.out; omega
          · have hki : ¬ (k : Int) < (nn : Int) := by omega
            obtain ⟨kk, hkk⟩ : ∃ kk, dsum bs k = kk := ⟨_, rfl⟩
            have KE := hid hkk
            have KLkk : Hid (kk.length = 32) := hid (by rw [← hkk]; exact dsum_length _ _)
            clear hkk
            have HKB := hid (show k + 1 < 18446744073709551616 by have := HNL.out; omega)
            have hq : ∀ W, (Op.equalIn 10000 23 (.agg (bvs kk).toArray) (.agg (bvs kk).toArray)).run Tryd.prog W = .ok true W := fun W => (by rw [eq_sum kk kk KLkk.out KLkk.out W]; simp)
            go_wp2_with fail
            refine (drawn_ex g_a k (k : Int) bs _ HSa.out HL.out rfl).mono ?_
            rintro e wx ⟨rfl, rfl⟩
            go_wp2_with fail
            refine (drawn_ex g_b k (k : Int) bs _ HSb.out HL.out rfl).mono ?_
            rintro e wx ⟨rfl, rfl⟩
            go_wp2_with fail
            refine (next_st g_a k bs _ HSa.out HL.out HKB.out HK.out N2a.out).mono ?_
            rintro e w20 ⟨rfl, hq⟩
            have hg := hq.out.1
            have HB := hid (below_gr HB.out hg HGa.out)
            have HK := hid (HK.out.grown hg N2a.out)
            have HSb := hid (Sc.grown HSb.out hg NEab.out.symm)
            have HXs := hid (bk_grown HXs.out hg NXsa.out)
            have HXp := hid (bk_grown HXp.out hg NXpa.out)
            have HSa := hid hq.out.2
            clear hg hq
            rw [KE.out]
            go_wp2_with fail
            refine (next_st g_b k bs _ HSb.out HL.out HKB.out HK.out N2b.out).mono ?_
            rintro e w21 ⟨rfl, hq⟩
            have hg := hq.out.1
            have HB := hid (below_gr HB.out hg HGb.out)
            have HK := hid (HK.out.grown hg N2b.out)
            have HSa := hid (Sc.grown HSa.out hg NEab.out)
            have HXs := hid (bk_grown HXs.out hg NXsb.out)
            have HXp := hid (bk_grown HXp.out hg NXpb.out)
            have HSb := hid hq.out.2
            clear hg hq
            rw [KE.out]
            go_wp2_with fail
            refine (lives11_any _ HK.out).mono ?_
            rintro e w22 ⟨rfl, hb⟩
            have HB := hid (HB.out.trans (hb.mono HB.out.size))
            have HK := hid (HK.out.on hb)
            have HSa := hid (Sc.on HSa.out hb)
            have HSb := hid (Sc.on HSb.out hb)
            have HXs := hid (onbk HXs.out _ hb)
            have HXp := hid (onbk HXp.out _ hb)
            clear hb
            go_wp2
            go_ret
            exact ⟨rfl, HB.out⟩
end Go.Proofs.YtcijnoapjicliaaDoor

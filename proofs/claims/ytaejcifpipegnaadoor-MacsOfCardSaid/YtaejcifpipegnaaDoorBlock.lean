/-
 burrowref05.block, walked: the document's own way of taking a block in. Conditions: none.
-/
import Derived.Test.YtaejcifpipegnaaDoorRb18
import Derived.Deep.WholeRow
import Derived.Deep.Cut
namespace Go.Proofs.YtaejcifpipegnaaDoor
open Go.RowKit
set_option linter.unusedVariables false
set_option linter.unusedSimpArgs false

/-- and the eight numbers of a round in a box of their own -/
structure Rc (w : World) (h : List Nat) (b : List UInt8) (gb o gt g12 : Nat) (l : List Nat) (w' : World) : Prop where
 rb : Rb w h b gb o gt (wof b) w'
 e : Us w' g12 57 l
 lt : w.heap.size + 1 + 1 < g12
theorem Rc.drew {w w' : World} {h : List Nat} {b : List UInt8} {gb o gt g12 : Nat} {l : List Nat} (H : Rc w h b gb o gt g12 l w') : Rc w h b gb o gt g12 l w'.drew := ⟨H.rb.drew, H.e, H.lt⟩
theorem Rb.on {w w' w2 : World} {h : List Nat} {b : List UInt8} {gb o gt : Nat} {l : List Nat} (H : Rb w h b gb o gt l w') (hb : Below w'.heap.size w' w2) : Rb w h b gb o gt l w2 :=
 ⟨H.below.trans (hb.mono (Nat.le_of_lt H.n.lt)), H.n.on hb, H.z.on hb, H.l.on hb, H.b, H.hb, H.k⟩
theorem Rc.new {w wr : World} {h : List Nat} {b : List UInt8} {gb o gt : Nat} (H : Rb w h b gb o gt (wof b) wr) : ∃ w2, (wr.alloc (.cells #[.int .u32 0, .int .u32 0, .int .u32 0, .int .u32 0, .int .u32 0, .int .u32 0, .int .u32 0, .int .u32 0] 57)).setRow wr.heap.size (dv h).toArray = w2 ∧ Hid (Rc w h b gb o gt wr.heap.size h w2) := by
 refine ⟨_, rfl, ?_⟩
 rw [World.setRow_alloc_new]
 exact hid ⟨H.on ((Below.refl _ _).alloc (Nat.le_refl _) _), heap_alloc_new _ _, H.l.lt⟩
theorem Rc.row {w w' : World} {h : List Nat} {b : List UInt8} {gb o gt g12 : Nat} {l m : List Nat} (H : Rc w h b gb o gt g12 l w') : Rc w h b gb o gt g12 m (w'.setRow g12 (dv m).toArray) := by
 have hl := H.lt
 exact ⟨⟨below_setRow H.rb.below (by omega) _, H.rb.n.rowOther _ (by omega), H.rb.z.rowOther _ (by omega), H.rb.l.rowOther _ (by omega), H.rb.b, H.rb.hb, H.rb.k⟩, H.e.row, hl⟩
theorem Rc.set {w w' : World} {h : List Nat} {b : List UInt8} {gb o gt g12 : Nat} {l : List Nat} (H : Rc w h b gb o gt g12 l w') (k v : Nat) : Rc w h b gb o gt g12 (l.set k v) (w'.setCell ⟨g12, k, none⟩ (.int .u32 (v : Int))) := by
 have hl := H.lt
 exact ⟨⟨H.rb.below.setCell (by simp; omega) _, H.rb.n.other _ (by omega), H.rb.z.other _ (by omega), H.rb.l.other _ (by omega), H.rb.b, H.rb.hb, H.rb.k⟩, H.e.set k v, hl⟩
theorem i56 : (Tryd.prog.info? 57).map (·.size) = some 8 := by kernel_rfl
theorem hi56 (l : List Nat) (h : l.length = 8) : Hid ((Tryd.prog.info? 57).map (·.size) = some (dv l).toArray.size) := by rw [dv_size, h]; exact hid i56
theorem ho8 (l : List Nat) (h : l.length = 8) : Hid ((#[.int .u32 0, .int .u32 0, .int .u32 0, .int .u32 0, .int .u32 0, .int .u32 0, .int .u32 0, .int .u32 0] : Array Value).size = (dv l).toArray.size) := hid (by rw [dv_size, h]; rfl)
set_option maxRecDepth 100000 in
set_option maxHeartbeats 4000000 in
theorem block_any (h : List Nat) (b : List UInt8) (gb o gt cb : Nat) (w : World) (hl : h.length = 8) (hs : Sm h) (hb : b.length = 64) (hbs : ∀ j, (hj : j < b.length) → w.cell? ⟨gb, o + j, none⟩ = some (.int .u8 ((b[j].toNat : Nat) : Int))) (hg : gb < w.heap.size) (hk : Us w gt 56 kk) :
  Calls Tryd.prog 30 #[.agg (dv h).toArray, .slice (some ⟨gb, o, none⟩) 64 cb, .slice (some ⟨gt, 0, none⟩) 64 64] w fun e w' => e = .returned (.agg (dv (comp h b)).toArray) ∧ Below w.heap.size w w' := by
 have HT := Rb.init w h b gb o gt hbs hg hk
 have HB := hid hb
 have HL := hid hl
 have HSm := hid hs
 clear hl hs hb hbs hg hk
 go_enter Tryd.func30, Tryd.ntmps30
 go_wp2_with fail
 generalize ((w.alloc (.cells (dv h).toArray 57)).alloc (.cells #[.int .u32 0, .int .u32 0, .int .u32 0, .int .u32 0, .int .u32 0, .int .u32 0, .int .u32 0, .int .u32 0] 57)).alloc (.cells #[.int .u32 0, .int .u32 0, .int .u32 0, .int .u32 0, .int .u32 0, .int .u32 0, .int .u32 0, .int .u32 0, .int .u32 0, .int .u32 0, .int .u32 0, .int .u32 0, .int .u32 0, .int .u32 0, .int .u32 0, .int .u32 0, .int .u32 0, .int .u32 0, .int .u32 0, .int .u32 0, .int .u32 0, .int .u32 0, .int .u32 0, .int .u32 0, .int .u32 0, .int .u32 0, .int .u32 0, .int .u32 0, .int .u32 0, .int .u32 0, .int .u32 0, .int .u32 0, .int .u32 0, .int .u32 0, .int .u32 0, .int .u32 0, .int .u32 0, .int .u32 0, .int .u32 0, .int .u32 0, .int .u32 0, .int .u32 0, .int .u32 0, .int .u32 0, .int .u32 0, .int .u32 0, .int .u32 0, .int .u32 0, .int .u32 0, .int .u32 0, .int .u32 0, .int .u32 0, .int .u32 0, .int .u32 0, .int .u32 0, .int .u32 0, .int .u32 0, .int .u32 0, .int .u32 0, .int .u32 0, .int .u32 0, .int .u32 0, .int .u32 0, .int .u32 0] 69) = w0 at *
 go_loopw [8] (fun i wr => ∃ (k : Nat) (l : List Nat), k ≤ 16 ∧ i = .int .i64 k ∧ Hid (Rb w h b gb o gt l wr) ∧ Hid (l.length = 64) ∧ Hid (∀ j, j < 64 → at' l j = at' (own b k) j)) (fun i _ => 16 - (intOf i).toNat)
 case atStart => exact ⟨0, List.replicate 64 0, by omega, rfl, HT, hid rfl, hid (fun j hj => by rw [at_none (own b 0) j (Nat.zero_le _), at_lt (by simpa using hj), List.getElem_replicate])⟩
 case round =>
  clear HT
  obtain ⟨k, l, hk, rfl, HT, HLl, HA⟩ := hrel
  by_cases hlt : k < 16
  ·obtain ⟨q0, hq0⟩ : ∃ q, q = 4 * k := ⟨_, rfl⟩
   obtain ⟨q1, hq1⟩ : ∃ q, q = 4 * k + 1 := ⟨_, rfl⟩
   obtain ⟨q2, hq2⟩ : ∃ q, q = 4 * k + 2 := ⟨_, rfl⟩
   obtain ⟨q3, hq3⟩ : ∃ q, q = 4 * k + 3 := ⟨_, rfl⟩
   have i0 : 4 * (k : Int) = (q0 : Int) := by omega
   have i1 : (q0 : Int) + 1 = (q1 : Int) := by omega
   have i2 : (q0 : Int) + 2 = (q2 : Int) := by omega
   have i3 : (q0 : Int) + 3 = (q3 : Int) := by omega
   have l0 : q0 < 64 := by omega
   have l1 : q1 < 64 := by omega
   have l2 : q2 < 64 := by omega
   have l3 : q3 < 64 := by omega
   have H4 := hid (tell4 b k (by have := HB.out; omega))
   have c0 := HT.out.bytes (4 * k) (by have := HB.out; omega)
   have c1 := HT.out.bytes (4 * k + 1) (by have := HB.out; omega)
   have c2 := HT.out.bytes (4 * k + 2) (by have := HB.out; omega)
   have c3 := HT.out.bytes (4 * k + 3) (by have := HB.out; omega)
   have cw := HT.out.l.cell k (by have := HLl.out; omega)
   have cf := HT.out.l.frozen k
   have b0 := (b[4 * k]'(by have := HB.out; omega)).toNat_lt
   have b1 := (b[4 * k + 1]'(by have := HB.out; omega)).toNat_lt
   have b2 := (b[4 * k + 2]'(by have := HB.out; omega)).toNat_lt
   have b3 := (b[4 * k + 3]'(by have := HB.out; omega)).toNat_lt
   generalize (b[4 * k]'(by have := HB.out; omega)).toNat = x0 at *
   generalize (b[4 * k + 1]'(by have := HB.out; omega)).toNat = x1 at *
   generalize (b[4 * k + 2]'(by have := HB.out; omega)).toNat = x2 at *
   generalize (b[4 * k + 3]'(by have := HB.out; omega)).toNat = x3 at *
   rw [← hq0] at c0
   rw [← hq1] at c1
   rw [← hq2] at c2
   rw [← hq3] at c3
   have HX := hid (four_eq x0 x1 x2 x3 b0 b1 b2 b3)
   rw [← H4.out] at HX
   clear b0 b1 b2 b3 hq0 hq1 hq2 hq3
   go_wp2_with fail
   go_region
   go_wp2
   refine ⟨⟨k + 1, l.set k (tell ((b.drop (4 * k)).take 4)), by omega, by go_num, ?_, hid (by rw [List.length_set]; exact HLl.out), hid ?_⟩, by simp [intOf]; omega⟩
   ·have := (HT.out.set k (tell ((b.drop (4 * k)).take 4))).drew
    rw [← HX.out] at this
    exact hid this
   ·intro j hj
    rw [at_set _ _ _ _ (by have := HLl.out; omega), HA.out j hj, own, at_end, own_length]
  ·obtain rfl : k = 16 := by omega
   have HA2 := hid (p := ∀ j, j < 64 → at' l j = at' (ext (own b 16) 0) j) (fun j hj => HA.out j hj)
   clear HA
   go_wp2_with fail
   go_loopw [9] (fun i wr => ∃ (k : Nat) (l : List Nat), 16 ≤ k ∧ k ≤ 64 ∧ i = .int .i64 k ∧ Hid (Rb w h b gb o gt l wr) ∧ Hid (l.length = 64) ∧ Hid (∀ j, j < 64 → at' l j = at' (ext (own b 16) (k - 16)) j)) (fun i _ => 64 - (intOf i).toNat)
   case atStart => exact ⟨16, l, by omega, by omega, rfl, HT, HLl, HA2⟩
   case round =>
    clear HT HLl HA2
    obtain ⟨k, l, hk0, hk, rfl, HT, HLl, HA⟩ := hrel
    by_cases hlt : k < 64
    ·have HF := rb_facts HT.out HLl.out HA.out hk0 hlt
     have HK := hid hk0
     have HK2 := hid hk
     clear hk0 hk
     obtain ⟨p15, p16, p7, p2, x, v16, v7, y, zx, zy, hp15, hp16, hp7, hp2, l15, l2, c15, c2, b15, b2, hzx, hzy, w16, w7, i16, i7, ik, j16, j7, jk, hS, HC, HKC, HV⟩ := HF
     go_wp2_with fail
     refine rb11_ok hp16 hp7 b15 b2 hzx hzy w16 w7 i16 i7 ik j16 j7 jk hS HC.out.1 HC.out.2 HKC HV _ _ _ _ _ _ _ _ _ _ _ _ _ _ _ _ _ _ _ _ _ _ _ _ _ _ _ _ _ _ _ _ _ _ _ _ _ _ _ _ _ _ _ _ _ _ _ _ _ _ _ _ _ _ _ _ _ _ _ _ _ _ _ _ _ _ _ _ _ _ _ _ _ _ _ _ _ _ _ _ _ _ _ _ _ _ _ _ _ _ _ _ _ _ _ _ _ _ _ _ _ _ _ _ _ _ _ _ _ _ _ _ _ _ _ _ _ _ _ _ _ _ _ _ _ _ _ _ _ _ _ _ _ _ _ _ _ _ _ _ _ _ _ _ _ _ _ _ _ _ _ _ _ _ _ _ _ _ _ _ _ _ _ _ _ _ _ _ _ _ _ _ _ _ _ _ _ _ _ _ _ _ _ _ _ _ _ _ _ _ _ (hid ?_)
     intro d70 d71 d72 d73 d74 d75 d76 d77 d78 d79 d80 d81 d82 d83 d84 d85 d86 d87 d88 d89 d90 d91 d92 d93 d94 d95 d96 d97 d98
     have HN := hid (HT.out.drew.set k (nxw (ext (own b 16) (k - 16))))
     generalize wr.drew.setCell ⟨w.heap.size + 1 + 1, k, none⟩ (.int .u32 ((nxw (ext (own b 16) (k - 16)) : Nat) : Int)) = wn at *
     go_wp2
     have h0 := HK.out
     refine ⟨⟨k + 1, l.set k (nxw (ext (own b 16) (k - 16))), by omega, by omega, by go_num, HN, hid (by rw [List.length_set]; exact HLl.out), hid ?_⟩, by simp [intOf]; omega⟩
     intro j hj
     rw [at_set _ _ _ _ (by have := HLl.out; omega), show k + 1 - 16 = (k - 16) + 1 by omega, ext, at_end, ext_length, own_length, show 16 + (k - 16) = k by omega]
     by_cases h : j = k
     ·rw [if_pos h, if_pos h]
     ·rw [if_neg h, if_neg h, HA.out j hj]
    ·obtain rfl : k = 64 := by omega
     have hlw : l = wof b := by
      refine eq_of_at (by rw [HLl.out, wof_length]) (fun j hj => ?_)
      rw [HA.out j (by have := HLl.out; omega)]; rfl
     have HT2 : Hid (Rb w h b gb o gt (wof b) wr) := hid (hlw ▸ HT.out)
     clear HA HLl HT hlw
     have HI := hi56 h HL.out
     have HO := ho8 h HL.out
     have HDA := dv_all h
     obtain ⟨w3, hw3, HT3⟩ := Rc.new HT2.out
     have HZN := HT2.out.n
     unfold Us at HZN
     have HZN := hid HZN
     go_upto_region 12 with fail
     go_wp2_with (first | (refine wpList_load_row rfl 57 (.tmp 3) rfl w.heap.size rfl 57 (dv h).toArray (0, 0) _ HZN.out Tryd.underlying57 rfl HI.out ?_) | (refine wpList_store_row rfl 57 (.tmp 12) (.tmp 99) rfl wr.heap.size (dv h).toArray rfl rfl 57 _ (heap_alloc_new _ _) HI.out HO.out HDA ?_; rw [hw3]))
     clear hw3 HI HO HDA HZN HT2
     generalize wr.heap.size = g12 at *
     go_loopw [13] (fun i wr => ∃ (k : Nat) (oc : Oct), k ≤ 64 ∧ i = .int .i64 k ∧ Hid oc.Sm ∧ Hid (oc = rnds (oct h) (wof b) k) ∧ Hid (Rc w h b gb o gt g12 oc.l wr)) (fun i _ => 64 - (intOf i).toNat)
     case atStart => exact ⟨0, oct h, by omega, rfl, hid (oct_sm HSm.out), hid rfl, hid (by rw [oct_l HL.out]; exact HT3.out)⟩
     case round =>
      clear HT3
      obtain ⟨k, oc, hk, rfl, HO, HR, HT⟩ := hrel
      have x0 : wr.cell? ⟨g12, 0, none⟩ = some (.int .u32 (oc.a : Nat)) := HT.out.e.cell 0 (by decide : (0 : Nat) < 8)
      have x1 : wr.cell? ⟨g12, 1, none⟩ = some (.int .u32 (oc.b : Nat)) := HT.out.e.cell 1 (by decide : (1 : Nat) < 8)
      have x2 : wr.cell? ⟨g12, 2, none⟩ = some (.int .u32 (oc.c : Nat)) := HT.out.e.cell 2 (by decide : (2 : Nat) < 8)
      have x3 : wr.cell? ⟨g12, 3, none⟩ = some (.int .u32 (oc.d : Nat)) := HT.out.e.cell 3 (by decide : (3 : Nat) < 8)
      have x4 : wr.cell? ⟨g12, 4, none⟩ = some (.int .u32 (oc.e : Nat)) := HT.out.e.cell 4 (by decide : (4 : Nat) < 8)
      have x5 : wr.cell? ⟨g12, 5, none⟩ = some (.int .u32 (oc.f : Nat)) := HT.out.e.cell 5 (by decide : (5 : Nat) < 8)
      have x6 : wr.cell? ⟨g12, 6, none⟩ = some (.int .u32 (oc.g : Nat)) := HT.out.e.cell 6 (by decide : (6 : Nat) < 8)
      have x7 : wr.cell? ⟨g12, 7, none⟩ = some (.int .u32 (oc.h : Nat)) := HT.out.e.cell 7 (by decide : (7 : Nat) < 8)
      by_cases hlt : k < 64
      ·have xk := HT.out.rb.kt.cell k (by rw [kk_length]; exact hlt)
       have xw := HT.out.rb.l.cell k (by rw [wof_length]; exact hlt)
       go_wp2_with fail
       refine rb18_ok (w := w) (g12 := g12) (gt := gt) (tv := tt oc (at' kk k) (at' (wof b) k)) HO.out.e (by omega) (by omega) (wi_eq k hlt) ⟨x7, x5, x6, xk, xw⟩ (hid (t_eq2 oc.e oc.f oc.g oc.h (at' kk k) (at' (wof b) k) HO.out.e HO.out.f HO.out.g)) _ _ _ _ _ _ _ _ _ _ _ _ _ _ _ _ _ _ _ _ _ _ _ _ _ _ _ _ _ _ _ _ _ _ _ _ _ _ _ _ _ _ _ _ _ _ _ _ _ _ _ _ _ _ _ _ _ _ _ _ _ _ _ _ _ _ _ _ _ _ _ _ _ _ _ _ _ _ _ _ _ _ _ _ _ _ _ _ _ _ _ _ _ _ _ _ _ _ _ _ _ _ _ _ _ _ _ _ _ _ _ _ _ _ _ _ _ _ _ _ _ _ _ _ _ _ _ _ _ _ _ _ _ _ _ _ _ _ _ _ _ _ _ _ _ _ _ _ _ _ _ _ _ _ _ _ _ _ _ _ _ _ _ _ _ _ _ _ _ _ _ _ _ _ _ _ _ _ _ _ _ _ _ _ _ _ _ _ _ _ (hid ?_)
       intro d108 d109 d110 d111 d112 d113 d114 d115 d116 d117 d118 d119 d120 d121 d122 d123 d124 d125 d126 d127 d128 d129 d130 d131 d132 d133 d134 d135 d136 d137 d138
       have HT2 := hid HT.out.drew
       have y1 : wr.drew.cell? ⟨g12, 1, none⟩ = some (.int .u32 (oc.b : Nat)) := x1
       have y2 : wr.drew.cell? ⟨g12, 2, none⟩ = some (.int .u32 (oc.c : Nat)) := x2
       have y3 : wr.drew.cell? ⟨g12, 3, none⟩ = some (.int .u32 (oc.d : Nat)) := x3
       have y5 : wr.drew.cell? ⟨g12, 5, none⟩ = some (.int .u32 (oc.f : Nat)) := x5
       have y6 : wr.drew.cell? ⟨g12, 6, none⟩ = some (.int .u32 (oc.g : Nat)) := x6
       clear x0 x1 x2 x3 x4 x5 x6 x7 xk xw HT
       generalize wr.drew = wd at *
       go_wp2_with fail
       refine rb19_ok (g12 := g12) (uv := uu oc) HO.out.a ⟨y1, y2⟩ (hid (u_eq2 oc.a oc.b oc.c HO.out.a HO.out.b HO.out.c)) _ _ _ _ _ _ _ _ _ _ _ _ _ _ _ _ _ _ _ _ _ _ _ _ _ _ _ _ _ _ _ _ _ _ _ _ _ _ _ _ _ _ _ _ _ _ _ _ _ _ _ _ _ _ _ _ _ _ _ _ _ _ _ _ _ _ _ _ _ _ _ _ _ _ _ _ _ _ _ _ _ _ _ _ _ _ _ _ _ _ _ _ _ _ _ _ _ _ _ _ _ _ _ _ _ _ _ _ _ _ _ _ _ _ _ _ _ _ _ _ _ _ _ _ _ _ _ _ _ _ _ _ _ _ _ _ _ _ _ _ _ _ _ _ _ _ _ _ _ _ _ _ _ _ _ _ _ _ _ _ _ _ _ _ _ _ _ _ _ _ _ _ _ _ _ _ _ _ _ _ _ _ _ _ _ _ _ _ _ _ _ _ _ (hid ?_)
       intro d139 d140 d141 d142 d143 d144 d145 d146 d147 d148 d149 d150 d151 d152 d153 d154 d155 d156 d157 d158 d159 d160 d161 d162
       have HT3 := hid HT2.out.drew
       have z1 : wd.drew.cell? ⟨g12, 1, none⟩ = some (.int .u32 (oc.b : Nat)) := y1
       have z2 : wd.drew.cell? ⟨g12, 2, none⟩ = some (.int .u32 (oc.c : Nat)) := y2
       have z3 : wd.drew.cell? ⟨g12, 3, none⟩ = some (.int .u32 (oc.d : Nat)) := y3
       have z5 : wd.drew.cell? ⟨g12, 5, none⟩ = some (.int .u32 (oc.f : Nat)) := y5
       have z6 : wd.drew.cell? ⟨g12, 6, none⟩ = some (.int .u32 (oc.g : Nat)) := y6
       clear y1 y2 y3 y5 y6 HT2
       generalize wd.drew = we at *
       have HRS := hid (p := rnd oc (at' kk k) (at' (wof b) k) = rnds (oct h) (wof b) (k + 1)) (by rw [rnds, ← HR.out])
       have HOS := hid (rnd_sm HO.out (at' kk k) (at' (wof b) k))
       obtain ⟨na, hna⟩ : ∃ na, na = (tt oc (at' kk k) (at' (wof b) k) + uu oc) % 4294967296 := ⟨_, rfl⟩
       obtain ⟨ne, hne⟩ : ∃ ne, ne = (oc.d + tt oc (at' kk k) (at' (wof b) k)) % 4294967296 := ⟨_, rfl⟩
       have hl2 : (rnd oc (at' kk k) (at' (wof b) k)).l = [na, oc.a, oc.b, oc.c, ne, oc.e, oc.f, oc.g] := by rw [hna, hne]; rfl
       have HN := hid (HT3.out.row (m := [na, oc.a, oc.b, oc.c, ne, oc.e, oc.f, oc.g]))
       have hta : IntKind.u32.wrap (((tt oc (at' kk k) (at' (wof b) k) : Nat) : Int) + ((uu oc : Nat) : Int)) = (na : Int) := by rw [IntKind.wrap_u32]; omega
       have htd : IntKind.u32.wrap ((oc.d : Int) + ((tt oc (at' kk k) (at' (wof b) k) : Nat) : Int)) = (ne : Int) := by rw [IntKind.wrap_u32]; omega
       have HL2 := hid hl2
       clear hna hne hl2
       have HZE := HT3.out.e
       unfold Us at HZE
       have HZE := hid HZE
       have HI := hi56 [na, oc.a, oc.b, oc.c, ne, oc.e, oc.f, oc.g] rfl
       have HO8 : Hid ((dv oc.l).toArray.size = (dv [na, oc.a, oc.b, oc.c, ne, oc.e, oc.f, oc.g]).toArray.size) := hid rfl
       go_wp2_with (refine wpList_store_row rfl 57 (.tmp 12) (.tmp 180) rfl g12 (dv [na, oc.a, oc.b, oc.c, ne, oc.e, oc.f, oc.g]).toArray rfl rfl 57 _ HZE.out HI.out HO8.out (dv_all _) ?_)
       refine ⟨⟨k + 1, rnd oc (at' kk k) (at' (wof b) k), by omega, by go_num, HOS, HRS, hid (by rw [HL2.out]; exact HN.out)⟩, by simp [intOf]; omega⟩
      ·obtain rfl : k = 64 := by omega
       clear x0 x1 x2 x3 x4 x5 x6 x7
       have HR2 := hid (p := oc.l = (rnds (oct h) (wof b) 64).l) (by rw [← HR.out])
       have HRL := hid (show oc.l.length = 8 from rfl)
       clear HR
       go_wp2_with fail
       generalize oc.l = r at *
       go_loopw [18] (fun i wr => ∃ (k : Nat) (m : List Nat), k ≤ 8 ∧ i = .int .i64 k ∧ Hid (Rc w h b gb o gt g12 m wr) ∧ Hid (m.length = 8) ∧ Hid (∀ j, j < 8 → at' m j = if j < k then (at' h j + at' r j) % 4294967296 else at' r j)) (fun i _ => 8 - (intOf i).toNat)
       case atStart => exact ⟨0, r, by omega, rfl, HT, HRL, hid (fun j _ => by rw [if_neg (Nat.not_lt_zero _)])⟩
       case round =>
        clear HT
        obtain ⟨k, m, hk, rfl, HT, HM, HA⟩ := hrel
        by_cases hlt : k < 8
        ·have hcl := HT.out.e.cell k (by have := HM.out; omega)
         have hfr := HT.out.e.frozen k
         have hch := HT.out.rb.n.cell k (by have := HL.out; omega)
         rw [HA.out k hlt, if_neg (Nat.lt_irrefl _)] at hcl
         have HVV := hid (p := (((at' r k : Nat) : Int) + ((at' h k : Nat) : Int)) % 4294967296 = (((at' h k + at' r k) % 4294967296 : Nat) : Int)) (by omega)
         generalize hz : (at' h k + at' r k) % 4294967296 = z at HVV
         have HZ := hid hz
         clear hz
         go_wp2_with fail
         go_region
         go_wp2
         refine ⟨⟨k + 1, m.set k z, by omega, by go_num, ?_, hid (by rw [List.length_set]; exact HM.out), hid ?_⟩, by simp [intOf]; omega⟩
         ·have := (HT.out.set k z).drew
          rw [← HVV.out] at this
          exact hid this
         ·intro j hj
          rw [at_set _ _ _ _ (by have := HM.out; omega), HA.out j hj]
          by_cases h : j = k
          ·subst h; rw [if_pos rfl, if_pos (by omega), HZ.out]
          ·rw [if_neg h]
           by_cases h2 : j < k
           ·rw [if_pos h2, if_pos (by omega)]
           ·rw [if_neg h2, if_neg (by omega)]
        ·obtain rfl : k = 8 := by omega
         have hme : m = comp h b := by
          refine eq_of_at (by rw [HM.out, comp_length _ _ HL.out]) (fun j hj => ?_)
          have hj8 : j < 8 := by have := HM.out; omega
          rw [HA.out j hj8, if_pos hj8, comp, at_addl _ _ HL.out rfl j hj8, HR2.out]
         have HT2 : Hid (Rc w h b gb o gt g12 (comp h b) wr) := hid (hme ▸ HT.out)
         have HCL := hid (comp_length h b HL.out)
         clear HT HM HA hme
         generalize hr : comp h b = q at *
         have HRR := hid hr
         clear hr
         have HI := hi56 q HCL.out
         have HO8 : Hid ((dv (List.replicate 8 0)).toArray.size = (dv q).toArray.size) := hid (by rw [dv_size, dv_size, HCL.out, List.length_replicate])
         have HZ := hid (HT2.out.rb.z.row (m := q))
         have HBW := hid (p := Below w.heap.size w (wr.setRow (w.heap.size + 1) (dv q).toArray)) (below_setRow HT2.out.rb.below (Nat.le_succ _) _)
         go_upto_region 25 with fail
         have HDA := dv_all q
         have HZL := HT2.out.e
         have HZZ := HT2.out.rb.z
         unfold Us at HZL HZZ
         have HZL := hid HZL
         have HZZ := hid HZZ
         go_wp2_with (first | (refine wpList_load_row rfl 57 (.tmp 12) rfl g12 rfl 57 (dv q).toArray (0, 0) _ HZL.out Tryd.underlying57 rfl HI.out ?_) | (refine wpList_store_row rfl 57 (.tmp 6) (.tmp 194) rfl (w.heap.size + 1) (dv q).toArray rfl rfl 57 _ HZZ.out HI.out HO8.out HDA ?_))
         exact bodyPost_ret (v := .agg (dv q).toArray) (results_cell_row (p := 6) (ty := 57) Tryd.results30 _ _ (w.heap.size + 1) 57 (dv q).toArray (0, 0) _ rfl HZ.out Tryd.underlying57 rfl HI.out) rfl ⟨by rw [HRR.out], HBW.out⟩
end Go.Proofs.YtaejcifpipegnaaDoor

/-
  (*shas.Run).Sum, Write, shas.Of, walked. Conditions: the library's table holds what its text lays; no more than 2^46 bytes.
  burrowlaw05.text, walked: a sum as digits of 16. Conditions: none.
  What '==' says of two sums. Conditions: none.
  burrowlaw05.alive, walked: it answers true. Condition: the library's table holds what its text lays.
  A run, and boxes of sums, as a law carries them. Conditions: none.
  Parts of slices as nums.PutBytes takes them (the head of the template for PutLong). Conditions: none.
  nums.PutBytes, walked: the bytes, then in four how many others there are, then these, in new memory. Condition: no more than 2^46 bytes came in, either time.
  shas.As, walked: the sum of what is spelt. Conditions: the library's table holds what its text lays; a thousand parts at most, each of 2^20 bytes at most.
  nums.told, walked: it answers the number that the bytes tell. Condition: at most eight bytes.
  nums.GetLong, walked: refused, or the long number that the first 32 bytes tell. Condition: the slice's capacity is at most 2^47.
  slices.Clip of a list of parts, walked: the same slice, its capacity its length.
  append of one more part onto a list of parts that is full: a new list. Condition: a thousand parts at most.
  Long numbers of four words, as numbers: no program stands here. Conditions: none.
  A long number as four words, as a value, and in memory; sums and differences of words. Conditions: none.
-/
import Derived.Test.YtikmhnlhaolbfaaDoorPkB
import Derived.BigQuiet
import Derived.Test.YtikmhnlhaolbfaaDoorPkA
import Derived.WalkLawsBesides
import Derived.WalkSpells
import Derived.Deep.Cut
import Derived.Lib.SlBytesConst
import Derived.StillTailTactics
import Derived.Laws.IdiomStrings
import Derived.Outline
import Derived.Test.YtikmhnlhaolbfaaDoorRows
import Derived.WalkKit
import Derived.Laws.CopyOwn
import Derived.Shelf.Spec.BitsCarry
namespace Go.Proofs.YtikmhnlhaolbfaaDoor
open Go.RowKit
set_option linter.unusedVariables false
set_option linter.unusedSimpArgs false

theorem i61 : (Tryd.prog.info? 61).map (·.size) = some 74 := by kernel_rfl
theorem below_grown {B g : Nat} {w w1 w2 : World} (h : Below B w w1) (k : w1.grownBy w2 (some g)) (hg : B ≤ g) (hB : B ≤ w1.heap.size) : Below B w w2 :=
  h.trans ⟨k.os, k.tape, k.output, k.size, fun i hi => k.block i (by omega) (by intro e; injection e with e; omega)⟩
theorem rc_all (l : List Nat) (b : List UInt8) (n : Nat) : (rc l b n).toArray.all (·.oneCell') = true := by
  refine all_oneCell_toArray (fun v hv => ?_)
  simp only [rc, List.mem_cons, List.mem_append, List.not_mem_nil, or_false] at hv
  rcases hv with rfl | h | h | rfl
  · rfl
  · exact dv_one l v h
  · exact bvs_one b v h
  · rfl
theorem rc_size {l : List Nat} {b : List UInt8} (n : Nat) (hl : l.length = 8) (hb : b.length = 64) : (rc l b n).toArray.size = 74 := by rw [List.size_toArray, rc_length n hl hb]
/-- the answer's box, then the run's likeness -/
theorem sum_boxes (w w1 : World) (g : Nat) (bs : List UInt8) (b : List UInt8) (old : Array Value) (hB : Below w.heap.size w w1) (hs : w.heap.size < w1.heap.size) (hz : Bt w1 w.heap.size 44 (List.replicate 32 0))
    (hR : Rn w1 g (eat hh bs (bs.length / 64)) b bs.length) (hb : b.length = 64) (ht : b.take (bs.length % 64) = bs.drop (64 * (bs.length / 64))) :
    ∃ w2, (w1.alloc (.cells old 61)).setRow w1.heap.size (rc (eat hh bs (bs.length / 64)) b bs.length).toArray = w2 ∧ Hid (Below w.heap.size w w2) ∧ Hid (Bt w2 w.heap.size 44 (List.replicate 32 0)) ∧ Hid (RunIs w2 w1.heap.size bs) ∧ Hid (Rn w2 g (eat hh bs (bs.length / 64)) b bs.length) ∧ Hid (w1.heap.size < w2.heap.size) := by
  refine ⟨_, rfl, ?_⟩
  rw [World.setRow_alloc_new]
  have hx : Below w1.heap.size w1 (w1.alloc (.cells (rc (eat hh bs (bs.length / 64)) b bs.length).toArray 61)) := (Below.refl _ _).alloc (Nat.le_refl _) _
  exact ⟨hid (hB.trans (hx.mono (by omega))), hid (hz.on hx), hid ⟨b, hb, ht, heap_alloc_new _ _⟩, hid ((hx.block g hR.lt).trans hR), hid (by simp)⟩
set_option maxRecDepth 100000 in
set_option maxHeartbeats 2000000 in
theorem sum_any (g : Nat) (bs : List UInt8) (w : World) (hR : RunIs w g bs) (hK : Kt w) (hl : bs.length ≤ 70368744177664) :
    Calls Tryd.prog 40 #[.pointer (some ⟨g, 0, none⟩)] w fun e w' => e = .returned (.agg (bvs (sha bs)).toArray) ∧ Below w.heap.size w w' := by
  obtain ⟨b, hb, ht, hR⟩ := hR
  have HB := hid hb
  have HT := hid ht
  have HR := hid hR
  have HK := hid hK
  have HL := hid hl
  clear hb ht hR hK hl
  go_enter Tryd.func40, Tryd.ntmps40
  go_wp2_with fail
  have HR1 : Hid (Rn (w.alloc (.cells #[.int .u8 0, .int .u8 0, .int .u8 0, .int .u8 0, .int .u8 0, .int .u8 0, .int .u8 0, .int .u8 0, .int .u8 0, .int .u8 0, .int .u8 0, .int .u8 0, .int .u8 0, .int .u8 0, .int .u8 0, .int .u8 0, .int .u8 0, .int .u8 0, .int .u8 0, .int .u8 0, .int .u8 0, .int .u8 0, .int .u8 0, .int .u8 0, .int .u8 0, .int .u8 0, .int .u8 0, .int .u8 0, .int .u8 0, .int .u8 0, .int .u8 0, .int .u8 0] 44)) g (eat hh bs (bs.length / 64)) b bs.length) := hid ((((Below.refl _ _).alloc (Nat.le_refl _) _ : Below w.heap.size w (w.alloc (.cells #[.int .u8 0, .int .u8 0, .int .u8 0, .int .u8 0, .int .u8 0, .int .u8 0, .int .u8 0, .int .u8 0, .int .u8 0, .int .u8 0, .int .u8 0, .int .u8 0, .int .u8 0, .int .u8 0, .int .u8 0, .int .u8 0, .int .u8 0, .int .u8 0, .int .u8 0, .int .u8 0, .int .u8 0, .int .u8 0, .int .u8 0, .int .u8 0, .int .u8 0, .int .u8 0, .int .u8 0, .int .u8 0, .int .u8 0, .int .u8 0, .int .u8 0, .int .u8 0] 44))).block g HR.out.lt).trans HR.out)
  have HZ1 : Hid (Bt (w.alloc (.cells #[.int .u8 0, .int .u8 0, .int .u8 0, .int .u8 0, .int .u8 0, .int .u8 0, .int .u8 0, .int .u8 0, .int .u8 0, .int .u8 0, .int .u8 0, .int .u8 0, .int .u8 0, .int .u8 0, .int .u8 0, .int .u8 0, .int .u8 0, .int .u8 0, .int .u8 0, .int .u8 0, .int .u8 0, .int .u8 0, .int .u8 0, .int .u8 0, .int .u8 0, .int .u8 0, .int .u8 0, .int .u8 0, .int .u8 0, .int .u8 0, .int .u8 0, .int .u8 0] 44)) w.heap.size 44 (List.replicate 32 0)) := hid (heap_alloc_new w _)
  have HB1 : Hid (Below w.heap.size w (w.alloc (.cells #[.int .u8 0, .int .u8 0, .int .u8 0, .int .u8 0, .int .u8 0, .int .u8 0, .int .u8 0, .int .u8 0, .int .u8 0, .int .u8 0, .int .u8 0, .int .u8 0, .int .u8 0, .int .u8 0, .int .u8 0, .int .u8 0, .int .u8 0, .int .u8 0, .int .u8 0, .int .u8 0, .int .u8 0, .int .u8 0, .int .u8 0, .int .u8 0, .int .u8 0, .int .u8 0, .int .u8 0, .int .u8 0, .int .u8 0, .int .u8 0, .int .u8 0, .int .u8 0] 44))) := hid ((Below.refl _ _).alloc (Nat.le_refl _) _)
  have HS1 : Hid (w.heap.size < (w.alloc (.cells #[.int .u8 0, .int .u8 0, .int .u8 0, .int .u8 0, .int .u8 0, .int .u8 0, .int .u8 0, .int .u8 0, .int .u8 0, .int .u8 0, .int .u8 0, .int .u8 0, .int .u8 0, .int .u8 0, .int .u8 0, .int .u8 0, .int .u8 0, .int .u8 0, .int .u8 0, .int .u8 0, .int .u8 0, .int .u8 0, .int .u8 0, .int .u8 0, .int .u8 0, .int .u8 0, .int .u8 0, .int .u8 0, .int .u8 0, .int .u8 0, .int .u8 0, .int .u8 0] 44)).heap.size) := hid (by simp)
  generalize w.alloc (.cells #[.int .u8 0, .int .u8 0, .int .u8 0, .int .u8 0, .int .u8 0, .int .u8 0, .int .u8 0, .int .u8 0, .int .u8 0, .int .u8 0, .int .u8 0, .int .u8 0, .int .u8 0, .int .u8 0, .int .u8 0, .int .u8 0, .int .u8 0, .int .u8 0, .int .u8 0, .int .u8 0, .int .u8 0, .int .u8 0, .int .u8 0, .int .u8 0, .int .u8 0, .int .u8 0, .int .u8 0, .int .u8 0, .int .u8 0, .int .u8 0, .int .u8 0, .int .u8 0] 44) = w1 at *
  refine (there_any g true w1 HR1.out.made).mono ?_
  rintro e wt ⟨rfl, rfl⟩
  have HI : Hid ((Tryd.prog.info? 61).map (·.size) = some (rc (eat hh bs (bs.length / 64)) b bs.length).toArray.size) := hid (by rw [rc_size _ (so_length _ _) HB.out]; exact i61)
  have HRH := HR1.out
  unfold Rn at HRH
  have HRH := hid HRH
  have HAL := rc_all (eat hh bs (bs.length / 64)) b bs.length
  have HSZ := hid (rc_size bs.length (so_length bs (bs.length / 64)) HB.out)
  go_upto_region 3 with fail
  obtain ⟨w2, hw2, HB2, HZ2, HR2, HRn2, HS2⟩ := sum_boxes w w1 g bs b Tryd.zeroCells61 HB1.out HS1.out HZ1.out HR1.out HB.out HT.out
  have hcn := HRn2.out.count (so_length _ _) HB.out
  generalize (rc (eat hh bs (bs.length / 64)) b bs.length).toArray = R at *
  go_wp2_with (first | (refine wpList_load_row rfl 61 (.tmp 9) rfl g rfl 61 R (0, 0) _ HRH.out Tryd.underlying61 rfl HI.out ?_) | (refine wpList_store_row rfl 61 (.tmp 3) (.tmp 10) rfl w1.heap.size R rfl rfl 61 _ (heap_alloc_new _ _) HI.out (by rw [HSZ.out]; rfl) HAL ?_; rw [hw2]))
  have HKw := hid (HK.out.on HB2.out)
  have H3w := hid (Nat.ne_of_lt (Nat.lt_of_lt_of_le HK.out.lt HB1.out.size))
  have HSw := hid HB1.out.size
  have HSX := hid HS1.out
  generalize w1.heap.size = g3 at *
  clear hw2 HRH HAL HSZ HI HR1 HZ1 HB1 HS1
  refine (ending_any bs.length w2 (by have := HL.out; omega)).mono ?_
  rintro e w3 ⟨⟨ge, k, rfl, hk, hge, hrow⟩, hb3⟩
  have HGE := hid hge
  have HROW := hid hrow
  have HB3 := hid hb3
  have HKK := hid hk
  clear hge hrow hb3 hk
  go_wp2_with fail
  have hgn : g3 ≠ ge := Nat.ne_of_lt (Nat.lt_of_lt_of_le HS2.out HGE.out)
  refine (add_any g3 (some ⟨ge, 0, none⟩) k bs (tail bs.length) w3 k HKK.out.symm (HR2.out.heap (HB3.out.block g3 HS2.out)) HROW.out.rd0 (fun _ ad e => by injection e with e; subst e; exact hgn.symm) (Nat.le_refl _) (HKw.out.on HB3.out) H3w.out (by have := HL.out; rw [HKK.out, tail_length]; unfold nought; omega)).mono ?_
  rintro e w4 ⟨rfl, hr4, hg4⟩
  have HR4 := hid hr4
  have HB4 := hid (below_grown (HB2.out.trans (HB3.out.mono HB2.out.size)) hg4 HSw.out (Nat.le_trans HB2.out.size HB3.out.size))
  have HZ4 := hid (show Bt w4 w.heap.size 44 (List.replicate 32 0) from (hg4.block w.heap.size (Nat.lt_of_lt_of_le HZ2.out.lt HB3.out.size) (by intro e; injection e with e; have := HSX.out; omega)).trans ((HB3.out.block _ HZ2.out.lt).trans HZ2.out))
  clear hr4 hg4
  obtain ⟨b5, hb5, ht5, hr5⟩ := HR4.out
  have HRG := hid hr5.so
  have hE : Hid (sha bs = spell (eat hh (bs ++ tail bs.length) ((bs ++ tail bs.length).length / 64))) := hid rfl
  have HL5 := hid (so_length (bs ++ tail bs.length) ((bs ++ tail bs.length).length / 64))
  clear hb5 ht5 hr5
  generalize eat hh (bs ++ tail bs.length) ((bs ++ tail bs.length).length / 64) = so at *
  have HI57 := hi57 so HL5.out
  rw [dv_size, ← dv_length] at HI57
  go_wp2_with (refine wpList_load_mid rfl 57 (.tmp 17) rfl g3 1 rfl (dv so) _ HRG.out Tryd.underlying57 rfl HI57.out ?_)
  refine (tell_any' so w4 HL5.out).mono ?_
  rintro e w5 ⟨rfl, hb5⟩
  have hEE := hE.out
  rw [← hEE]
  clear hEE
  have HZ5 := hid (HZ4.out.on hb5)
  have HB5 := hid (HB4.out.trans (hb5.mono HB4.out.size))
  have HSL := hid (sha_length bs)
  generalize hr : sha bs = r at *
  have HRR := hid hr
  clear hr
  have HI44 := hi44 r HSL.out
  have HO8 : Hid ((bvs (List.replicate 32 0)).toArray.size = (bvs r).toArray.size) := hid (by rw [bvs_size, bvs_size, HSL.out, List.length_replicate])
  have HZR := hid (HZ5.out.row (m := r))
  have HBR := hid (p := Below w.heap.size w (w5.setRow w.heap.size (bvs r).toArray)) (below_setRow HB5.out (Nat.le_refl _) _)
  have HDA := bvs_all r
  have HZZ := HZ5.out
  unfold Bt at HZZ
  have HZZ := hid HZZ
  go_wp2_with (refine wpList_store_row rfl 44 (.tmp 2) (.tmp 19) rfl w.heap.size (bvs r).toArray rfl rfl 44 _ HZZ.out HI44.out HO8.out HDA ?_)
  exact bodyPost_ret (v := .agg (bvs r).toArray) (results_cell_row (p := 2) (ty := 44) Tryd.results40 _ _ w.heap.size 44 (bvs r).toArray (0, 0) _ rfl HZR.out Tryd.underlying44 rfl HI44.out) rfl ⟨by rw [HRR.out], HBR.out⟩
theorem write_any (g : Nat) (A : Option Addr) (c : Nat) (bs part : List UInt8) (w : World) (n : Nat) (hn : part.length = n) (hR : RunIs w g bs) (hr : Rd w A part) (hA : 0 < n → ∀ ad, A = some ad → ad.block ≠ g) (hc : n ≤ c) (hK : Kt w) (h3 : 3 ≠ g) (hlen : bs.length + n ≤ 140737488355328) :
    Calls Tryd.prog 39 #[.pointer (some ⟨g, 0, none⟩), .slice A n c] w fun e w' => e = .returned (.int .i64 0) ∧ RunIs w' g (bs ++ part) ∧ w.grownBy w' (some g) := by
  have HC := hid (add_any g A c bs part w n hn hR hr hA hc hK h3 hlen)
  obtain ⟨b, hb, ht, hRn⟩ := hR
  have hm := hRn.made
  clear hb ht hRn hn hr hA hc hK h3 hlen
  go_enter Tryd.func39, Tryd.ntmps39
  go_wp2_with fail
  refine (there_any g true _ hm).mono ?_
  rintro e wt ⟨rfl, rfl⟩
  go_wp2_with fail
  refine HC.out.mono ?_
  rintro e w4 ⟨rfl, hr4, hg4⟩
  go_wp2
  go_ret
  exact ⟨rfl, hr4, hg4⟩
set_option maxRecDepth 100000 in
set_option maxHeartbeats 2000000 in
theorem of_any (A : Option Addr) (c : Nat) (bs : List UInt8) (w : World) (n : Nat) (hn : bs.length = n) (hr : Rd w A bs) (hc : n ≤ c) (hK : Kt w) (hlen : n ≤ 70368744177664) :
    Calls Tryd.prog 33 #[.slice A n c] w fun e w' => e = .returned (.agg (bvs (sha bs)).toArray) ∧ Below w.heap.size w w' := by
  have HN := hid hn
  have HR := hid hr
  have HC := hid hc
  have HK := hid hK
  have HL := hid hlen
  clear hn hr hc hK hlen
  go_enter Tryd.func33, Tryd.ntmps33
  go_wp2_with fail
  have HZ1 : Hid (Bt (w.alloc (.cells #[.int .u8 0, .int .u8 0, .int .u8 0, .int .u8 0, .int .u8 0, .int .u8 0, .int .u8 0, .int .u8 0, .int .u8 0, .int .u8 0, .int .u8 0, .int .u8 0, .int .u8 0, .int .u8 0, .int .u8 0, .int .u8 0, .int .u8 0, .int .u8 0, .int .u8 0, .int .u8 0, .int .u8 0, .int .u8 0, .int .u8 0, .int .u8 0, .int .u8 0, .int .u8 0, .int .u8 0, .int .u8 0, .int .u8 0, .int .u8 0, .int .u8 0, .int .u8 0] 44)) w.heap.size 44 (List.replicate 32 0)) := hid (heap_alloc_new w _)
  have HB1 : Hid (Below w.heap.size w (w.alloc (.cells #[.int .u8 0, .int .u8 0, .int .u8 0, .int .u8 0, .int .u8 0, .int .u8 0, .int .u8 0, .int .u8 0, .int .u8 0, .int .u8 0, .int .u8 0, .int .u8 0, .int .u8 0, .int .u8 0, .int .u8 0, .int .u8 0, .int .u8 0, .int .u8 0, .int .u8 0, .int .u8 0, .int .u8 0, .int .u8 0, .int .u8 0, .int .u8 0, .int .u8 0, .int .u8 0, .int .u8 0, .int .u8 0, .int .u8 0, .int .u8 0, .int .u8 0, .int .u8 0] 44))) := hid ((Below.refl _ _).alloc (Nat.le_refl _) _)
  have HS1 : Hid (w.heap.size < (w.alloc (.cells #[.int .u8 0, .int .u8 0, .int .u8 0, .int .u8 0, .int .u8 0, .int .u8 0, .int .u8 0, .int .u8 0, .int .u8 0, .int .u8 0, .int .u8 0, .int .u8 0, .int .u8 0, .int .u8 0, .int .u8 0, .int .u8 0, .int .u8 0, .int .u8 0, .int .u8 0, .int .u8 0, .int .u8 0, .int .u8 0, .int .u8 0, .int .u8 0, .int .u8 0, .int .u8 0, .int .u8 0, .int .u8 0, .int .u8 0, .int .u8 0, .int .u8 0, .int .u8 0] 44)).heap.size) := hid (by simp)
  generalize w.alloc (.cells #[.int .u8 0, .int .u8 0, .int .u8 0, .int .u8 0, .int .u8 0, .int .u8 0, .int .u8 0, .int .u8 0, .int .u8 0, .int .u8 0, .int .u8 0, .int .u8 0, .int .u8 0, .int .u8 0, .int .u8 0, .int .u8 0, .int .u8 0, .int .u8 0, .int .u8 0, .int .u8 0, .int .u8 0, .int .u8 0, .int .u8 0, .int .u8 0, .int .u8 0, .int .u8 0, .int .u8 0, .int .u8 0, .int .u8 0, .int .u8 0, .int .u8 0, .int .u8 0] 44) = w1 at *
  refine (new_any w1).mono ?_
  rintro e w2 ⟨⟨g, rfl, hg, hR2⟩, hb2⟩
  have HG := hid hg
  have HR2 := hid hR2
  have HB2 := hid hb2
  clear hg hR2 hb2
  go_wp2_with fail
  have hrd : Rd w2 A bs := (HR.out.below HB1.out (Nat.le_refl _)).below HB2.out (Nat.le_refl _)
  refine (add_any g A c [] bs w2 n HN.out HR2.out hrd (fun hp ad e => by
    obtain ⟨gp, o, h1, h2, _⟩ := HR.out (by rw [HN.out]; exact hp)
    rw [h1] at e; injection e with e; subst e
    have h5 := HG.out; have h6 := HB1.out.size
    show gp ≠ g
    omega) HC.out ((HK.out.on HB1.out).on HB2.out) (by have := HK.out.lt; have := HG.out; have := HB1.out.size; omega) (by have := HL.out; simp; omega)).mono ?_
  rintro e w3 ⟨rfl, hr3, hg3⟩
  have HR3 := hid (p := RunIs w3 g bs) hr3
  have HG3 := hid hg3
  clear hr3 hg3 hrd
  have hge : w.heap.size ≤ g := by have := HG.out; have := HB1.out.size; omega
  have HB3 := hid (below_grown (HB1.out.trans (HB2.out.mono HB1.out.size)) HG3.out hge (Nat.le_trans HB1.out.size HB2.out.size))
  have HZ3 := hid (show Bt w3 w.heap.size 44 (List.replicate 32 0) from (HG3.out.block w.heap.size (Nat.lt_of_lt_of_le HZ1.out.lt HB2.out.size) (by intro e; injection e with e; have := HG.out; have := HS1.out; omega)).trans ((HB2.out.block _ HZ1.out.lt).trans HZ1.out))
  go_wp2_with fail
  refine (sum_any g bs w3 HR3.out (((HK.out.on HB1.out).on HB2.out).grown HG3.out (by have := HK.out.lt; omega)) (by rw [HN.out]; exact HL.out)).mono ?_
  rintro e w5 ⟨rfl, hb5⟩
  have HZ5 := hid (HZ3.out.on hb5)
  have HB5 := hid (HB3.out.trans (hb5.mono HB3.out.size))
  have HSL := hid (sha_length bs)
  clear hb5
  generalize hr : sha bs = r at *
  have HRR := hid hr
  clear hr
  have HI44 := hi44 r HSL.out
  have HO8 : Hid ((bvs (List.replicate 32 0)).toArray.size = (bvs r).toArray.size) := hid (by rw [bvs_size, bvs_size, HSL.out, List.length_replicate])
  have HZR := hid (HZ5.out.row (m := r))
  have HBR := hid (p := Below w.heap.size w (w5.setRow w.heap.size (bvs r).toArray)) (below_setRow HB5.out (Nat.le_refl _) _)
  have HDA := bvs_all r
  have HZZ := HZ5.out
  unfold Bt at HZZ
  have HZZ := hid HZZ
  go_wp2_with (refine wpList_store_row rfl 44 (.tmp 2) (.tmp 9) rfl w.heap.size (bvs r).toArray rfl rfl 44 _ HZZ.out HI44.out HO8.out HDA ?_)
  exact bodyPost_ret (v := .agg (bvs r).toArray) (results_cell_row (p := 2) (ty := 44) Tryd.results33 _ _ w.heap.size 44 (bvs r).toArray (0, 0) _ rfl HZR.out Tryd.underlying44 rfl HI44.out) rfl ⟨by rw [HRR.out], HBR.out⟩
end Go.Proofs.YtikmhnlhaolbfaaDoor
namespace Go.Proofs.YtikmhnlhaolbfaaDoor
open Go.RowKit
set_option linter.unusedVariables false
set_option linter.unusedSimpArgs false

/-- a digit of 16 -/
def dig (n : Nat) : ByteArray := ⟨#[([48, 49, 50, 51, 52, 53, 54, 55, 56, 57, 97, 98, 99, 100, 101, 102] : List UInt8).getD n 0]⟩
/-- bytes as digits of 16, the first n of them -/
def hexs (b : List UInt8) : Nat → ByteArray
  | 0 => ⟨#[]⟩
  | n + 1 => (hexs b n ++ dig ((b.getD n 0).toNat / 16)) ++ dig ((b.getD n 0).toNat % 16)
theorem dig_0 (w : World) : (Instr.sliceAt 9 (.string { data := #[48, 49, 50, 51, 52, 53, 54, 55, 56, 57, 97, 98, 99, 100, 101, 102] }) (some (.int .u8 0)) (some (.int .u8 1)) none).run Tryd.prog w = .ok (.string (dig 0)) w := by kernel_rfl
theorem dig_1 (w : World) : (Instr.sliceAt 9 (.string { data := #[48, 49, 50, 51, 52, 53, 54, 55, 56, 57, 97, 98, 99, 100, 101, 102] }) (some (.int .u8 1)) (some (.int .u8 2)) none).run Tryd.prog w = .ok (.string (dig 1)) w := by kernel_rfl
theorem dig_2 (w : World) : (Instr.sliceAt 9 (.string { data := #[48, 49, 50, 51, 52, 53, 54, 55, 56, 57, 97, 98, 99, 100, 101, 102] }) (some (.int .u8 2)) (some (.int .u8 3)) none).run Tryd.prog w = .ok (.string (dig 2)) w := by kernel_rfl
theorem dig_3 (w : World) : (Instr.sliceAt 9 (.string { data := #[48, 49, 50, 51, 52, 53, 54, 55, 56, 57, 97, 98, 99, 100, 101, 102] }) (some (.int .u8 3)) (some (.int .u8 4)) none).run Tryd.prog w = .ok (.string (dig 3)) w := by kernel_rfl
theorem dig_4 (w : World) : (Instr.sliceAt 9 (.string { data := #[48, 49, 50, 51, 52, 53, 54, 55, 56, 57, 97, 98, 99, 100, 101, 102] }) (some (.int .u8 4)) (some (.int .u8 5)) none).run Tryd.prog w = .ok (.string (dig 4)) w := by kernel_rfl
theorem dig_5 (w : World) : (Instr.sliceAt 9 (.string { data := #[48, 49, 50, 51, 52, 53, 54, 55, 56, 57, 97, 98, 99, 100, 101, 102] }) (some (.int .u8 5)) (some (.int .u8 6)) none).run Tryd.prog w = .ok (.string (dig 5)) w := by kernel_rfl
theorem dig_6 (w : World) : (Instr.sliceAt 9 (.string { data := #[48, 49, 50, 51, 52, 53, 54, 55, 56, 57, 97, 98, 99, 100, 101, 102] }) (some (.int .u8 6)) (some (.int .u8 7)) none).run Tryd.prog w = .ok (.string (dig 6)) w := by kernel_rfl
theorem dig_7 (w : World) : (Instr.sliceAt 9 (.string { data := #[48, 49, 50, 51, 52, 53, 54, 55, 56, 57, 97, 98, 99, 100, 101, 102] }) (some (.int .u8 7)) (some (.int .u8 8)) none).run Tryd.prog w = .ok (.string (dig 7)) w := by kernel_rfl
theorem dig_8 (w : World) : (Instr.sliceAt 9 (.string { data := #[48, 49, 50, 51, 52, 53, 54, 55, 56, 57, 97, 98, 99, 100, 101, 102] }) (some (.int .u8 8)) (some (.int .u8 9)) none).run Tryd.prog w = .ok (.string (dig 8)) w := by kernel_rfl
theorem dig_9 (w : World) : (Instr.sliceAt 9 (.string { data := #[48, 49, 50, 51, 52, 53, 54, 55, 56, 57, 97, 98, 99, 100, 101, 102] }) (some (.int .u8 9)) (some (.int .u8 10)) none).run Tryd.prog w = .ok (.string (dig 9)) w := by kernel_rfl
theorem dig_10 (w : World) : (Instr.sliceAt 9 (.string { data := #[48, 49, 50, 51, 52, 53, 54, 55, 56, 57, 97, 98, 99, 100, 101, 102] }) (some (.int .u8 10)) (some (.int .u8 11)) none).run Tryd.prog w = .ok (.string (dig 10)) w := by kernel_rfl
theorem dig_11 (w : World) : (Instr.sliceAt 9 (.string { data := #[48, 49, 50, 51, 52, 53, 54, 55, 56, 57, 97, 98, 99, 100, 101, 102] }) (some (.int .u8 11)) (some (.int .u8 12)) none).run Tryd.prog w = .ok (.string (dig 11)) w := by kernel_rfl
theorem dig_12 (w : World) : (Instr.sliceAt 9 (.string { data := #[48, 49, 50, 51, 52, 53, 54, 55, 56, 57, 97, 98, 99, 100, 101, 102] }) (some (.int .u8 12)) (some (.int .u8 13)) none).run Tryd.prog w = .ok (.string (dig 12)) w := by kernel_rfl
theorem dig_13 (w : World) : (Instr.sliceAt 9 (.string { data := #[48, 49, 50, 51, 52, 53, 54, 55, 56, 57, 97, 98, 99, 100, 101, 102] }) (some (.int .u8 13)) (some (.int .u8 14)) none).run Tryd.prog w = .ok (.string (dig 13)) w := by kernel_rfl
theorem dig_14 (w : World) : (Instr.sliceAt 9 (.string { data := #[48, 49, 50, 51, 52, 53, 54, 55, 56, 57, 97, 98, 99, 100, 101, 102] }) (some (.int .u8 14)) (some (.int .u8 15)) none).run Tryd.prog w = .ok (.string (dig 14)) w := by kernel_rfl
theorem dig_15 (w : World) : (Instr.sliceAt 9 (.string { data := #[48, 49, 50, 51, 52, 53, 54, 55, 56, 57, 97, 98, 99, 100, 101, 102] }) (some (.int .u8 15)) (some (.int .u8 16)) none).run Tryd.prog w = .ok (.string (dig 15)) w := by kernel_rfl
theorem dig_at (n : Nat) (h : n < 16) (w : World) : (Instr.sliceAt 9 (.string { data := #[48, 49, 50, 51, 52, 53, 54, 55, 56, 57, 97, 98, 99, 100, 101, 102] }) (some (.int .u8 (n : Int))) (some (.int .u8 ((n : Int) + 1))) none).run Tryd.prog w = .ok (.string (dig n)) w := by
  match n, h with
  | 0, _ => exact dig_0 w
  | 1, _ => exact dig_1 w
  | 2, _ => exact dig_2 w
  | 3, _ => exact dig_3 w
  | 4, _ => exact dig_4 w
  | 5, _ => exact dig_5 w
  | 6, _ => exact dig_6 w
  | 7, _ => exact dig_7 w
  | 8, _ => exact dig_8 w
  | 9, _ => exact dig_9 w
  | 10, _ => exact dig_10 w
  | 11, _ => exact dig_11 w
  | 12, _ => exact dig_12 w
  | 13, _ => exact dig_13 w
  | 14, _ => exact dig_14 w
  | 15, _ => exact dig_15 w
  | n + 16, h => exact absurd h (by omega)
theorem dig_size (n : Nat) : (dig n).size = 1 := rfl
theorem hexs_size (b : List UInt8) (n : Nat) : (hexs b n).size = 2 * n := by
  induction n with
  | zero => rfl
  | succ n ih => rw [hexs, ByteArray.size_append, ByteArray.size_append, ih, dig_size, dig_size]; omega
theorem and15 (x : Nat) (h : x < 256) : bits BinOp.and IntKind.u8 (x : Int) 15 = ((x % 16 : Nat) : Int) := by
  have e : bits BinOp.and IntKind.u8 (x : Int) ((15 : Nat) : Int) = ((x &&& 15 : Nat) : Int) := u8_and_nat x 15 h (by decide)
  rw [show x % 16 = x &&& 15 from (Nat.and_two_pow_sub_one_eq_mod x 4).symm]
  exact e
set_option maxRecDepth 100000 in
set_option maxHeartbeats 1000000 in
theorem text_any (b : List UInt8) (w : World) (hb : b.length = 32) : Calls Tryd.prog 92 #[.agg (bvs b).toArray] w fun e w' => e = .returned (.string (hexs b 32)) ∧ Below w.heap.size w w' := by
  have HB := hid hb
  clear hb
  go_enter Tryd.func92, Tryd.ntmps92
  go_wp2_with fail
  have HT : Hid (Below w.heap.size w (w.alloc (.cells (bvs b).toArray 44)) ∧ Bt (w.alloc (.cells (bvs b).toArray 44)) w.heap.size 44 b) := hid ⟨(Below.refl _ _).alloc (Nat.le_refl _) _, heap_alloc_new w _⟩
  generalize w.alloc (.cells (bvs b).toArray 44) = w0 at *
  go_loopw [3, 4] (fun s i wr => ∃ k : Nat, k ≤ 32 ∧ i = .int .i64 k ∧ s = .string (hexs b k) ∧ Hid (Below w.heap.size w wr ∧ Bt wr w.heap.size 44 b)) (fun _ i _ => 32 - (intOf i).toNat)
  case atStart => exact ⟨0, by omega, rfl, rfl, HT⟩
  case round =>
    clear HT
    obtain ⟨k, hk, rfl, rfl, HT⟩ := hrel
    by_cases hlt : k < 32
    · have hc := HT.out.2.cell k (by have := HB.out; omega)
      have hki : (k : Int) < 32 := by omega
      have hk0 : (0 : Int) ≤ k := by omega
      have hx := (b[k]'(by have := HB.out; omega)).toNat_lt
      have HX := hid (show b.getD k 0 = b[k]'(by have := HB.out; omega) by rw [List.getD_eq_getElem?_getD, List.getElem?_eq_getElem (by have := HB.out; omega)]; rfl)
      have HXS := hid (p := hexs b (k + 1) = (hexs b k ++ dig ((b[k]'(by have := HB.out; omega)).toNat / 16)) ++ dig ((b[k]'(by have := HB.out; omega)).toNat % 16)) (by rw [hexs, HX.out])
      clear HX
      generalize (b[k]'(by have := HB.out; omega)).toNat = x at *
      obtain ⟨p, hp⟩ : ∃ p, p = x / 16 := ⟨_, rfl⟩
      obtain ⟨q, hq⟩ : ∃ q, q = x % 16 := ⟨_, rfl⟩
      have hpi : (x : Int) / 16 = (p : Int) := by omega
      have hqi : bits BinOp.and IntKind.u8 (x : Int) 15 = (q : Int) := by rw [hq]; exact and15 x hx
      have hpw : IntKind.u8.wrap ((p : Int) + 1) = (p : Int) + 1 := by rw [IntKind.wrap_u8]; omega
      have hqw : IntKind.u8.wrap ((q : Int) + 1) = (q : Int) + 1 := by rw [IntKind.wrap_u8]; omega
      have hdp := dig_at p (by omega)
      have hdq := dig_at q (by omega)
      rw [← hp, ← hq] at HXS
      clear hp hq
      have z1 := hexs_size b k
      have z2 := dig_size p
      have z3 := dig_size q
      have hl1 : (9223372036854775807 < (hexs b k).size + (dig p).size) = False := by rw [z1, z2]; simp; omega
      have hl2 : (9223372036854775807 < (hexs b k).size + (dig p).size + (dig q).size) = False := by rw [z1, z2, z3]; simp; omega
      have hl3 : (9223372036854775807 < (hexs b k ++ dig p).size) = False := by rw [ByteArray.size_append, z1, z2]; simp; omega
      have hl4 : (9223372036854775807 < (hexs b k ++ dig p).size + (dig q).size) = False := by rw [ByteArray.size_append, z1, z2, z3]; simp; omega
      clear z1 z2 z3
      generalize dig p = dp at *
      generalize dig q = dq at *
      generalize hexs b k = sk at *
      go_wp2_with fail
      go_quiet (fail)
      go_wp2
      go_roundw
      case rel => exact ⟨k + 1, by omega, by go_num, by rw [HXS.out], hid ⟨below_drewN HT.out.1 _, HT.out.2⟩⟩
      case measure => simp [intOf]; omega
    · obtain rfl : k = 32 := by omega
      go_wp2
      go_ret
      exact ⟨rfl, HT.out.1⟩
end Go.Proofs.YtikmhnlhaolbfaaDoor
namespace Go.Proofs.YtikmhnlhaolbfaaDoor
open Go.RowKit
set_option linter.unusedVariables false

/-- a step of the comparison -/
def eqStep (a b : List UInt8) (i : Nat) (_s : Option Bool × Unit) : Sem (ForInStep (Option Bool × Unit)) := do
  let x ← Go.part 5 (bvs a).toArray (i * 1)
  let y ← Go.part 5 (bvs b).toArray (i * 1)
  let r ← Op.equalIn 9999 5 x y
  if (!r) = true then pure (ForInStep.done (some false, ())) else pure (ForInStep.yield (none, ()))
theorem run_part5 (a : List UInt8) (i : Nat) (h : i < a.length) (w : World) : (Go.part 5 (bvs a).toArray (i * 1)).run Tryd.prog w = .ok (.int .u8 ((a[i].toNat : Nat) : Int)) w := by
  have a5 := Tryd.isAgg5
  have e : (bvs a).toArray[i]? = some (.int .u8 ((a[i].toNat : Nat) : Int)) := by simp [bvs, h]
  unfold Go.part
  rw [Nat.mul_one]
  go_simp
theorem run_eqStep (a b : List UInt8) (i : Nat) (ha : i < a.length) (hb : i < b.length) (s : Option Bool × Unit) (w : World) :
    (eqStep a b i s).run Tryd.prog w = .ok (if a[i] = b[i] then ForInStep.yield (none, ()) else ForInStep.done (some false, ())) w := by
  have u5 := Tryd.underlying5
  unfold eqStep
  rw [Sem.run_bind, run_part5 a i ha w, Result.andThen_ok, Sem.run_bind, run_part5 b i hb w, Result.andThen_ok, Sem.run_bind]
  have e : (Op.equalIn 9999 5 (.int .u8 ((a[i].toNat : Nat) : Int)) (.int .u8 ((b[i].toNat : Nat) : Int))).run Tryd.prog w = .ok (decide (a[i] = b[i])) w := by
    rw [show (9999 : Nat) = 9998 + 1 from rfl, Op.equalIn]
    simp only [Sem.run_bind, run_underlying Tryd.underlying5, Result.andThen_ok]
    go_simp
    by_cases h : a[i] = b[i]
    · simp [h]
    · have : a[i].toNat ≠ b[i].toNat := fun e => h (UInt8.toNat.inj e)
      simp [h]
      omega
  rw [e, Result.andThen_ok]
  by_cases h : a[i] = b[i] <;> simp [h]
theorem run_eqLoop (a b : List UInt8) (w : World) : ∀ (n s : Nat), s + n = a.length → s + n = b.length →
    (forIn (List.range' s n) ((none, ()) : Option Bool × Unit) (eqStep a b)).run Tryd.prog w = .ok (if a.drop s = b.drop s then (none, ()) else (some false, ())) w
  | 0, s, ha, hb => by
    rw [List.drop_eq_nil_of_le (by omega), List.drop_eq_nil_of_le (by omega), if_pos rfl]
    simp
  | n + 1, s, ha, hb => by
    have h1 : s < a.length := by omega
    have h2 : s < b.length := by omega
    rw [List.range'_succ, List.forIn_cons, Sem.run_bind, run_eqStep a b s h1 h2, Result.andThen_ok]
    have ea : a.drop s = a[s] :: a.drop (s + 1) := List.drop_eq_getElem_cons h1
    have eb : b.drop s = b[s] :: b.drop (s + 1) := List.drop_eq_getElem_cons h2
    rw [ea, eb]
    by_cases h : a[s] = b[s]
    · rw [if_pos h]
      simp only []
      rw [run_eqLoop a b w n (s + 1) (by omega) (by omega), h]
      by_cases hh : a.drop (s + 1) = b.drop (s + 1)
      · rw [if_pos hh, if_pos (by rw [hh])]
      · rw [if_neg hh, if_neg (by intro e; injection e with e1 e2; exact hh e2)]
    · rw [if_neg h]
      have hn : ¬ (a[s] :: a.drop (s + 1) = b[s] :: b.drop (s + 1)) := by intro e; injection e with e1 e2; exact h e1
      rw [if_neg hn]
      simp
theorem eq_sum (a b : List UInt8) (ha : a.length = 32) (hb : b.length = 32) (w : World) : (Op.equalIn 10000 44 (.agg (bvs a).toArray) (.agg (bvs b).toArray)).run Tryd.prog w = .ok (decide (a = b)) w := by
  have hs : (sizeOf 5).run Tryd.prog w = .ok 1 w := by kernel_rfl
  rw [show (10000 : Nat) = 9999 + 1 from rfl, Op.equalIn]
  simp only [Sem.run_bind, run_underlying Tryd.underlying44, Result.andThen_ok]
  simp only [Std.Legacy.Range.forIn_eq_forIn_range', Std.Legacy.Range.size, Nat.sub_zero, Nat.add_sub_cancel, Nat.div_one]
  rw [hs, Result.andThen_ok]
  have hl := run_eqLoop a b w 32 0 (by omega) (by omega)
  rw [List.drop_zero, List.drop_zero] at hl
  refine (congrArg (fun r => Result.andThen r _) hl).trans ?_
  by_cases h : a = b <;> simp [h, Result.andThen]
end Go.Proofs.YtikmhnlhaolbfaaDoor
namespace Go.Proofs.YtikmhnlhaolbfaaDoor
open Go.RowKit
set_option linter.unusedVariables false
set_option linter.unusedSimpArgs false

theorem hex_none : hexs (sha []) 32 = { data := #[101, 51, 98, 48, 99, 52, 52, 50, 57, 56, 102, 99, 49, 99, 49, 52, 57, 97, 102, 98, 102, 52, 99, 56, 57, 57, 54, 102, 98, 57, 50, 52, 50, 55, 97, 101, 52, 49, 101, 52, 54, 52, 57, 98, 57, 51, 52, 99, 97, 52, 57, 53, 57, 57, 49, 98, 55, 56, 53, 50, 98, 56, 53, 53] } := by rw [sha_none]; kernel_rfl
theorem hex_abc : hexs (sha [97, 98, 99]) 32 = { data := #[98, 97, 55, 56, 49, 54, 98, 102, 56, 102, 48, 49, 99, 102, 101, 97, 52, 49, 52, 49, 52, 48, 100, 101, 53, 100, 97, 101, 50, 50, 50, 51, 98, 48, 48, 51, 54, 49, 97, 51, 57, 54, 49, 55, 55, 97, 57, 99, 98, 52, 49, 48, 102, 102, 54, 49, 102, 50, 48, 48, 49, 53, 97, 100] } := by rw [sha_abc]; kernel_rfl
/-- a run of these bytes, that was made since; all older things stand -/
structure Al (w : World) (g : Nat) (bs : List UInt8) (w' : World) : Prop where
  run : RunIs w' g bs
  below : Below w.heap.size w w'
  k : Kt w
  new : w.heap.size ≤ g
theorem Al.kt {w w' : World} {g : Nat} {bs : List UInt8} (h : Al w g bs w') : Kt w' := h.k.on h.below
theorem Al.n3 {w w' : World} {g : Nat} {bs : List UInt8} (h : Al w g bs w') : 3 ≠ g := by have := h.k.lt; have := h.new; omega
theorem Al.on {w w' w2 : World} {g : Nat} {bs : List UInt8} (h : Al w g bs w') (hb : Below w'.heap.size w' w2) : Al w g bs w2 := ⟨h.run.heap (hb.block g h.run.lt), h.below.trans (hb.mono h.below.size), h.k, h.new⟩
theorem Al.alloc {w w' : World} {g : Nat} {bs : List UInt8} (h : Al w g bs w') (o : Obj) : Al w g bs (w'.alloc o) := h.on ((Below.refl _ _).alloc (Nat.le_refl _) o)
theorem Al.drew {w w' : World} {g : Nat} {bs : List UInt8} (h : Al w g bs w') : Al w g bs w'.drew := ⟨h.run, h.below.drew, h.k, h.new⟩
theorem Al.put {w w' w2 : World} {g : Nat} {bs bs' : List UInt8} (h : Al w g bs w') (hr : RunIs w2 g bs') (hg : w'.grownBy w2 (some g)) : Al w g bs' w2 := ⟨hr, below_grown h.below hg h.new h.below.size, h.k, h.new⟩
/-- bytes of a constant text, made anew: marked behind their end -/
theorem rd_mark (w : World) (l : List UInt8) (fr : Nat × Nat) : Rd (w.alloc (.cells (bvs l).toArray 5 fr)) (some ⟨w.heap.size, 0, none⟩) l := by
  intro hp
  refine ⟨w.heap.size, 0, rfl, by simp, fun j hj => ?_⟩
  rw [cell_of_row _ _ _ _ 5 fr (heap_alloc_new w _)]
  simp [bvs, hj]
/-- a new block of bytes -/
theorem rd_new (w : World) (l : List UInt8) : Rd (w.alloc (.cells (bvs l).toArray 5)) (some ⟨w.heap.size, 0, none⟩) l := Row.rd0 (heap_alloc_new w _)
theorem new_at (w : World) (hK : Kt w) : Calls Tryd.prog 38 #[] w fun e w' => ∃ g, e = .returned (.pointer (some ⟨g, 0, none⟩)) ∧ Hid (Al w g [] w') := by
  refine (new_any w).mono ?_
  rintro e w1 ⟨⟨g, rfl, hg, hr⟩, hb⟩
  exact ⟨g, rfl, hid ⟨hr, hb, hK, hg⟩⟩
theorem write_at {w wr : World} {g : Nat} {bs : List UInt8} (H : Hid (Al w g bs wr)) (A : Option Addr) (c n : Nat) (part : List UInt8) (hn : part.length = n) (hr : Rd wr A part) (hA : 0 < n → ∀ ad, A = some ad → ad.block ≠ g) (hc : n ≤ c) (hlen : bs.length + n ≤ 140737488355328) :
    Calls Tryd.prog 39 #[.pointer (some ⟨g, 0, none⟩), .slice A n c] wr fun e w' => e = .returned (.int .i64 0) ∧ Hid (Al w g (bs ++ part) w') ∧ Hid (wr.grownBy w' (some g)) := by
  refine (write_any g A c bs part wr n hn H.out.run hr hA hc H.out.kt H.out.n3 hlen).mono ?_
  rintro e w1 ⟨rfl, hr1, hg1⟩
  exact ⟨rfl, hid (H.out.put hr1 hg1), hid hg1⟩
theorem sum_at {w wr : World} {g : Nat} {bs : List UInt8} (H : Hid (Al w g bs wr)) (hl : bs.length ≤ 70368744177664) :
    Calls Tryd.prog 40 #[.pointer (some ⟨g, 0, none⟩)] wr fun e w' => e = .returned (.agg (bvs (sha bs)).toArray) ∧ Hid (Al w g bs w') ∧ Hid (Below wr.heap.size wr w') := by
  refine (sum_any g bs wr H.out.run H.out.kt hl).mono ?_
  rintro e w1 ⟨rfl, hb⟩
  exact ⟨rfl, hid (H.out.on hb), hid hb⟩
theorem of_at {w wr : World} {g : Nat} {bs : List UInt8} (H : Hid (Al w g bs wr)) (A : Option Addr) (c n : Nat) (part : List UInt8) (hn : part.length = n) (hr : Rd wr A part) (hc : n ≤ c) (hl : n ≤ 70368744177664) :
    Calls Tryd.prog 33 #[.slice A n c] wr fun e w' => e = .returned (.agg (bvs (sha part)).toArray) ∧ Hid (Al w g bs w') ∧ Hid (Below wr.heap.size wr w') := by
  refine (of_any A c part wr n hn hr hc H.out.kt hl).mono ?_
  rintro e w1 ⟨rfl, hb⟩
  exact ⟨rfl, hid (H.out.on hb), hid hb⟩
theorem text_at {w wr : World} {g : Nat} {bs : List UInt8} (H : Hid (Al w g bs wr)) (part : List UInt8) (hl : part.length = 32) :
    Calls Tryd.prog 92 #[.agg (bvs part).toArray] wr fun e w' => e = .returned (.string (hexs part 32)) ∧ Hid (Al w g bs w') := by
  refine (text_any part wr hl).mono ?_
  rintro e w1 ⟨rfl, hb⟩
  exact ⟨rfl, hid (H.out.on hb)⟩
set_option maxRecDepth 100000 in
set_option maxHeartbeats 2000000 in
theorem alive_any (w : World) (hK : Kt w) : Calls Tryd.prog 48 #[] w fun e w' => e = .returned (.bool true) ∧ Below w.heap.size w w' := by
  go_enter Tryd.func48, Tryd.ntmps48
  go_wp2_with fail
  refine (new_at w hK).mono ?_
  rintro e w1 ⟨g, rfl, H1⟩
  have hc := Lib.run_convert_bytes_const (P := Tryd.prog) w1 41 5 #[.int .u8 97] 1 1 Tryd.underlying41 Tryd.underlying5
  have hcv : (convert 41 41 (.slice (some ⟨w1.heap.size, 0, none⟩) 1 1)).run Tryd.prog (w1.alloc (.cells #[.int .u8 97] 5)) = .ok (.slice (some ⟨w1.heap.size, 0, none⟩) 1 1) (w1.alloc (.cells #[.int .u8 97] 5 (1, 2))) := hc
  clear hc
  go_wp2_with fail
  clear hcv
  have H2 := hid (H1.out.alloc (.cells (bvs [97]).toArray 5 (1, 2)))
  have R2 := hid (rd_mark w1 [97] (1, 2))
  have hne : w1.heap.size ≠ g := Nat.ne_of_gt H1.out.run.lt
  have e1 : (bvs [97]).toArray = #[.int .u8 97] := rfl
  rw [e1] at H2 R2
  generalize w1.alloc (.cells #[.int .u8 97] 5 (1, 2)) = w2 at *
  refine (write_at H2 (some ⟨w1.heap.size, 0, none⟩) 1 1 [97] rfl R2.out (fun _ ad e => by injection e with e; subst e; exact hne) (Nat.le_refl _) (by decide)).mono ?_
  rintro e w3 ⟨rfl, H3, -⟩
  clear hne R2 H2 H1
  have hc := Lib.run_convert_bytes_const (P := Tryd.prog) w3 41 5 #[.int .u8 98, .int .u8 99] 2 2 Tryd.underlying41 Tryd.underlying5
  have hcv : (convert 41 41 (.slice (some ⟨w3.heap.size, 0, none⟩) 2 2)).run Tryd.prog (w3.alloc (.cells #[.int .u8 98, .int .u8 99] 5)) = .ok (.slice (some ⟨w3.heap.size, 0, none⟩) 2 2) (w3.alloc (.cells #[.int .u8 98, .int .u8 99] 5 (2, 3))) := hc
  clear hc
  go_wp2_with fail
  clear hcv
  have H4 := hid (H3.out.alloc (.cells (bvs [98, 99]).toArray 5 (2, 3)))
  have R4 := hid (rd_mark w3 [98, 99] (2, 3))
  have hne : w3.heap.size ≠ g := Nat.ne_of_gt H3.out.run.lt
  have e2 : (bvs [98, 99]).toArray = #[.int .u8 98, .int .u8 99] := rfl
  rw [e2] at H4 R4
  generalize w3.alloc (.cells #[.int .u8 98, .int .u8 99] 5 (2, 3)) = w4 at *
  refine (write_at H4 (some ⟨w3.heap.size, 0, none⟩) 2 2 [98, 99] rfl R4.out (fun _ ad e => by injection e with e; subst e; exact hne) (Nat.le_refl _) (by decide)).mono ?_
  rintro e w5 ⟨rfl, H5, -⟩
  have H5 := hid (p := Al w g [97, 98, 99] w5) H5.out
  clear hne R4 H4 H3
  go_wp2_with fail
  refine (of_at H5 none 0 0 [] rfl (Rd.nil _ _) (Nat.le_refl _) (by decide)).mono ?_
  rintro e w6 ⟨rfl, H6, -⟩
  clear H5
  go_wp2_with fail
  refine (text_at H6 (sha []) (sha_length _)).mono ?_
  rintro e w7 ⟨rfl, H7⟩
  clear H6
  rw [hex_none]
  have hc := Lib.run_convert_bytes_const (P := Tryd.prog) w7 41 5 #[.int .u8 97, .int .u8 98, .int .u8 99] 3 3 Tryd.underlying41 Tryd.underlying5
  have hcv : (convert 41 41 (.slice (some ⟨w7.heap.size, 0, none⟩) 3 3)).run Tryd.prog (w7.alloc (.cells #[.int .u8 97, .int .u8 98, .int .u8 99] 5)) = .ok (.slice (some ⟨w7.heap.size, 0, none⟩) 3 3) (w7.alloc (.cells #[.int .u8 97, .int .u8 98, .int .u8 99] 5 (3, 4))) := hc
  clear hc
  go_wp2_with fail
  clear hcv
  have H8 := hid (H7.out.alloc (.cells (bvs [97, 98, 99]).toArray 5 (3, 4)))
  have R8 := hid (rd_mark w7 [97, 98, 99] (3, 4))
  have e3 : (bvs [97, 98, 99]).toArray = #[.int .u8 97, .int .u8 98, .int .u8 99] := rfl
  rw [e3] at H8 R8
  clear H7
  generalize w7.alloc (.cells #[.int .u8 97, .int .u8 98, .int .u8 99] 5 (3, 4)) = w8 at *
  generalize w7.heap.size = s7 at *
  refine (of_at H8 (some ⟨s7, 0, none⟩) 3 3 [97, 98, 99] rfl R8.out (Nat.le_refl _) (by decide)).mono ?_
  rintro e w9 ⟨rfl, H9, -⟩
  clear H8 R8
  go_wp2_with fail
  refine (text_at H9 (sha [97, 98, 99]) (sha_length _)).mono ?_
  rintro e w10 ⟨rfl, H10⟩
  clear H9
  rw [hex_abc]
  go_wp2_with fail
  refine (sum_at H10 (by decide)).mono ?_
  rintro e w11 ⟨rfl, H11, -⟩
  clear H10
  have hc := Lib.run_convert_bytes_const (P := Tryd.prog) w11 41 5 #[.int .u8 97, .int .u8 98, .int .u8 99] 3 3 Tryd.underlying41 Tryd.underlying5
  have hcv : (convert 41 41 (.slice (some ⟨w11.heap.size, 0, none⟩) 3 3)).run Tryd.prog (w11.alloc (.cells #[.int .u8 97, .int .u8 98, .int .u8 99] 5)) = .ok (.slice (some ⟨w11.heap.size, 0, none⟩) 3 3) (w11.alloc (.cells #[.int .u8 97, .int .u8 98, .int .u8 99] 5 (3, 4))) := hc
  clear hc
  go_wp2_with fail
  clear hcv
  have H12 := hid (H11.out.alloc (.cells (bvs [97, 98, 99]).toArray 5 (3, 4)))
  have R12 := hid (rd_mark w11 [97, 98, 99] (3, 4))
  rw [e3] at H12 R12
  clear H11
  generalize w11.alloc (.cells #[.int .u8 97, .int .u8 98, .int .u8 99] 5 (3, 4)) = w12 at *
  generalize w11.heap.size = s11 at *
  refine (of_at H12 (some ⟨s11, 0, none⟩) 3 3 [97, 98, 99] rfl R12.out (Nat.le_refl _) (by decide)).mono ?_
  rintro e w13 ⟨rfl, H13, -⟩
  clear H12 R12
  have heq := fun W : World => eq_sum (sha [97, 98, 99]) (sha [97, 98, 99]) (sha_length _) (sha_length _) W
  simp only [decide_true] at heq
  go_wp2
  go_ret
  exact ⟨rfl, H13.out.below⟩
end Go.Proofs.YtikmhnlhaolbfaaDoor
namespace Go.Proofs.YtikmhnlhaolbfaaDoor
open Go.RowKit
set_option linter.unusedVariables false
set_option linter.unusedSimpArgs false

/-- a run of these bytes, and boxes that hold these sums -/
def Cb (w : World) (g : Nat) (bs : List UInt8) (l : List (Nat × List UInt8)) (w' : World) : Prop := Al w g bs w' ∧ ∀ p ∈ l, Bt w' p.1 44 p.2 ∧ p.1 ≠ g
theorem Cb.old {w w' : World} {g : Nat} {bs : List UInt8} {l : List (Nat × List UInt8)} (h : Cb w g bs l w') : Below w.heap.size w w' := h.1.below
theorem Cb.on {w w' w2 : World} {g : Nat} {bs : List UInt8} {l : List (Nat × List UInt8)} (h : Cb w g bs l w') (hb : Below w'.heap.size w' w2) : Cb w g bs l w2 := ⟨h.1.on hb, fun p hp => ⟨(h.2 p hp).1.on hb, (h.2 p hp).2⟩⟩
theorem Cb.drew {w w' : World} {g : Nat} {bs : List UInt8} {l : List (Nat × List UInt8)} (h : Cb w g bs l w') : Cb w g bs l w'.drew := ⟨h.1.drew, h.2⟩
theorem Bt.grown {w w' : World} {g b : Nat} {t : TypeId} {l : List UInt8} (h : Bt w b t l) (hg : w.grownBy w' (some g)) (hne : b ≠ g) : Bt w' b t l := (hg.block b h.lt (by intro e; injection e with e; exact hne e)).trans h
theorem Cb.box {w w' : World} {g : Nat} {bs x : List UInt8} {l : List (Nat × List UInt8)} (h : Cb w g bs l w') : Cb w g bs ((w'.heap.size, x) :: l) (w'.alloc (.cells (bvs x).toArray 44)) := by
  have h2 := h.on ((Below.refl w'.heap.size w').alloc (Nat.le_refl _) (.cells (bvs x).toArray 44))
  refine ⟨h2.1, fun p hp => ?_⟩
  rcases List.mem_cons.1 hp with rfl | hp
  · exact ⟨heap_alloc_new _ _, Nat.ne_of_gt h.1.run.lt⟩
  · exact h2.2 p hp
theorem Cb.set {w w' : World} {g : Nat} {bs x : List UInt8} {l : List (Nat × List UInt8)} (h : Cb w g bs l w') : Cb w g bs ((w'.heap.size, x) :: l) ((w'.alloc (.cells #[.int .u8 0, .int .u8 0, .int .u8 0, .int .u8 0, .int .u8 0, .int .u8 0, .int .u8 0, .int .u8 0, .int .u8 0, .int .u8 0, .int .u8 0, .int .u8 0, .int .u8 0, .int .u8 0, .int .u8 0, .int .u8 0, .int .u8 0, .int .u8 0, .int .u8 0, .int .u8 0, .int .u8 0, .int .u8 0, .int .u8 0, .int .u8 0, .int .u8 0, .int .u8 0, .int .u8 0, .int .u8 0, .int .u8 0, .int .u8 0, .int .u8 0, .int .u8 0] 44)).setRow w'.heap.size (bvs x).toArray) := by
  rw [World.setRow_alloc_new]; exact h.box
theorem Cb.setx {w w' : World} {g : Nat} {bs : List UInt8} {l : List (Nat × List UInt8)} (h : Cb w g bs l w') (x : List UInt8) : ∃ w2, (w'.alloc (.cells #[.int .u8 0, .int .u8 0, .int .u8 0, .int .u8 0, .int .u8 0, .int .u8 0, .int .u8 0, .int .u8 0, .int .u8 0, .int .u8 0, .int .u8 0, .int .u8 0, .int .u8 0, .int .u8 0, .int .u8 0, .int .u8 0, .int .u8 0, .int .u8 0, .int .u8 0, .int .u8 0, .int .u8 0, .int .u8 0, .int .u8 0, .int .u8 0, .int .u8 0, .int .u8 0, .int .u8 0, .int .u8 0, .int .u8 0, .int .u8 0, .int .u8 0, .int .u8 0] 44)).setRow w'.heap.size (bvs x).toArray = w2 ∧ Hid (Cb w g bs ((w'.heap.size, x) :: l) w2) := ⟨_, rfl, hid h.set⟩
theorem ho32 (x : List UInt8) (h : x.length = 32) : Hid ((#[.int .u8 0, .int .u8 0, .int .u8 0, .int .u8 0, .int .u8 0, .int .u8 0, .int .u8 0, .int .u8 0, .int .u8 0, .int .u8 0, .int .u8 0, .int .u8 0, .int .u8 0, .int .u8 0, .int .u8 0, .int .u8 0, .int .u8 0, .int .u8 0, .int .u8 0, .int .u8 0, .int .u8 0, .int .u8 0, .int .u8 0, .int .u8 0, .int .u8 0, .int .u8 0, .int .u8 0, .int .u8 0, .int .u8 0, .int .u8 0, .int .u8 0, .int .u8 0] : Array Value).size = (bvs x).toArray.size) := hid (by rw [bvs_size, h]; rfl)
theorem new_cb (w : World) (hK : Kt w) : Calls Tryd.prog 38 #[] w fun e w' => ∃ g, e = .returned (.pointer (some ⟨g, 0, none⟩)) ∧ Hid (Cb w g [] [] w') := by
  refine (new_at w hK).mono ?_
  rintro e w1 ⟨g, rfl, h⟩
  exact ⟨g, rfl, hid ⟨h.out, fun p hp => by cases hp⟩⟩
theorem write_cb {w wr : World} {g : Nat} {bs : List UInt8} {l : List (Nat × List UInt8)} (H : Hid (Cb w g bs l wr)) (A : Option Addr) (c n : Nat) (part : List UInt8) (hn : part.length = n) (hr : Rd wr A part) (hA : 0 < n → ∀ ad, A = some ad → ad.block ≠ g) (hc : n ≤ c) (hlen : bs.length + n ≤ 140737488355328) :
    Calls Tryd.prog 39 #[.pointer (some ⟨g, 0, none⟩), .slice A n c] wr fun e w' => e = .returned (.int .i64 0) ∧ Hid (Cb w g (bs ++ part) l w') := by
  refine (write_at (hid H.out.1) A c n part hn hr hA hc hlen).mono ?_
  rintro e w1 ⟨rfl, h1, h2⟩
  exact ⟨rfl, hid ⟨h1.out, fun p hp => ⟨(H.out.2 p hp).1.grown h2.out (H.out.2 p hp).2, (H.out.2 p hp).2⟩⟩⟩
theorem sum_cb {w wr : World} {g : Nat} {bs : List UInt8} {l : List (Nat × List UInt8)} (H : Hid (Cb w g bs l wr)) (hl : bs.length ≤ 70368744177664) :
    Calls Tryd.prog 40 #[.pointer (some ⟨g, 0, none⟩)] wr fun e w' => e = .returned (.agg (bvs (sha bs)).toArray) ∧ Hid (Cb w g bs l w') := by
  refine (sum_at (hid H.out.1) hl).mono ?_
  rintro e w1 ⟨rfl, h1, h2⟩
  exact ⟨rfl, hid (H.out.on h2.out)⟩
theorem of_cb {w wr : World} {g : Nat} {bs : List UInt8} {l : List (Nat × List UInt8)} (H : Hid (Cb w g bs l wr)) (A : Option Addr) (c n : Nat) (part : List UInt8) (hn : part.length = n) (hr : Rd wr A part) (hc : n ≤ c) (hl : n ≤ 70368744177664) :
    Calls Tryd.prog 33 #[.slice A n c] wr fun e w' => e = .returned (.agg (bvs (sha part)).toArray) ∧ Hid (Cb w g bs l w') := by
  refine (of_at (hid H.out.1) A c n part hn hr hc hl).mono ?_
  rintro e w1 ⟨rfl, h1, h2⟩
  exact ⟨rfl, hid (H.out.on h2.out)⟩
theorem slice_head (A : Option Addr) (n c k : Nat) (hk : k ≤ c) (w : World) : (Instr.slice 41 (.slice A n c) none (some (.int .i64 (k : Int))) none).run Tryd.prog w = .ok (.slice (past A 0 c) k c) w := by
  have h5 : Tryd.prog.elem 41 = 5 := by kernel_rfl
  rw [run_slice_h (P := Tryd.prog) w 41 A n c (by rw [h5]; exact Tryd.underlying41) .i64 (k : Int) (by omega) (by omega)]
  have hs : (sizeOf 5).run Tryd.prog w = .ok 1 w := by kernel_rfl
  rw [h5, hs]
  simp only [Result.andThen, sliced, Int.toNat_natCast, past, Nat.zero_mul, Nat.sub_zero]
/-- an argument's address lies below what is made since -/
theorem par_block {w : World} {A : Option Addr} {bs : List UInt8} {g : Nat} (h : Rd w A bs) (hp : 0 < bs.length) (hg : w.heap.size ≤ g) : ∀ ad, A = some ad → ad.block ≠ g := by
  intro ad e
  obtain ⟨gp, o, h1, h2, _⟩ := h hp
  rw [h1] at e; injection e with e; subst e
  show gp ≠ g
  omega
end Go.Proofs.YtikmhnlhaolbfaaDoor
namespace Go.Proofs.YtikmhnlhaolbfaaDoor
open Go.RowKit
set_option linter.unusedVariables false

theorem Rd.alloc {w : World} {A : Option Addr} {bs : List UInt8} (h : Rd w A bs) (o : Obj) : Rd (w.alloc o) A bs :=
  h.below ((Below.refl w.heap.size w).alloc (Nat.le_refl _) o) (Nat.le_refl _)

theorem RdW.of_block {w : World} {g h t : Nat} {ws : List Nat} (hw : ∀ x ∈ ws, x < 18446744073709551616) (hh : w.heap[h]? = some (.cells (ws.map fun (x : Nat) => Value.int .u64 (x : Int)).toArray t (0, 0))) (hne : h ≠ g) :
    RdW w g (some ⟨h, 0, none⟩) ws := by
  refine ⟨hw, fun hp => ⟨h, 0, rfl, lt_of_block hh, hne, fun j hj => ?_⟩⟩
  rw [cell_of_row _ _ _ _ t (0, 0) hh]
  simp [hj]

theorem slice_tail (g n m : Nat) (hm : 0 < m) (w : World) :
    (Instr.slice 41 (.slice (some ⟨g, 0, none⟩) (n + m) (n + m)) (some (.int .i64 (n : Int))) none none).run Tryd.prog w = .ok (.slice (some ⟨g, n, none⟩) m m) w := by
  have h5 : Tryd.prog.elem 41 = 5 := by kernel_rfl
  rw [run_slice_l (P := Tryd.prog) w 41 (some ⟨g, 0, none⟩) (n + m) (n + m) (by rw [h5]; exact Tryd.underlying41) .i64 (n : Int) (by omega) (by omega)]
  have hs : (sizeOf 5).run Tryd.prog w = .ok 1 w := by kernel_rfl
  rw [h5, hs]
  simp only [Result.andThen, sliced, Int.toNat_natCast]
  rw [if_neg (by omega)]
  simp only [Option.map, Nat.mul_one, add_plain, Nat.zero_add]
  rw [show n + m - n = m from by omega]

end Go.Proofs.YtikmhnlhaolbfaaDoor
namespace Go.Proofs.YtikmhnlhaolbfaaDoor
open Go.RowKit
set_option linter.unusedVariables false

theorem laid_mid (bs : List UInt8) (N K m : Nat) : laid (bs ++ List.replicate (K + m) 0) (bs.length + K) N K = (bs ++ be N K) ++ List.replicate m 0 := by
  have e : bs.length + K - K = bs.length := by omega
  simp [laid, e]

theorem splice_tail (X : List UInt8) (ls : List UInt8) : splice (bvs (X ++ List.replicate ls.length 0)) X.length (bvs ls) = bvs (X ++ ls) := by
  simp [splice, bvs]

/-- copy(dst, src), dst in a block that is known whole -/
theorem copy_bytes (w : World) (g off dLen dCap sCap : Nat) (D B : Option Addr) (cur ls : List UInt8) (hD : 0 < ls.length → D = some ⟨g, off, none⟩) (hg : Row w g cur) (hl : Rd w B ls)
    (hfit : off + ls.length ≤ cur.length) (hd : ls.length ≤ dLen) :
    ∃ w3, (Builtin.copy_ #[41, 41] 3 #[.slice D dLen dCap, .slice B ls.length sCap]).run Tryd.prog w = .ok (goInt ls.length) w3 ∧
      Row w3 g (cur.take off ++ (ls ++ cur.drop (off + ls.length))) ∧ w.grownBy w3 (some g) := by
  rcases Nat.eq_zero_or_pos ls.length with h0 | h0
  · have hn : ls = [] := List.eq_nil_of_length_eq_zero h0
    subst hn
    refine ⟨w, ?_, by simpa using hg, World.grownBy.refl w _⟩
    exact run_copy_none (P := Tryd.prog) w 41 41 3 5 D B dLen dCap 0 sCap Tryd.underlying41 u8_size (Nat.zero_min _)
  · obtain rfl := hD h0
    obtain ⟨ad, rfl, hc⟩ := hl.cells h0
    have hrun := run_copy_row (P := Tryd.prog) w 41 41 3 5 g off dLen dCap ad ls.length sCap (bvs cur).toArray 5 (bvs ls) Tryd.underlying41 u8_size hg
      (by rw [bvs_length]; exact (Nat.min_eq_left hd).symm) hc (by simpa [bvs_length] using hfit) (bvs_one ls)
    rw [bvs_length] at hrun
    refine ⟨_, hrun, ?_, ?_⟩
    · have := setRow_heap w g _ ((bvs cur).take off ++ bvs ls ++ (bvs cur).drop (off + ls.length)).toArray 5 (0, 0) hg
      unfold Row
      rw [bvs_append, bvs_append, bvs_take, bvs_drop, ← List.append_assoc]
      exact this
    · exact ⟨rfl, rfl, rfl, by simp [World.setRow], fun k hk hne => setRow_other w g k _ (fun e => hne (by rw [e]))⟩

theorem putBytes_none (A B : Option Addr) (c d : Nat) (bs : List UInt8) (w : World) (hr : Rd w A bs) (hn : bs.length ≤ 140737488351232) :
    Calls Tryd.prog 89 #[.slice A bs.length c, .slice B 0 d] w fun e w' =>
      e = .returned (.slice (some ⟨w.heap.size, 0, none⟩) (bs.length + 4) (bs.length + 4)) ∧
      Row w' w.heap.size (bs ++ be 0 4) ∧ Below w.heap.size w w' := by
  go_enter Tryd.func89, Tryd.ntmps89
  go_wp2_with fail
  refine (longer_at A c 4 _ (by omega) bs w hr (by omega)).mono ?_
  rintro e w1 ⟨rfl, HR, hb1⟩
  have HR1 := hid HR
  clear HR
  have HW := hid (RdW.new w1 w.heap.size HR1.out.lt [0] (by simp))
  have HA := hid (HR1.out.alloc (.cells #[Value.int .u64 0] 22))
  have HB := hid (hb1.alloc (Nat.le_of_lt HR1.out.lt) (.cells #[Value.int .u64 0] 22))
  go_wp2_with fail
  refine (lay_any _ _ w.heap.size bs.length 4 _ 1 _ [0] _ (fun _ => rfl) HA.out (by simp) (by simp; omega) HW.out (by simp) (by simp)).mono ?_
  rintro e w2 ⟨rfl, HR2, hg2⟩
  rw [laid_tail] at HR2
  have HR3 := hid HR2
  have HB3 := hid (HB.out.grown hg2 (by have := HR1.out.lt; simp; omega) (by simp))
  clear HR2 hg2
  go_wp2_with (with_reducible refine wpList_copy_nothing rfl (.tmp 27) (.tmp 28) 41 41 rfl 5 Tryd.underlying41 u8_size _ _ _ _ _ _ rfl rfl rfl ?_)
  go_ret
  exact ⟨rfl, HR3.out, HB3.out⟩

theorem putBytes_pos (A B : Option Addr) (c d : Nat) (bs ls : List UInt8) (w : World) (hr : Rd w A bs) (hl : Rd w B ls) (hn : bs.length ≤ 140737488351232) (hm : ls.length ≤ 140737488351232) (h0 : 0 < ls.length) :
    Calls Tryd.prog 89 #[.slice A bs.length c, .slice B ls.length d] w fun e w' =>
      e = .returned (.slice (some ⟨w.heap.size, 0, none⟩) (bs.length + (4 + ls.length)) (bs.length + (4 + ls.length))) ∧
      Row w' w.heap.size (bs ++ (be ls.length 4 ++ ls)) ∧ Below w.heap.size w w' := by
  go_enter Tryd.func89, Tryd.ntmps89
  go_wp2_with fail
  refine (longer_at A c (4 + ls.length) _ (by omega) bs w hr (by omega)).mono ?_
  rintro e w1 ⟨rfl, HR, hb1⟩
  have HR1 := hid HR
  clear HR
  have HW := hid (RdW.new w1 w.heap.size HR1.out.lt [ls.length] (by simp; omega))
  have HA := hid (HR1.out.alloc (.cells #[Value.int .u64 (ls.length : Int)] 22))
  have HB := hid (hb1.alloc (Nat.le_of_lt HR1.out.lt) (.cells #[Value.int .u64 (ls.length : Int)] 22))
  go_wp2_with fail
  refine (lay_any _ _ w.heap.size bs.length 4 _ 1 _ [ls.length] _ (fun _ => rfl) HA.out (by simp) (by simp; omega) HW.out (by simp) (by simp)).mono ?_
  rintro e w2 ⟨rfl, HR2, hg2⟩
  rw [laid_mid] at HR2
  have HX := hid (p := wnum [ls.length] = ls.length) (by simp [wnum])
  rw [HX.out] at HR2
  have HR3 := hid HR2
  have HB3 := hid (HB.out.grown hg2 (by have := HR1.out.lt; simp; omega) (by simp))
  have HL3 := hid (hl.below HB3.out (Nat.le_refl _))
  clear HR2 hg2
  obtain ⟨w3, hrun, HR4, hg4⟩ := copy_bytes w2 w.heap.size (bs.length + 4) (bs.length + (4 + ls.length) - (bs.length + 4)) (bs.length + (4 + ls.length) - (bs.length + 4)) d _ B _ ls (fun _ => rfl) HR3.out HL3.out (by simp [be_length]; omega) (by omega)
  have HR5 := hid (p := Row w3 w.heap.size (bs ++ (be ls.length 4 ++ ls))) (by
    have e : (bs ++ be ls.length 4).length = bs.length + 4 := by simp [be_length]
    have e1 : ((bs ++ be ls.length 4 ++ List.replicate ls.length 0).take (bs.length + 4)) = bs ++ be ls.length 4 := by
      rw [← e]; exact List.take_left
    have e2 : ((bs ++ be ls.length 4 ++ List.replicate ls.length 0).drop (bs.length + 4 + ls.length)) = [] := by
      apply List.drop_eq_nil_of_le; simp [be_length]; omega
    rw [e1, e2] at HR4
    simpa using HR4)
  have HB5 := hid (HB3.out.grown hg4 (by have := HR3.out.lt; omega) (by simp))
  clear HR4 hg4
  go_wp2
  go_ret
  exact ⟨rfl, HR5.out, HB5.out⟩

/-- both -/
theorem putBytes_any (A B : Option Addr) (c d : Nat) (bs ls : List UInt8) (w : World) (hr : Rd w A bs) (hl : Rd w B ls) (hn : bs.length ≤ 140737488351232) (hm : ls.length ≤ 140737488351232) :
    Calls Tryd.prog 89 #[.slice A bs.length c, .slice B ls.length d] w fun e w' =>
      e = .returned (.slice (some ⟨w.heap.size, 0, none⟩) (bs.length + (4 + ls.length)) (bs.length + (4 + ls.length))) ∧
      Row w' w.heap.size (bs ++ (be ls.length 4 ++ ls)) ∧ Below w.heap.size w w' := by
  rcases Nat.eq_zero_or_pos ls.length with h0 | h0
  · have hn' : ls = [] := List.eq_nil_of_length_eq_zero h0
    subst hn'
    refine (putBytes_none A B c d bs w hr hn).mono ?_
    rintro e w1 ⟨rfl, HR, hb⟩
    exact ⟨rfl, by simpa using HR, hb⟩
  · exact putBytes_pos A B c d bs ls w hr hl hn hm h0
end Go.Proofs.YtikmhnlhaolbfaaDoor
namespace Go.Proofs.YtikmhnlhaolbfaaDoor
open Go.RowKit
set_option linter.unusedVariables false
set_option linter.unusedSimpArgs false

/-- parts, each behind how many bytes it has -/
def flat (xs : Nat → List UInt8) : Nat → List UInt8
  | 0 => []
  | k + 1 => flat xs k ++ (be (xs k).length 4 ++ xs k)
/-- what is summed -/
def spelt (s : List UInt8) (n : Nat) (xs : Nat → List UInt8) (k : Nat) : List UInt8 := ((be s.length 4 ++ s) ++ be n 4) ++ flat xs k
theorem flat_length (xs : Nat → List UInt8) (k : Nat) (h : ∀ r, r < k → (xs r).length ≤ 1048576) : (flat xs k).length ≤ k * 1048580 := by
  induction k with
  | zero => simp [flat]
  | succ k ih =>
    have h1 := ih (fun r hr => h r (by omega))
    have h2 := h k (by omega)
    rw [flat, List.length_append, List.length_append, be_length]
    omega
theorem spelt_length (s : List UInt8) (n : Nat) (xs : Nat → List UInt8) (k : Nat) (h : ∀ r, r < k → (xs r).length ≤ 1048576) : (spelt s n xs k).length ≤ s.length + 8 + k * 1048580 := by
  have := flat_length xs k h
  simp only [spelt, List.length_append, be_length]
  omega
/-- bytes of a text, made anew -/
theorem conv_str (s : ByteArray) (w : World) : ∃ cap w2, Hid ((convert 9 41 (.string s)).run Tryd.prog w = .ok (.slice (some ⟨w.heap.size, 0, none⟩) s.size cap) w2) ∧ Hid (Rd w2 (some ⟨w.heap.size, 0, none⟩) s.data.toList) ∧ Hid (Below w.heap.size w w2) := by
  refine ⟨_, _, hid (run_bytes_of_string w 9 41 5 s Tryd.underlying9 Tryd.underlying41 Tryd.underlying5), hid ?_, hid ((Below.refl w.heap.size w).drew.alloc (Nat.le_refl _) _)⟩
  intro hp
  refine ⟨w.heap.size, 0, rfl, by simp, fun j hj => ?_⟩
  have hh : ∀ o : Obj, (w.drew.alloc o).heap[w.heap.size]? = some o := fun o => heap_alloc_new w.drew o
  rw [cell_of_row _ _ _ _ 5 _ (hh _)]
  have hj2 : j < s.data.size := by simpa using hj
  have hj3 : j < s.size := hj2
  simp [bytesRow, Array.getElem?_append, hj2, hj3]
theorem pb_at (B : Option Addr) (d n : Nat) (ls : List UInt8) (w : World) (hl : ls.length = n) (hr : Rd w B ls) (hn : n ≤ 140737488351232) :
    Calls Tryd.prog 89 #[.slice none 0 0, .slice B n d] w fun e w' => e = .returned (.slice (some ⟨w.heap.size, 0, none⟩) (4 + n) (4 + n)) ∧ Hid (Row w' w.heap.size (be n 4 ++ ls)) ∧ Hid (Below w.heap.size w w') := by
  subst hl
  refine (putBytes_any none B 0 d [] ls w (Rd.nil _ _) hr (by decide) hn).mono ?_
  rintro e w1 ⟨rfl, h1, h2⟩
  exact ⟨by simp, hid (by simpa using h1), hid h2⟩
theorem pn_at (n : Nat) (w : World) (hn : n < 18446744073709551616) :
    Calls Tryd.prog 90 #[.slice none 0 0, .int .u64 (n : Int), .int .i64 4] w fun e w' => e = .returned (.slice (some ⟨w.heap.size, 0, none⟩) 4 4) ∧ Hid (Row w' w.heap.size (be n 4)) ∧ Hid (Below w.heap.size w w') := by
  refine (put_any none 0 n 4 4 [] w (Rd.nil _ _) (by decide) hn (by decide)).mono ?_
  rintro e w1 ⟨rfl, h1, h2⟩
  exact ⟨by simp, hid (by simpa using h1), hid h2⟩
theorem add_cb {w wr : World} {g : Nat} {bs : List UInt8} {l : List (Nat × List UInt8)} (H : Hid (Cb w g bs l wr)) (A : Option Addr) (c n : Nat) (part : List UInt8) (hn : part.length = n) (hr : Rd wr A part) (hA : 0 < n → ∀ ad, A = some ad → ad.block ≠ g) (hc : n ≤ c) (hlen : bs.length + n ≤ 140737488355328) :
    Calls Tryd.prog 79 #[.pointer (some ⟨g, 0, none⟩), .slice A n c] wr fun e w' => e = .returned (.tuple #[]) ∧ Hid (Cb w g (bs ++ part) l w') := by
  refine (add_any g A c bs part wr n hn H.out.1.run hr hA hc H.out.1.kt H.out.1.n3 hlen).mono ?_
  rintro e w1 ⟨rfl, h1, h2⟩
  exact ⟨rfl, hid ⟨H.out.1.put h1 h2, fun p hp => ⟨(H.out.2 p hp).1.grown h2 (H.out.2 p hp).2, (H.out.2 p hp).2⟩⟩⟩
theorem Cb.fresh {w wr : World} {g : Nat} {bs : List UInt8} {l : List (Nat × List UInt8)} (H : Cb w g bs l wr) : wr.heap.size ≠ g := Nat.ne_of_gt H.1.run.lt
set_option maxRecDepth 100000 in
set_option maxHeartbeats 4000000 in
theorem as_any (st : ByteArray) (a0 : Option Addr) (n0 c0 : Nat) (A : Nat → Option Addr) (L C : Nat → Nat) (xs : Nat → List UInt8) (w : World) (hR : Rws w a0 n0 A L C xs) (hK : Kt w) (hn : n0 ≤ 1000) (hL : ∀ r, r < n0 → L r ≤ 1048576) (hs : st.size ≤ 1000000) :
    Calls Tryd.prog 45 #[.string st, .slice a0 n0 c0] w fun e w' => e = .returned (.agg (bvs (sha (spelt st.data.toList n0 xs n0))).toArray) ∧ Below w.heap.size w w' := by
  have HR := hid hR
  have HK := hid hK
  have HL := hid hL
  have HN := hid hn
  have HS := hid hs
  have HSL := hid (show st.data.toList.length = st.size by rw [Array.length_toList]; rfl)
  clear hR hK hL hs
  go_enter Tryd.func45, Tryd.ntmps45
  go_wp2_with fail
  have HZ1 : Hid (Bt (w.alloc (.cells #[.int .u8 0, .int .u8 0, .int .u8 0, .int .u8 0, .int .u8 0, .int .u8 0, .int .u8 0, .int .u8 0, .int .u8 0, .int .u8 0, .int .u8 0, .int .u8 0, .int .u8 0, .int .u8 0, .int .u8 0, .int .u8 0, .int .u8 0, .int .u8 0, .int .u8 0, .int .u8 0, .int .u8 0, .int .u8 0, .int .u8 0, .int .u8 0, .int .u8 0, .int .u8 0, .int .u8 0, .int .u8 0, .int .u8 0, .int .u8 0, .int .u8 0, .int .u8 0] 44)) w.heap.size 44 (List.replicate 32 0)) := hid (heap_alloc_new w _)
  have HB1 : Hid (Below w.heap.size w (w.alloc (.cells #[.int .u8 0, .int .u8 0, .int .u8 0, .int .u8 0, .int .u8 0, .int .u8 0, .int .u8 0, .int .u8 0, .int .u8 0, .int .u8 0, .int .u8 0, .int .u8 0, .int .u8 0, .int .u8 0, .int .u8 0, .int .u8 0, .int .u8 0, .int .u8 0, .int .u8 0, .int .u8 0, .int .u8 0, .int .u8 0, .int .u8 0, .int .u8 0, .int .u8 0, .int .u8 0, .int .u8 0, .int .u8 0, .int .u8 0, .int .u8 0, .int .u8 0, .int .u8 0] 44))) := hid ((Below.refl _ _).alloc (Nat.le_refl _) _)
  have HS1 : Hid (w.heap.size < (w.alloc (.cells #[.int .u8 0, .int .u8 0, .int .u8 0, .int .u8 0, .int .u8 0, .int .u8 0, .int .u8 0, .int .u8 0, .int .u8 0, .int .u8 0, .int .u8 0, .int .u8 0, .int .u8 0, .int .u8 0, .int .u8 0, .int .u8 0, .int .u8 0, .int .u8 0, .int .u8 0, .int .u8 0, .int .u8 0, .int .u8 0, .int .u8 0, .int .u8 0, .int .u8 0, .int .u8 0, .int .u8 0, .int .u8 0, .int .u8 0, .int .u8 0, .int .u8 0, .int .u8 0] 44)).heap.size) := hid (by simp)
  generalize w.alloc (.cells #[.int .u8 0, .int .u8 0, .int .u8 0, .int .u8 0, .int .u8 0, .int .u8 0, .int .u8 0, .int .u8 0, .int .u8 0, .int .u8 0, .int .u8 0, .int .u8 0, .int .u8 0, .int .u8 0, .int .u8 0, .int .u8 0, .int .u8 0, .int .u8 0, .int .u8 0, .int .u8 0, .int .u8 0, .int .u8 0, .int .u8 0, .int .u8 0, .int .u8 0, .int .u8 0, .int .u8 0, .int .u8 0, .int .u8 0, .int .u8 0, .int .u8 0, .int .u8 0] 44) = w1 at *
  refine (new_at w1 (HK.out.on HB1.out)).mono ?_
  rintro e w2 ⟨g, rfl, H2⟩
  have hge := H2.out.new
  have HC2 := hid (p := Cb w1 g [] [(w.heap.size, List.replicate 32 0)] w2) ⟨H2.out, fun p hp => by
    obtain rfl := List.mem_singleton.1 hp
    have hs := HS1.out
    exact ⟨HZ1.out.on H2.out.below, by show w.heap.size ≠ g; omega⟩⟩
  obtain ⟨cap, w3, RC, HRD3, HB3⟩ := conv_str st w2
  have HC3 := hid (HC2.out.on HB3.out)
  have hcv := RC.out
  go_wp2_with fail
  clear hcv RC hge H2 HC2 HB3
  generalize w2.heap.size = gs at *
  refine (pb_at (some ⟨gs, 0, none⟩) cap st.size st.data.toList w3 HSL.out HRD3.out (by have := HS.out; omega)).mono ?_
  rintro e w4 ⟨rfl, hrow4, hb4⟩
  have HC4 := hid (HC3.out.on hb4.out)
  have HR4 := hid hrow4.out.rd0
  have HF4 := hid HC3.out.fresh
  clear hrow4 hb4 HC3 HRD3
  go_wp2_with fail
  refine (add_cb HC4 (some ⟨w3.heap.size, 0, none⟩) (4 + st.size) (4 + st.size) (be st.size 4 ++ st.data.toList) (by rw [List.length_append, be_length, HSL.out]) HR4.out (fun _ ad e => by injection e with e; subst e; exact HF4.out) (Nat.le_refl _) (by have := HS.out; simp; omega)).mono ?_
  rintro e w5 ⟨rfl, HC5⟩
  clear HC4 HR4 HF4
  have hw : IntKind.u64.wrap (n0 : Int) = (n0 : Int) := by rw [IntKind.wrap_u64]; omega
  go_wp2_with fail
  refine (pn_at n0 w5 (by omega)).mono ?_
  rintro e w6 ⟨rfl, hrow6, hb6⟩
  have HC6 := hid (HC5.out.on hb6.out)
  have HR6 := hid hrow6.out.rd0
  have HF6 := hid HC5.out.fresh
  clear hrow6 hb6 HC5
  go_wp2_with fail
  refine (add_cb HC6 (some ⟨w5.heap.size, 0, none⟩) 4 4 (be n0 4) (be_length _ _) HR6.out (fun _ ad e => by injection e with e; subst e; exact HF6.out) (Nat.le_refl _) (by have := HS.out; simp [be_length, HSL.out]; omega)).mono ?_
  rintro e w7 ⟨rfl, HC7⟩
  have HC8 := hid (p := Cb w1 g (spelt st.data.toList n0 xs 0) [(w.heap.size, List.replicate 32 0)] w7) (by have := HC7.out; simpa [spelt, flat, HSL.out] using this)
  clear HC6 HR6 HF6 HC7 hw
  go_wp2_with fail
  go_loopw [22] (fun i wr => ∃ k : Nat, k ≤ n0 ∧ i = .int .i64 k ∧ Hid (Cb w1 g (spelt st.data.toList n0 xs k) [(w.heap.size, List.replicate 32 0)] wr)) (fun i _ => n0 - (intOf i).toNat)
  case atStart => exact ⟨0, Nat.zero_le _, rfl, HC8⟩
  case round =>
    clear HC8
    obtain ⟨k, hk, rfl, HC⟩ := hrel
    have HBW := hid (p := Below w.heap.size w wr) (HB1.out.trans (HC.out.old.mono HB1.out.size))
    by_cases hlt : k < n0
    · obtain ⟨⟨go, o, rfl, hgo, hcell⟩, hl1, hrd1, hlc, hcb, hac⟩ := HR.out k hlt
      have hcell2 := (HBW.out.cell (p := ⟨go, o + k, none⟩) hgo).trans hcell
      have HL1 := hid hl1
      have HRD := hid (hrd1.below HBW.out (Nat.le_refl _))
      have HLk := hid (HL.out k hlt)
      have HLT := hid hlt
      have HSP := hid (spelt_length st.data.toList n0 xs k (fun r hr => by rw [(HR.out r (by omega)).2.1]; exact HL.out r (by omega)))
      clear hcell hl1 hrd1 hlc hcb hac hgo
      have hlti : (k : Int) < (n0 : Int) := by omega
      go_wp2_with fail
      refine (pb_at (A k) (C k) (L k) (xs k) wr HL1.out HRD.out (by have := HLk.out; omega)).mono ?_
      rintro e w9 ⟨rfl, hrow9, hb9⟩
      have HC9 := hid (HC.out.on hb9.out)
      have HR9 := hid hrow9.out.rd0
      have HF9 := hid HC.out.fresh
      clear hrow9 hb9 hcell2
      go_wp2_with fail
      refine (add_cb HC9 (some ⟨wr.heap.size, 0, none⟩) (4 + L k) (4 + L k) (be (L k) 4 ++ xs k) (by rw [List.length_append, be_length, HL1.out]) HR9.out (fun _ ad e => by injection e with e; subst e; exact HF9.out) (Nat.le_refl _) (by have h1 := HSP.out; have h2 := HSL.out; have h3 := HS.out; have h4 := HLk.out; have h5 := HLT.out; rw [h2] at h1; omega)).mono ?_
      rintro e w10 ⟨rfl, HC10⟩
      have HC11 := hid (p := Cb w1 g (spelt st.data.toList n0 xs (k + 1)) [(w.heap.size, List.replicate 32 0)] w10) (by have := HC10.out; rw [← HL1.out] at this; simpa [spelt, flat] using this)
      clear HC9 HR9 HF9 HC10
      go_wp2
      exact ⟨⟨k + 1, HLT.out, by go_num, HC11⟩, by have := HLT.out; simp [intOf]; omega⟩
    · obtain rfl : k = n0 := by omega
      have HSP := hid (spelt_length st.data.toList k xs k (fun r hr => by rw [(HR.out r hr).2.1]; exact HL.out r hr))
      go_wp2_with fail
      refine (sum_cb HC (by have h1 := HSP.out; have h2 := HSL.out; have h3 := HS.out; rw [h2] at h1; omega)).mono ?_
      rintro e w12 ⟨rfl, HC12⟩
      have HB12 := hid (p := Below w.heap.size w w12) (HB1.out.trans (HC12.out.old.mono HB1.out.size))
      have HZ12 := hid (HC12.out.2 (w.heap.size, List.replicate 32 0) (by simp)).1
      have HQ := hid (sha_length (spelt st.data.toList k xs k))
      generalize hr : sha (spelt st.data.toList k xs k) = r at *
      have HRR := hid hr
      clear hr
      have HI44 := hi44 r HQ.out
      have HO8 : Hid ((bvs (List.replicate 32 0)).toArray.size = (bvs r).toArray.size) := hid (by rw [bvs_size, bvs_size, HQ.out, List.length_replicate])
      have HZR := hid (HZ12.out.row (m := r))
      have HBR := hid (p := Below w.heap.size w (w12.setRow w.heap.size (bvs r).toArray)) (below_setRow HB12.out (Nat.le_refl _) _)
      have HDA := bvs_all r
      have HZZ := HZ12.out
      unfold Bt at HZZ
      have HZZ := hid HZZ
      go_wp2_with (refine wpList_store_row rfl 44 (.tmp 4) (.tmp 32) rfl w.heap.size (bvs r).toArray rfl rfl 44 _ HZZ.out HI44.out HO8.out HDA ?_)
      exact bodyPost_ret (v := .agg (bvs r).toArray) (results_cell_row (p := 4) (ty := 44) Tryd.results45 _ _ w.heap.size 44 (bvs r).toArray (0, 0) _ rfl HZR.out Tryd.underlying44 rfl HI44.out) rfl ⟨by rw [HRR.out], HBR.out⟩
end Go.Proofs.YtikmhnlhaolbfaaDoor
namespace Go.Proofs.YtikmhnlhaolbfaaDoor
open Go.RowKit

set_option maxHeartbeats 400000 in
theorem told_any (A : Option Addr) (c : Nat) (bs : List UInt8) (w : World) (hr : Rd w A bs) (hn : bs.length ≤ 8) :
    Calls Tryd.prog 96 #[.slice A bs.length c] w fun e w' => e = .returned (.int .u64 (tell bs : Int)) ∧ w = w' := by
  go_enter Tryd.func96, Tryd.ntmps96
  go_wp2
  go_loop [3, 8] (fun n i => ∃ k : Nat, k ≤ bs.length ∧ i = .int .i64 k ∧ n = .int .u64 (tell (bs.take k) : Int)) (fun _ i => bs.length - (intOf i).toNat)
  case atStart => exact ⟨0, Nat.zero_le _, rfl, rfl⟩
  case round =>
    obtain ⟨k, hk, rfl, rfl⟩ := hrel
    by_cases hlt : k < bs.length
    · obtain ⟨g, o, rfl, hg, hc⟩ := hr (by omega)
      have hck := hc k hlt
      clear hc
      have HS := hid (tell_take_succ bs k hlt)
      have HB := hid (bs[k].toNat_lt)
      have HT := hid (Nat.lt_of_lt_of_le (tell_lt (bs.take k)) (pow256_le (k := (bs.take k).length) (by rw [List.length_take]; omega)))
      generalize bs[k].toNat = x at hck HS HB
      generalize tell (bs.take k) = t at HS HT
      go_wp2
      go_round
      case rel => exact ⟨k + 1, by omega, by go_num, by rw [HS.out, or_byte t x HT.out HB.out]⟩
      case measure => simp [intOf]; omega
    · obtain rfl : k = bs.length := by omega
      rw [List.take_length]
      go_wp2
      go_ret
      exact ⟨rfl, rfl⟩
end Go.Proofs.YtikmhnlhaolbfaaDoor
namespace Go.Proofs.YtikmhnlhaolbfaaDoor
open Go.RowKit
set_option linter.unusedVariables false

theorem getLong_short (A : Option Addr) (n c : Nat) (w : World) (hn : n < 32) :
    Calls Tryd.prog 56 #[.slice A n c] w fun e w' => e = .returned (.tuple #[.agg #[.int .u64 0, .int .u64 0, .int .u64 0, .int .u64 0], .int .i64 5]) ∧ Below w.heap.size w w' := by
  go_enter Tryd.func56, Tryd.ntmps56
  go_wp2
  refine bodyPost_ret (v := .tuple #[.agg #[.int .u64 0, .int .u64 0, .int .u64 0, .int .u64 0], .int .i64 5]) (by simp [results, Tryd.results56, go_sem]) rfl ⟨rfl, ?_⟩
  exact (Below.refl _ _).alloc (Nat.le_refl _) _

/-- the eight bytes of word j, the highest word ahead -/
def word (bs : List UInt8) (j : Nat) : Nat := tell ((bs.drop (8 * j)).take 8)

theorem told_len (A : Option Addr) (c n t : Nat) (bs : List UInt8) (w : World) (hl : bs.length = n) (hn : n ≤ 8) (ht : tell bs = t) (hr : Rd w A bs) :
    Calls Tryd.prog 96 #[.slice A n c] w fun e w' => e = .returned (.int .u64 (t : Int)) ∧ w = w' := by
  subst hl; subst ht; exact told_any A c bs w hr hn

theorem getLong_ok (A : Option Addr) (c : Nat) (bs : List UInt8) (w : World) (hr : Rd w A bs) (hc : bs.length ≤ c) (hc2 : c ≤ 9223372036854775807) (h4 : 32 ≤ bs.length) :
    Calls Tryd.prog 56 #[.slice A bs.length c] w fun e w' => e = .returned (.tuple #[.agg #[.int .u64 (word bs 3 : Int), .int .u64 (word bs 2 : Int), .int .u64 (word bs 1 : Int), .int .u64 (word bs 0 : Int)], .int .i64 0]) ∧
      Below w.heap.size w w' := by
  obtain ⟨g, o, rfl, hg, hcell⟩ := hr (by omega)
  have H0 := hid ((hr.cut 0 (some ⟨g, o, none⟩) (fun ad h _ => by injection h with h; subst h; rw [add_plain]; rfl)).take 8)
  have H1 := hid ((hr.cut 8 (some ⟨g, o + 8, none⟩) (fun ad h _ => by injection h with h; subst h; rw [add_plain])).take 8)
  have H2 := hid ((hr.cut 16 (some ⟨g, o + 16, none⟩) (fun ad h _ => by injection h with h; subst h; rw [add_plain])).take 8)
  have H3 := hid ((hr.cut 24 (some ⟨g, o + 24, none⟩) (fun ad h _ => by injection h with h; subst h; rw [add_plain])).take 8)
  have HL : Hid (∀ k, k ≤ 24 → ((bs.drop k).take 8).length = 8) := hid (fun k hk => by simp; omega)
  have W0 := hid (p := tell ((bs.drop 0).take 8) = word bs 0) rfl
  have W1 := hid (p := tell ((bs.drop 8).take 8) = word bs 1) rfl
  have W2 := hid (p := tell ((bs.drop 16).take 8) = word bs 2) rfl
  have W3 := hid (p := tell ((bs.drop 24).take 8) = word bs 3) rfl
  clear hcell hr
  have h32 : decide ((bs.length : Int) < 32) = false := by simp; omega
  generalize word bs 0 = x0 at *
  generalize word bs 1 = x1 at *
  generalize word bs 2 = x2 at *
  generalize word bs 3 = x3 at *
  go_enter Tryd.func56, Tryd.ntmps56
  go_wp2
  refine wp_loop_rounds 5 ?_
  rw [rounds_succ]
  go_wp2_with fail
  refine (told_len _ _ 8 x0 _ _ (HL.out 0 (by omega)) (by omega) W0.out ((H0.out.alloc _).alloc _)).mono ?_
  rintro e w1 ⟨rfl, rfl⟩
  go_wp2
  rw [rounds_succ]
  go_wp2_with fail
  refine (told_len _ _ 8 x1 _ _ (HL.out 8 (by omega)) (by omega) W1.out ((H1.out.alloc _).alloc _)).mono ?_
  rintro e w1 ⟨rfl, rfl⟩
  go_wp2
  rw [rounds_succ]
  go_wp2_with fail
  refine (told_len _ _ 8 x2 _ _ (HL.out 16 (by omega)) (by omega) W2.out ((H2.out.alloc _).alloc _)).mono ?_
  rintro e w1 ⟨rfl, rfl⟩
  go_wp2
  rw [rounds_succ]
  go_wp2_with fail
  refine (told_len _ _ 8 x3 _ _ (HL.out 24 (by omega)) (by omega) W3.out ((H3.out.alloc _).alloc _)).mono ?_
  rintro e w1 ⟨rfl, rfl⟩
  go_wp2
  rw [rounds_succ]
  go_wp2
  refine bodyPost_ret (v := .tuple #[.agg #[.int .u64 (x3 : Int), .int .u64 (x2 : Int), .int .u64 (x1 : Int), .int .u64 (x0 : Int)], .int .i64 0]) (by simp [results, Tryd.results56, go_sem]) rfl ⟨rfl, ?_⟩
  exact ((Below.refl _ _).alloc (Nat.le_refl _) _).alloc (by simp) _
end Go.Proofs.YtikmhnlhaolbfaaDoor
namespace Go.Proofs.YtikmhnlhaolbfaaDoor
open Go.RowKit
set_option linter.unusedVariables false
set_option maxRecDepth 100000 in
theorem clip_any (a0 : Option Addr) (n0 c0 : Nat) (w : World) (hc : n0 ≤ c0) (hn : n0 ≤ 1000) (h0 : a0 = none → c0 = 0) :
    Calls Tryd.prog 88 #[.slice a0 n0 c0] w fun e w' => e = .returned (.slice a0 n0 n0) ∧ w = w' := by
  go_enter Tryd.func88, Tryd.ntmps88
  go_wp2
  exact bodyPost_ret (v := .slice a0 n0 n0) (by simp [results, Tryd.results88, go_sem]) rfl ⟨rfl, rfl⟩
end Go.Proofs.YtikmhnlhaolbfaaDoor
namespace Go.Proofs.YtikmhnlhaolbfaaDoor
open Go.RowKit
set_option linter.unusedVariables false
theorem row_info : (Tryd.prog.info? 41).map (fun i => (i.zero, i.size, i.bytes)) = some (some (.slice none 0 0), 1, 24) := by kernel_rfl
/-- this, but the n-th and what follows that -/
def nx {T : Type} (n : Nat) (f : Nat → T) (y : T) : Nat → T := fun r => if r < n then f r else y
def cellsOf (n : Nat) (A : Nat → Option Addr) (L C : Nat → Nat) : List Value := (List.range n).map fun r => Value.slice (A r) (L r) (C r)
theorem cellsOf_length (n : Nat) (A : Nat → Option Addr) (L C : Nat → Nat) : (cellsOf n A L C).length = n := by simp [cellsOf]
theorem cellsOf_at {n r : Nat} (A : Nat → Option Addr) (L C : Nat → Nat) (h : r < n) : (cellsOf n A L C)[r]? = some (.slice (A r) (L r) (C r)) := by simp [cellsOf, h]
set_option maxRecDepth 100000 in
theorem rows_more (w : World) (a0 : Option Addr) (n0 : Nat) (A : Nat → Option Addr) (L C : Nat → Nat) (xs : Nat → List UInt8) (hR : Rws w a0 n0 A L C xs) (hn : n0 ≤ 1000) (h0 : a0 = none → n0 = 0)
    (b d b1 : Nat) (x : UInt8) (hb : w.cell? ⟨b, 0, none⟩ = some (.slice (some ⟨b1, 0, none⟩) 1 1)) (hr : Rd w (some ⟨b1, 0, none⟩) [x]) :
    ∃ g c w', (Builtin.append_ #[48, 48] 48 #[.slice a0 n0 n0, .slice (some ⟨b, 0, none⟩) 1 d]).run Tryd.prog w = .ok (.slice (some ⟨g, 0, none⟩) (n0 + 1) c) w' ∧ Below w.heap.size w w' ∧ w.heap.size ≤ g ∧ n0 + 1 ≤ c ∧ c ≤ 9223372036854775807 ∧
      Rws w' (some ⟨g, 0, none⟩) (n0 + 1) (nx n0 A (some ⟨b1, 0, none⟩)) (nx n0 L 1) (nx n0 C 1) (nx n0 xs [x]) := by
  obtain ⟨i0, hi, hz0, hz1, hz2⟩ := info_parts row_info
  have hgo : ∃ v' w', (Builtin.append_ #[48, 48] 48 #[.slice a0 n0 n0, .slice (some ⟨b, 0, none⟩) 1 d]).run Tryd.prog w = .ok v' w' ∧ w'.ownsRow w.heap.size 41 1 v' (n0 + 1) (cellsOf n0 A L C ++ [.slice (some ⟨b1, 0, none⟩) 1 1]) ∧ w.grownBy w' none := by
    have hnew : ∀ j u, ([Value.slice (some ⟨b1, 0, none⟩) 1 1] : List Value)[j]? = some u → w.cell? ((⟨b, 0, none⟩ : Addr).add j) = some u := by
      intro j u hj
      rcases j with _ | j
      · simp only [List.getElem?_cons_zero, Option.some.injEq] at hj
        subst hj
        rw [Addr.add_lit]; exact hb
      · simp at hj
    rcases a0 with _ | ad
    · obtain rfl := h0 rfl
      obtain ⟨v', w', hrun, h2, h3, _⟩ := run_append_own (P := Tryd.prog) w w.heap.size 48 48 41 i0 (.slice none 0 0) 1 24 Tryd.underlying48 hi hz0 hz1 hz2 rfl (by omega) (.slice none 0 0) 0 [] (World.ownsRow_nil w _ 41 1) ⟨b, 0, none⟩ 1 d _ rfl hnew (by simp [Value.oneCell']) (by simp only [maxLen]; omega) (by omega) (Nat.le_refl _)
      exact ⟨v', w', hrun, h2, h3⟩
    · exact run_append_arg_grows (P := Tryd.prog) w 48 48 41 i0 (.slice none 0 0) 1 24 Tryd.underlying48 hi hz0 hz1 hz2 rfl (by omega) ad n0 n0 (cellsOf n0 A L C) (by rw [cellsOf_length, Nat.mul_one])
        (fun j u hj => by
          have hj2 : j < n0 := by
            rcases Nat.lt_or_ge j n0 with h | h
            · exact h
            · rw [List.getElem?_eq_none (by rw [cellsOf_length]; exact h)] at hj; cases hj
          rw [cellsOf_at A L C hj2] at hj
          injection hj with hj; subst hj
          obtain ⟨⟨go, o, e1, _, hc⟩, _⟩ := hR j hj2
          injection e1 with e1; subst e1
          rw [Addr.add_lit]; exact hc) ⟨b, 0, none⟩ 1 d _ rfl hnew (by omega) (by simp only [maxLen]; omega) (by omega)
  obtain ⟨v', w', hrun, hown, hgr⟩ := hgo
  have hB : Below w.heap.size w w' := below_grown (Below.refl _ _) (hgr.but (some w.heap.size)) (Nat.le_refl _) (Nat.le_refl _)
  rcases hown.2 with ⟨_, h⟩ | ⟨g, cap, cur, rfl, hbg, hh, hnc, hm, hs, ht⟩
  · omega
  · refine ⟨g, cap, w', hrun, hB, hbg, hnc, hm, fun r hr2 => ?_⟩
    have hcell := World.ownsRow.cellAt hown r (by omega)
    rcases Nat.lt_or_ge r n0 with hlt | hge
    · obtain ⟨_, k1, k2, k3, k4, k5⟩ := hR r hlt
      simp only [nx, hlt, if_true]
      refine ⟨⟨g, 0, rfl, lt_of_block hh, ?_⟩, k1, k2.below hB (Nat.le_refl _), k3, k4, k5⟩
      rw [Nat.zero_add, hcell, List.getElem?_append_left (by rw [cellsOf_length]; exact hlt), cellsOf_at A L C hlt]
    · obtain rfl : r = n0 := by omega
      simp only [nx, Nat.lt_irrefl, if_false]
      refine ⟨⟨g, 0, rfl, lt_of_block hh, ?_⟩, rfl, hr.below hB (Nat.le_refl _), Nat.le_refl _, by omega, fun h => by cases h⟩
      rw [Nat.zero_add, hcell, List.getElem?_append_right (by rw [cellsOf_length]; exact Nat.le_refl _), cellsOf_length]
      simp
end Go.Proofs.YtikmhnlhaolbfaaDoor
namespace Go.Proofs.YtikmhnlhaolbfaaDoor
set_option linter.unusedVariables false

/-- the number of four words, the lowest first -/
def v4 (a b c d : Nat) : Nat := a + 18446744073709551616 * (b + 18446744073709551616 * (c + 18446744073709551616 * d))

theorem v4_lt {a b c d : Nat} (h0 : a < 18446744073709551616) (h1 : b < 18446744073709551616) (h2 : c < 18446744073709551616) (h3 : d < 18446744073709551616) : v4 a b c d < 2 ^ 256 := by
  unfold v4
  have : (2 : Nat) ^ 256 = 115792089237316195423570985008687907853269984665640564039457584007913129639936 := by decide
  omega

theorem v4_inj {a b c d a' b' c' d' : Nat} (h0 : a < 18446744073709551616) (h1 : b < 18446744073709551616) (h2 : c < 18446744073709551616) (h3 : a' < 18446744073709551616) (h4 : b' < 18446744073709551616) (h5 : c' < 18446744073709551616)
    (h : v4 a b c d = v4 a' b' c' d') : a = a' ∧ b = b' ∧ c = c' ∧ d = d' := by
  unfold v4 at h
  omega

theorem v4_mk (n : Nat) (h : n < 2 ^ 256) : ∃ a b c d, n = v4 a b c d ∧ a < 18446744073709551616 ∧ b < 18446744073709551616 ∧ c < 18446744073709551616 ∧ d < 18446744073709551616 := by
  have e : (2 : Nat) ^ 256 = 115792089237316195423570985008687907853269984665640564039457584007913129639936 := by decide
  rw [e] at h
  refine ⟨n % 18446744073709551616, n / 18446744073709551616 % 18446744073709551616, n / 340282366920938463463374607431768211456 % 18446744073709551616, n / 6277101735386680763835789423207666416102355444464034512896, ?_, ?_, ?_, ?_, ?_⟩
  all_goals (try unfold v4)
  all_goals omega

/-- a bit, as 0 or 1 -/
def bitAt (n i : Nat) : Nat := n / 2 ^ i % 2
theorem bitAt_lt (n i : Nat) : bitAt n i < 2 := Nat.mod_lt _ (by decide)
theorem bit_step (n i : Nat) : n / 2 ^ i = 2 * (n / 2 ^ (i + 1)) + bitAt n i := by
  unfold bitAt
  rw [Nat.pow_succ, ← Nat.div_div_eq_div_mul]
  omega
theorem low_step (n i : Nat) : n % 2 ^ (i + 1) = n % 2 ^ i + 2 ^ i * bitAt n i := by
  unfold bitAt
  rw [Nat.mod_pow_succ]
theorem bitAt_high (n i k : Nat) (h : n < 2 ^ k) (hi : k ≤ i) : bitAt n i = 0 := by
  unfold bitAt
  rw [Nat.div_eq_of_lt (Nat.lt_of_lt_of_le h (Nat.pow_le_pow_right (by decide) hi))]

theorem word_bit (x r i : Nat) (hx : x < 18446744073709551616) (hi : i < 64) : bitAt (x + 18446744073709551616 * r) i = bitAt x i := by
  unfold bitAt
  have e : (18446744073709551616 : Nat) = 2 ^ i * (2 * 2 ^ (63 - i)) := by
    have : (18446744073709551616 : Nat) = 2 ^ 64 := by decide
    rw [this, ← Nat.pow_succ', ← Nat.pow_add]
    congr 1; omega
  rw [e, Nat.mul_assoc, Nat.add_mul_div_left _ _ (Nat.two_pow_pos i), Nat.mul_assoc, Nat.add_mul_mod_self_left]
theorem word_up (x r i : Nat) (hx : x < 18446744073709551616) : bitAt (x + 18446744073709551616 * r) (i + 64) = bitAt r i := by
  unfold bitAt
  have e : (2 : Nat) ^ (i + 64) = 18446744073709551616 * 2 ^ i := by rw [Nat.pow_add, Nat.mul_comm]
  rw [e, ← Nat.div_div_eq_div_mul]
  have : (x + 18446744073709551616 * r) / 18446744073709551616 = r := by omega
  rw [this]
theorem bit_v4 {a b c d : Nat} (h0 : a < 18446744073709551616) (h1 : b < 18446744073709551616) (h2 : c < 18446744073709551616) (h3 : d < 18446744073709551616) (j i : Nat) (hi : i < 64) :
    bitAt (v4 a b c d) (i + 64 * j) = bitAt ([a, b, c, d].getD j 0) i := by
  unfold v4
  match j with
  | 0 => exact word_bit a _ i h0 hi
  | 1 => rw [show i + 64 * 1 = i + 64 from rfl, word_up _ _ _ h0, word_bit _ _ _ h1 hi]; rfl
  | 2 => rw [show i + 64 * 2 = (i + 64) + 64 by omega, word_up _ _ _ h0, word_up _ _ _ h1, word_bit _ _ _ h2 hi]; rfl
  | 3 =>
    rw [show i + 64 * 3 = ((i + 64) + 64) + 64 by omega, word_up _ _ _ h0, word_up _ _ _ h1, word_up _ _ _ h2]; rfl
  | j + 4 =>
    have := bitAt_high (v4 a b c d) (i + 64 * (j + 4)) 256 (v4_lt h0 h1 h2 h3) (by omega)
    unfold v4 at this
    rw [this]
    simp [bitAt]

/-- how many bits a number needs -/
def nbits (n : Nat) : Nat := if n = 0 then 0 else n.log2 + 1
theorem nbits_lt (n : Nat) : n < 2 ^ nbits n := by
  unfold nbits
  split
  · subst n; decide
  · exact Nat.lt_log2_self
theorem nbits_le (n : Nat) (h : 0 < n) : 2 ^ (nbits n - 1) ≤ n := by
  unfold nbits
  rw [if_neg (by omega)]
  exact Nat.log2_self_le (by omega)
theorem nbits_pos (n : Nat) (h : 0 < n) : 0 < nbits n := by unfold nbits; rw [if_neg (by omega)]; omega
theorem nbits_zero : nbits 0 = 0 := rfl
theorem nbits_of (n k : Nat) (h1 : 2 ^ k ≤ n) (h2 : n < 2 ^ (k + 1)) : nbits n = k + 1 := by
  have hp : 0 < n := Nat.lt_of_lt_of_le (Nat.two_pow_pos k) h1
  have a := nbits_lt n
  have b := nbits_le n hp
  have c := nbits_pos n hp
  have d : k < nbits n := (Nat.pow_lt_pow_iff_right (by decide)).1 (Nat.lt_of_le_of_lt h1 a)
  have e : nbits n - 1 < k + 1 := (Nat.pow_lt_pow_iff_right (by decide)).1 (Nat.lt_of_le_of_lt b h2)
  omega
theorem nbits_up (n k : Nat) (h : n < 2 ^ k) : nbits n ≤ k := by
  rcases Nat.eq_zero_or_pos n with rfl | hp
  · exact Nat.zero_le _
  · have b := nbits_le n hp
    have e : nbits n - 1 < k := (Nat.pow_lt_pow_iff_right (by decide)).1 (Nat.lt_of_le_of_lt b h)
    omega
theorem nbits_mono {n m : Nat} (h : n ≤ m) : nbits n ≤ nbits m := nbits_up n _ (Nat.lt_of_le_of_lt h (nbits_lt m))

/-- a product of two that are not 0 needs as many bits as both, or one fewer -/
theorem nbits_mul (a b : Nat) (ha : 0 < a) (hb : 0 < b) : nbits (a * b) = nbits a + nbits b ∨ nbits (a * b) + 1 = nbits a + nbits b := by
  have a1 := nbits_lt a
  have a2 := nbits_le a ha
  have b1 := nbits_lt b
  have b2 := nbits_le b hb
  have pa := nbits_pos a ha
  have pb := nbits_pos b hb
  have u : a * b < 2 ^ (nbits a + nbits b) := by rw [Nat.pow_add]; exact Nat.mul_lt_mul'' a1 b1
  have l : 2 ^ (nbits a - 1 + (nbits b - 1)) ≤ a * b := by rw [Nat.pow_add]; exact Nat.mul_le_mul a2 b2
  have u' := nbits_up _ _ u
  have l' := nbits_mono l
  have e := nbits_of (2 ^ (nbits a - 1 + (nbits b - 1))) (nbits a - 1 + (nbits b - 1)) (Nat.le_refl _) (Nat.pow_lt_pow_right (by decide) (by omega))
  omega
/-- a sum needs one bit more than the longer one at most, and no fewer -/
theorem nbits_add (a b : Nat) : nbits (a + b) = max (nbits a) (nbits b) ∨ nbits (a + b) = max (nbits a) (nbits b) + 1 := by
  have a1 := nbits_lt a
  have b1 := nbits_lt b
  have c1 : 2 ^ nbits a ≤ 2 ^ max (nbits a) (nbits b) := Nat.pow_le_pow_right (by decide) (Nat.le_max_left _ _)
  have c2 : 2 ^ nbits b ≤ 2 ^ max (nbits a) (nbits b) := Nat.pow_le_pow_right (by decide) (Nat.le_max_right _ _)
  have u := nbits_up (a + b) (max (nbits a) (nbits b) + 1) (by rw [Nat.pow_succ]; omega)
  have l1 := nbits_mono (Nat.le_add_right a b)
  have l2 := nbits_mono (Nat.le_add_left b a)
  omega

/-- a product by doubling, from the highest bit on: a round -/
theorem mul_dbl {M low high T : Nat} (hM : 0 < M) (h : low + M * high = T) (hb : 2 * T < M * M) : 2 * low % M + M * (2 * high + 2 * low / M) = 2 * T ∧ 2 * high + 2 * low / M < M ∧ 2 * high < M := by
  have e := Nat.mod_add_div (2 * low) M
  have q : 2 * low % M + M * (2 * high + 2 * low / M) = 2 * T := by
    rw [← h, Nat.mul_add, Nat.mul_add, Nat.mul_left_comm M 2 high]
    omega
  refine ⟨q, ?_, ?_⟩
  · have : M * (2 * high + 2 * low / M) < M * M := by omega
    exact Nat.lt_of_mul_lt_mul_left this
  · have : M * (2 * high) < M * M := by rw [Nat.mul_left_comm]; omega
    exact Nat.lt_of_mul_lt_mul_left this
/-- and an addition to both -/
theorem mul_add {M low high T a : Nat} (hM : 0 < M) (h : low + M * high = T) (hb : T + a < M * M) : (low + a) % M + M * (high + (low + a) / M) = T + a ∧ high + (low + a) / M < M := by
  have e := Nat.mod_add_div (low + a) M
  have q : (low + a) % M + M * (high + (low + a) / M) = T + a := by
    rw [← h, Nat.mul_add]
    omega
  refine ⟨q, ?_⟩
  have : M * (high + (low + a) / M) < M * M := by omega
  exact Nat.lt_of_mul_lt_mul_left this
theorem mul_bits (a b i : Nat) : a * (b / 2 ^ i) = 2 * (a * (b / 2 ^ (i + 1))) + a * bitAt b i := by
  rw [bit_step b i, Nat.mul_add, Nat.mul_left_comm]
theorem mul_low (a b i : Nat) : a * (b % 2 ^ (i + 1)) = a * (b % 2 ^ i) + a * 2 ^ i * bitAt b i := by
  rw [low_step b i, Nat.mul_add, Nat.mul_assoc]
/-- a product parted at M is told by its low and its high part -/
theorem parts_inj {M l h l' h' : Nat} (h1 : l < M) (h2 : l' < M) (e : l + M * h = l' + M * h') : l = l' ∧ h = h' := by
  have a : (l + M * h) % M = (l' + M * h') % M := by rw [e]
  rw [Nat.add_mul_mod_self_left, Nat.add_mul_mod_self_left, Nat.mod_eq_of_lt h1, Nat.mod_eq_of_lt h2] at a
  subst a
  have b : M * h = M * h' := by omega
  exact ⟨rfl, Nat.eq_of_mul_eq_mul_left (by omega) b⟩

/-- going round, the difference of two squares -/
theorem squares {M a b : Nat} (ha : a < M) (hb : b < M) : (a * a % M + (M - b * b % M)) % M = (a + b) % M * ((a + (M - b)) % M) % M := by
  have hp : 0 < M := by omega
  have h1 := Nat.mod_lt (b * b) hp
  apply Int.ofNat.inj
  show ((((a * a % M + (M - b * b % M)) % M : Nat)) : Int) = (((a + b) % M * ((a + (M - b)) % M) % M : Nat) : Int)
  simp only [Int.natCast_emod, Int.natCast_mul, Int.natCast_add, Int.ofNat_sub (Nat.le_of_lt hb), Int.ofNat_sub (Nat.le_of_lt h1)]
  have e1 : (((a : Int) * a % M + (M - (b : Int) * b % M)) % M) = ((a : Int) * a - b * b) % M := by
    rw [show ((a : Int) * a % M + (M - (b : Int) * b % M)) = ((a : Int) * a % M - (b : Int) * b % M) + M by omega, Int.add_emod_right, ← Int.sub_emod]
  have e2 : (((a : Int) + b) % M * (((a : Int) + (M - b)) % M) % M) = ((a : Int) * a - b * b) % M := by
    rw [← Int.mul_emod]
    have : ((a : Int) + b) * ((a : Int) + (M - b)) = ((a : Int) * a - b * b) + M * (a + b) := by grind
    rw [this, Int.add_mul_emod_self_left]
  rw [e1, e2]

/-- moved up twice, moved down twice -/
theorem up_up (M a m n : Nat) : a * 2 ^ m % M * 2 ^ n % M = a * 2 ^ (m + n) % M := by
  rw [Nat.mod_mul_mod, Nat.mul_assoc, ← Nat.pow_add]
theorem down_down (a m n : Nat) : a / 2 ^ m / 2 ^ n = a / 2 ^ (m + n) := by
  rw [Nat.div_div_eq_div_mul, ← Nat.pow_add]
/-- down and up again -/
theorem down_up (a m : Nat) : a / 2 ^ m * 2 ^ m + a % 2 ^ m = a := by
  rw [Nat.mul_comm]; exact Nat.div_add_mod a _
theorem up_down (a m k : Nat) (h : m ≤ k) : a * 2 ^ (k - m) % 2 ^ k / 2 ^ (k - m) = a % 2 ^ m := by
  have e : 2 ^ k = 2 ^ m * 2 ^ (k - m) := by rw [← Nat.pow_add]; congr 1; omega
  rw [e, Nat.mul_mod_mul_right, Nat.mul_div_cancel _ (Nat.two_pow_pos _)]
/-- a number moved up by i, below 2^k, in two parts -/
theorem up_parts (a i k : Nat) (h : i ≤ k) : a * 2 ^ i = a * 2 ^ i % 2 ^ k + 2 ^ k * (a / 2 ^ (k - i)) := by
  have e : 2 ^ k = 2 ^ (k - i) * 2 ^ i := by rw [← Nat.pow_add]; congr 1; omega
  have := Nat.mod_add_div (a * 2 ^ i) (2 ^ k)
  rw [show a * 2 ^ i / 2 ^ k = a / 2 ^ (k - i) by rw [e, Nat.mul_div_mul_right _ _ (Nat.two_pow_pos _)]] at this
  exact this.symm
/-- a round of LimbsSteps: what is moved up by i is added -/
theorem steps_round {a b low high i k : Nat} (ha : a < 2 ^ k) (hb : b < 2 ^ k) (hi : i < k) (hl : low < 2 ^ k) (h : low + 2 ^ k * high = a * (b % 2 ^ i)) (hbit : bitAt b i = 1) :
    (low + a * 2 ^ i % 2 ^ k) % 2 ^ k + 2 ^ k * (high + (low + a * 2 ^ i % 2 ^ k) / 2 ^ k + a / 2 ^ (k - i)) = a * (b % 2 ^ (i + 1)) := by
  have e := Nat.mod_add_div (low + a * 2 ^ i % 2 ^ k) (2 ^ k)
  have p := up_parts a i k (by omega)
  rw [mul_low, hbit, ← h, Nat.mul_one]
  rw [Nat.mul_add, Nat.mul_add]
  omega
theorem prod_lt {a b k : Nat} (ha : a < 2 ^ k) (hb : b < 2 ^ k) : a * b < 2 ^ k * 2 ^ k := Nat.mul_lt_mul'' ha hb

/-- a word's sum with what is kept -/
theorem addc {x y k : Nat} (hx : x < 18446744073709551616) (hy : y < 18446744073709551616) (hk : k ≤ 1) :
    ((x + y) % 18446744073709551616 + k) % 18446744073709551616 + 18446744073709551616 * (if (x + y) % 18446744073709551616 < y ∨ ((x + y) % 18446744073709551616 + k) % 18446744073709551616 < k then 1 else 0) = x + y + k := by
  split <;> omega
/-- a word's difference with what is lent -/
theorem subb {x y k : Nat} (hx : x < 18446744073709551616) (hy : y < 18446744073709551616) (hk : k ≤ 1) :
    ((x + 18446744073709551616 - y) % 18446744073709551616 + 18446744073709551616 - k) % 18446744073709551616 + y + k = x + 18446744073709551616 * (if x < y ∨ (x + 18446744073709551616 - y) % 18446744073709551616 < k then 1 else 0) := by
  split <;> omega
theorem v4_addc {a0 a1 a2 a3 b0 b1 b2 b3 t0 t1 t2 t3 k0 k1 k2 k3 k4 : Nat} (h0 : t0 + 18446744073709551616 * k1 = a0 + b0 + k0) (h1 : t1 + 18446744073709551616 * k2 = a1 + b1 + k1) (h2 : t2 + 18446744073709551616 * k3 = a2 + b2 + k2) (h3 : t3 + 18446744073709551616 * k4 = a3 + b3 + k3) :
    v4 t0 t1 t2 t3 + 2 ^ 256 * k4 = v4 a0 a1 a2 a3 + v4 b0 b1 b2 b3 + k0 := by
  have e : (2 : Nat) ^ 256 = 115792089237316195423570985008687907853269984665640564039457584007913129639936 := by decide
  rw [e]
  unfold v4
  omega
theorem v4_subb {a0 a1 a2 a3 b0 b1 b2 b3 t0 t1 t2 t3 k0 k1 k2 k3 k4 : Nat} (h0 : t0 + b0 + k0 = a0 + 18446744073709551616 * k1) (h1 : t1 + b1 + k1 = a1 + 18446744073709551616 * k2) (h2 : t2 + b2 + k2 = a2 + 18446744073709551616 * k3) (h3 : t3 + b3 + k3 = a3 + 18446744073709551616 * k4) :
    v4 t0 t1 t2 t3 + v4 b0 b1 b2 b3 + k0 = v4 a0 a1 a2 a3 + 2 ^ 256 * k4 := by
  have e : (2 : Nat) ^ 256 = 115792089237316195423570985008687907853269984665640564039457584007913129639936 := by decide
  rw [e]
  unfold v4
  omega
/-- which of two is below: the highest word that is unlike says it -/
theorem v4_cmp {a0 a1 a2 a3 b0 b1 b2 b3 : Nat} (h0 : a0 < 18446744073709551616) (h1 : a1 < 18446744073709551616) (h2 : a2 < 18446744073709551616) (h3 : b0 < 18446744073709551616) (h4 : b1 < 18446744073709551616) (h5 : b2 < 18446744073709551616) :
    (v4 a0 a1 a2 a3 < v4 b0 b1 b2 b3) ↔ (a3 < b3 ∨ (a3 = b3 ∧ (a2 < b2 ∨ (a2 = b2 ∧ (a1 < b1 ∨ (a1 = b1 ∧ a0 < b0)))))) := by
  unfold v4
  omega
theorem bit_none {a n : Nat} (h : a < 2 ^ (n + 1)) (hb : bitAt a n = 0) : a < 2 ^ n := by
  have := bit_step a n
  rw [hb, Nat.div_eq_of_lt h] at this
  exact (Nat.div_eq_zero_iff_lt (Nat.two_pow_pos n)).1 (by omega)
theorem bit_some {a n : Nat} (hb : bitAt a n = 1) : 2 ^ n ≤ a := by
  rcases Nat.lt_or_ge a (2 ^ n) with h | h
  · unfold bitAt at hb
    rw [Nat.div_eq_of_lt h] at hb
    simp at hb
  · exact h
theorem bit_top {a n : Nat} (h : a < 2 ^ (n + 1)) (hb : bitAt a n = 1) : nbits a = n + 1 := nbits_of a n (bit_some hb) h
/-- each bit turned -/
theorem v4_turned {a b c d : Nat} (h0 : a < 18446744073709551616) (h1 : b < 18446744073709551616) (h2 : c < 18446744073709551616) (h3 : d < 18446744073709551616) :
    v4 (18446744073709551615 - a) (18446744073709551615 - b) (18446744073709551615 - c) (18446744073709551615 - d) + v4 a b c d + 1 = 2 ^ 256 := by
  have e : (2 : Nat) ^ 256 = 115792089237316195423570985008687907853269984665640564039457584007913129639936 := by decide
  rw [e]
  unfold v4
  omega
end Go.Proofs.YtikmhnlhaolbfaaDoor
namespace Go.Proofs.YtikmhnlhaolbfaaDoor
open Go.RowKit
set_option linter.unusedVariables false


/-- word i of a number -/
def wd (x i : Nat) : Nat := x / 18446744073709551616 ^ i % 18446744073709551616
theorem wd_lt (x i : Nat) : wd x i < 18446744073709551616 := Nat.mod_lt _ (by decide)
theorem p256 : (2 : Nat) ^ 256 = 115792089237316195423570985008687907853269984665640564039457584007913129639936 := by decide
theorem v4_wd (x : Nat) (h : x < 2 ^ 256) : v4 (wd x 0) (wd x 1) (wd x 2) (wd x 3) = x := by
  rw [p256] at h
  unfold v4 wd
  have e1 : (18446744073709551616 : Nat) ^ 1 = 18446744073709551616 := by decide
  have e2 : (18446744073709551616 : Nat) ^ 2 = 340282366920938463463374607431768211456 := by decide
  have e3 : (18446744073709551616 : Nat) ^ 3 = 6277101735386680763835789423207666416102355444464034512896 := by decide
  rw [e1, e2, e3, Nat.pow_zero]
  omega
theorem wd_v4 {a b c d : Nat} (h0 : a < 18446744073709551616) (h1 : b < 18446744073709551616) (h2 : c < 18446744073709551616) (h3 : d < 18446744073709551616) :
    wd (v4 a b c d) 0 = a ∧ wd (v4 a b c d) 1 = b ∧ wd (v4 a b c d) 2 = c ∧ wd (v4 a b c d) 3 = d := by
  unfold v4 wd
  have e1 : (18446744073709551616 : Nat) ^ 1 = 18446744073709551616 := by decide
  have e2 : (18446744073709551616 : Nat) ^ 2 = 340282366920938463463374607431768211456 := by decide
  have e3 : (18446744073709551616 : Nat) ^ 3 = 6277101735386680763835789423207666416102355444464034512896 := by decide
  rw [e1, e2, e3, Nat.pow_zero]
  refine ⟨?_, ?_, ?_, ?_⟩ <;> omega
theorem wd_inj {x y : Nat} (hx : x < 2 ^ 256) (hy : y < 2 ^ 256) (h0 : wd x 0 = wd y 0) (h1 : wd x 1 = wd y 1) (h2 : wd x 2 = wd y 2) (h3 : wd x 3 = wd y 3) : x = y := by
  rw [← v4_wd x hx, ← v4_wd y hy, h0, h1, h2, h3]

/-- a long number's cells -/
abbrev cls (x : Nat) : Array Value := #[.int .u64 (wd x 0 : Int), .int .u64 (wd x 1 : Int), .int .u64 (wd x 2 : Int), .int .u64 (wd x 3 : Int)]
/-- a long number, as a value -/
abbrev num (x : Nat) : Value := .agg (cls x)
theorem num_of {a b c d : Nat} (h0 : a < 18446744073709551616) (h1 : b < 18446744073709551616) (h2 : c < 18446744073709551616) (h3 : d < 18446744073709551616) :
    (.agg #[.int .u64 (a : Int), .int .u64 (b : Int), .int .u64 (c : Int), .int .u64 (d : Int)] : Value) = num (v4 a b c d) := by
  obtain ⟨e0, e1, e2, e3⟩ := wd_v4 h0 h1 h2 h3
  rw [num, cls, e0, e1, e2, e3]
theorem num_small (n : Nat) (h : n < 18446744073709551616) : (.agg #[.int .u64 (n : Int), .int .u64 0, .int .u64 0, .int .u64 0] : Value) = num n := by
  have := num_of (a := n) (b := 0) (c := 0) (d := 0) h (by decide) (by decide) (by decide)
  rw [show v4 n 0 0 0 = n by simp [v4]] at this
  exact this

theorem eq_words (a b c d a' b' c' d' : Int) (w : World) : (Op.equalIn 10000 24 (.agg #[.int .u64 a, .int .u64 b, .int .u64 c, .int .u64 d]) (.agg #[.int .u64 a', .int .u64 b', .int .u64 c', .int .u64 d'])).run Tryd.prog w = .ok (a == a' && b == b' && c == c' && d == d') w := by
  have u3 := Tryd.underlying22
  have a3 := Tryd.isAgg22
  have z3 := Tryd.sizeOf22
  rw [show (10000 : Nat) = 9999 + 1 from rfl, Op.equalIn]
  simp only [Sem.run_bind, run_underlying Tryd.underlying24, Result.andThen_ok]
  simp only [Std.Legacy.Range.forIn_eq_forIn_range', Std.Legacy.Range.size, Nat.sub_zero, Nat.add_sub_cancel, Nat.div_one, List.range'_succ, List.range'_zero, List.forIn_cons, List.forIn_nil]
  go_simp
  by_cases h1 : a = a' <;> by_cases h2 : b = b' <;> by_cases h3 : c = c' <;> by_cases h4 : d = d' <;> simp [h1, h2, h3, h4]
theorem eq_yes (x y : Nat) (h : x = y) (w : World) : (Op.equalIn 10000 24 (num x) (num y)).run Tryd.prog w = .ok true w := by
  subst h; rw [eq_words]; simp
theorem eq_no (x y : Nat) (hx : x < 2 ^ 256) (hy : y < 2 ^ 256) (h : x ≠ y) (w : World) : (Op.equalIn 10000 24 (num x) (num y)).run Tryd.prog w = .ok false w := by
  rw [eq_words]
  congr 1
  rw [Bool.eq_false_iff]
  intro e
  simp at e
  obtain ⟨⟨⟨h0, h1⟩, h2⟩, h3⟩ := e
  exact h (wd_inj hx hy (by exact_mod_cast h0) (by exact_mod_cast h1) (by exact_mod_cast h2) (by exact_mod_cast h3))

theorem bal {w w' : World} (h : Below w.heap.size w w') (o : Obj) : Below w.heap.size w (w'.alloc o) := h.alloc h.size o
theorem bthen {w w' w2 : World} (h : Below w.heap.size w w') (h2 : Below w'.heap.size w' w2) : Below w.heap.size w w2 := h.trans (h2.mono h.size)
/-- block g holds this long number -/
def Nm (w : World) (g x : Nat) : Prop := w.heap[g]? = some (.cells (cls x) 24 (0, 0))
theorem Nm.lt {w : World} {g x : Nat} (h : Nm w g x) : g < w.heap.size := lt_of_block h
theorem Nm.below {w w' : World} {g x B : Nat} (h : Nm w g x) (hb : Below B w w') (hg : g < B) : Nm w' g x := (hb.block g hg).trans h
theorem Nm.on {w w' : World} {g x : Nat} (h : Nm w g x) (hb : Below w.heap.size w w') : Nm w' g x := h.below hb h.lt
theorem Nm.alloc {w : World} {g x : Nat} (h : Nm w g x) (o : Obj) : Nm (w.alloc o) g x := h.on ((Below.refl w.heap.size w).alloc (Nat.le_refl _) o)
theorem Nm.new (w : World) (x : Nat) : Nm (w.alloc (.cells (cls x) 24)) w.heap.size x := heap_alloc_new _ _
theorem Nm.cell {w : World} {g x : Nat} (h : Nm w g x) : w.cell? ⟨g, 0, none⟩ = some (.int .u64 (wd x 0 : Int)) ∧ w.cell? ⟨g, 1, none⟩ = some (.int .u64 (wd x 1 : Int)) ∧ w.cell? ⟨g, 2, none⟩ = some (.int .u64 (wd x 2 : Int)) ∧ w.cell? ⟨g, 3, none⟩ = some (.int .u64 (wd x 3 : Int)) := by
  refine ⟨?_, ?_, ?_, ?_⟩ <;> (rw [cell_of_row w g _ _ 24 (0, 0) h]; rfl)

theorem run_add64' (x y c : Nat) (hc : c ≤ 1) (w : World) :
    (callFunc 124 #[.int .u64 x, .int .u64 y, .int .u64 c]).run Tryd.prog w =
      .ok (.value (.tuple #[.int .u64 (((x + y + c) % 18446744073709551616 : Nat) : Int), .int .u64 (((x + y + c) / 18446744073709551616 : Nat) : Int)])) w := by
  rw [run_callFunc_extern Tryd.func124 (by kernel_rfl) (by kernel_rfl) (by kernel_rfl) (e := add64Entry) (by kernel_rfl), run_add64 x y c (by omega) (by omega) (by omega) (by omega)]
  simp only [Result.andThen]
  congr 5 <;> omega
theorem run_sub64' (x y b : Nat) (hb : b ≤ 1) (w : World) :
    (callFunc 72 #[.int .u64 x, .int .u64 y, .int .u64 b]).run Tryd.prog w =
      .ok (.value (.tuple #[.int .u64 (((x + 18446744073709551616 - y - b) % 18446744073709551616 : Nat) : Int), .int .u64 ((if x < y + b then 1 else 0 : Nat) : Int)])) w := by
  rw [run_callFunc_extern Tryd.func72 (by kernel_rfl) (by kernel_rfl) (by kernel_rfl) (e := sub64Entry) (by kernel_rfl), run_sub64 x y b hb]
  rfl
theorem add_word (x y c : Nat) (hx : x < 18446744073709551616) (hy : y < 18446744073709551616) (hc : c ≤ 1) :
    ∃ t k : Nat, (∀ w : World, (callFunc 124 #[.int .u64 x, .int .u64 y, .int .u64 c]).run Tryd.prog w = .ok (.value (.tuple #[.int .u64 (t : Int), .int .u64 (k : Int)])) w) ∧ t + 18446744073709551616 * k = x + y + c ∧ t < 18446744073709551616 ∧ k ≤ 1 :=
  ⟨_, _, run_add64' x y c hc, by omega, by omega, by omega⟩
theorem sub_word (x y c : Nat) (hx : x < 18446744073709551616) (hy : y < 18446744073709551616) (hc : c ≤ 1) :
    ∃ t k : Nat, (∀ w : World, (callFunc 72 #[.int .u64 x, .int .u64 y, .int .u64 c]).run Tryd.prog w = .ok (.value (.tuple #[.int .u64 (t : Int), .int .u64 (k : Int)])) w) ∧ t + y + c = x + 18446744073709551616 * k ∧ t < 18446744073709551616 ∧ k ≤ 1 :=
  ⟨_, _, run_sub64' x y c hc, by split <;> omega, by omega, by split <;> omega⟩
theorem sum_of {x y t0 t1 t2 t3 k : Nat} (h0 : t0 < 18446744073709551616) (h1 : t1 < 18446744073709551616) (h2 : t2 < 18446744073709551616) (h3 : t3 < 18446744073709551616) (h : v4 t0 t1 t2 t3 + 2 ^ 256 * k = x + y) :
    v4 t0 t1 t2 t3 = (x + y) % 2 ^ 256 ∧ k = (x + y) / 2 ^ 256 := by
  have hl := v4_lt h0 h1 h2 h3
  rw [← h, Nat.add_mul_mod_self_left, Nat.mod_eq_of_lt hl, Nat.add_mul_div_left _ _ (Nat.two_pow_pos 256), Nat.div_eq_of_lt hl, Nat.zero_add]
  exact ⟨rfl, rfl⟩
/-- going round downward -/
def dif (x y : Nat) : Nat := if x < y then x + 2 ^ 256 - y else x - y
def lent (x y : Nat) : Nat := if x < y then 1 else 0
theorem dif_of {x y t0 t1 t2 t3 k : Nat} (hx : x < 2 ^ 256) (hy : y < 2 ^ 256) (h0 : t0 < 18446744073709551616) (h1 : t1 < 18446744073709551616) (h2 : t2 < 18446744073709551616) (h3 : t3 < 18446744073709551616) (h : v4 t0 t1 t2 t3 + y = x + 2 ^ 256 * k) (hk : k ≤ 1) :
    v4 t0 t1 t2 t3 = dif x y ∧ k = lent x y := by
  have hl := v4_lt h0 h1 h2 h3
  generalize v4 t0 t1 t2 t3 = t at *
  unfold dif lent
  rw [p256] at *
  split <;> omega
theorem dif_lt {x y : Nat} (hx : x < 2 ^ 256) (hy : y < 2 ^ 256) : dif x y < 2 ^ 256 := by
  unfold dif
  rw [p256] at *
  split <;> omega
end Go.Proofs.YtikmhnlhaolbfaaDoor

/-
  shas.As, walked: the sum of what is spelt. Conditions: the library's table holds what its text lays; a thousand parts at most, each of 2^20 bytes at most.
  slices.Clip of a list of parts, walked: the same slice, its capacity its length.
  append of one more part onto a list of parts that is full: a new list. Condition: a thousand parts at most.
-/
import Derived.Test.YtgmnpkgnedngjaaDoorOpenRows
import Derived.Test.YtgmnpkgnedngjaaDoorPkH
import Derived.Test.YtgmnpkgnedngjaaDoorPkI
import Derived.Laws.IdiomStrings
import Derived.Deep.Cut
namespace Go.Proofs.YtgmnpkgnedngjaaDoor
open Go.RowKit
set_option linter.unusedVariables false
set_option linter.unusedSimpArgs false

/-- parts, each behind how many bytes it has -/
def flat (xs : Nat → List UInt8) : Nat → List UInt8
  | 0 => []
  | k + 1 => flat xs k ++ (be (xs k).length 4 ++ xs k)
/-- what is summed -/
def spelt (s : List UInt8) (n : Nat) (xs : Nat → List UInt8) (k : Nat) : List UInt8 := ((be s.length 4 ++ s) ++ be n 4) ++ flat xs k
theorem flat_length (xs : Nat → List UInt8) (k : Nat) (h : ∀ r, r < k → (xs r).length ≤ 1048576) : (flat xs k).length ≤ k * 1048580 := by
  induction k with
  | zero => simp [flat]
  | succ k ih =>
    have h1 := ih (fun r hr => h r (by omega))
    have h2 := h k (by omega)
    rw [flat, List.length_append, List.length_append, be_length]
    omega
theorem spelt_length (s : List UInt8) (n : Nat) (xs : Nat → List UInt8) (k : Nat) (h : ∀ r, r < k → (xs r).length ≤ 1048576) : (spelt s n xs k).length ≤ s.length + 8 + k * 1048580 := by
  have := flat_length xs k h
  simp only [spelt, List.length_append, be_length]
  omega
/-- bytes of a text, made anew -/
theorem conv_str (s : ByteArray) (w : World) : ∃ cap w2, Hid ((convert 9 37 (.string s)).run Tryd.prog w = .ok (.slice (some ⟨w.heap.size, 0, none⟩) s.size cap) w2) ∧ Hid (Rd w2 (some ⟨w.heap.size, 0, none⟩) s.data.toList) ∧ Hid (Below w.heap.size w w2) := by
  refine ⟨_, _, hid (run_bytes_of_string w 9 37 5 s Tryd.underlying9 Tryd.underlying37 Tryd.underlying5), hid ?_, hid ((Below.refl w.heap.size w).drew.alloc (Nat.le_refl _) _)⟩
  intro hp
  refine ⟨w.heap.size, 0, rfl, by simp, fun j hj => ?_⟩
  have hh : ∀ o : Obj, (w.drew.alloc o).heap[w.heap.size]? = some o := fun o => heap_alloc_new w.drew o
  rw [cell_of_row _ _ _ _ 5 _ (hh _)]
  have hj2 : j < s.data.size := by simpa using hj
  have hj3 : j < s.size := hj2
  simp [bytesRow, Array.getElem?_append, hj2, hj3]
theorem pb_at (B : Option Addr) (d n : Nat) (ls : List UInt8) (w : World) (hl : ls.length = n) (hr : Rd w B ls) (hn : n ≤ 140737488351232) :
    Calls Tryd.prog 25 #[.slice none 0 0, .slice B n d] w fun e w' => e = .returned (.slice (some ⟨w.heap.size, 0, none⟩) (4 + n) (4 + n)) ∧ Hid (Row w' w.heap.size (be n 4 ++ ls)) ∧ Hid (Below w.heap.size w w') := by
  subst hl
  refine (putBytes_any none B 0 d [] ls w (Rd.nil _ _) hr (by decide) hn).mono ?_
  rintro e w1 ⟨rfl, h1, h2⟩
  exact ⟨by simp, hid (by simpa using h1), hid h2⟩
theorem pn_at (n : Nat) (w : World) (hn : n < 18446744073709551616) :
    Calls Tryd.prog 26 #[.slice none 0 0, .int .u64 (n : Int), .int .i64 4] w fun e w' => e = .returned (.slice (some ⟨w.heap.size, 0, none⟩) 4 4) ∧ Hid (Row w' w.heap.size (be n 4)) ∧ Hid (Below w.heap.size w w') := by
  refine (put_any none 0 n 4 4 [] w (Rd.nil _ _) (by decide) hn (by decide)).mono ?_
  rintro e w1 ⟨rfl, h1, h2⟩
  exact ⟨by simp, hid (by simpa using h1), hid h2⟩
theorem add_cb {w wr : World} {g : Nat} {bs : List UInt8} {l : List (Nat × List UInt8)} (H : Hid (Cb w g bs l wr)) (A : Option Addr) (c n : Nat) (part : List UInt8) (hn : part.length = n) (hr : Rd wr A part) (hA : 0 < n → ∀ ad, A = some ad → ad.block ≠ g) (hc : n ≤ c) (hlen : bs.length + n ≤ 140737488355328) :
    Calls Tryd.prog 24 #[.pointer (some ⟨g, 0, none⟩), .slice A n c] wr fun e w' => e = .returned (.tuple #[]) ∧ Hid (Cb w g (bs ++ part) l w') := by
  refine (add_any g A c bs part wr n hn H.out.1.run hr hA hc H.out.1.kt H.out.1.n3 hlen).mono ?_
  rintro e w1 ⟨rfl, h1, h2⟩
  exact ⟨rfl, hid ⟨H.out.1.put h1 h2, fun p hp => ⟨(H.out.2 p hp).1.grown h2 (H.out.2 p hp).2, (H.out.2 p hp).2⟩⟩⟩
theorem Cb.fresh {w wr : World} {g : Nat} {bs : List UInt8} {l : List (Nat × List UInt8)} (H : Cb w g bs l wr) : wr.heap.size ≠ g := Nat.ne_of_gt H.1.run.lt
set_option maxRecDepth 100000 in
set_option maxHeartbeats 4000000 in
theorem as_any (st : ByteArray) (a0 : Option Addr) (n0 c0 : Nat) (A : Nat → Option Addr) (L C : Nat → Nat) (xs : Nat → List UInt8) (w : World) (hR : Rws w a0 n0 A L C xs) (hK : Kt w) (hn : n0 ≤ 1000) (hL : ∀ r, r < n0 → L r ≤ 1048576) (hs : st.size ≤ 1000000) :
    Calls Tryd.prog 16 #[.string st, .slice a0 n0 c0] w fun e w' => e = .returned (.agg (bvs (sha (spelt st.data.toList n0 xs n0))).toArray) ∧ Below w.heap.size w w' := by
  have HR := hid hR
  have HK := hid hK
  have HL := hid hL
  have HN := hid hn
  have HS := hid hs
  have HSL := hid (show st.data.toList.length = st.size by rw [Array.length_toList]; rfl)
  clear hR hK hL hs
  go_enter Tryd.func16, Tryd.ntmps16
  go_wp2_with fail
  have HZ1 : Hid (Bt (w.alloc (.cells #[.int .u8 0, .int .u8 0, .int .u8 0, .int .u8 0, .int .u8 0, .int .u8 0, .int .u8 0, .int .u8 0, .int .u8 0, .int .u8 0, .int .u8 0, .int .u8 0, .int .u8 0, .int .u8 0, .int .u8 0, .int .u8 0, .int .u8 0, .int .u8 0, .int .u8 0, .int .u8 0, .int .u8 0, .int .u8 0, .int .u8 0, .int .u8 0, .int .u8 0, .int .u8 0, .int .u8 0, .int .u8 0, .int .u8 0, .int .u8 0, .int .u8 0, .int .u8 0] 40)) w.heap.size 40 (List.replicate 32 0)) := hid (heap_alloc_new w _)
  have HB1 : Hid (Below w.heap.size w (w.alloc (.cells #[.int .u8 0, .int .u8 0, .int .u8 0, .int .u8 0, .int .u8 0, .int .u8 0, .int .u8 0, .int .u8 0, .int .u8 0, .int .u8 0, .int .u8 0, .int .u8 0, .int .u8 0, .int .u8 0, .int .u8 0, .int .u8 0, .int .u8 0, .int .u8 0, .int .u8 0, .int .u8 0, .int .u8 0, .int .u8 0, .int .u8 0, .int .u8 0, .int .u8 0, .int .u8 0, .int .u8 0, .int .u8 0, .int .u8 0, .int .u8 0, .int .u8 0, .int .u8 0] 40))) := hid ((Below.refl _ _).alloc (Nat.le_refl _) _)
  have HS1 : Hid (w.heap.size < (w.alloc (.cells #[.int .u8 0, .int .u8 0, .int .u8 0, .int .u8 0, .int .u8 0, .int .u8 0, .int .u8 0, .int .u8 0, .int .u8 0, .int .u8 0, .int .u8 0, .int .u8 0, .int .u8 0, .int .u8 0, .int .u8 0, .int .u8 0, .int .u8 0, .int .u8 0, .int .u8 0, .int .u8 0, .int .u8 0, .int .u8 0, .int .u8 0, .int .u8 0, .int .u8 0, .int .u8 0, .int .u8 0, .int .u8 0, .int .u8 0, .int .u8 0, .int .u8 0, .int .u8 0] 40)).heap.size) := hid (by simp)
  generalize w.alloc (.cells #[.int .u8 0, .int .u8 0, .int .u8 0, .int .u8 0, .int .u8 0, .int .u8 0, .int .u8 0, .int .u8 0, .int .u8 0, .int .u8 0, .int .u8 0, .int .u8 0, .int .u8 0, .int .u8 0, .int .u8 0, .int .u8 0, .int .u8 0, .int .u8 0, .int .u8 0, .int .u8 0, .int .u8 0, .int .u8 0, .int .u8 0, .int .u8 0, .int .u8 0, .int .u8 0, .int .u8 0, .int .u8 0, .int .u8 0, .int .u8 0, .int .u8 0, .int .u8 0] 40) = w1 at *
  refine (new_at w1 (HK.out.on HB1.out)).mono ?_
  rintro e w2 ⟨g, rfl, H2⟩
  have hge := H2.out.new
  have HC2 := hid (p := Cb w1 g [] [(w.heap.size, List.replicate 32 0)] w2) ⟨H2.out, fun p hp => by
    obtain rfl := List.mem_singleton.1 hp
    have hs := HS1.out
    exact ⟨HZ1.out.on H2.out.below, by show w.heap.size ≠ g; omega⟩⟩
  obtain ⟨cap, w3, RC, HRD3, HB3⟩ := conv_str st w2
  have HC3 := hid (HC2.out.on HB3.out)
  have hcv := RC.out
  go_wp2_with fail
  clear hcv RC hge H2 HC2 HB3
  generalize w2.heap.size = gs at *
  refine (pb_at (some ⟨gs, 0, none⟩) cap st.size st.data.toList w3 HSL.out HRD3.out (by have := HS.out; omega)).mono ?_
  rintro e w4 ⟨rfl, hrow4, hb4⟩
  have HC4 := hid (HC3.out.on hb4.out)
  have HR4 := hid hrow4.out.rd0
  have HF4 := hid HC3.out.fresh
  clear hrow4 hb4 HC3 HRD3
  go_wp2_with fail
  refine (add_cb HC4 (some ⟨w3.heap.size, 0, none⟩) (4 + st.size) (4 + st.size) (be st.size 4 ++ st.data.toList) (by rw [List.length_append, be_length, HSL.out]) HR4.out (fun _ ad e => by injection e with e; subst e; exact HF4.out) (Nat.le_refl _) (by have := HS.out; simp; omega)).mono ?_
  rintro e w5 ⟨rfl, HC5⟩
  clear HC4 HR4 HF4
  have hw : IntKind.u64.wrap (n0 : Int) = (n0 : Int) := by rw [IntKind.wrap_u64]; omega
  go_wp2_with fail
  refine (pn_at n0 w5 (by omega)).mono ?_
  rintro e w6 ⟨rfl, hrow6, hb6⟩
  have HC6 := hid (HC5.out.on hb6.out)
  have HR6 := hid hrow6.out.rd0
  have HF6 := hid HC5.out.fresh
  clear hrow6 hb6 HC5
  go_wp2_with fail
  refine (add_cb HC6 (some ⟨w5.heap.size, 0, none⟩) 4 4 (be n0 4) (be_length _ _) HR6.out (fun _ ad e => by injection e with e; subst e; exact HF6.out) (Nat.le_refl _) (by have := HS.out; simp [be_length, HSL.out]; omega)).mono ?_
  rintro e w7 ⟨rfl, HC7⟩
  have HC8 := hid (p := Cb w1 g (spelt st.data.toList n0 xs 0) [(w.heap.size, List.replicate 32 0)] w7) (by have := HC7.out; simpa [spelt, flat, HSL.out] using this)
  clear HC6 HR6 HF6 HC7 hw
  go_wp2_with fail
  go_loopw [22] (fun i wr => ∃ k : Nat, k ≤ n0 ∧ i = .int .i64 k ∧ Hid (Cb w1 g (spelt st.data.toList n0 xs k) [(w.heap.size, List.replicate 32 0)] wr)) (fun i _ => n0 - (intOf i).toNat)
  case atStart => exact ⟨0, Nat.zero_le _, rfl, HC8⟩
  case round =>
    clear HC8
    obtain ⟨k, hk, rfl, HC⟩ := hrel
    have HBW := hid (p := Below w.heap.size w wr) (HB1.out.trans (HC.out.old.mono HB1.out.size))
    by_cases hlt : k < n0
    · obtain ⟨⟨go, o, rfl, hgo, hcell⟩, hl1, hrd1, hlc, hcb, hac⟩ := HR.out k hlt
      have hcell2 := (HBW.out.cell (p := ⟨go, o + k, none⟩) hgo).trans hcell
      have HL1 := hid hl1
      have HRD := hid (hrd1.below HBW.out (Nat.le_refl _))
      have HLk := hid (HL.out k hlt)
      have HLT := hid hlt
      have HSP := hid (spelt_length st.data.toList n0 xs k (fun r hr => by rw [(HR.out r (by omega)).2.1]; exact HL.out r (by omega)))
      clear hcell hl1 hrd1 hlc hcb hac hgo
      have hlti : (k : Int) < (n0 : Int) := by omega
      go_wp2_with fail
      refine (pb_at (A k) (C k) (L k) (xs k) wr HL1.out HRD.out (by have := HLk.out; omega)).mono ?_
      rintro e w9 ⟨rfl, hrow9, hb9⟩
      have HC9 := hid (HC.out.on hb9.out)
      have HR9 := hid hrow9.out.rd0
      have HF9 := hid HC.out.fresh
      clear hrow9 hb9 hcell2
      go_wp2_with fail
      refine (add_cb HC9 (some ⟨wr.heap.size, 0, none⟩) (4 + L k) (4 + L k) (be (L k) 4 ++ xs k) (by rw [List.length_append, be_length, HL1.out]) HR9.out (fun _ ad e => by injection e with e; subst e; exact HF9.out) (Nat.le_refl _) (by have h1 := HSP.out; have h2 := HSL.out; have h3 := HS.out; have h4 := HLk.out; have h5 := HLT.out; rw [h2] at h1; omega)).mono ?_
      rintro e w10 ⟨rfl, HC10⟩
      have HC11 := hid (p := Cb w1 g (spelt st.data.toList n0 xs (k + 1)) [(w.heap.size, List.replicate 32 0)] w10) (by have := HC10.out; rw [← HL1.out] at this; simpa [spelt, flat] using this)
      clear HC9 HR9 HF9 HC10
      go_wp2
      exact ⟨⟨k + 1, HLT.out, by go_num, HC11⟩, by have := HLT.out; simp [intOf]; omega⟩
    · obtain rfl : k = n0 := by omega
      have HSP := hid (spelt_length st.data.toList k xs k (fun r hr => by rw [(HR.out r hr).2.1]; exact HL.out r hr))
      go_wp2_with fail
      refine (sum_cb HC (by have h1 := HSP.out; have h2 := HSL.out; have h3 := HS.out; rw [h2] at h1; omega)).mono ?_
      rintro e w12 ⟨rfl, HC12⟩
      have HB12 := hid (p := Below w.heap.size w w12) (HB1.out.trans (HC12.out.old.mono HB1.out.size))
      have HZ12 := hid (HC12.out.2 (w.heap.size, List.replicate 32 0) (by simp)).1
      have HQ := hid (sha_length (spelt st.data.toList k xs k))
      generalize hr : sha (spelt st.data.toList k xs k) = r at *
      have HRR := hid hr
      clear hr
      have HI44 := hi44 r HQ.out
      have HO8 : Hid ((bvs (List.replicate 32 0)).toArray.size = (bvs r).toArray.size) := hid (by rw [bvs_size, bvs_size, HQ.out, List.length_replicate])
      have HZR := hid (HZ12.out.row (m := r))
      have HBR := hid (p := Below w.heap.size w (w12.setRow w.heap.size (bvs r).toArray)) (below_setRow HB12.out (Nat.le_refl _) _)
      have HDA := bvs_all r
      have HZZ := HZ12.out
      unfold Bt at HZZ
      have HZZ := hid HZZ
      go_wp2_with (refine wpList_store_row rfl 40 (.tmp 4) (.tmp 32) rfl w.heap.size (bvs r).toArray rfl rfl 40 _ HZZ.out HI44.out HO8.out HDA ?_)
      exact bodyPost_ret (v := .agg (bvs r).toArray) (results_cell_row (p := 4) (ty := 40) Tryd.results16 _ _ w.heap.size 40 (bvs r).toArray (0, 0) _ rfl HZR.out Tryd.underlying40 rfl HI44.out) rfl ⟨by rw [HRR.out], HBR.out⟩
end Go.Proofs.YtgmnpkgnedngjaaDoor
namespace Go.Proofs.YtgmnpkgnedngjaaDoor
open Go.RowKit
set_option linter.unusedVariables false
end Go.Proofs.YtgmnpkgnedngjaaDoor
namespace Go.Proofs.YtgmnpkgnedngjaaDoor
open Go.RowKit
set_option linter.unusedVariables false
theorem row_info : (Tryd.prog.info? 37).map (fun i => (i.zero, i.size, i.bytes)) = some (some (.slice none 0 0), 1, 24) := by kernel_rfl
/-- this, but the n-th and what follows that -/
def nx {T : Type} (n : Nat) (f : Nat → T) (y : T) : Nat → T := fun r => if r < n then f r else y
def cellsOf (n : Nat) (A : Nat → Option Addr) (L C : Nat → Nat) : List Value := (List.range n).map fun r => Value.slice (A r) (L r) (C r)
theorem cellsOf_length (n : Nat) (A : Nat → Option Addr) (L C : Nat → Nat) : (cellsOf n A L C).length = n := by simp [cellsOf]
theorem cellsOf_at {n r : Nat} (A : Nat → Option Addr) (L C : Nat → Nat) (h : r < n) : (cellsOf n A L C)[r]? = some (.slice (A r) (L r) (C r)) := by simp [cellsOf, h]
set_option maxRecDepth 100000 in
theorem rows_more (w : World) (a0 : Option Addr) (n0 : Nat) (A : Nat → Option Addr) (L C : Nat → Nat) (xs : Nat → List UInt8) (hR : Rws w a0 n0 A L C xs) (hn : n0 ≤ 1000) (h0 : a0 = none → n0 = 0)
    (b d b1 : Nat) (x : UInt8) (hb : w.cell? ⟨b, 0, none⟩ = some (.slice (some ⟨b1, 0, none⟩) 1 1)) (hr : Rd w (some ⟨b1, 0, none⟩) [x]) :
    ∃ g c w', (Builtin.append_ #[50, 50] 50 #[.slice a0 n0 n0, .slice (some ⟨b, 0, none⟩) 1 d]).run Tryd.prog w = .ok (.slice (some ⟨g, 0, none⟩) (n0 + 1) c) w' ∧ Below w.heap.size w w' ∧ w.heap.size ≤ g ∧ n0 + 1 ≤ c ∧ c ≤ 9223372036854775807 ∧
      Rws w' (some ⟨g, 0, none⟩) (n0 + 1) (nx n0 A (some ⟨b1, 0, none⟩)) (nx n0 L 1) (nx n0 C 1) (nx n0 xs [x]) := by
  obtain ⟨i0, hi, hz0, hz1, hz2⟩ := info_parts row_info
  have hgo : ∃ v' w', (Builtin.append_ #[50, 50] 50 #[.slice a0 n0 n0, .slice (some ⟨b, 0, none⟩) 1 d]).run Tryd.prog w = .ok v' w' ∧ w'.ownsRow w.heap.size 37 1 v' (n0 + 1) (cellsOf n0 A L C ++ [.slice (some ⟨b1, 0, none⟩) 1 1]) ∧ w.grownBy w' none := by
    have hnew : ∀ j u, ([Value.slice (some ⟨b1, 0, none⟩) 1 1] : List Value)[j]? = some u → w.cell? ((⟨b, 0, none⟩ : Addr).add j) = some u := by
      intro j u hj
      rcases j with _ | j
      · simp only [List.getElem?_cons_zero, Option.some.injEq] at hj
        subst hj
        rw [Addr.add_lit]; exact hb
      · simp at hj
    rcases a0 with _ | ad
    · obtain rfl := h0 rfl
      obtain ⟨v', w', hrun, h2, h3, _⟩ := run_append_own (P := Tryd.prog) w w.heap.size 50 50 37 i0 (.slice none 0 0) 1 24 Tryd.underlying50 hi hz0 hz1 hz2 rfl (by omega) (.slice none 0 0) 0 [] (World.ownsRow_nil w _ 37 1) ⟨b, 0, none⟩ 1 d _ rfl hnew (by simp [Value.oneCell']) (by simp only [maxLen]; omega) (by omega) (Nat.le_refl _)
      exact ⟨v', w', hrun, h2, h3⟩
    · exact run_append_arg_grows (P := Tryd.prog) w 50 50 37 i0 (.slice none 0 0) 1 24 Tryd.underlying50 hi hz0 hz1 hz2 rfl (by omega) ad n0 n0 (cellsOf n0 A L C) (by rw [cellsOf_length, Nat.mul_one])
        (fun j u hj => by
          have hj2 : j < n0 := by
            rcases Nat.lt_or_ge j n0 with h | h
            · exact h
            · rw [List.getElem?_eq_none (by rw [cellsOf_length]; exact h)] at hj; cases hj
          rw [cellsOf_at A L C hj2] at hj
          injection hj with hj; subst hj
          obtain ⟨⟨go, o, e1, _, hc⟩, _⟩ := hR j hj2
          injection e1 with e1; subst e1
          rw [Addr.add_lit]; exact hc) ⟨b, 0, none⟩ 1 d _ rfl hnew (by omega) (by simp only [maxLen]; omega) (by omega)
  obtain ⟨v', w', hrun, hown, hgr⟩ := hgo
  have hB : Below w.heap.size w w' := below_grown (Below.refl _ _) (hgr.but (some w.heap.size)) (Nat.le_refl _) (Nat.le_refl _)
  rcases hown.2 with ⟨_, h⟩ | ⟨g, cap, cur, rfl, hbg, hh, hnc, hm, hs, ht⟩
  · omega
  · refine ⟨g, cap, w', hrun, hB, hbg, hnc, hm, fun r hr2 => ?_⟩
    have hcell := World.ownsRow.cellAt hown r (by omega)
    rcases Nat.lt_or_ge r n0 with hlt | hge
    · obtain ⟨_, k1, k2, k3, k4, k5⟩ := hR r hlt
      simp only [nx, hlt, if_true]
      refine ⟨⟨g, 0, rfl, lt_of_block hh, ?_⟩, k1, k2.below hB (Nat.le_refl _), k3, k4, k5⟩
      rw [Nat.zero_add, hcell, List.getElem?_append_left (by rw [cellsOf_length]; exact hlt), cellsOf_at A L C hlt]
    · obtain rfl : r = n0 := by omega
      simp only [nx, Nat.lt_irrefl, if_false]
      refine ⟨⟨g, 0, rfl, lt_of_block hh, ?_⟩, rfl, hr.below hB (Nat.le_refl _), Nat.le_refl _, by omega, fun h => by cases h⟩
      rw [Nat.zero_add, hcell, List.getElem?_append_right (by rw [cellsOf_length]; exact Nat.le_refl _), cellsOf_length]
      simp
end Go.Proofs.YtgmnpkgnedngjaaDoor

/-
  burrowlaw09.CiphersStream, walked: it answers true. Condition: the slice is within the form's own reach.
-/
import Derived.Test.YtbccnkjfjlmflaaGreatDoorCrt
import Derived.Test.YtbccnkjfjlmflaaGreatDoorCin
import Derived.Test.YtbccnkjfjlmflaaGreatDoorCio
import Derived.Test.YtbccnkjfjlmflaaGreatDoorHold
namespace Go.Proofs.YtbccnkjfjlmflaaGreatDoor
open Go.RowKit
set_option linter.unusedVariables false
set_option linter.unusedSimpArgs false

theorem row_head {w : World} {g : Nat} {bs : List UInt8} {x : UInt8} (h : Row w g (bs ++ [x])) : Rd w (some ⟨g, 0, none⟩) bs := by
  have := h.rd0.take bs.length
  rwa [List.take_left] at this
theorem same_at (A B : Option Addr) (c d n m : Nat) (bs : List UInt8) (w : World) (hl : bs.length = n) (hm : bs.length = m) (ha : Rd w A bs) (hb : Rd w B bs) (hn : n ≤ 281474976710656) :
    Calls Tryz.prog 8 #[.slice A n c, .slice B m d] w fun e w' => e = .returned (.bool true) ∧ ∃ k, w' = w.drewN k := by
  subst hl; subst hm; exact same_true A B c d bs w ha hb hn
theorem twin_at (A : Option Addr) (c n : Nat) (bs : List UInt8) (w : World) (hl : bs.length = n) (hr : Rd w A bs) (hn : n ≤ 140737488351232) :
    Calls Tryz.prog 5 #[.slice A n c] w fun e w' => e = .returned (.slice (some ⟨w.heap.size, 0, none⟩) n (n + 1)) ∧ Row w' w.heap.size (bs ++ [77]) ∧ Below w.heap.size w w' := by
  subst hl; exact twin_any A c bs w hr hn
theorem left_at (B : Option Addr) (g d n : Nat) (bs : List UInt8) (w : World) (hl : bs.length = n) (hg : Row w g (bs ++ [77])) (hb : Rd w B bs) (hn : n ≤ 140737488351232) :
    Calls Tryz.prog 10 #[.slice (some ⟨g, 0, none⟩) n (n + 1), .slice B n d] w fun e w' => e = .returned (.bool true) ∧ ∃ k, w' = w.drewN k := by
  subst hl; exact left_any B g d bs w hg hb hn
/-- a row of sixteen bytes is none of the Book's -/
theorem bt_kp {w w' : World} {base gb m : Nat} {V : Value} {xs : List Value} {g : Nat} {bs : List UInt8} (h : Bt w g 22 bs) (hk : Bk w base gb m V xs) (hp : Kp gb V w w') : Bt w' g 22 bs := by
  refine (hp.block g h.lt ?_ ?_).trans h
  · rintro rfl
    have h' : w.heap[g]? = some (.cells (bvs bs).toArray 22 (0, 0)) := h
    have := hk.blk
    rw [h'] at this
    simp at this
  · intro e
    have h' : w.heap[g]? = some (.cells (bvs bs).toArray 22 (0, 0)) := h
    rcases hk.own.2 with ⟨rfl, _⟩ | ⟨g', cap, cur, rfl, _, h3, _⟩
    · simp [Value.ownBlock] at e
    · obtain rfl : g = g' := by simpa [Value.ownBlock] using e
      rw [h'] at h3
      simp at h3
/-- the Book while it is filled, and two rows beside it -/
structure Bky (w : World) (gb m : Nat) (xs : List Value) (L : List (Nat × List UInt8)) (gk gf : Nat) (key first : List UInt8) (wk : World) : Prop where
  bks : Bks w gb m xs L wk
  k : Bt wk gk 22 key
  f : Bt wk gf 22 first
theorem Bky.on {w wk w' : World} {gb m gk gf : Nat} {xs : List Value} {L : List (Nat × List UInt8)} {key first : List UInt8} (h : Bky w gb m xs L gk gf key first wk) (hb : Below wk.heap.size wk w') : Bky w gb m xs L gk gf key first w' := by
  obtain ⟨V, hV⟩ := h.bks.book
  exact ⟨⟨h.bks.bel.trans (hb.mono h.bks.bel.size), h.bks.row.below hb, ⟨V, (hb.block gb (lt_of_block hV.blk)).trans hV.blk, World.ownsRow.kept hV.own (gr_of hb none) (by cases hv : V.ownBlock with | none => exact .inl rfl | some k => exact .inr (by simp))⟩, h.bks.at_⟩, h.k.on hb, h.f.on hb⟩
theorem Bky.drewN {w wk : World} {gb m gk gf : Nat} {xs : List Value} {L : List (Nat × List UInt8)} {key first : List UInt8} (h : Bky w gb m xs L gk gf key first wk) (n : Nat) : Bky w gb m xs L gk gf key first (wk.drewN n) :=
  h.on ⟨rfl, rfl, rfl, Nat.le_refl _, fun _ _ => rfl⟩
set_option maxRecDepth 100000 in
theorem bytesy_any (A : Option Addr) (n c gb m : Nat) (xs : List Value) (L : List (Nat × List UInt8)) (gk gf : Nat) (key first : List UInt8) (w wk : World) (h : Bky w gb m xs L gk gf key first wk) (hm : m ≤ 1000) :
    Calls Tryz.prog 7 #[.pointer (some ⟨gb, 0, none⟩), .slice A n c] wk fun e w' => e = .returned (.tuple #[]) ∧ Bky w gb (m + 1) (xs ++ [.slice A n c, nl, .int .i64 ((m + 1 : Nat) : Int)]) L gk gf key first w' := by
  obtain ⟨V, hV⟩ := h.bks.book
  have HK := hid (keep_any A n c w.heap.size gb m V xs wk hV (by omega) h.bks.bel.size)
  go_enter Tryz.func7, Tryz.ntmps7
  go_wp2_with fail
  refine HK.out.mono ?_
  rintro e w2 ⟨rfl, V', hV', hkp⟩
  have HF := hid (p := Bky w gb (m + 1) (xs ++ [.slice A n c, nl, .int .i64 ((m + 1 : Nat) : Int)]) L gk gf key first w2) (by
    refine ⟨⟨?_, fun p hp => (h.bks.row p hp).kp hV hkp, ⟨V', hV'⟩, h.bks.at_⟩, bt_kp h.k hV hkp, bt_kp h.f hV hkp⟩
    refine h.bks.bel.trans ⟨hkp.os, hkp.tape, hkp.output, hkp.size, fun k hk => hkp.block k (Nat.lt_of_lt_of_le hk h.bks.bel.size) ?_ ?_⟩
    · have := h.bks.at_
      omega
    · intro e
      have := (World.ownsRow.lt hV.own k e.symm).1
      omega)
  clear hV' hkp
  go_wp2
  go_end0
  exact ⟨rfl, HF.out⟩
set_option maxRecDepth 100000 in
set_option maxHeartbeats 4000000 in
theorem stream_law (key first : List UInt8) (A : Option Addr) (c : Nat) (b : List UInt8) (n : Nat) (w : World) (hk : key.length = 16) (hf : first.length = 16) (hn : b.length = n) (hr : Rd w A b) (hc : n ≤ 140737488351232) :
    Calls Tryz.prog 3 #[.agg (bvs key).toArray, .agg (bvs first).toArray, .slice A n c] w fun e w' => e = .returned (.bool true) ∧ Below w.heap.size w w' := by
  have HK := hid hk
  have HFI := hid hf
  have HN := hid hn
  have HR := hid hr
  have HC := hid hc
  clear hk hf hn hr
  have B1 := hid (bx2 w 22 22 key first)
  go_enter Tryz.func3, Tryz.ntmps3
  go_upto_region 1 with fail
  generalize (w.alloc (.cells (bvs key).toArray 22)).alloc (.cells (bvs first).toArray 22) = w1 at *
  by_cases hbig : 2000 < n
  · have hbi : (2000 : Int) < (n : Int) := by omega
    clear hbig hc
    go_wp2_with fail
    refine (lives_any _).mono ?_
    rintro e w2 ⟨rfl, hb2⟩
    have B2 := hid (B1.out.on hb2)
    clear hb2
    go_wp2
    go_ret
    exact ⟨rfl, B2.out.below⟩
  · have hbi : ¬ (2000 : Int) < (n : Int) := by omega
    have HSM := hid (show n ≤ 2000 by omega)
    clear hbig hc
    go_wp2_with fail
    refine (twin_at A c n b w1 HN.out (HR.out.below B1.out.below (Nat.le_refl _)) HC.out).mono ?_
    rintro e w2 ⟨rfl, HRW, hb2⟩
    have B2 := hid (B1.out.on hb2)
    have R2 := hid HRW
    have HG1 := hid (p := w.heap.size ≤ w1.heap.size) B1.out.below.size
    clear HRW hb2 B1
    generalize w1.heap.size = gt at *
    have hlk := ld_all (B2.out.bt 1 rfl) 22 _ Tryz.underlying22 rfl 16 HK.out row16
    have hlf := ld_all (B2.out.bt 0 rfl) 22 _ Tryz.underlying22 rfl 16 HFI.out row16
    go_upto_region 4 with fail
    go_wp2_with (first | ((with_reducible refine isD 16 rfl ?_); refine wp_ld (by kernel_rfl) 22 (.tmp 3) rfl _ rfl _ hlk ?_) | ((with_reducible refine isD 17 rfl ?_); refine wp_ld (by kernel_rfl) 22 (.tmp 4) rfl _ rfl _ hlf ?_))
    refine (stream_any key first (some ⟨gt, 0, none⟩) (n + 1) b n w2 HK.out HFI.out HN.out (row_head R2.out) (by have := HSM.out; omega)).mono ?_
    rintro e w3 ⟨gy, rfl, hq⟩
    have B3 := hid (B2.out.on hq.out.2.2)
    have R3 := hid (p := Row w3 gt (b ++ [77])) (Bt.on R2.out hq.out.2.2)
    have Y3 := hid (p := Row w3 gy (strm key first b)) hq.out.1
    have HG2 := hid (p := gt < gy) (Nat.lt_of_lt_of_le (Bt.lt R2.out) hq.out.2.1)
    have HSL := hid (p := (strm key first b).length = n) (by rw [strm_length, HN.out])
    clear hlk hlf hq B2 R2
    have K0 := hid (p := Bky w w3.heap.size 0 [] [(gy, strm key first b), (gt, b ++ [77])] w.heap.size (w.heap.size + 1) key first (w3.alloc (.cells (bookCells 0 nl) 43))) ⟨Bks.new w _ w3 B3.out.below (((Rws.nil w3).add R3.out).add Y3.out), (B3.out.bt 1 rfl).alloc _, (B3.out.bt 0 rfl).alloc _⟩
    have HG3 := hid (p := gy < w3.heap.size) (Bt.lt Y3.out)
    clear B3 R3 Y3
    go_upto_region 6 with fail
    go_wp2_with fail
    change Calls _ _ _ (w3.alloc (.cells (bookCells 0 nl) 43)) _
    generalize w3.alloc (.cells (bookCells 0 nl) 43) = u0 at *
    generalize w3.heap.size = gb at *
    refine (bytesy_any (some ⟨gt, 0, none⟩) n (n + 1) gb 0 _ _ _ _ key first w u0 K0.out (by omega)).mono ?_
    rintro e u1 ⟨rfl, hB⟩
    have K1 := hid hB
    clear hB K0
    go_wp2_with fail
    refine (bytesy_any (some ⟨gy, 0, none⟩) n n gb 1 _ _ _ _ key first w u1 K1.out (by omega)).mono ?_
    rintro e u2 ⟨rfl, hB⟩
    have K2 := hid hB
    clear hB K1
    have hlk := ld_all K2.out.k 22 _ Tryz.underlying22 rfl 16 HK.out row16
    have hlf := ld_all K2.out.f 22 _ Tryz.underlying22 rfl 16 HFI.out row16
    go_upto_region 8 with fail
    go_wp2_with (first | ((with_reducible refine isD 25 rfl ?_); refine wp_ld (by kernel_rfl) 22 (.tmp 3) rfl _ rfl _ hlk ?_) | ((with_reducible refine isD 26 rfl ?_); refine wp_ld (by kernel_rfl) 22 (.tmp 4) rfl _ rfl _ hlf ?_))
    refine (rstream_any key first A c b n u2 HK.out HFI.out HN.out (HR.out.below K2.out.bks.bel (Nat.le_refl _)) (by have := HSM.out; omega)).mono ?_
    rintro e u3 ⟨v, rfl, hq⟩
    obtain ⟨A7, q7, rfl, _, _, hr7, _⟩ := hq.out.1.form
    have K3 := hid (K2.out.on hq.out.2)
    have HR7 := hid hr7
    clear hlk hlf hr7 K2 hq
    rw [HSL.out]
    go_wp2_with fail
    refine (same_at _ _ _ _ n n (strm key first b) u3 HSL.out HSL.out (K3.out.bks.row.get (by simp) : Row u3 gy (strm key first b)).rd0 HR7.out (by have := HSM.out; omega)).mono ?_
    rintro e u4 ⟨rfl, p4, rfl⟩
    have K4 := hid (K3.out.drewN p4)
    clear K3 HR7
    generalize u3.drewN p4 = u4 at *
    go_wp2_with fail
    refine (left_at A gt c n b u4 HN.out (K4.out.bks.row.get (by simp)) (HR.out.below K4.out.bks.bel (Nat.le_refl _)) (by have := HSM.out; omega)).mono ?_
    rintro e u5 ⟨rfl, p5, rfl⟩
    have K5 := hid (K4.out.drewN p5)
    clear K4
    generalize u4.drewN p5 = u5 at *
    go_wp2_with fail
    have BF := hid (p := Bks w gb ([⟨some gt, n, n + 1⟩, ⟨some gy, n, n⟩] : List It).length (flat [⟨some gt, n, n + 1⟩, ⟨some gy, n, n⟩] fun _ => (none, 0, 0)) [(gy, strm key first b), (gt, b ++ [77])] u5) (by
      have := K5.out.bks
      exact this)
    clear K5
    have HT1 := HG1.out
    have HT2 := HG2.out
    have HT3 := HSM.out
    have HT4 := HN.out
    have HT5 := HSL.out
    refine (apart_end w u5 gb [⟨some gt, n, n + 1⟩, ⟨some gy, n, n⟩] [(gy, strm key first b), (gt, b ++ [77])] (by simp) (by simp) BF.out ?_ ?_).mono ?_
    · intro i g n' c' hi
      match i, hi with
      | 0, hi => simp at hi; obtain ⟨rfl, rfl, rfl⟩ := hi; exact ⟨b ++ [77], by simp, by simp [HT4], by omega, by omega, by omega⟩
      | 1, hi => simp at hi; obtain ⟨rfl, rfl, rfl⟩ := hi; exact ⟨strm key first b, by simp, HT5, by omega, by omega, by omega⟩
      | i + 2, hi => simp at hi
    · intro i j g n1 c1 n2 c2 hi hj
      have key : ∀ (i g n' c' : Nat), ([⟨some gt, n, n + 1⟩, ⟨some gy, n, n⟩] : List It)[i]? = some (It.mk (some g) n' c') → (i = 0 ∧ g = gt) ∨ (i = 1 ∧ g = gy) := by
        intro i g n' c' hi
        match i, hi with
        | 0, hi => simp at hi; simp [hi.1]
        | 1, hi => simp at hi; simp [hi.1]
        | i + 2, hi => simp at hi
      have h1 := key i g n1 c1 hi
      have h2 := key j g n2 c2 hj
      clear key hi hj
      omega
    rintro e u6 ⟨rfl, hb6⟩
    have H6 := hid hb6
    clear hb6 BF HT1 HT2 HT3 HT4 HT5
    go_wp2_with fail
    refine (lives_any _).mono ?_
    rintro e u7 ⟨rfl, hb7⟩
    have H7 := hid (H6.out.trans (hb7.mono H6.out.size))
    clear hb7 H6
    go_wp2
    go_ret
    exact ⟨rfl, H7.out⟩
end Go.Proofs.YtbccnkjfjlmflaaGreatDoor

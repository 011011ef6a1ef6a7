/-
  The Book's growByte, walked: behind each list forty more marks. Conditions: no two lists share a block.
-/
import Derived.Test.YtbccnkjfjlmflaaGreatDoorLong
namespace Go.Proofs.YtbccnkjfjlmflaaGreatDoor
open Go.RowKit
set_option linter.unusedVariables false

def setL (lg : Nat → Option Addr × Nat × Nat) (k : Nat) (x : Option Addr × Nat × Nat) : Nat → Option Addr × Nat × Nat := fun i => if i = k then x else lg i

theorem flat_set (its : List It) (lg : Nat → Option Addr × Nat × Nat) (k : Nat) (hk : k < its.length) (x : Option Addr × Nat × Nat) :
    (flat its lg).set (k * 3 + 1) (.slice x.1 x.2.1 x.2.2) = flat its (setL lg k x) := by
  apply List.ext_getElem?
  intro p
  rcases Nat.lt_or_ge p (its.length * 3) with hp | hp
  · obtain ⟨a0, a1, a2⟩ := flat_get its lg (p / 3) (by omega)
    obtain ⟨b0, b1, b2⟩ := flat_get its (setL lg k x) (p / 3) (by omega)
    rcases (show p = p / 3 * 3 ∨ p = p / 3 * 3 + 1 ∨ p = p / 3 * 3 + 2 from by omega) with h | h | h
    · rw [List.getElem?_set_ne (by omega), h, b0, a0]
    · by_cases he : p / 3 = k
      · rw [show p = k * 3 + 1 from by omega, List.getElem?_set_self (by rw [flat_length]; omega)]
        rw [he] at b1
        rw [b1]
        simp [setL]
      · rw [List.getElem?_set_ne (by omega), h, b1, a1]
        simp [setL, he]
    · rw [List.getElem?_set_ne (by omega), h, b2, a2]
  · rw [List.getElem?_eq_none (by rw [List.length_set, flat_length]; omega), List.getElem?_eq_none (by rw [flat_length]; omega)]

theorem Bk.long {w : World} {base gb gv cv : Nat} {its : List It} {lg : Nat → Option Addr × Nat × Nat} (h : Bk w base gb its.length (.slice (some ⟨gv, 0, none⟩) its.length cv) (flat its lg)) (k : Nat) (hk : k < its.length) (x : Option Addr × Nat × Nat) :
    Bk (w.setCell ⟨gv, k * 3 + 1, none⟩ (.slice x.1 x.2.1 x.2.2)) base gb its.length (.slice (some ⟨gv, 0, none⟩) its.length cv) (flat its (setL lg k x)) := by
  refine ⟨?_, ?_⟩
  · rw [Below.heap_setCell w ⟨gv, k * 3 + 1, none⟩ _ gb (fun e => h.ne (by simp only [Value.ownBlock]; rw [e]))]
    exact h.blk
  · rw [← flat_set its lg k hk x]
    exact (h.own.stored (k * 3 + 1) _).1

theorem Bk.chg {w w' : World} {base gb gv cv m S : Nat} {xs : List Value} {row : Option Nat} (h : Bk w base gb m (.slice (some ⟨gv, 0, none⟩) m cv) xs) (hc : Chg S row w w') (h1 : gb < S) (h2 : gv < S) (r1 : some gb ≠ row) (r2 : some gv ≠ row) : Bk w' base gb m (.slice (some ⟨gv, 0, none⟩) m cv) xs := by
  refine ⟨(hc.block gb h1 r1).trans h.blk, h.own.1, ?_⟩
  rcases h.own.2 with ⟨h', _⟩ | ⟨g, cap, cur, e, hb, hh, r⟩
  · cases h'
  · obtain rfl : gv = g := by injection e with e; injection e with e; injection e
    exact .inr ⟨gv, cap, cur, e, hb, (hc.block gv h2 r2).trans hh, r⟩

theorem Bk.vblk {w : World} {base gb gv cv m : Nat} {xs : List Value} (h : Bk w base gb m (.slice (some ⟨gv, 0, none⟩) m cv) xs) : ∃ cur, w.heap[gv]? = some (.cells cur 67 (0, 0)) := by
  rcases h.own.2 with ⟨h', _⟩ | ⟨g, cap, cur, e, hb, hh, r⟩
  · cases h'
  · obtain rfl : gv = g := by injection e with e; injection e with e; injection e
    exact ⟨cur, hh⟩

/-- what a longer list looks like -/
theorem LongSt.out {w : World} {base S : Nat} {its : List It} {k : Nat} {it : It} {v : Value} {j : Nat} (hk : its[k]? = some it) (h : LongSt w base S its k it v j) (hp : 0 < it.len + j) :
    ∃ b c, v = .slice (some ⟨b, 0, none⟩) (it.len + j) c ∧ it.len + j ≤ c ∧ (S ≤ b ∨ it.g = some b) ∧ Rd w (some ⟨b, 0, none⟩) (List.replicate (it.len + j) (mk k)) := by
  obtain ⟨E, hh, hf, h⟩ := h
  rcases h with ⟨g, n, c, rfl, rfl, hc, ht⟩ | how
  · obtain ⟨h1, h2, h3, h4, h5⟩ := hh k g n c hk
    refine ⟨g, c, rfl, hc, .inr rfl, ?_⟩
    have := h1.rd0.take (n + j)
    rw [ht] at this
    exact this
  · have hform := how
    rcases how.2 with ⟨_, h0⟩ | ⟨g, cap, cur, rfl, hb, hh', hnc, _⟩
    · simp at h0; omega
    · simp at hnc
      obtain ⟨A, c, he, h1, h2, hr, _⟩ := hform.form
      have hA : A = some ⟨g, 0, none⟩ := by injection he with he; exact he.symm
      subst hA
      exact ⟨g, cap, by simp, hnc, .inl hb, hr⟩

/-- the longer lists below k -/
def Longs (w : World) (S0 : Nat) (its : List It) (lg : Nat → Option Addr × Nat × Nat) (k : Nat) : Prop :=
  ∀ i it, i < k → its[i]? = some it → ∃ b, (lg i).1 = some ⟨b, 0, none⟩ ∧ (lg i).2.1 = it.len + 40 ∧ it.len + 40 ≤ (lg i).2.2 ∧ (S0 ≤ b ∨ it.g = some b) ∧ Rd w (some ⟨b, 0, none⟩) (List.replicate (it.len + 40) (mk i))

theorem Rd.block {w w' : World} {b : Nat} {bs : List UInt8} (h : Rd w (some ⟨b, 0, none⟩) bs) (hb : w'.heap[b]? = w.heap[b]?) (hs : w.heap.size ≤ w'.heap.size) : Rd w' (some ⟨b, 0, none⟩) bs := by
  intro hp
  obtain ⟨g, o, he, hg, hc⟩ := h hp
  have e : g = b ∧ o = 0 := by injection he with he; injection he with h1 h2; exact ⟨h1.symm, h2.symm⟩
  obtain ⟨rfl, rfl⟩ := e
  exact ⟨g, 0, rfl, Nat.lt_of_lt_of_le hg hs, fun j hj => (World.cell?_of_block (a := ⟨g, 0 + j, none⟩) hb).trans (hc j hj)⟩

theorem Held.lenOf {w : World} {base : Nat} {its : List It} {D : Nat → List UInt8} (h : Held w base its D) {k : Nat} {it : It} (hk : its[k]? = some it) : it.len ≤ 70368744177664 := by
  obtain ⟨_ | g, n, c⟩ := it
  · simp [It.len]
  · obtain ⟨_, _, h3, _, h5⟩ := h k g n c hk
    simp only [It.len]
    omega

theorem Held.other {w : World} {base gv j : Nat} {its : List It} {D : Nat → List UInt8} {cur : Array Value} (h : Held w base its D) (hv : w.heap[gv]? = some (.cells cur 67 (0, 0))) (u : Value) : Held (w.setCell ⟨gv, j, none⟩ u) base its D := by
  intro i g n c hi
  obtain ⟨h1, h2⟩ := h i g n c hi
  refine ⟨(Below.heap_setCell w ⟨gv, j, none⟩ u g ?_).trans h1, h2⟩
  rintro rfl
  have h1' : w.heap[g]? = some (.cells (bvs (D i)).toArray 5 (0, 0)) := h1
  have hv' : w.heap[g]? = some (.cells cur 67 (0, 0)) := hv
  rw [h1'] at hv'
  simp at hv'

theorem LongSt.start {w : World} {base S : Nat} {its : List It} {k : Nat} {it : It} {v : Value} (hk : its[k]? = some it) (hv : it.val = v) (h : ∃ E, Held w base its E ∧ Fil its E) : LongSt w base S its k it v 0 := by
  obtain ⟨E, h1, h2⟩ := h
  refine ⟨E, h1, h2, ?_⟩
  subst hv
  obtain ⟨_ | g, n, c⟩ := it
  · exact .inr (Ow.nil _ _)
  · obtain ⟨q1, q2, q3, q4, q5⟩ := h1 k g n c hk
    exact .inl ⟨g, n, c, rfl, rfl, q3, h2 k g n c hk⟩

theorem Longs.keep {w w' : World} {S0 : Nat} {its : List It} {lg : Nat → Option Addr × Nat × Nat} {k : Nat} (h : Longs w S0 its lg k) (hs : w.heap.size ≤ w'.heap.size)
    (hb : ∀ i it b, i < k → its[i]? = some it → (S0 ≤ b ∨ it.g = some b) → b < w.heap.size → w'.heap[b]? = w.heap[b]?) : Longs w' S0 its lg k := by
  intro i it hi hit
  obtain ⟨b, h1, h2, h3, h4, h5⟩ := h i it hi hit
  have hl : b < w.heap.size := by
    obtain ⟨g, o, he, hg, _⟩ := h5 (by simp)
    have : g = b := by injection he with he; injection he with h1 h2; exact h1.symm
    omega
  exact ⟨b, h1, h2, h3, h4, h5.block (hb i it b hi hit h4 hl) hs⟩

theorem Longs.add {w : World} {S0 : Nat} {its : List It} {lg : Nat → Option Addr × Nat × Nat} {k : Nat} (h : Longs w S0 its lg k) (it : It) (hit : its[k]? = some it) (b c : Nat) (hc : it.len + 40 ≤ c) (hb : S0 ≤ b ∨ it.g = some b) (hr : Rd w (some ⟨b, 0, none⟩) (List.replicate (it.len + 40) (mk k))) :
    Longs w S0 its (setL lg k (some ⟨b, 0, none⟩, it.len + 40, c)) (k + 1) := by
  intro i it' hi hit'
  by_cases he : i = k
  · subst he
    rw [hit] at hit'
    obtain rfl : it = it' := by injection hit'
    exact ⟨b, by simp [setL], by simp [setL], by simp [setL, hc], hb, hr⟩
  · obtain ⟨b', q⟩ := h i it' (by omega) hit'
    refine ⟨b', ?_⟩
    simp only [setL, he, if_false]
    exact q

theorem Sep.ne {its : List It} (hs : Sep its) {i k : Nat} {it it' : It} {b : Nat} (hi : its[i]? = some it) (hk : its[k]? = some it') (hne : i ≠ k) (h : it.g = some b) : it'.g ≠ some b := by
  intro h'
  obtain ⟨g, n, c⟩ := it
  obtain ⟨g', n', c'⟩ := it'
  simp only at h h'
  subst h
  subst h'
  exact hne (hs i k b n c n' c' hi hk)

set_option maxRecDepth 100000 in
set_option maxHeartbeats 3200000 in
theorem grow_any (base gb gv cv : Nat) (its : List It) (lg0 : Nat → Option Addr × Nat × Nat) (w : World) (hp : 0 < its.length) (hm : its.length ≤ 1048576)
    (hk : Bk w base gb its.length (.slice (some ⟨gv, 0, none⟩) its.length cv) (flat its lg0)) (hh : ∃ E, Held w base its E ∧ Fil its E) (hs : Sep its) (hbase : base ≤ w.heap.size) (hgb : base ≤ gb) :
    Calls Tryz.prog 36 #[.pointer (some ⟨gb, 0, none⟩)] w fun e w' => e = .returned (.tuple #[]) ∧ ∃ lg, Bk w' base gb its.length (.slice (some ⟨gv, 0, none⟩) its.length cv) (flat its lg) ∧ (∃ E, Held w' base its E ∧ Fil its E) ∧ Longs w' w.heap.size its lg its.length ∧ Below base w w' := by
  obtain ⟨m, hmm⟩ : ∃ m, its.length = m := ⟨_, rfl⟩
  have hgv0 : gv < w.heap.size ∧ base ≤ gv := by
    obtain ⟨gv', cv', hV, hb, hl, _⟩ := hk.form hp
    have : gv' = gv := by injection hV with h1 h2 h3; injection h1 with h1; injection h1 with h1; exact h1.symm
    rw [this] at hb hl
    exact ⟨hl, hb⟩
  have hgb0 : gb < w.heap.size := lt_of_block hk.blk
  have HS0 := hid (p := ∀ (i g n c : Nat), its[i]? = some (It.mk (some g) n c) → g < w.heap.size) (by
    obtain ⟨E, h, _⟩ := hh
    intro i g n c hi
    exact (h i g n c hi).1.lt)
  have HK0 := hid hk
  have HH0 := hid hh
  rw [hmm] at hp hm ⊢
  rw [hmm] at HK0
  have HM := hid hmm
  clear hmm hk hh
  obtain ⟨hgvl, hgvb⟩ := hgv0
  go_enter Tryz.func36, Tryz.ntmps36
  go_wp2
  go_loopw [2] (fun i wr => ∃ (k : Nat) (lg : Nat → Option Addr × Nat × Nat), k ≤ m ∧ i = .int .i64 k ∧ Hid (Bk wr base gb m (.slice (some ⟨gv, 0, none⟩) m cv) (flat its lg)) ∧ Hid (∃ E, Held wr base its E ∧ Fil its E) ∧ Hid (Longs wr w.heap.size its lg k) ∧ Hid (Below base w wr)) (fun i _ => m - (intOf i).toNat)
  case atStart => exact ⟨0, lg0, Nat.zero_le _, rfl, HK0.out, HH0.out, hid (fun i it h => absurd h (by omega)), Below.refl _ _⟩
  case round =>
    obtain ⟨k, lg, hkm, rfl, HK, HH, HL, HB⟩ := hrel
    clear HK0 HH0
    have c1 : wr.cell? ⟨gb, 1, none⟩ = some (.slice (some ⟨gv, 0, none⟩) m cv) := HK.out.cell 1 _ rfl
    by_cases hlt : k < m
    · obtain ⟨gv', cv', hV, hbv, hgv, hcell⟩ := HK.out.form hp
      have hVe : gv' = gv := by injection hV with h1 h2 h3; injection h1 with h1; injection h1 with h1; exact h1.symm
      rw [hVe] at hcell hgv hbv
      clear hV hVe
      obtain ⟨t0, t1, t2⟩ := flat_get its lg k (by rw [HM.out]; exact hlt)
      have v0 := (hcell (k * 3) (by omega)).trans t0
      have v1 := (hcell (k * 3 + 1) (by omega)).trans t1
      have v2 := (hcell (k * 3 + 2) (by omega)).trans t2
      clear hcell t0 t1 t2
      obtain ⟨it, hit⟩ : ∃ it, its[k]? = some it := ⟨_, List.getElem?_eq_getElem (by rw [HM.out]; exact hlt)⟩
      have hget : its.getD k ⟨none, 0, 0⟩ = it := by simp [List.getD, hit]
      rw [hget] at v0
      have HIT := hid hit
      clear hit hget
      obtain ⟨A0, n0, c0, hval⟩ : ∃ A0 n0 c0, it.val = .slice A0 n0 c0 := by
        obtain ⟨_ | g, n, c⟩ := it
        · exact ⟨none, 0, 0, rfl⟩
        · exact ⟨_, _, _, rfl⟩
      rw [hval] at v0
      have HV := hid hval
      clear hval
      go_wp2
      clear v0 v1 v2 c1
      have hwr := HB.out.size
      have HK1 := hid (HK.out.alloc (.cells #[.slice A0 n0 c0, .slice (lg k).1 (lg k).2.1 (lg k).2.2, .int .i64 ((k : Int) + 1)] 67))
      have HX1 := hid (heap_alloc_new wr (.cells #[.slice A0 n0 c0, .slice (lg k).1 (lg k).2.1 (lg k).2.2, .int .i64 ((k : Int) + 1)] 67))
      have HB1 := hid (HB.out.alloc (Nat.le_trans hbase HB.out.size) (.cells #[.slice A0 n0 c0, .slice (lg k).1 (lg k).2.1 (lg k).2.2, .int .i64 ((k : Int) + 1)] 67))
      have HL1 := hid (HL.out.keep (w' := wr.alloc (.cells #[.slice A0 n0 c0, .slice (lg k).1 (lg k).2.1 (lg k).2.2, .int .i64 ((k : Int) + 1)] 67)) (by simp) (fun i it b _ _ _ hb => Below.heap_alloc wr _ b hb))
      have HT1 := hid (p := LongSt (wr.alloc (.cells #[.slice A0 n0 c0, .slice (lg k).1 (lg k).2.1 (lg k).2.2, .int .i64 ((k : Int) + 1)] 67)) base (wr.alloc (.cells #[.slice A0 n0 c0, .slice (lg k).1 (lg k).2.1 (lg k).2.2, .int .i64 ((k : Int) + 1)] 67)).heap.size its k it (.slice A0 n0 c0) 0) (LongSt.start HIT.out HV.out (by
        obtain ⟨E, h1, h2⟩ := HH.out
        exact ⟨E, h1.alloc _, h2⟩))
      have HS1 := hid (p := (wr.alloc (.cells #[.slice A0 n0 c0, .slice (lg k).1 (lg k).2.1 (lg k).2.2, .int .i64 ((k : Int) + 1)] 67)).heap.size = wr.heap.size + 1) (by simp)
      have hlenit : it.len ≤ 70368744177664 := by
        obtain ⟨E, h1, _⟩ := HH.out
        exact h1.lenOf HIT.out
      generalize wr.alloc (.cells #[.slice A0 n0 c0, .slice (lg k).1 (lg k).2.1 (lg k).2.2, .int .i64 ((k : Int) + 1)] 67) = w1 at *
      generalize hgh : wr.heap.size = gh at *
      have HGH := hid hgh
      clear HK HH HL HB hgh
      have HSI := hid (p := ∀ (i g n c : Nat), its[i]? = some (It.mk (some g) n c) → g < w1.heap.size) (fun i g n c hi => by
        have h1 := HS0.out i g n c hi
        have h2 := HS1.out
        omega)
      have HNG := hid (p := some gh ≠ it.g) (by
        intro e
        obtain ⟨g, n, c⟩ := it
        simp only at e
        have h1 := HS0.out k gh n c (by rw [HIT.out, e])
        omega)
      have HR1 := hid (p := some gb ≠ it.g) (by
        intro e
        obtain ⟨E, h1, _⟩ := HT1.out
        obtain ⟨g, n, c⟩ := it
        simp only at e
        subst e
        have h2 : w1.heap[gb]? = some (.cells (bvs (E k)).toArray 5 (0, 0)) := (h1 k gb n c HIT.out).1
        have h3 := HK1.out.blk
        rw [h2] at h3
        simp at h3)
      have HR2 := hid (p := some gv ≠ it.g) (by
        intro e
        obtain ⟨E, h1, _⟩ := HT1.out
        obtain ⟨g, n, c⟩ := it
        simp only at e
        subst e
        have h2 : w1.heap[gv]? = some (.cells (bvs (E k)).toArray 5 (0, 0)) := (h1 k gv n c HIT.out).1
        obtain ⟨cur, h3⟩ := HK1.out.vblk
        rw [h2] at h3
        simp at h3)
      go_loopw [4, 5] (fun v i wi => ∃ j : Nat, j ≤ 40 ∧ i = .int .i64 j ∧ Hid (LongSt wi base w1.heap.size its k it v j) ∧ Hid (Chg w1.heap.size it.g w1 wi)) (fun _ i _ => 40 - (intOf i).toNat)
      case atStart => exact ⟨0, by omega, rfl, HT1.out, Chg.refl _ _ _⟩
      case round =>
        obtain ⟨j, hj40, rfl, HTi, HCi⟩ := hrel
        clear HT1
        by_cases hjlt : j < 40
        · have hbx : wr.heap[gh]? = some (.cells #[.slice A0 n0 c0, .slice (lg k).1 (lg k).2.1 (lg k).2.2, .int .i64 ((k : Int) + 1)] 67 (0, 0)) := (HCi.out.block gh (by have := HS1.out; omega) HNG.out).trans HX1.out
          have b2 : wr.cell? ⟨gh, 2, none⟩ = some (.int .i64 ((k : Int) + 1)) := by rw [cell_of_row _ _ _ _ 67 (0, 0) hbx]; rfl
          clear hbx
          go_wp2_with fail
          refine (mark_any k _ _ (by omega) (by omega)).mono ?_
          rintro e w' ⟨rfl, rfl⟩
          obtain ⟨v', w2, hrun, hT, hC⟩ := long_step (wr.alloc (.cells #[.int .u8 (((mk k).toNat : Nat) : Int)] 5)) base w1.heap.size its k it u4 j ⟨wr.heap.size, 0, none⟩ HIT.out hs HSI.out (by have := HCi.out.size; simp; omega) (HTi.out.alloc _) (Row.one wr (mk k)).rd0 (by omega)
          have HRN := hid hrun
          have HT2 := hid hT
          have HC2 := hid ((HCi.out.trans (Chg.of_below (((Below.refl _ _).alloc HCi.out.size _)))).trans hC)
          clear hrun hT hC b2
          go_wp2_with (at_builtin; refine step_append rfl (.tmp 28) (.tmp 32) rfl rfl _ _ rfl rfl v' w2 HRN.out ?_)
          go_roundw
          case rel => exact ⟨j + 1, by omega, by go_num, HT2.out, HC2.out⟩
          case measure => simp [intOf]; omega
        · obtain rfl : j = 40 := by omega
          obtain ⟨b, cb, hv4, hcb, hbb, hrb⟩ := HTi.out.out HIT.out (by omega)
          subst hv4
          have HRB := hid hrb
          have hsz := HCi.out.size
          have hw1 := HS1.out
          have hr1 := HR1.out
          have hr2 := HR2.out
          have HKi := hid (HK1.out.chg HCi.out (by omega) (by omega) hr1 hr2)
          have c1 : wr.cell? ⟨gb, 1, none⟩ = some (.slice (some ⟨gv, 0, none⟩) m cv) := HKi.out.cell 1 _ rfl
          obtain ⟨gv', cv', hV, hbv', hgv', hcell⟩ := HKi.out.form hp
          have hVe : gv' = gv := by injection hV with h1 h2 h3; injection h1 with h1; injection h1 with h1; exact h1.symm
          rw [hVe] at hcell hgv' hbv'
          clear hV hVe
          obtain ⟨t0, t1, t2⟩ := flat_get its lg k (by rw [HM.out]; exact hlt)
          have y1 := (hcell (k * 3 + 1) (by omega)).trans t1
          have y2 : wr.frozen? ⟨gv, k * 3 + 1, none⟩ = false := World.ownsRow.frozenAt HKi.out.own (k * 3 + 1)
          clear hcell t0 t1 t2
          go_wp2
          clear c1 y1 y2
          obtain ⟨cur, hcur⟩ := HKi.out.vblk
          obtain ⟨E, hE1, hE2, _⟩ := HTi.out
          have hbv2 : b ≠ gv := by
            rintro rfl
            rcases hbb with h | h
            · omega
            · exact hr2 h.symm
          go_roundw
          case rel =>
            refine ⟨k + 1, setL lg k (some ⟨b, 0, none⟩, it.len + 40, cb), by omega, by go_num, ?_, ?_, ?_, ?_⟩
            · have := HKi.out
              have hm' := HM.out
              subst hm'
              exact hid (this.long k hlt (some ⟨b, 0, none⟩, it.len + 40, cb))
            · exact hid ⟨E, hE1.other hcur _, hE2⟩
            · refine hid (Longs.add ?_ it HIT.out b cb hcb ?_ ?_)
              · refine HL1.out.keep (by simpa using hsz) (fun i it' b' hi hit' hb' hl' => ?_)
                have hb1 : b' ≠ gv := by
                  rintro rfl
                  rcases hb' with h | h
                  · omega
                  · obtain ⟨g', n', c'⟩ := it'
                    simp only at h
                    subst h
                    have h2 : wr.heap[b']? = some (.cells (bvs (E i)).toArray 5 (0, 0)) := (hE1 i b' n' c' hit').1
                    rw [h2] at hcur
                    simp at hcur
                have hb2 : some b' ≠ it.g := by
                  intro e
                  rcases hb' with h | h
                  · obtain ⟨g', n', c'⟩ := it
                    simp only at e
                    have := HS0.out k b' n' c' (by rw [HIT.out, e])
                    omega
                  · exact hs.ne hit' HIT.out (by omega) h e.symm
                rw [Below.heap_setCell wr ⟨gv, k * 3 + 1, none⟩ _ b' hb1]
                exact HCi.out.block b' hl' hb2
              · rcases hbb with h | h
                · exact .inl (by omega)
                · exact .inr h
              · exact HRB.out.block (Below.heap_setCell wr ⟨gv, k * 3 + 1, none⟩ _ b hbv2) (by simp)
            · refine hid (Below.setCell ?_ (p := ⟨gv, k * 3 + 1, none⟩) hgvb _)
              refine HB1.out.trans ⟨HCi.out.os, HCi.out.tape, HCi.out.output, hsz, fun q hq => HCi.out.block q (by omega) ?_⟩
              intro e
              obtain ⟨g', n', c'⟩ := it
              simp only at e
              have := (hE1 k q n' c' (by rw [HIT.out, e])).2.2.2.1
              omega
          case measure => simp [intOf]; omega
    · go_wp2
      go_end0
      obtain rfl : k = m := by omega
      exact ⟨rfl, lg, HK.out, HH.out, HL.out, HB.out⟩
end Go.Proofs.YtbccnkjfjlmflaaGreatDoor

/-
  burrowlaw08.MacsParts, walked: it answers true. Condition: the library's table holds what its text lays.
-/
import Derived.Test.YtaejcifpipegnaaDoorMcf
import Derived.Test.YtaejcifpipegnaaDoorPkB
namespace Go.Proofs.YtaejcifpipegnaaDoor
open Go.RowKit
set_option linter.unusedVariables false
set_option linter.unusedSimpArgs false

set_option maxRecDepth 100000 in
theorem own_put {w w' : World} {v : Value} {k : Nat} {l : List Value} (hb : Below w.heap.size w w') (ho : w'.ownsRow w.heap.size 22 1 v k l) (hk : k ≤ 1000) (A : Option Addr) (L C : Nat) :
    ∃ v2 w3, Hid ((Builtin.append_ #[23, 23] 23 #[v, .slice (some ⟨w'.heap.size, 0, none⟩) 1 1]).run Tryd.prog (w'.alloc (.cells #[.slice A L C] 22)) = .ok v2 w3) ∧ Hid (w3.ownsRow w.heap.size 22 1 v2 (k + 1) (l ++ [.slice A L C])) ∧ Hid (Below w.heap.size w w3) := by
  obtain ⟨i0, hi, hz0, hz1, hz2⟩ := info_parts row_info
  have hal : Below w'.heap.size w' (w'.alloc (.cells #[.slice A L C] 22)) := (Below.refl _ _).alloc (Nat.le_refl _) _
  have h1 := rowo_below ho hal
  have hB1 := hb.trans (hal.mono hb.size)
  have hb2 : (w'.alloc (.cells #[.slice A L C] 22)).cell? ⟨w'.heap.size, 0, none⟩ = some (.slice A L C) := by rw [cell_of_row _ _ 0 _ 22 (0, 0) (heap_alloc_new w' _)]; rfl
  generalize w'.alloc (.cells #[.slice A L C] 22) = wa at *
  have hnew : ∀ j u, ([Value.slice A L C] : List Value)[j]? = some u → wa.cell? ((⟨w'.heap.size, 0, none⟩ : Addr).add j) = some u := by
    intro j u hj
    rcases j with _ | j
    · simp only [List.getElem?_cons_zero, Option.some.injEq] at hj
      subst hj
      rw [Addr.add_lit]; exact hb2
    · simp at hj
  obtain ⟨v', w3, hrun, hown, hgr, _, hob⟩ := run_append_own_at (P := Tryd.prog) wa w.heap.size 23 23 22 i0 (.slice none 0 0) 1 24 Tryd.underlying23 hi hz0 hz1 hz2 rfl (by omega) v k _ h1 ⟨w'.heap.size, 0, none⟩ 1 1 _ rfl hnew (by simp [Value.oneCell']) (by simp only [maxLen]; omega) (by omega) hB1.size
  have hlo : ∀ j, v.ownBlock = some j → w.heap.size ≤ j ∧ j < wa.heap.size := World.ownsRow.lt h1
  exact ⟨v', w3, hid hrun, hid hown, hid (hB1.trans ⟨hgr.os, hgr.tape, hgr.output, hgr.size, fun j hj => hgr.block j (by have := hB1.size; omega) (by intro e; have := (hlo j e.symm).1; omega)⟩)⟩
theorem rws_own {w : World} {B n : Nat} {v : Value} {A : Nat → Option Addr} {L C : Nat → Nat} {xs : Nat → List UInt8} (ho : w.ownsRow B 22 1 v n (cellsOf n A L C))
    (hx : ∀ r, r < n → (xs r).length = L r ∧ Rd w (A r) (xs r) ∧ L r ≤ C r ∧ C r ≤ 140737488351232 ∧ (A r = none → C r = 0)) : ∃ a0 cap, v = .slice a0 n cap ∧ Rws w a0 n A L C xs := by
  have ho2 := ho
  rcases ho.2 with ⟨rfl, h0⟩ | ⟨g, cap, cur, rfl, hbg, hh, hnc, hm, hs, ht⟩
  · subst h0; exact ⟨none, 0, rfl, fun r hr => absurd hr (Nat.not_lt_zero _)⟩
  · refine ⟨some ⟨g, 0, none⟩, cap, rfl, fun r hr => ⟨⟨g, 0, rfl, lt_of_block hh, ?_⟩, hx r hr⟩⟩
    have hc := World.ownsRow.cellAt ho2 r (by simpa using hr)
    rw [cellsOf_at _ _ _ hr] at hc
    rw [Nat.zero_add]; exact hc
/-- numbers of 16 bits that lie behind an address -/
def Rd6 (w : World) (A : Option Addr) (cs : List Nat) : Prop :=
  ∀ j, (h : j < cs.length) → cs[j] < 65536 ∧ ∃ g o, A = some ⟨g, o, none⟩ ∧ g < w.heap.size ∧ w.cell? ⟨g, o + j, none⟩ = some (.int .u16 (cs[j] : Int))
/-- a part between two cuts -/
def sp (b : List UInt8) (cut : Nat → Nat) (r : Nat) : List UInt8 := (b.drop (cut r)).take (cut (r + 1) - cut r)
theorem cat_sp (b : List UInt8) (cut : Nat → Nat) (k : Nat) (h0 : cut 0 = 0) (h : ∀ r, r < k → cut r ≤ cut (r + 1)) : cat (sp b cut) k = b.take (cut k) := by
  induction k with
  | zero => rw [h0, List.take_zero]; rfl
  | succ k ih =>
    rw [cat, ih (fun r hr => h r (by omega)), sp]
    have := h k (by omega)
    have e : cut (k + 1) = cut k + (cut (k + 1) - cut k) := by omega
    rw [e, Nat.add_sub_cancel_left, List.take_add]
theorem slice_cut (A : Option Addr) (n c f t : Nat) (h1 : f ≤ t) (h2 : t ≤ n) (hc : n ≤ c) (w : World) : (Instr.slice 22 (.slice A n c) (some (.int .i64 (f : Int))) (some (.int .i64 (t : Int))) none).run Tryd.prog w = .ok (.slice (past A f c) (t - f) (c - f)) w := by
  have h5 : Tryd.prog.elem 22 = 5 := by kernel_rfl
  rw [run_slice_lh (P := Tryd.prog) w 22 A n c (by rw [h5]; exact Tryd.underlying22) .i64 .i64 (f : Int) (t : Int) (by omega) (by omega) (by omega)]
  have hs : (sizeOf 5).run Tryd.prog w = .ok 1 w := by kernel_rfl
  rw [h5, hs]
  simp only [Result.andThen, sliced, Int.toNat_natCast, past, Nat.mul_one]
/-- what the loop carries: the parts so far, cut here -/
structure Cu (w : World) (A : Option Addr) (c k f : Nat) (v : Value) (cut : Nat → Nat) (w' : World) : Prop where
  below : Below w.heap.size w w'
  own : w'.ownsRow w.heap.size 22 1 v k (cellsOf k (fun r => past A (cut r) c) (fun r => cut (r + 1) - cut r) (fun r => c - cut r))
  zero : cut 0 = 0
  last : cut k = f
  rise : ∀ r, r < k → cut r ≤ cut (r + 1)
  most : ∀ r, r ≤ k → cut r ≤ f
theorem Cu.next {w w' w3 : World} {A : Option Addr} {c k f t : Nat} {v v2 : Value} {cut : Nat → Nat} (h : Cu w A c k f v cut w') (ht : f ≤ t)
    (hb : Below w.heap.size w w3) (ho : w3.ownsRow w.heap.size 22 1 v2 (k + 1) (cellsOf k (fun r => past A (cut r) c) (fun r => cut (r + 1) - cut r) (fun r => c - cut r) ++ [.slice (past A f c) (t - f) (c - f)])) :
    Cu w A c (k + 1) t v2 (nx (k + 1) cut t) w3 := by
  have e : ∀ r, r ≤ k → nx (k + 1) cut t r = cut r := fun r hr => by unfold nx; rw [if_pos (by omega)]
  have e1 : nx (k + 1) cut t (k + 1) = t := by unfold nx; rw [if_neg (by omega)]
  refine ⟨hb, ?_, by rw [e 0 (Nat.zero_le _)]; exact h.zero, e1, fun r hr => ?_, fun r hr => ?_⟩
  · rw [cells_succ, e k (Nat.le_refl _), e1, h.last]
    have : cellsOf k (fun r => past A (nx (k + 1) cut t r) c) (fun r => nx (k + 1) cut t (r + 1) - nx (k + 1) cut t r) (fun r => c - nx (k + 1) cut t r) = cellsOf k (fun r => past A (cut r) c) (fun r => cut (r + 1) - cut r) (fun r => c - cut r) :=
      cells_congr fun r hr => by rw [e r (by omega), e (r + 1) (by omega)]; exact ⟨rfl, rfl, rfl⟩
    rw [this]; exact ho
  · rcases Nat.lt_or_ge r k with hl | hg
    · rw [e r (by omega), e (r + 1) (by omega)]; exact h.rise r hl
    · obtain rfl : r = k := by omega
      rw [e r (Nat.le_refl _), e1, h.last]; exact ht
  · rcases Nat.lt_or_ge r (k + 1) with hl | hg
    · rw [e r (by omega)]; exact Nat.le_trans (h.most r (by omega)) ht
    · obtain rfl : r = k + 1 := by omega
      rw [e1]; exact Nat.le_refl _
theorem Cu.on {w w' w2 : World} {A : Option Addr} {c k f : Nat} {v : Value} {cut : Nat → Nat} (h : Cu w A c k f v cut w') (hb : Below w'.heap.size w' w2) : Cu w A c k f v cut w2 :=
  ⟨h.below.trans (hb.mono h.below.size), rowo_below h.own hb, h.zero, h.last, h.rise, h.most⟩
theorem Cu.rws {w w' : World} {A : Option Addr} {c k m : Nat} {v : Value} {cut : Nat → Nat} {b : List UInt8} (h : Cu w A c k m v cut w') (hm : b.length = m) (hr : Rd w A b) (hc : m ≤ c) (hcm : c ≤ 140737488351232) (hA : A = none → c = 0) :
    ∃ a0 cap, v = .slice a0 k cap ∧ Rws w' a0 k (fun r => past A (cut r) c) (fun r => cut (r + 1) - cut r) (fun r => c - cut r) (sp b cut) ∧ cat (sp b cut) k = b := by
  obtain ⟨a0, cap, e1, e2⟩ := rws_own (xs := sp b cut) h.own (fun r hr2 => by
    have h1 := h.rise r hr2
    have h2 := h.most r (by omega)
    have h3 := h.most (r + 1) (by omega)
    refine ⟨by simp [sp]; omega, ?_, (show cut (r + 1) - cut r ≤ c - cut r by omega), (show c - cut r ≤ 140737488351232 by omega), fun e => ?_⟩
    · exact ((hr.below h.below (Nat.le_refl _)).past (cut r) c (by omega) (by omega)).take _
    · have hA2 : A = none := by
        unfold Go.Proofs.YtaejcifpipegnaaDoor.past at e
        split at e
        · exact e
        · cases A with
          | none => rfl
          | some a => cases e
      have := hA hA2
      show c - cut r = 0
      omega)
  exact ⟨a0, cap, e1, e2, by rw [cat_sp b cut k h.zero h.rise, h.last, ← hm, List.take_length]⟩
set_option maxRecDepth 100000 in
set_option maxHeartbeats 4000000 in
theorem parts8_law (A0 : Option Addr) (c : Nat) (key : List UInt8) (n : Nat) (A1 : Option Addr) (c1 : Nat) (b : List UInt8) (m : Nat) (A2 : Option Addr) (c2 : Nat) (cs : List Nat) (q : Nat) (w : World) (hn : key.length = n) (hr : Rd w A0 key) (hc : n ≤ c) (hm : b.length = m) (hr1 : Rd w A1 b) (hc1 : m ≤ c1) (hcm : c1 ≤ 140737488351232) (hA1 : A1 = none → c1 = 0)
    (hq : cs.length = q) (hr2 : Rd6 w A2 cs) (hK : Kt w) :
    Calls Tryd.prog 4 #[.slice A0 n c, .slice A1 m c1, .slice A2 q c2] w fun e w' => e = .returned (.bool true) ∧ Below w.heap.size w w' := by
  have HN := hid hn
  have HR := hid hr
  have HC := hid hc
  have HM := hid hm
  have HR1 := hid hr1
  have HC1 := hid hc1
  have HCM := hid hcm
  have HA1 := hid hA1
  have HQ := hid hq
  have HR2 := hid hr2
  have HK := hid hK
  clear hn hr hc hm hr1 hc1 hcm hA1 hq hr2 hK
  by_cases hx1 : (10000 : Int) < (m : Int)
  · go_enter Tryd.func4, Tryd.ntmps4
    go_wp2_with fail
    refine (lives8_any w HK.out).mono ?_
    rintro e w1 ⟨rfl, hb1⟩
    go_wp2
    go_ret
    exact ⟨rfl, hb1⟩
  by_cases hx2 : (40 : Int) < (q : Int)
  · go_enter Tryd.func4, Tryd.ntmps4
    go_wp2_with fail
    refine (lives8_any w HK.out).mono ?_
    rintro e w1 ⟨rfl, hb1⟩
    go_wp2
    go_ret
    exact ⟨rfl, hb1⟩
  by_cases hx3 : (10000 : Int) < (n : Int)
  · go_enter Tryd.func4, Tryd.ntmps4
    go_wp2_with fail
    refine (lives8_any w HK.out).mono ?_
    rintro e w1 ⟨rfl, hb1⟩
    go_wp2
    go_ret
    exact ⟨rfl, hb1⟩
  have HX1 := hid (show m ≤ 10000 by omega)
  have HX2 := hid (show q ≤ 40 by omega)
  have HX3 := hid (show n ≤ 10000 by omega)
  go_enter Tryd.func4, Tryd.ntmps4
  go_wp2_with fail
  clear hx1 hx2 hx3
  have HT := hid (p := Cu w A1 c1 0 0 (.slice none 0 0) (fun _ => 0) w) ⟨Below.refl _ _, World.ownsRow_nil w _ 22 1, rfl, rfl, fun r hr => Nat.le_refl _, fun r hr => Nat.le_refl _⟩
  go_loopw [7, 8, 9] (fun v f i wr => ∃ (k fr : Nat) (cut : Nat → Nat), k ≤ q ∧ fr ≤ m ∧ i = .int .i64 k ∧ f = .int .i64 fr ∧ Hid (Cu w A1 c1 k fr v cut wr)) (fun _ _ i _ => q - (intOf i).toNat)
  case atStart => exact ⟨0, 0, _, Nat.zero_le _, Nat.zero_le _, rfl, rfl, HT⟩
  case round =>
    clear HT
    obtain ⟨k, fr, cut, hk, hfr, rfl, rfl, HT⟩ := hrel
    by_cases hlt : k < q
    · have HLT := hid hlt
      obtain ⟨hcu, g2, o2, rfl, hg2, hcell⟩ := HR2.out k (by rw [HQ.out]; exact hlt)
      have hcell := (HT.out.below.cell (p := ⟨g2, o2 + k, none⟩) hg2).trans hcell
      generalize cs[k]'(by rw [HQ.out]; exact hlt) = cu at *
      obtain ⟨d, hd⟩ : ∃ d, d = m - fr := ⟨_, rfl⟩
      obtain ⟨z, hz⟩ : ∃ z, z = cu % (d + 1) := ⟨_, rfl⟩
      obtain ⟨t, ht⟩ : ∃ t, t = fr + z := ⟨_, rfl⟩
      have hzd : z ≤ d := by have := Nat.mod_lt cu (show 0 < d + 1 by omega); omega
      have HM2 := HX1.out
      have hwc : IntKind.i64.wrap (cu : Int) = (cu : Int) := by rw [IntKind.wrap_i64]; omega
      have hw1 : IntKind.i64.wrap ((m : Int) - (fr : Int)) = (d : Int) := by rw [IntKind.wrap_i64]; omega
      have hw2 : IntKind.i64.wrap ((d : Int) + 1) = ((d : Int) + 1) := by rw [IntKind.wrap_i64]; omega
      have hrem : (cu : Int) % ((d : Int) + 1) = (z : Int) := by rw [hz]; simp
      have hremt : (cu : Int).tmod ((d : Int) + 1) = (z : Int) := by rw [Int.tmod_eq_emod_of_nonneg (by omega)]; exact hrem
      have hw3 : IntKind.i64.wrap ((fr : Int) + (z : Int)) = (t : Int) := by rw [IntKind.wrap_i64]; omega
      have hne : ((d : Int) + 1 == 0) = false := by simp; omega
      have hne2 : ¬ ((d : Int) + 1 = 0) := by omega
      have hki : (k : Int) < (q : Int) := by omega
      have hwk : IntKind.i64.wrap ((k : Int) + 1) = (k : Int) + 1 := by have := HX2.out; rw [IntKind.wrap_i64]; omega
      have HTM := hid (show fr ≤ t ∧ t ≤ m by omega)
      have hsl := slice_cut A1 m c1 fr t HTM.out.1 HTM.out.2 HC1.out
      obtain ⟨v2, w3, hrun, hown, hb3⟩ := own_put HT.out.below HT.out.own (by have := HX2.out; omega) (past A1 fr c1) (t - fr) (c1 - fr)
      have HT3 := hid (HT.out.next HTM.out.1 hb3.out hown.out)
      clear hd hz ht hzd HM2 hown hb3 hcu hg2
      go_wp2_with (at_builtin; refine step_append_rw rfl (.tmp 44) (.tmp 49) rfl rfl _ _ rfl rfl v2 w3 hrun.out ?_)
      go_roundw
      case rel => exact ⟨k + 1, t, _, HLT.out, HTM.out.2, by go_num, rfl, HT3⟩
      case measure => have := HLT.out; simp [intOf]; omega
    · obtain rfl : k = q := by omega
      have hsl := slice_rest A1 m c1 fr hfr
      obtain ⟨v2, w3, hrun, hown, hb3⟩ := own_put HT.out.below HT.out.own (by have := HX2.out; omega) (past A1 fr c1) (m - fr) (c1 - fr)
      have HT3 := hid (HT.out.next hfr hb3.out hown.out)
      clear hown hb3 HT
      obtain ⟨a0, cap, rfl, hrw, hcat⟩ := HT3.out.rws HM.out HR1.out HC1.out HCM.out HA1.out
      have HRW := hid hrw
      have HCAT := hid hcat
      have HB3 := hid HT3.out.below
      have hw1 : IntKind.i64.wrap ((k : Int) + 1) = (k : Int) + 1 := by have := HX2.out; rw [IntKind.wrap_i64]; omega
      have HL := hid (p := ∀ r, r < k + 1 → nx (k + 1) cut m (r + 1) - nx (k + 1) cut m r ≤ 1048576) (fun r hr => by have := HT3.out.most (r + 1) (by omega); have := HX1.out; omega)
      clear hrw hcat HT3
      go_wp2_with (at_builtin; refine step_append_rw rfl (.tmp 52) (.tmp 56) rfl rfl _ _ rfl rfl _ w3 hrun.out ?_)
      refine (macof_any A0 c key n a0 (k + 1) cap _ _ _ _ w3 HN.out (HR.out.below HB3.out (Nat.le_refl _)) HC.out (by have := HX3.out; omega) HRW.out (HK.out.on HB3.out) (by have := HX2.out; omega) HL.out).mono ?_
      rintro e w4 ⟨rfl, hb4⟩
      rw [HCAT.out]
      have HB4 := hid (HB3.out.trans (hb4.mono HB3.out.size))
      clear hb4 HB3 HRW hrun hsl
      go_wp2_with fail
      have hb5 := (Below.refl w4.heap.size w4).alloc (Nat.le_refl _) (.cells #[.slice A1 m c1] 22)
      have hh5 := heap_alloc_new w4 (.cells #[.slice A1 m c1] 22)
      have HB5 := hid (HB4.out.trans (hb5.mono HB4.out.size))
      have HRW := hid (rws_one hh5 (HR1.out.below HB5.out (Nat.le_refl _)) HM.out HC1.out HCM.out HA1.out)
      clear hb5 hh5 HB4
      generalize w4.alloc (.cells #[.slice A1 m c1] 22) = w5 at *
      generalize w4.heap.size = g5 at *
      refine (macof_any A0 c key n (some ⟨g5, 0, none⟩) 1 1 _ _ _ _ w5 HN.out (HR.out.below HB5.out (Nat.le_refl _)) HC.out (by have := HX3.out; omega) HRW.out (HK.out.on HB5.out) (by decide) (fun r hr => by have := HX1.out; omega)).mono ?_
      rintro e w6 ⟨rfl, hb6⟩
      have HB6 := hid (HB5.out.trans (hb6.mono HB5.out.size))
      have hcat1 : cat (fun _ => b) 1 = b := by simp [cat]
      rw [hcat1]
      have heq := fun W : World => eq_sum (hm key b) (hm key b) (hm_length _ _) (hm_length _ _) W
      simp only [decide_true] at heq
      go_wp2_with fail
      refine (lives8_any w6 (HK.out.on HB6.out)).mono ?_
      rintro e w7 ⟨rfl, hb7⟩
      go_wp2
      go_ret
      exact ⟨rfl, HB6.out.trans (hb7.mono HB6.out.size)⟩
end Go.Proofs.YtaejcifpipegnaaDoor

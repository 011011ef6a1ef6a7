/-
  The Book's fillByte, walked: each list that is held is filled with its mark. Conditions: no two lists share a block; each lies at its block's head.
-/
import Derived.Test.YtbccnkjfjlmflaaGreatDoorBook
namespace Go.Proofs.YtbccnkjfjlmflaaGreatDoor
open Go.RowKit
set_option linter.unusedVariables false

/-- a list that is held: its block (none: nil), how long, what room -/
structure It where
  g : Option Nat
  n : Nat
  c : Nat

def It.val : It → Value
  | ⟨some g, n, c⟩ => .slice (some ⟨g, 0, none⟩) n c
  | ⟨none, _, _⟩ => .slice none 0 0
def It.len : It → Nat
  | ⟨some _, n, _⟩ => n
  | ⟨none, _, _⟩ => 0

/-- the cells of the list of lists -/
def flat (its : List It) (lg : Nat → Option Addr × Nat × Nat) : List Value := (List.range its.length).flatMap fun i => [(its.getD i ⟨none, 0, 0⟩).val, .slice (lg i).1 (lg i).2.1 (lg i).2.2, .int .i64 ((i + 1 : Nat) : Int)]

/-- what the lists' blocks hold -/
def Held (w : World) (base : Nat) (its : List It) (D : Nat → List UInt8) : Prop :=
  ∀ i g n c, its[i]? = some ⟨some g, n, c⟩ → Row w g (D i) ∧ (D i).length = c ∧ n ≤ c ∧ base ≤ g ∧ c ≤ 70368744177664
/-- no two lists share a block -/
def Sep (its : List It) : Prop := ∀ (i j g n c n' c' : Nat), its[i]? = some (It.mk (some g) n c) → its[j]? = some (It.mk (some g) n' c') → i = j

def mk (i : Nat) : UInt8 := UInt8.ofNat (i + 1)
def setD (D : Nat → List UInt8) (k : Nat) (x : List UInt8) : Nat → List UInt8 := fun i => if i = k then x else D i
theorem setD_at (D : Nat → List UInt8) (k : Nat) (x : List UInt8) : setD D k x k = x := by simp [setD]
theorem setD_setD (D : Nat → List UInt8) (k : Nat) (x y : List UInt8) : setD (setD D k x) k y = setD D k y := by funext i; simp only [setD]; split <;> rfl

theorem Held.below {w w' : World} {base : Nat} {its : List It} {D : Nat → List UInt8} (h : Held w base its D) (hb : Below w.heap.size w w') : Held w' base its D := fun i g n c hi =>
  let ⟨h1, h2⟩ := h i g n c hi
  ⟨h1.below hb h1.lt, h2⟩
theorem Held.alloc {w : World} {base : Nat} {its : List It} {D : Nat → List UInt8} (h : Held w base its D) (o : Obj) : Held (w.alloc o) base its D := h.below ((Below.refl _ _).alloc (Nat.le_refl _) o)
theorem Held.set {w : World} {base : Nat} {its : List It} {D : Nat → List UInt8} (h : Held w base its D) (hs : Sep its) (k g n c j : Nat) (hk : its[k]? = some ⟨some g, n, c⟩) (b : UInt8) :
    Held (w.setCell ⟨g, j, none⟩ (.int .u8 ((b.toNat : Nat) : Int))) base its (setD D k ((D k).set j b)) := by
  intro i g' n' c' hi
  obtain ⟨h1, h2, h3, h4, h5⟩ := h i g' n' c' hi
  by_cases he : i = k
  · subst he
    rw [hk] at hi
    obtain ⟨rfl, rfl, rfl⟩ : g = g' ∧ n = n' ∧ c = c' := by simpa using hi
    rw [setD_at]
    exact ⟨h1.set j b, by rw [List.length_set]; exact h2, h3, h4, h5⟩
  · have hne : g' ≠ g := by
      rintro rfl
      exact he (hs i k _ _ _ _ _ hi hk)
    refine ⟨?_, ?_, h3, h4, h5⟩
    · simp only [setD, he, if_false]
      exact (Below.heap_setCell w ⟨g, j, none⟩ _ g' hne).trans h1
    · simp only [setD, he, if_false]
      exact h2
theorem Held.congr {w : World} {base : Nat} {its : List It} {D E : Nat → List UInt8} (h : Held w base its D) (he : ∀ i g n c, its[i]? = some ⟨some g, n, c⟩ → D i = E i) : Held w base its E := fun i g n c hi => by
  have := h i g n c hi
  rw [he i g n c hi] at this
  exact this

theorem Bk.below {w w' : World} {base gb m : Nat} {V : Value} {xs : List Value} (h : Bk w base gb m V xs) (hb : Below w.heap.size w w') : Bk w' base gb m V xs :=
  ⟨(hb.block gb (lt_of_block h.blk)).trans h.blk, by
    refine ⟨h.own.1, ?_⟩
    rcases h.own.2 with h' | ⟨g, cap, cur, h1, h2, h3, r⟩
    · exact .inl h'
    · exact .inr ⟨g, cap, cur, h1, h2, (hb.block g (lt_of_block h3)).trans h3, r⟩⟩
theorem Bk.alloc {w : World} {base gb m : Nat} {V : Value} {xs : List Value} (h : Bk w base gb m V xs) (o : Obj) : Bk (w.alloc o) base gb m V xs := h.below ((Below.refl _ _).alloc (Nat.le_refl _) o)
/-- a store into a block of bytes leaves the Book alone -/
theorem Bk.set {w : World} {base gb m : Nat} {V : Value} {xs : List Value} (h : Bk w base gb m V xs) {g : Nat} {bs : List UInt8} (hr : Row w g bs) (j : Nat) (u : Value) : Bk (w.setCell ⟨g, j, none⟩ u) base gb m V xs := by
  refine ⟨?_, ownsRow_setCell_other h.own (fun e => ?_) u⟩
  · rw [Below.heap_setCell w ⟨g, j, none⟩ u gb (by
      rintro rfl
      have h1 := h.blk
      have h2 : w.heap[gb]? = some (.cells (bvs bs).toArray 5 (0, 0)) := hr
      rw [h2] at h1
      simp at h1)]
    exact h.blk
  · rcases h.own.2 with ⟨rfl, _⟩ | ⟨g', cap, cur, rfl, _, h3, _⟩
    · simp [Value.ownBlock] at e
    · obtain rfl : g' = g := by simpa [Value.ownBlock] using e
      have h2 : w.heap[g']? = some (.cells (bvs bs).toArray 5 (0, 0)) := hr
      rw [h2] at h3
      simp at h3

theorem sum3 (n : Nat) : (List.map (fun _ => 3) (List.range n)).sum = n * 3 := by
  induction n with
  | zero => rfl
  | succ n ih => rw [List.range_succ, List.map_append, List.sum_append, ih]; simp; omega

theorem flat_length (its : List It) (lg : Nat → Option Addr × Nat × Nat) : (flat its lg).length = its.length * 3 := by
  simp [flat, List.length_flatMap, sum3]

theorem flat_get (its : List It) (lg : Nat → Option Addr × Nat × Nat) (i : Nat) (hi : i < its.length) :
    (flat its lg)[i * 3]? = some (its.getD i ⟨none, 0, 0⟩).val ∧ (flat its lg)[i * 3 + 1]? = some (.slice (lg i).1 (lg i).2.1 (lg i).2.2) ∧ (flat its lg)[i * 3 + 2]? = some (.int .i64 ((i + 1 : Nat) : Int)) := by
  have key : ∀ (n : Nat) (f : Nat → List Value), (∀ j, (f j).length = 3) → ∀ i < n, ∀ r < 3, ((List.range n).flatMap f)[i * 3 + r]? = (f i)[r]? := by
    intro n f hf
    induction n with
    | zero => intro i hi; omega
    | succ n ih =>
      intro i hi r hr
      rw [List.range_succ, List.flatMap_append]
      have hl : ((List.range n).flatMap f).length = n * 3 := by simp [List.length_flatMap, hf, sum3]
      by_cases h : i < n
      · rw [List.getElem?_append_left (by rw [hl]; omega)]
        exact ih i h r hr
      · obtain rfl : i = n := by omega
        rw [List.getElem?_append_right (by rw [hl]; omega), hl]
        simp
  have k := key its.length (fun i => [(its.getD i ⟨none, 0, 0⟩).val, .slice (lg i).1 (lg i).2.1 (lg i).2.2, .int .i64 ((i + 1 : Nat) : Int)]) (fun _ => rfl) i hi
  exact ⟨by simpa [flat] using k 0 (by omega), by simpa [flat] using k 1 (by omega), by simpa [flat] using k 2 (by omega)⟩

/-- the list of lists, once it is not empty -/
theorem Bk.form {w : World} {base gb m : Nat} {V : Value} {xs : List Value} (h : Bk w base gb m V xs) (hm : 0 < m) : ∃ gv cv, V = .slice (some ⟨gv, 0, none⟩) m cv ∧ base ≤ gv ∧ gv < w.heap.size ∧ (∀ j, j < m * 3 → w.cell? ⟨gv, j, none⟩ = xs[j]?) := by
  rcases h.own.2 with ⟨_, h0⟩ | ⟨g, cap, cur, rfl, hb, hh, _⟩
  · omega
  · exact ⟨g, cap, rfl, hb, lt_of_block hh, fun j hj => World.ownsRow.cellAt h.own j hj⟩

theorem ret_u8 {k : IntKind} {a b : Int} (h : a = b) : Ending.returned (.int k a) = .returned (.int k b) := by rw [h]

theorem mark_any (i : Nat) (ii : Int) (w : World) (hi : i ≤ 1048576) (hii : ii = ((i + 1 : Nat) : Int)) : Calls Tryz.prog 78 #[.int .i64 ii] w fun e w' => e = .returned (.int .u8 (((mk i).toNat : Nat) : Int)) ∧ w = w' := by
  subst hii
  have HB := hid (p := (((i + 1 : Nat) : Int) % 256) = (((mk i).toNat : Nat) : Int)) (by simp only [mk, UInt8.toNat_ofNat']; omega)
  go_enter Tryz.func78, Tryz.ntmps78
  go_wp2
  go_ret
  exact ⟨ret_u8 (by have := HB.out; omega), rfl⟩

/-- the lists behind k of them were filled -/
def filled (its : List It) (D : Nat → List UInt8) (k : Nat) : Nat → List UInt8 := fun i =>
  if i < k then List.replicate (its.getD i ⟨none, 0, 0⟩).len (mk i) ++ (D i).drop (its.getD i ⟨none, 0, 0⟩).len else D i

set_option maxRecDepth 100000 in
set_option maxHeartbeats 3200000 in
theorem fill_any (base gb gv cv : Nat) (its : List It) (lg : Nat → Option Addr × Nat × Nat) (D : Nat → List UInt8) (w : World) (hp : 0 < its.length) (hm : its.length ≤ 1048576)
    (hk : Bk w base gb its.length (.slice (some ⟨gv, 0, none⟩) its.length cv) (flat its lg)) (hh : Held w base its D) (hs : Sep its) (hbase : base ≤ w.heap.size) :
    Calls Tryz.prog 21 #[.pointer (some ⟨gb, 0, none⟩)] w fun e w' => e = .returned (.tuple #[]) ∧ Bk w' base gb its.length (.slice (some ⟨gv, 0, none⟩) its.length cv) (flat its lg) ∧ Held w' base its (filled its D its.length) ∧ Below base w w' := by
  obtain ⟨m, hmm⟩ : ∃ m, its.length = m := ⟨_, rfl⟩
  rw [hmm] at hk hp hm ⊢
  have HM := hid hmm
  clear hmm
  have HK0 := hid hk
  have HH0 := hid (p := Held w base its (filled its D 0)) (hh.congr (fun i g n c _ => by simp [filled]))
  go_enter Tryz.func21, Tryz.ntmps21
  go_wp2
  go_loopw [2] (fun i wr => ∃ k : Nat, k ≤ m ∧ i = .int .i64 k ∧ Hid (Bk wr base gb m (.slice (some ⟨gv, 0, none⟩) m cv) (flat its lg)) ∧ Hid (Held wr base its (filled its D k)) ∧ Hid (Below base w wr)) (fun i _ => m - (intOf i).toNat)
  case atStart => exact ⟨0, Nat.zero_le _, rfl, HK0.out, HH0.out, Below.refl _ _⟩
  case round =>
    obtain ⟨k, hkm, rfl, HK, HH, HB⟩ := hrel
    clear HK0 HH0 hk hh
    have c1 : wr.cell? ⟨gb, 1, none⟩ = some (.slice (some ⟨gv, 0, none⟩) m cv) := HK.out.cell 1 _ rfl
    by_cases hlt : k < m
    · obtain ⟨gv', cv', hV, hbv, hgv, hcell⟩ := HK.out.form hp
      have hVe : gv' = gv := by injection hV with h1 h2 h3; injection h1 with h1; injection h1 with h1; exact h1.symm
      rw [hVe] at hcell hgv hbv
      clear hV hVe
      obtain ⟨t0, t1, t2⟩ := flat_get its lg k (by rw [HM.out]; exact hlt)
      have v0 := (hcell (k * 3) (by omega)).trans t0
      have v1 := (hcell (k * 3 + 1) (by omega)).trans t1
      have v2 := (hcell (k * 3 + 2) (by omega)).trans t2
      clear hcell t0 t1 t2
      obtain ⟨it, hit⟩ : ∃ it, its[k]? = some it := ⟨_, List.getElem?_eq_getElem (by rw [HM.out]; exact hlt)⟩
      have hget : its.getD k ⟨none, 0, 0⟩ = it := by simp [List.getD, hit]
      rw [hget] at v0
      have HIT := hid hit
      have HGET := hid hget
      clear hit hget
      obtain ⟨_ | g, n, c⟩ := it
      · have v0' : wr.cell? ⟨gv, k * 3, none⟩ = some (.slice none 0 0) := v0
        clear v0
        go_wp2
        refine wp_loop_rounds 1 ?_
        rw [rounds_succ]
        go_wp2
        go_roundw
        case rel =>
          refine ⟨k + 1, by omega, by go_num, HK.out.alloc _, (HH.out.alloc _).congr ?_, HB.out.alloc (Nat.le_trans hbase HB.out.size) _⟩
          intro i g n c hi
          simp only [filled]
          by_cases h1 : i < k
          · rw [if_pos h1, if_pos (by omega)]
          · rw [if_neg h1, if_neg]
            intro h2
            obtain rfl : i = k := by omega
            rw [HIT.out] at hi
            simp at hi
        case measure => simp [intOf]; omega
      · have v0' : wr.cell? ⟨gv, k * 3, none⟩ = some (.slice (some ⟨g, 0, none⟩) n c) := v0
        clear v0
        go_wp2
        clear v0' v1 v2 c1
        have HK1 := hid (HK.out.alloc (.cells #[.slice (some ⟨g, 0, none⟩) n c, .slice (lg k).1 (lg k).2.1 (lg k).2.2, .int .i64 ((k : Int) + 1)] 67))
        have HH1 := hid (p := Held (wr.alloc (.cells #[.slice (some ⟨g, 0, none⟩) n c, .slice (lg k).1 (lg k).2.1 (lg k).2.2, .int .i64 ((k : Int) + 1)] 67)) base its (setD (filled its D k) k (List.replicate 0 (mk k) ++ (D k).drop 0))) ((HH.out.alloc _).congr (fun i g n c _ => by
          simp only [setD]
          by_cases h : i = k
          · subst h; simp [filled]
          · simp [h]))
        have HX1 := hid (heap_alloc_new wr (.cells #[.slice (some ⟨g, 0, none⟩) n c, .slice (lg k).1 (lg k).2.1 (lg k).2.2, .int .i64 ((k : Int) + 1)] 67))
        have HB1 := hid (HB.out.alloc (Nat.le_trans hbase HB.out.size) (.cells #[.slice (some ⟨g, 0, none⟩) n c, .slice (lg k).1 (lg k).2.1 (lg k).2.2, .int .i64 ((k : Int) + 1)] 67))
        generalize wr.alloc (.cells #[.slice (some ⟨g, 0, none⟩) n c, .slice (lg k).1 (lg k).2.1 (lg k).2.2, .int .i64 ((k : Int) + 1)] 67) = w1 at *
        generalize wr.heap.size = gh at *
        clear HK HH HB
        go_loopw [4] (fun i wi => ∃ j : Nat, j ≤ n ∧ i = .int .i64 j ∧ Hid (Bk wi base gb m (.slice (some ⟨gv, 0, none⟩) m cv) (flat its lg)) ∧ Hid (Held wi base its (setD (filled its D k) k (List.replicate j (mk k) ++ (D k).drop j))) ∧ Hid (wi.heap[gh]? = some (.cells #[.slice (some ⟨g, 0, none⟩) n c, .slice (lg k).1 (lg k).2.1 (lg k).2.2, .int .i64 ((k : Int) + 1)] 67 (0, 0))) ∧ Hid (Below base w wi)) (fun i _ => n - (intOf i).toNat)
        case atStart => exact ⟨0, Nat.zero_le _, rfl, HK1.out, HH1.out, HX1.out, HB1.out⟩
        case round =>
          obtain ⟨j, hjn, rfl, HKi, HHi, HXi, HBi⟩ := hrel
          clear HK1 HH1 HX1 HB1
          have b0 : wr.cell? ⟨gh, 0, none⟩ = some (.slice (some ⟨g, 0, none⟩) n c) := by rw [cell_of_row _ _ _ _ 67 (0, 0) HXi.out]; rfl
          have b2 : wr.cell? ⟨gh, 2, none⟩ = some (.int .i64 ((k : Int) + 1)) := by rw [cell_of_row _ _ _ _ 67 (0, 0) HXi.out]; rfl
          obtain ⟨hrow, hlen, hnc, hbg, hcc⟩ := HHi.out k g n c HIT.out
          have HROW := hid hrow
          have HLEN := hid hlen
          clear hrow hlen
          by_cases hjlt : j < n
          · have hjl : j < (setD (filled its D k) k (List.replicate j (mk k) ++ (D k).drop j) k).length := by rw [HLEN.out]; omega
            have x0 := HROW.out.cell j hjl
            have x1 := HROW.out.frozen j
            have HH2 := hid (HHi.out.set hs k g n c j HIT.out (mk k))
            have HK2 := hid (HKi.out.set HROW.out j (.int .u8 (((mk k).toNat : Nat) : Int)))
            have HX2 := hid ((Below.heap_setCell wr ⟨g, j, none⟩ (.int .u8 (((mk k).toNat : Nat) : Int)) gh (by
              rintro rfl
              have h1 := HXi.out
              have h2 : wr.heap[gh]? = some (.cells (bvs _).toArray 5 (0, 0)) := HROW.out
              rw [h2] at h1
              simp at h1)).trans HXi.out)
            have HB2 := hid (HBi.out.setCell (p := ⟨g, j, none⟩) hbg (.int .u8 (((mk k).toNat : Nat) : Int)))
            generalize (setD (filled its D k) k (List.replicate j (mk k) ++ (D k).drop j) k)[j].toNat = y at x0
            clear hjl
            go_wp2_with fail
            have b0' : (wr.setCell ⟨g, j, none⟩ (.int .u8 (((mk k).toNat : Nat) : Int))).cell? ⟨gh, 0, none⟩ = some (.slice (some ⟨g, 0, none⟩) n c) := by rw [cell_of_row _ _ _ _ 67 (0, 0) HX2.out]; rfl
            have b2' : (wr.setCell ⟨g, j, none⟩ (.int .u8 (((mk k).toNat : Nat) : Int))).cell? ⟨gh, 2, none⟩ = some (.int .i64 ((k : Int) + 1)) := by rw [cell_of_row _ _ _ _ 67 (0, 0) HX2.out]; rfl
            go_region_held3 (fun w' => w'.cell? ⟨gh, 0, none⟩ = some (.slice (some ⟨g, 0, none⟩) n c) ∧ w'.cell? ⟨gh, 2, none⟩ = some (.int .i64 ((k : Int) + 1)))
              (first | exact ⟨b0, b2⟩ | exact ⟨b0', b2'⟩ | go_keep)
              (first | (go_at_call 78; refine (mark_any k _ _ (by omega) (by omega)).mono ?_; rintro e w' ⟨rfl, rfl⟩))
            clear b0 b2 b0' b2' x0 x1
            go_wp2
            go_roundw
            case rel =>
              refine ⟨j + 1, by omega, by go_num, hid ⟨HK2.out.blk, HK2.out.own⟩, ?_, HX2.out, HB2.out.drew⟩
              have := HH2.out
              rw [setD_setD, setD_at] at this
              have e : (List.replicate j (mk k) ++ (D k).drop j).set j (mk k) = List.replicate (j + 1) (mk k) ++ (D k).drop (j + 1) := by
                have hl : j < (D k).length := by
                  have h1 := HLEN.out
                  rw [setD_at, List.length_append, List.length_replicate, List.length_drop] at h1
                  omega
                rw [List.set_append, if_neg (by simp), List.length_replicate, Nat.sub_self, List.drop_eq_getElem_cons hl, List.set_cons_zero, List.replicate_succ', List.append_assoc]
                rfl
              rw [e] at this
              exact this
            case measure => simp [intOf]; omega
          · obtain rfl : j = n := by omega
            go_wp2
            go_roundw
            case rel =>
              refine ⟨k + 1, by omega, by go_num, HKi.out, HHi.out.congr ?_, HBi.out⟩
              intro i g' n' c' hi
              simp only [setD, filled]
              by_cases h1 : i = k
              · subst h1
                rw [if_pos rfl, if_pos (by omega), HGET.out]
                rfl
              · rw [if_neg h1]
                by_cases h2 : i < k
                · rw [if_pos h2, if_pos (by omega)]
                · rw [if_neg h2, if_neg (by omega)]
            case measure => simp [intOf]; omega
    · go_wp2
      go_end0
      obtain rfl : k = m := by omega
      exact ⟨rfl, HK.out, HH.out, HB.out⟩
end Go.Proofs.YtbccnkjfjlmflaaGreatDoor

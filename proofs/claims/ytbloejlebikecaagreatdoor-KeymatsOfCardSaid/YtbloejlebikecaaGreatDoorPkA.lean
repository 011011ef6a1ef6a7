/-
  nums.PutLong, walked: the bytes, then all 32 of a long number, in new memory. Condition: no more than 2^47 bytes came in.
  nums.PutBytes, walked: the bytes, then in four how many others there are, then these, in new memory. Condition: no more than 2^46 bytes came in, either time.
  shas.As, walked: the sum of what is spelt. Conditions: the library's table holds what its text lays; a thousand parts at most, each of 2^20 bytes at most.
  nums.told, walked: it answers the number that the bytes tell. Condition: at most eight bytes.
  nums.GetLong, walked: refused, or the long number that the first 32 bytes tell. Condition: the slice's capacity is at most 2^47.
  slices.Clip of a list of parts, walked: the same slice, its capacity its length.
  append of one more part onto a list of parts that is full: a new list. Condition: a thousand parts at most.
  Long numbers of four words, as numbers: no program stands here. Conditions: none.
  A long number as four words, as a value, and in memory; sums and differences of words. Conditions: none.
  What holds from a time on; shas.Number's closure: the region that sums the parts and one byte more, in all its orders. Conditions: as written.
  append of a whole list of parts onto nothing, and of one more part onto a list of one's own. Condition: a thousand parts at most.
-/
import Derived.Test.YtbloejlebikecaaGreatDoorPut
import Derived.StillTailTactics
import Derived.Test.YtbloejlebikecaaGreatDoorOpenRows
import Derived.Test.YtbloejlebikecaaGreatDoorCb
import Derived.Laws.IdiomStrings
import Derived.Deep.Cut
import Derived.Test.YtbloejlebikecaaGreatDoorWords
import Derived.Outline
import Derived.WalkLawsBesides
import Derived.WalkSpells
import Derived.Test.YtbloejlebikecaaGreatDoorPlain
import Derived.Test.YtbloejlebikecaaGreatDoorRows
import Derived.WalkKit
import Derived.Laws.CopyOwn
import Derived.Shelf.Spec.BitsCarry
import Derived.Test.YtbloejlebikecaaGreatDoorOrd
import Derived.Deep.CutRange
namespace Go.Proofs.YtbloejlebikecaaGreatDoor
open Go.RowKit
set_option linter.unusedVariables false

theorem Rd.alloc {w : World} {A : Option Addr} {bs : List UInt8} (h : Rd w A bs) (o : Obj) : Rd (w.alloc o) A bs :=
  h.below ((Below.refl w.heap.size w).alloc (Nat.le_refl _) o) (Nat.le_refl _)

theorem RdW.of_block {w : World} {g h t : Nat} {ws : List Nat} (hw : ∀ x ∈ ws, x < 18446744073709551616) (hh : w.heap[h]? = some (.cells (ws.map fun (x : Nat) => Value.int .u64 (x : Int)).toArray t (0, 0))) (hne : h ≠ g) :
    RdW w g (some ⟨h, 0, none⟩) ws := by
  refine ⟨hw, fun hp => ⟨h, 0, rfl, lt_of_block hh, hne, fun j hj => ?_⟩⟩
  rw [cell_of_row _ _ _ _ t (0, 0) hh]
  simp [hj]

theorem slice_tail (g n m : Nat) (hm : 0 < m) (w : World) :
    (Instr.slice 27 (.slice (some ⟨g, 0, none⟩) (n + m) (n + m)) (some (.int .i64 (n : Int))) none none).run Tryz.prog w = .ok (.slice (some ⟨g, n, none⟩) m m) w := by
  have h5 : Tryz.prog.elem 27 = 5 := by kernel_rfl
  rw [run_slice_l (P := Tryz.prog) w 27 (some ⟨g, 0, none⟩) (n + m) (n + m) (by rw [h5]; exact Tryz.underlying27) .i64 (n : Int) (by omega) (by omega)]
  have hs : (sizeOf 5).run Tryz.prog w = .ok 1 w := by kernel_rfl
  rw [h5, hs]
  simp only [Result.andThen, sliced, Int.toNat_natCast]
  rw [if_neg (by omega)]
  simp only [Option.map, Nat.mul_one, add_plain, Nat.zero_add]
  rw [show n + m - n = m from by omega]

set_option maxRecDepth 100000 in
theorem putLong_any (A : Option Addr) (cp n0 n1 n2 n3 : Nat) (bs : List UInt8) (w : World) (hr : Rd w A bs) (hn : bs.length ≤ 140737488355328)
    (h0 : n0 < 18446744073709551616) (h1 : n1 < 18446744073709551616) (h2 : n2 < 18446744073709551616) (h3 : n3 < 18446744073709551616) :
    Calls Tryz.prog 15 #[.slice A bs.length cp, .agg #[.int .u64 (n0 : Int), .int .u64 (n1 : Int), .int .u64 (n2 : Int), .int .u64 (n3 : Int)]] w fun e w' =>
      e = .returned (.slice (some ⟨w.heap.size + 1, 0, none⟩) (bs.length + 32) (bs.length + 32)) ∧
      Row w' (w.heap.size + 1) (bs ++ be (wnum [n0, n1, n2, n3]) 32) ∧ Below w.heap.size w w' := by
  go_enter Tryz.func15, Tryz.ntmps15
  go_wp2_with fail
  have HA := hid (hr.alloc (.cells #[.int .u64 (n0 : Int), .int .u64 (n1 : Int), .int .u64 (n2 : Int), .int .u64 (n3 : Int)] 24))
  have HN := hid (heap_alloc_new w (.cells #[.int .u64 (n0 : Int), .int .u64 (n1 : Int), .int .u64 (n2 : Int), .int .u64 (n3 : Int)] 24))
  have HB := hid ((Below.refl w.heap.size w).alloc (Nat.le_refl _) (.cells #[.int .u64 (n0 : Int), .int .u64 (n1 : Int), .int .u64 (n2 : Int), .int .u64 (n3 : Int)] 24))
  have HS := hid (p := (w.alloc (.cells #[.int .u64 (n0 : Int), .int .u64 (n1 : Int), .int .u64 (n2 : Int), .int .u64 (n3 : Int)] 24)).heap.size = w.heap.size + 1) (by simp)
  generalize w.alloc (.cells #[.int .u64 (n0 : Int), .int .u64 (n1 : Int), .int .u64 (n2 : Int), .int .u64 (n3 : Int)] 24) = w0 at *
  refine (longer_at A cp 32 _ rfl bs w0 HA.out (by omega)).mono ?_
  rintro e w1 ⟨rfl, HR, hb1⟩
  have HR1 := hid HR
  clear HR
  have HN1 := hid ((hb1.block w.heap.size (by have := HS.out; omega)).trans HN.out)
  have hlt := HR1.out.lt
  have HW := hid (RdW.of_block (w := w1) (g := w0.heap.size) (h := w.heap.size) (t := 24) (ws := [n0, n1, n2, n3]) (by simp; omega) HN1.out (by have := HS.out; omega))
  have hsl := slice_tail w0.heap.size bs.length 32 (by omega)
  go_wp2_with fail
  go_still_tail 5, (by kernel_rfl)
  change wpList _ _ _ _ _ w1.drew
  have HR2 := hid (p := Row w1.drew w0.heap.size (bs ++ List.replicate 32 0)) HR1.out
  have HW2 := hid (p := RdW w1.drew w0.heap.size (some ⟨w.heap.size, 0, none⟩) [n0, n1, n2, n3]) HW.out
  have HB2 := hid (p := Below w.heap.size w w1.drew) ((HB.out.trans (hb1.mono (by have := HS.out; omega))).drew)
  clear HR1 HW hb1 hlt HN1 hsl
  generalize w1.drew = w2 at *
  go_wp2_with fail
  refine (lay_any _ _ w0.heap.size bs.length 32 32 4 _ [n0, n1, n2, n3] _ (fun _ => rfl) HR2.out (by simp) (by simp; omega) HW2.out (by simp) (by simp)).mono ?_
  rintro e w3 ⟨rfl, HR3, hg3⟩
  rw [laid_tail] at HR3
  have HR4 := hid HR3
  have HB3 := hid (HB2.out.grown hg3 (by have := HR2.out.lt; have := HS.out; omega) (by have := HS.out; simp; omega))
  clear HR3 hg3
  go_wp2
  go_ret
  rw [← HS.out]
  exact ⟨rfl, HR4.out, HB3.out⟩
end Go.Proofs.YtbloejlebikecaaGreatDoor
namespace Go.Proofs.YtbloejlebikecaaGreatDoor
open Go.RowKit
set_option linter.unusedVariables false

theorem laid_mid (bs : List UInt8) (N K m : Nat) : laid (bs ++ List.replicate (K + m) 0) (bs.length + K) N K = (bs ++ be N K) ++ List.replicate m 0 := by
  have e : bs.length + K - K = bs.length := by omega
  simp [laid, e]

theorem splice_tail (X : List UInt8) (ls : List UInt8) : splice (bvs (X ++ List.replicate ls.length 0)) X.length (bvs ls) = bvs (X ++ ls) := by
  simp [splice, bvs]

/-- copy(dst, src), dst in a block that is known whole -/
theorem copy_bytes (w : World) (g off dLen dCap sCap : Nat) (D B : Option Addr) (cur ls : List UInt8) (hD : 0 < ls.length → D = some ⟨g, off, none⟩) (hg : Row w g cur) (hl : Rd w B ls)
    (hfit : off + ls.length ≤ cur.length) (hd : ls.length ≤ dLen) :
    ∃ w3, (Builtin.copy_ #[27, 27] 3 #[.slice D dLen dCap, .slice B ls.length sCap]).run Tryz.prog w = .ok (goInt ls.length) w3 ∧
      Row w3 g (cur.take off ++ (ls ++ cur.drop (off + ls.length))) ∧ w.grownBy w3 (some g) := by
  rcases Nat.eq_zero_or_pos ls.length with h0 | h0
  · have hn : ls = [] := List.eq_nil_of_length_eq_zero h0
    subst hn
    refine ⟨w, ?_, by simpa using hg, World.grownBy.refl w _⟩
    exact run_copy_none (P := Tryz.prog) w 27 27 3 5 D B dLen dCap 0 sCap Tryz.underlying27 u8_size (Nat.zero_min _)
  · obtain rfl := hD h0
    obtain ⟨ad, rfl, hc⟩ := hl.cells h0
    have hrun := run_copy_row (P := Tryz.prog) w 27 27 3 5 g off dLen dCap ad ls.length sCap (bvs cur).toArray 5 (bvs ls) Tryz.underlying27 u8_size hg
      (by rw [bvs_length]; exact (Nat.min_eq_left hd).symm) hc (by simpa [bvs_length] using hfit) (bvs_one ls)
    rw [bvs_length] at hrun
    refine ⟨_, hrun, ?_, ?_⟩
    · have := setRow_heap w g _ ((bvs cur).take off ++ bvs ls ++ (bvs cur).drop (off + ls.length)).toArray 5 (0, 0) hg
      unfold Row
      rw [bvs_append, bvs_append, bvs_take, bvs_drop, ← List.append_assoc]
      exact this
    · exact ⟨rfl, rfl, rfl, by simp [World.setRow], fun k hk hne => setRow_other w g k _ (fun e => hne (by rw [e]))⟩

end Go.Proofs.YtbloejlebikecaaGreatDoor
namespace Go.Proofs.YtbloejlebikecaaGreatDoor
open Go.RowKit
set_option linter.unusedVariables false
set_option linter.unusedSimpArgs false

/-- parts, each behind how many bytes it has -/
def flat (xs : Nat → List UInt8) : Nat → List UInt8
  | 0 => []
  | k + 1 => flat xs k ++ (be (xs k).length 4 ++ xs k)
/-- what is summed -/
def spelt (s : List UInt8) (n : Nat) (xs : Nat → List UInt8) (k : Nat) : List UInt8 := ((be s.length 4 ++ s) ++ be n 4) ++ flat xs k
theorem flat_length (xs : Nat → List UInt8) (k : Nat) (h : ∀ r, r < k → (xs r).length ≤ 1048576) : (flat xs k).length ≤ k * 1048580 := by
  induction k with
  | zero => simp [flat]
  | succ k ih =>
    have h1 := ih (fun r hr => h r (by omega))
    have h2 := h k (by omega)
    rw [flat, List.length_append, List.length_append, be_length]
    omega
theorem spelt_length (s : List UInt8) (n : Nat) (xs : Nat → List UInt8) (k : Nat) (h : ∀ r, r < k → (xs r).length ≤ 1048576) : (spelt s n xs k).length ≤ s.length + 8 + k * 1048580 := by
  have := flat_length xs k h
  simp only [spelt, List.length_append, be_length]
  omega
/-- bytes of a text, made anew -/
theorem conv_str (s : ByteArray) (w : World) : ∃ cap w2, Hid ((convert 9 27 (.string s)).run Tryz.prog w = .ok (.slice (some ⟨w.heap.size, 0, none⟩) s.size cap) w2) ∧ Hid (Rd w2 (some ⟨w.heap.size, 0, none⟩) s.data.toList) ∧ Hid (Below w.heap.size w w2) := by
  refine ⟨_, _, hid (run_bytes_of_string w 9 27 5 s Tryz.underlying9 Tryz.underlying27 Tryz.underlying5), hid ?_, hid ((Below.refl w.heap.size w).drew.alloc (Nat.le_refl _) _)⟩
  intro hp
  refine ⟨w.heap.size, 0, rfl, by simp, fun j hj => ?_⟩
  have hh : ∀ o : Obj, (w.drew.alloc o).heap[w.heap.size]? = some o := fun o => heap_alloc_new w.drew o
  rw [cell_of_row _ _ _ _ 5 _ (hh _)]
  have hj2 : j < s.data.size := by simpa using hj
  have hj3 : j < s.size := hj2
  simp [bytesRow, Array.getElem?_append, hj2, hj3]
theorem pn_at (n : Nat) (w : World) (hn : n < 18446744073709551616) :
    Calls Tryz.prog 117 #[.slice none 0 0, .int .u64 (n : Int), .int .i64 4] w fun e w' => e = .returned (.slice (some ⟨w.heap.size, 0, none⟩) 4 4) ∧ Hid (Row w' w.heap.size (be n 4)) ∧ Hid (Below w.heap.size w w') := by
  refine (put_any none 0 n 4 4 [] w (Rd.nil _ _) (by decide) hn (by decide)).mono ?_
  rintro e w1 ⟨rfl, h1, h2⟩
  exact ⟨by simp, hid (by simpa using h1), hid h2⟩
theorem add_cb {w wr : World} {g : Nat} {bs : List UInt8} {l : List (Nat × List UInt8)} (H : Hid (Cb w g bs l wr)) (A : Option Addr) (c n : Nat) (part : List UInt8) (hn : part.length = n) (hr : Rd wr A part) (hA : 0 < n → ∀ ad, A = some ad → ad.block ≠ g) (hc : n ≤ c) (hlen : bs.length + n ≤ 140737488355328) :
    Calls Tryz.prog 109 #[.pointer (some ⟨g, 0, none⟩), .slice A n c] wr fun e w' => e = .returned (.tuple #[]) ∧ Hid (Cb w g (bs ++ part) l w') := by
  refine (add_any g A c bs part wr n hn H.out.1.run hr hA hc H.out.1.kt H.out.1.n3 hlen).mono ?_
  rintro e w1 ⟨rfl, h1, h2⟩
  exact ⟨rfl, hid ⟨H.out.1.put h1 h2, fun p hp => ⟨(H.out.2 p hp).1.grown h2 (H.out.2 p hp).2, (H.out.2 p hp).2⟩⟩⟩
theorem Cb.fresh {w wr : World} {g : Nat} {bs : List UInt8} {l : List (Nat × List UInt8)} (H : Cb w g bs l wr) : wr.heap.size ≠ g := Nat.ne_of_gt H.1.run.lt
end Go.Proofs.YtbloejlebikecaaGreatDoor
namespace Go.Proofs.YtbloejlebikecaaGreatDoor
open Go.RowKit

end Go.Proofs.YtbloejlebikecaaGreatDoor
namespace Go.Proofs.YtbloejlebikecaaGreatDoor
open Go.RowKit
set_option linter.unusedVariables false

/-- the eight bytes of word j, the highest word ahead -/
def word (bs : List UInt8) (j : Nat) : Nat := tell ((bs.drop (8 * j)).take 8)

end Go.Proofs.YtbloejlebikecaaGreatDoor
namespace Go.Proofs.YtbloejlebikecaaGreatDoor
open Go.RowKit
set_option linter.unusedVariables false
end Go.Proofs.YtbloejlebikecaaGreatDoor
namespace Go.Proofs.YtbloejlebikecaaGreatDoor
open Go.RowKit
set_option linter.unusedVariables false
theorem row_info : (Tryz.prog.info? 27).map (fun i => (i.zero, i.size, i.bytes)) = some (some (.slice none 0 0), 1, 24) := by kernel_rfl
/-- this, but the n-th and what follows that -/
def nx {T : Type} (n : Nat) (f : Nat → T) (y : T) : Nat → T := fun r => if r < n then f r else y
def cellsOf (n : Nat) (A : Nat → Option Addr) (L C : Nat → Nat) : List Value := (List.range n).map fun r => Value.slice (A r) (L r) (C r)
theorem cellsOf_length (n : Nat) (A : Nat → Option Addr) (L C : Nat → Nat) : (cellsOf n A L C).length = n := by simp [cellsOf]
theorem cellsOf_at {n r : Nat} (A : Nat → Option Addr) (L C : Nat → Nat) (h : r < n) : (cellsOf n A L C)[r]? = some (.slice (A r) (L r) (C r)) := by simp [cellsOf, h]
set_option maxRecDepth 100000 in
theorem rows_more (w : World) (a0 : Option Addr) (n0 : Nat) (A : Nat → Option Addr) (L C : Nat → Nat) (xs : Nat → List UInt8) (hR : Rws w a0 n0 A L C xs) (hn : n0 ≤ 1000) (h0 : a0 = none → n0 = 0)
    (b d b1 : Nat) (x : UInt8) (hb : w.cell? ⟨b, 0, none⟩ = some (.slice (some ⟨b1, 0, none⟩) 1 1)) (hr : Rd w (some ⟨b1, 0, none⟩) [x]) :
    ∃ g c w', (Builtin.append_ #[63, 63] 63 #[.slice a0 n0 n0, .slice (some ⟨b, 0, none⟩) 1 d]).run Tryz.prog w = .ok (.slice (some ⟨g, 0, none⟩) (n0 + 1) c) w' ∧ Below w.heap.size w w' ∧ w.heap.size ≤ g ∧ n0 + 1 ≤ c ∧ c ≤ 9223372036854775807 ∧
      Rws w' (some ⟨g, 0, none⟩) (n0 + 1) (nx n0 A (some ⟨b1, 0, none⟩)) (nx n0 L 1) (nx n0 C 1) (nx n0 xs [x]) := by
  obtain ⟨i0, hi, hz0, hz1, hz2⟩ := info_parts row_info
  have hgo : ∃ v' w', (Builtin.append_ #[63, 63] 63 #[.slice a0 n0 n0, .slice (some ⟨b, 0, none⟩) 1 d]).run Tryz.prog w = .ok v' w' ∧ w'.ownsRow w.heap.size 27 1 v' (n0 + 1) (cellsOf n0 A L C ++ [.slice (some ⟨b1, 0, none⟩) 1 1]) ∧ w.grownBy w' none := by
    have hnew : ∀ j u, ([Value.slice (some ⟨b1, 0, none⟩) 1 1] : List Value)[j]? = some u → w.cell? ((⟨b, 0, none⟩ : Addr).add j) = some u := by
      intro j u hj
      rcases j with _ | j
      · simp only [List.getElem?_cons_zero, Option.some.injEq] at hj
        subst hj
        rw [Addr.add_lit]; exact hb
      · simp at hj
    rcases a0 with _ | ad
    · obtain rfl := h0 rfl
      obtain ⟨v', w', hrun, h2, h3, _⟩ := run_append_own (P := Tryz.prog) w w.heap.size 63 63 27 i0 (.slice none 0 0) 1 24 Tryz.underlying63 hi hz0 hz1 hz2 rfl (by omega) (.slice none 0 0) 0 [] (World.ownsRow_nil w _ 27 1) ⟨b, 0, none⟩ 1 d _ rfl hnew (by simp [Value.oneCell']) (by simp only [maxLen]; omega) (by omega) (Nat.le_refl _)
      exact ⟨v', w', hrun, h2, h3⟩
    · exact run_append_arg_grows (P := Tryz.prog) w 63 63 27 i0 (.slice none 0 0) 1 24 Tryz.underlying63 hi hz0 hz1 hz2 rfl (by omega) ad n0 n0 (cellsOf n0 A L C) (by rw [cellsOf_length, Nat.mul_one])
        (fun j u hj => by
          have hj2 : j < n0 := by
            rcases Nat.lt_or_ge j n0 with h | h
            · exact h
            · rw [List.getElem?_eq_none (by rw [cellsOf_length]; exact h)] at hj; cases hj
          rw [cellsOf_at A L C hj2] at hj
          injection hj with hj; subst hj
          obtain ⟨⟨go, o, e1, _, hc⟩, _⟩ := hR j hj2
          injection e1 with e1; subst e1
          rw [Addr.add_lit]; exact hc) ⟨b, 0, none⟩ 1 d _ rfl hnew (by omega) (by simp only [maxLen]; omega) (by omega)
  obtain ⟨v', w', hrun, hown, hgr⟩ := hgo
  have hB : Below w.heap.size w w' := below_grown (Below.refl _ _) (hgr.but (some w.heap.size)) (Nat.le_refl _) (Nat.le_refl _)
  rcases hown.2 with ⟨_, h⟩ | ⟨g, cap, cur, rfl, hbg, hh, hnc, hm, hs, ht⟩
  · omega
  · refine ⟨g, cap, w', hrun, hB, hbg, hnc, hm, fun r hr2 => ?_⟩
    have hcell := World.ownsRow.cellAt hown r (by omega)
    rcases Nat.lt_or_ge r n0 with hlt | hge
    · obtain ⟨_, k1, k2, k3, k4, k5⟩ := hR r hlt
      simp only [nx, hlt, if_true]
      refine ⟨⟨g, 0, rfl, lt_of_block hh, ?_⟩, k1, k2.below hB (Nat.le_refl _), k3, k4, k5⟩
      rw [Nat.zero_add, hcell, List.getElem?_append_left (by rw [cellsOf_length]; exact hlt), cellsOf_at A L C hlt]
    · obtain rfl : r = n0 := by omega
      simp only [nx, Nat.lt_irrefl, if_false]
      refine ⟨⟨g, 0, rfl, lt_of_block hh, ?_⟩, rfl, hr.below hB (Nat.le_refl _), Nat.le_refl _, by omega, fun h => by cases h⟩
      rw [Nat.zero_add, hcell, List.getElem?_append_right (by rw [cellsOf_length]; exact Nat.le_refl _), cellsOf_length]
      simp
end Go.Proofs.YtbloejlebikecaaGreatDoor
namespace Go.Proofs.YtbloejlebikecaaGreatDoor
set_option linter.unusedVariables false

/-- the number of four words, the lowest first -/
def v4 (a b c d : Nat) : Nat := a + 18446744073709551616 * (b + 18446744073709551616 * (c + 18446744073709551616 * d))

theorem v4_lt {a b c d : Nat} (h0 : a < 18446744073709551616) (h1 : b < 18446744073709551616) (h2 : c < 18446744073709551616) (h3 : d < 18446744073709551616) : v4 a b c d < 2 ^ 256 := by
  unfold v4
  have : (2 : Nat) ^ 256 = 115792089237316195423570985008687907853269984665640564039457584007913129639936 := by decide
  omega

theorem v4_inj {a b c d a' b' c' d' : Nat} (h0 : a < 18446744073709551616) (h1 : b < 18446744073709551616) (h2 : c < 18446744073709551616) (h3 : a' < 18446744073709551616) (h4 : b' < 18446744073709551616) (h5 : c' < 18446744073709551616)
    (h : v4 a b c d = v4 a' b' c' d') : a = a' ∧ b = b' ∧ c = c' ∧ d = d' := by
  unfold v4 at h
  omega

theorem v4_mk (n : Nat) (h : n < 2 ^ 256) : ∃ a b c d, n = v4 a b c d ∧ a < 18446744073709551616 ∧ b < 18446744073709551616 ∧ c < 18446744073709551616 ∧ d < 18446744073709551616 := by
  have e : (2 : Nat) ^ 256 = 115792089237316195423570985008687907853269984665640564039457584007913129639936 := by decide
  rw [e] at h
  refine ⟨n % 18446744073709551616, n / 18446744073709551616 % 18446744073709551616, n / 340282366920938463463374607431768211456 % 18446744073709551616, n / 6277101735386680763835789423207666416102355444464034512896, ?_, ?_, ?_, ?_, ?_⟩
  all_goals (try unfold v4)
  all_goals omega

/-- a bit, as 0 or 1 -/
def bitAt (n i : Nat) : Nat := n / 2 ^ i % 2
theorem bitAt_lt (n i : Nat) : bitAt n i < 2 := Nat.mod_lt _ (by decide)
theorem bit_step (n i : Nat) : n / 2 ^ i = 2 * (n / 2 ^ (i + 1)) + bitAt n i := by
  unfold bitAt
  rw [Nat.pow_succ, ← Nat.div_div_eq_div_mul]
  omega
theorem low_step (n i : Nat) : n % 2 ^ (i + 1) = n % 2 ^ i + 2 ^ i * bitAt n i := by
  unfold bitAt
  rw [Nat.mod_pow_succ]
theorem bitAt_high (n i k : Nat) (h : n < 2 ^ k) (hi : k ≤ i) : bitAt n i = 0 := by
  unfold bitAt
  rw [Nat.div_eq_of_lt (Nat.lt_of_lt_of_le h (Nat.pow_le_pow_right (by decide) hi))]

theorem word_bit (x r i : Nat) (hx : x < 18446744073709551616) (hi : i < 64) : bitAt (x + 18446744073709551616 * r) i = bitAt x i := by
  unfold bitAt
  have e : (18446744073709551616 : Nat) = 2 ^ i * (2 * 2 ^ (63 - i)) := by
    have : (18446744073709551616 : Nat) = 2 ^ 64 := by decide
    rw [this, ← Nat.pow_succ', ← Nat.pow_add]
    congr 1; omega
  rw [e, Nat.mul_assoc, Nat.add_mul_div_left _ _ (Nat.two_pow_pos i), Nat.mul_assoc, Nat.add_mul_mod_self_left]
theorem word_up (x r i : Nat) (hx : x < 18446744073709551616) : bitAt (x + 18446744073709551616 * r) (i + 64) = bitAt r i := by
  unfold bitAt
  have e : (2 : Nat) ^ (i + 64) = 18446744073709551616 * 2 ^ i := by rw [Nat.pow_add, Nat.mul_comm]
  rw [e, ← Nat.div_div_eq_div_mul]
  have : (x + 18446744073709551616 * r) / 18446744073709551616 = r := by omega
  rw [this]
theorem bit_v4 {a b c d : Nat} (h0 : a < 18446744073709551616) (h1 : b < 18446744073709551616) (h2 : c < 18446744073709551616) (h3 : d < 18446744073709551616) (j i : Nat) (hi : i < 64) :
    bitAt (v4 a b c d) (i + 64 * j) = bitAt ([a, b, c, d].getD j 0) i := by
  unfold v4
  match j with
  | 0 => exact word_bit a _ i h0 hi
  | 1 => rw [show i + 64 * 1 = i + 64 from rfl, word_up _ _ _ h0, word_bit _ _ _ h1 hi]; rfl
  | 2 => rw [show i + 64 * 2 = (i + 64) + 64 by omega, word_up _ _ _ h0, word_up _ _ _ h1, word_bit _ _ _ h2 hi]; rfl
  | 3 =>
    rw [show i + 64 * 3 = ((i + 64) + 64) + 64 by omega, word_up _ _ _ h0, word_up _ _ _ h1, word_up _ _ _ h2]; rfl
  | j + 4 =>
    have := bitAt_high (v4 a b c d) (i + 64 * (j + 4)) 256 (v4_lt h0 h1 h2 h3) (by omega)
    unfold v4 at this
    rw [this]
    simp [bitAt]

/-- how many bits a number needs -/
def nbits (n : Nat) : Nat := if n = 0 then 0 else n.log2 + 1
theorem nbits_lt (n : Nat) : n < 2 ^ nbits n := by
  unfold nbits
  split
  · subst n; decide
  · exact Nat.lt_log2_self
theorem nbits_le (n : Nat) (h : 0 < n) : 2 ^ (nbits n - 1) ≤ n := by
  unfold nbits
  rw [if_neg (by omega)]
  exact Nat.log2_self_le (by omega)
theorem nbits_pos (n : Nat) (h : 0 < n) : 0 < nbits n := by unfold nbits; rw [if_neg (by omega)]; omega
theorem nbits_zero : nbits 0 = 0 := rfl
theorem nbits_of (n k : Nat) (h1 : 2 ^ k ≤ n) (h2 : n < 2 ^ (k + 1)) : nbits n = k + 1 := by
  have hp : 0 < n := Nat.lt_of_lt_of_le (Nat.two_pow_pos k) h1
  have a := nbits_lt n
  have b := nbits_le n hp
  have c := nbits_pos n hp
  have d : k < nbits n := (Nat.pow_lt_pow_iff_right (by decide)).1 (Nat.lt_of_le_of_lt h1 a)
  have e : nbits n - 1 < k + 1 := (Nat.pow_lt_pow_iff_right (by decide)).1 (Nat.lt_of_le_of_lt b h2)
  omega
theorem nbits_up (n k : Nat) (h : n < 2 ^ k) : nbits n ≤ k := by
  rcases Nat.eq_zero_or_pos n with rfl | hp
  · exact Nat.zero_le _
  · have b := nbits_le n hp
    have e : nbits n - 1 < k := (Nat.pow_lt_pow_iff_right (by decide)).1 (Nat.lt_of_le_of_lt b h)
    omega
theorem nbits_mono {n m : Nat} (h : n ≤ m) : nbits n ≤ nbits m := nbits_up n _ (Nat.lt_of_le_of_lt h (nbits_lt m))

/-- a product of two that are not 0 needs as many bits as both, or one fewer -/
theorem nbits_mul (a b : Nat) (ha : 0 < a) (hb : 0 < b) : nbits (a * b) = nbits a + nbits b ∨ nbits (a * b) + 1 = nbits a + nbits b := by
  have a1 := nbits_lt a
  have a2 := nbits_le a ha
  have b1 := nbits_lt b
  have b2 := nbits_le b hb
  have pa := nbits_pos a ha
  have pb := nbits_pos b hb
  have u : a * b < 2 ^ (nbits a + nbits b) := by rw [Nat.pow_add]; exact Nat.mul_lt_mul'' a1 b1
  have l : 2 ^ (nbits a - 1 + (nbits b - 1)) ≤ a * b := by rw [Nat.pow_add]; exact Nat.mul_le_mul a2 b2
  have u' := nbits_up _ _ u
  have l' := nbits_mono l
  have e := nbits_of (2 ^ (nbits a - 1 + (nbits b - 1))) (nbits a - 1 + (nbits b - 1)) (Nat.le_refl _) (Nat.pow_lt_pow_right (by decide) (by omega))
  omega
/-- a sum needs one bit more than the longer one at most, and no fewer -/
theorem nbits_add (a b : Nat) : nbits (a + b) = max (nbits a) (nbits b) ∨ nbits (a + b) = max (nbits a) (nbits b) + 1 := by
  have a1 := nbits_lt a
  have b1 := nbits_lt b
  have c1 : 2 ^ nbits a ≤ 2 ^ max (nbits a) (nbits b) := Nat.pow_le_pow_right (by decide) (Nat.le_max_left _ _)
  have c2 : 2 ^ nbits b ≤ 2 ^ max (nbits a) (nbits b) := Nat.pow_le_pow_right (by decide) (Nat.le_max_right _ _)
  have u := nbits_up (a + b) (max (nbits a) (nbits b) + 1) (by rw [Nat.pow_succ]; omega)
  have l1 := nbits_mono (Nat.le_add_right a b)
  have l2 := nbits_mono (Nat.le_add_left b a)
  omega

/-- a product by doubling, from the highest bit on: a round -/
theorem mul_dbl {M low high T : Nat} (hM : 0 < M) (h : low + M * high = T) (hb : 2 * T < M * M) : 2 * low % M + M * (2 * high + 2 * low / M) = 2 * T ∧ 2 * high + 2 * low / M < M ∧ 2 * high < M := by
  have e := Nat.mod_add_div (2 * low) M
  have q : 2 * low % M + M * (2 * high + 2 * low / M) = 2 * T := by
    rw [← h, Nat.mul_add, Nat.mul_add, Nat.mul_left_comm M 2 high]
    omega
  refine ⟨q, ?_, ?_⟩
  · have : M * (2 * high + 2 * low / M) < M * M := by omega
    exact Nat.lt_of_mul_lt_mul_left this
  · have : M * (2 * high) < M * M := by rw [Nat.mul_left_comm]; omega
    exact Nat.lt_of_mul_lt_mul_left this
/-- and an addition to both -/
theorem mul_add {M low high T a : Nat} (hM : 0 < M) (h : low + M * high = T) (hb : T + a < M * M) : (low + a) % M + M * (high + (low + a) / M) = T + a ∧ high + (low + a) / M < M := by
  have e := Nat.mod_add_div (low + a) M
  have q : (low + a) % M + M * (high + (low + a) / M) = T + a := by
    rw [← h, Nat.mul_add]
    omega
  refine ⟨q, ?_⟩
  have : M * (high + (low + a) / M) < M * M := by omega
  exact Nat.lt_of_mul_lt_mul_left this
theorem mul_bits (a b i : Nat) : a * (b / 2 ^ i) = 2 * (a * (b / 2 ^ (i + 1))) + a * bitAt b i := by
  rw [bit_step b i, Nat.mul_add, Nat.mul_left_comm]
theorem mul_low (a b i : Nat) : a * (b % 2 ^ (i + 1)) = a * (b % 2 ^ i) + a * 2 ^ i * bitAt b i := by
  rw [low_step b i, Nat.mul_add, Nat.mul_assoc]
/-- a product parted at M is told by its low and its high part -/
theorem parts_inj {M l h l' h' : Nat} (h1 : l < M) (h2 : l' < M) (e : l + M * h = l' + M * h') : l = l' ∧ h = h' := by
  have a : (l + M * h) % M = (l' + M * h') % M := by rw [e]
  rw [Nat.add_mul_mod_self_left, Nat.add_mul_mod_self_left, Nat.mod_eq_of_lt h1, Nat.mod_eq_of_lt h2] at a
  subst a
  have b : M * h = M * h' := by omega
  exact ⟨rfl, Nat.eq_of_mul_eq_mul_left (by omega) b⟩

/-- going round, the difference of two squares -/
theorem squares {M a b : Nat} (ha : a < M) (hb : b < M) : (a * a % M + (M - b * b % M)) % M = (a + b) % M * ((a + (M - b)) % M) % M := by
  have hp : 0 < M := by omega
  have h1 := Nat.mod_lt (b * b) hp
  apply Int.ofNat.inj
  show ((((a * a % M + (M - b * b % M)) % M : Nat)) : Int) = (((a + b) % M * ((a + (M - b)) % M) % M : Nat) : Int)
  simp only [Int.natCast_emod, Int.natCast_mul, Int.natCast_add, Int.ofNat_sub (Nat.le_of_lt hb), Int.ofNat_sub (Nat.le_of_lt h1)]
  have e1 : (((a : Int) * a % M + (M - (b : Int) * b % M)) % M) = ((a : Int) * a - b * b) % M := by
    rw [show ((a : Int) * a % M + (M - (b : Int) * b % M)) = ((a : Int) * a % M - (b : Int) * b % M) + M by omega, Int.add_emod_right, ← Int.sub_emod]
  have e2 : (((a : Int) + b) % M * (((a : Int) + (M - b)) % M) % M) = ((a : Int) * a - b * b) % M := by
    rw [← Int.mul_emod]
    have : ((a : Int) + b) * ((a : Int) + (M - b)) = ((a : Int) * a - b * b) + M * (a + b) := by grind
    rw [this, Int.add_mul_emod_self_left]
  rw [e1, e2]

/-- moved up twice, moved down twice -/
theorem up_up (M a m n : Nat) : a * 2 ^ m % M * 2 ^ n % M = a * 2 ^ (m + n) % M := by
  rw [Nat.mod_mul_mod, Nat.mul_assoc, ← Nat.pow_add]
theorem down_down (a m n : Nat) : a / 2 ^ m / 2 ^ n = a / 2 ^ (m + n) := by
  rw [Nat.div_div_eq_div_mul, ← Nat.pow_add]
/-- down and up again -/
theorem down_up (a m : Nat) : a / 2 ^ m * 2 ^ m + a % 2 ^ m = a := by
  rw [Nat.mul_comm]; exact Nat.div_add_mod a _
theorem up_down (a m k : Nat) (h : m ≤ k) : a * 2 ^ (k - m) % 2 ^ k / 2 ^ (k - m) = a % 2 ^ m := by
  have e : 2 ^ k = 2 ^ m * 2 ^ (k - m) := by rw [← Nat.pow_add]; congr 1; omega
  rw [e, Nat.mul_mod_mul_right, Nat.mul_div_cancel _ (Nat.two_pow_pos _)]
/-- a number moved up by i, below 2^k, in two parts -/
theorem up_parts (a i k : Nat) (h : i ≤ k) : a * 2 ^ i = a * 2 ^ i % 2 ^ k + 2 ^ k * (a / 2 ^ (k - i)) := by
  have e : 2 ^ k = 2 ^ (k - i) * 2 ^ i := by rw [← Nat.pow_add]; congr 1; omega
  have := Nat.mod_add_div (a * 2 ^ i) (2 ^ k)
  rw [show a * 2 ^ i / 2 ^ k = a / 2 ^ (k - i) by rw [e, Nat.mul_div_mul_right _ _ (Nat.two_pow_pos _)]] at this
  exact this.symm
/-- a round of LimbsSteps: what is moved up by i is added -/
theorem steps_round {a b low high i k : Nat} (ha : a < 2 ^ k) (hb : b < 2 ^ k) (hi : i < k) (hl : low < 2 ^ k) (h : low + 2 ^ k * high = a * (b % 2 ^ i)) (hbit : bitAt b i = 1) :
    (low + a * 2 ^ i % 2 ^ k) % 2 ^ k + 2 ^ k * (high + (low + a * 2 ^ i % 2 ^ k) / 2 ^ k + a / 2 ^ (k - i)) = a * (b % 2 ^ (i + 1)) := by
  have e := Nat.mod_add_div (low + a * 2 ^ i % 2 ^ k) (2 ^ k)
  have p := up_parts a i k (by omega)
  rw [mul_low, hbit, ← h, Nat.mul_one]
  rw [Nat.mul_add, Nat.mul_add]
  omega
theorem prod_lt {a b k : Nat} (ha : a < 2 ^ k) (hb : b < 2 ^ k) : a * b < 2 ^ k * 2 ^ k := Nat.mul_lt_mul'' ha hb

/-- a word's sum with what is kept -/
theorem addc {x y k : Nat} (hx : x < 18446744073709551616) (hy : y < 18446744073709551616) (hk : k ≤ 1) :
    ((x + y) % 18446744073709551616 + k) % 18446744073709551616 + 18446744073709551616 * (if (x + y) % 18446744073709551616 < y ∨ ((x + y) % 18446744073709551616 + k) % 18446744073709551616 < k then 1 else 0) = x + y + k := by
  split <;> omega
/-- a word's difference with what is lent -/
theorem subb {x y k : Nat} (hx : x < 18446744073709551616) (hy : y < 18446744073709551616) (hk : k ≤ 1) :
    ((x + 18446744073709551616 - y) % 18446744073709551616 + 18446744073709551616 - k) % 18446744073709551616 + y + k = x + 18446744073709551616 * (if x < y ∨ (x + 18446744073709551616 - y) % 18446744073709551616 < k then 1 else 0) := by
  split <;> omega
theorem v4_addc {a0 a1 a2 a3 b0 b1 b2 b3 t0 t1 t2 t3 k0 k1 k2 k3 k4 : Nat} (h0 : t0 + 18446744073709551616 * k1 = a0 + b0 + k0) (h1 : t1 + 18446744073709551616 * k2 = a1 + b1 + k1) (h2 : t2 + 18446744073709551616 * k3 = a2 + b2 + k2) (h3 : t3 + 18446744073709551616 * k4 = a3 + b3 + k3) :
    v4 t0 t1 t2 t3 + 2 ^ 256 * k4 = v4 a0 a1 a2 a3 + v4 b0 b1 b2 b3 + k0 := by
  have e : (2 : Nat) ^ 256 = 115792089237316195423570985008687907853269984665640564039457584007913129639936 := by decide
  rw [e]
  unfold v4
  omega
theorem v4_subb {a0 a1 a2 a3 b0 b1 b2 b3 t0 t1 t2 t3 k0 k1 k2 k3 k4 : Nat} (h0 : t0 + b0 + k0 = a0 + 18446744073709551616 * k1) (h1 : t1 + b1 + k1 = a1 + 18446744073709551616 * k2) (h2 : t2 + b2 + k2 = a2 + 18446744073709551616 * k3) (h3 : t3 + b3 + k3 = a3 + 18446744073709551616 * k4) :
    v4 t0 t1 t2 t3 + v4 b0 b1 b2 b3 + k0 = v4 a0 a1 a2 a3 + 2 ^ 256 * k4 := by
  have e : (2 : Nat) ^ 256 = 115792089237316195423570985008687907853269984665640564039457584007913129639936 := by decide
  rw [e]
  unfold v4
  omega
/-- which of two is below: the highest word that is unlike says it -/
theorem v4_cmp {a0 a1 a2 a3 b0 b1 b2 b3 : Nat} (h0 : a0 < 18446744073709551616) (h1 : a1 < 18446744073709551616) (h2 : a2 < 18446744073709551616) (h3 : b0 < 18446744073709551616) (h4 : b1 < 18446744073709551616) (h5 : b2 < 18446744073709551616) :
    (v4 a0 a1 a2 a3 < v4 b0 b1 b2 b3) ↔ (a3 < b3 ∨ (a3 = b3 ∧ (a2 < b2 ∨ (a2 = b2 ∧ (a1 < b1 ∨ (a1 = b1 ∧ a0 < b0)))))) := by
  unfold v4
  omega
theorem bit_none {a n : Nat} (h : a < 2 ^ (n + 1)) (hb : bitAt a n = 0) : a < 2 ^ n := by
  have := bit_step a n
  rw [hb, Nat.div_eq_of_lt h] at this
  exact (Nat.div_eq_zero_iff_lt (Nat.two_pow_pos n)).1 (by omega)
theorem bit_some {a n : Nat} (hb : bitAt a n = 1) : 2 ^ n ≤ a := by
  rcases Nat.lt_or_ge a (2 ^ n) with h | h
  · unfold bitAt at hb
    rw [Nat.div_eq_of_lt h] at hb
    simp at hb
  · exact h
theorem bit_top {a n : Nat} (h : a < 2 ^ (n + 1)) (hb : bitAt a n = 1) : nbits a = n + 1 := nbits_of a n (bit_some hb) h
/-- each bit turned -/
theorem v4_turned {a b c d : Nat} (h0 : a < 18446744073709551616) (h1 : b < 18446744073709551616) (h2 : c < 18446744073709551616) (h3 : d < 18446744073709551616) :
    v4 (18446744073709551615 - a) (18446744073709551615 - b) (18446744073709551615 - c) (18446744073709551615 - d) + v4 a b c d + 1 = 2 ^ 256 := by
  have e : (2 : Nat) ^ 256 = 115792089237316195423570985008687907853269984665640564039457584007913129639936 := by decide
  rw [e]
  unfold v4
  omega
end Go.Proofs.YtbloejlebikecaaGreatDoor
namespace Go.Proofs.YtbloejlebikecaaGreatDoor
open Go.RowKit
set_option linter.unusedVariables false

/-- word i of a number -/
def wd (x i : Nat) : Nat := x / 18446744073709551616 ^ i % 18446744073709551616
theorem wd_lt (x i : Nat) : wd x i < 18446744073709551616 := Nat.mod_lt _ (by decide)
theorem p256 : (2 : Nat) ^ 256 = 115792089237316195423570985008687907853269984665640564039457584007913129639936 := by decide
theorem v4_wd (x : Nat) (h : x < 2 ^ 256) : v4 (wd x 0) (wd x 1) (wd x 2) (wd x 3) = x := by
  rw [p256] at h
  unfold v4 wd
  have e1 : (18446744073709551616 : Nat) ^ 1 = 18446744073709551616 := by decide
  have e2 : (18446744073709551616 : Nat) ^ 2 = 340282366920938463463374607431768211456 := by decide
  have e3 : (18446744073709551616 : Nat) ^ 3 = 6277101735386680763835789423207666416102355444464034512896 := by decide
  rw [e1, e2, e3, Nat.pow_zero]
  omega
theorem wd_v4 {a b c d : Nat} (h0 : a < 18446744073709551616) (h1 : b < 18446744073709551616) (h2 : c < 18446744073709551616) (h3 : d < 18446744073709551616) :
    wd (v4 a b c d) 0 = a ∧ wd (v4 a b c d) 1 = b ∧ wd (v4 a b c d) 2 = c ∧ wd (v4 a b c d) 3 = d := by
  unfold v4 wd
  have e1 : (18446744073709551616 : Nat) ^ 1 = 18446744073709551616 := by decide
  have e2 : (18446744073709551616 : Nat) ^ 2 = 340282366920938463463374607431768211456 := by decide
  have e3 : (18446744073709551616 : Nat) ^ 3 = 6277101735386680763835789423207666416102355444464034512896 := by decide
  rw [e1, e2, e3, Nat.pow_zero]
  refine ⟨?_, ?_, ?_, ?_⟩ <;> omega
theorem wd_inj {x y : Nat} (hx : x < 2 ^ 256) (hy : y < 2 ^ 256) (h0 : wd x 0 = wd y 0) (h1 : wd x 1 = wd y 1) (h2 : wd x 2 = wd y 2) (h3 : wd x 3 = wd y 3) : x = y := by
  rw [← v4_wd x hx, ← v4_wd y hy, h0, h1, h2, h3]

/-- a long number's cells -/
abbrev cls (x : Nat) : Array Value := #[.int .u64 (wd x 0 : Int), .int .u64 (wd x 1 : Int), .int .u64 (wd x 2 : Int), .int .u64 (wd x 3 : Int)]
/-- a long number, as a value -/
abbrev num (x : Nat) : Value := .agg (cls x)
theorem num_of {a b c d : Nat} (h0 : a < 18446744073709551616) (h1 : b < 18446744073709551616) (h2 : c < 18446744073709551616) (h3 : d < 18446744073709551616) :
    (.agg #[.int .u64 (a : Int), .int .u64 (b : Int), .int .u64 (c : Int), .int .u64 (d : Int)] : Value) = num (v4 a b c d) := by
  obtain ⟨e0, e1, e2, e3⟩ := wd_v4 h0 h1 h2 h3
  rw [num, cls, e0, e1, e2, e3]
theorem num_small (n : Nat) (h : n < 18446744073709551616) : (.agg #[.int .u64 (n : Int), .int .u64 0, .int .u64 0, .int .u64 0] : Value) = num n := by
  have := num_of (a := n) (b := 0) (c := 0) (d := 0) h (by decide) (by decide) (by decide)
  rw [show v4 n 0 0 0 = n by simp [v4]] at this
  exact this

theorem eq_words (a b c d a' b' c' d' : Int) (w : World) : (Op.equalIn 10000 24 (.agg #[.int .u64 a, .int .u64 b, .int .u64 c, .int .u64 d]) (.agg #[.int .u64 a', .int .u64 b', .int .u64 c', .int .u64 d'])).run Tryz.prog w = .ok (a == a' && b == b' && c == c' && d == d') w := by
  have u3 := Tryz.underlying22
  have a3 := Tryz.isAgg22
  have z3 := Tryz.sizeOf22
  rw [show (10000 : Nat) = 9999 + 1 from rfl, Op.equalIn]
  simp only [Sem.run_bind, run_underlying Tryz.underlying24, Result.andThen_ok]
  simp only [Std.Legacy.Range.forIn_eq_forIn_range', Std.Legacy.Range.size, Nat.sub_zero, Nat.add_sub_cancel, Nat.div_one, List.range'_succ, List.range'_zero, List.forIn_cons, List.forIn_nil]
  go_simp
  by_cases h1 : a = a' <;> by_cases h2 : b = b' <;> by_cases h3 : c = c' <;> by_cases h4 : d = d' <;> simp [h1, h2, h3, h4]
theorem eq_yes (x y : Nat) (h : x = y) (w : World) : (Op.equalIn 10000 24 (num x) (num y)).run Tryz.prog w = .ok true w := by
  subst h; rw [eq_words]; simp
theorem eq_no (x y : Nat) (hx : x < 2 ^ 256) (hy : y < 2 ^ 256) (h : x ≠ y) (w : World) : (Op.equalIn 10000 24 (num x) (num y)).run Tryz.prog w = .ok false w := by
  rw [eq_words]
  congr 1
  rw [Bool.eq_false_iff]
  intro e
  simp at e
  obtain ⟨⟨⟨h0, h1⟩, h2⟩, h3⟩ := e
  exact h (wd_inj hx hy (by exact_mod_cast h0) (by exact_mod_cast h1) (by exact_mod_cast h2) (by exact_mod_cast h3))

theorem bal {w w' : World} (h : Below w.heap.size w w') (o : Obj) : Below w.heap.size w (w'.alloc o) := h.alloc h.size o
theorem bthen {w w' w2 : World} (h : Below w.heap.size w w') (h2 : Below w'.heap.size w' w2) : Below w.heap.size w w2 := h.trans (h2.mono h.size)
/-- block g holds this long number -/
def Nm (w : World) (g x : Nat) : Prop := w.heap[g]? = some (.cells (cls x) 24 (0, 0))
theorem Nm.lt {w : World} {g x : Nat} (h : Nm w g x) : g < w.heap.size := lt_of_block h
theorem Nm.below {w w' : World} {g x B : Nat} (h : Nm w g x) (hb : Below B w w') (hg : g < B) : Nm w' g x := (hb.block g hg).trans h
theorem Nm.on {w w' : World} {g x : Nat} (h : Nm w g x) (hb : Below w.heap.size w w') : Nm w' g x := h.below hb h.lt
theorem Nm.alloc {w : World} {g x : Nat} (h : Nm w g x) (o : Obj) : Nm (w.alloc o) g x := h.on ((Below.refl w.heap.size w).alloc (Nat.le_refl _) o)
theorem Nm.new (w : World) (x : Nat) : Nm (w.alloc (.cells (cls x) 24)) w.heap.size x := heap_alloc_new _ _
theorem Nm.cell {w : World} {g x : Nat} (h : Nm w g x) : w.cell? ⟨g, 0, none⟩ = some (.int .u64 (wd x 0 : Int)) ∧ w.cell? ⟨g, 1, none⟩ = some (.int .u64 (wd x 1 : Int)) ∧ w.cell? ⟨g, 2, none⟩ = some (.int .u64 (wd x 2 : Int)) ∧ w.cell? ⟨g, 3, none⟩ = some (.int .u64 (wd x 3 : Int)) := by
  refine ⟨?_, ?_, ?_, ?_⟩ <;> (rw [cell_of_row w g _ _ 24 (0, 0) h]; rfl)

theorem sum_of {x y t0 t1 t2 t3 k : Nat} (h0 : t0 < 18446744073709551616) (h1 : t1 < 18446744073709551616) (h2 : t2 < 18446744073709551616) (h3 : t3 < 18446744073709551616) (h : v4 t0 t1 t2 t3 + 2 ^ 256 * k = x + y) :
    v4 t0 t1 t2 t3 = (x + y) % 2 ^ 256 ∧ k = (x + y) / 2 ^ 256 := by
  have hl := v4_lt h0 h1 h2 h3
  rw [← h, Nat.add_mul_mod_self_left, Nat.mod_eq_of_lt hl, Nat.add_mul_div_left _ _ (Nat.two_pow_pos 256), Nat.div_eq_of_lt hl, Nat.zero_add]
  exact ⟨rfl, rfl⟩
/-- going round downward -/
def dif (x y : Nat) : Nat := if x < y then x + 2 ^ 256 - y else x - y
def lent (x y : Nat) : Nat := if x < y then 1 else 0
theorem dif_of {x y t0 t1 t2 t3 k : Nat} (hx : x < 2 ^ 256) (hy : y < 2 ^ 256) (h0 : t0 < 18446744073709551616) (h1 : t1 < 18446744073709551616) (h2 : t2 < 18446744073709551616) (h3 : t3 < 18446744073709551616) (h : v4 t0 t1 t2 t3 + y = x + 2 ^ 256 * k) (hk : k ≤ 1) :
    v4 t0 t1 t2 t3 = dif x y ∧ k = lent x y := by
  have hl := v4_lt h0 h1 h2 h3
  generalize v4 t0 t1 t2 t3 = t at *
  unfold dif lent
  rw [p256] at *
  split <;> omega
theorem dif_lt {x y : Nat} (hx : x < 2 ^ 256) (hy : y < 2 ^ 256) : dif x y < 2 ^ 256 := by
  unfold dif
  rw [p256] at *
  split <;> omega
end Go.Proofs.YtbloejlebikecaaGreatDoor
namespace Go.Proofs.YtbloejlebikecaaGreatDoor
open Go.RowKit
set_option linter.unusedVariables false
set_option linter.unusedSimpArgs false

/-- from here on -/
def On (w : World) (P : World → Prop) : Prop := ∀ w', Below w.heap.size w w' → P w'
section
variable {w w2 w' : World} {P Q : World → Prop}
theorem On.on (h : On w P) (hb : Below w.heap.size w w2) : On w2 P := fun w' h' => h w' (hb.trans (h'.mono hb.size))
theorem On.here (h : On w P) : P w := h w (Below.refl _ _)
theorem On.both (h : On w P) (k : On w Q) : On w fun u => P u ∧ Q u := fun u hu => ⟨h u hu, k u hu⟩
theorem on_below {w0 : World} (h : Below w0.heap.size w0 w) : On w fun u => Below w0.heap.size w0 u := fun u hu => h.trans (hu.mono h.size)
theorem on_cell {g i : Nat} {v : Value} (hg : g < w.heap.size) (h : w.cell? ⟨g, i, none⟩ = some v) : On w fun u => u.cell? ⟨g, i, none⟩ = some v := fun u hu => (hu.cell (p := ⟨g, i, none⟩) hg).trans h
theorem on_rd {A : Option Addr} {bs : List UInt8} (h : Rd w A bs) : On w fun u => Rd u A bs := fun u hu => h.below hu (Nat.le_refl _)
theorem on_bt {g : Nat} {t : TypeId} {bs : List UInt8} (h : Bt w g t bs) : On w fun u => Bt u g t bs := fun u hu => h.on hu
theorem on_nm {g x : Nat} (h : Nm w g x) : On w fun u => Nm u g x := fun u hu => (hu.block g (lt_of_block h)).trans h
theorem on_rws {a0 : Option Addr} {n : Nat} {A : Nat → Option Addr} {L C : Nat → Nat} {xs : Nat → List UInt8} (h : Rws w a0 n A L C xs) : On w fun u => Rws u a0 n A L C xs := by
 intro u hu r hr
 obtain ⟨⟨go, o, h1, h2, h3⟩, h4, h5, h6, h7, h8⟩ := h r hr
 exact ⟨⟨go, o, h1, Nat.lt_of_lt_of_le h2 hu.size, (hu.cell (p := ⟨go, o + r, none⟩) h2).trans h3⟩, h4, h5.below hu (Nat.le_refl _), h6, h7, h8⟩
theorem on_kt (h : Kt w) : On w Kt := fun u hu => h.on hu
end
theorem wp_append {o : Oper} {a : Act} {w : World} {K : Act → World → Prop} {Q : Exit → Act → World → Prop} (t : TypeId) (s x : Operand) (ho : o.op = .call { callee := .builtin .append, args := #[s, x], argTypes := #[t, t] }) (hty : o.type = t) (vs vx : Value) (hs : a.eval s = vs) (hx : a.eval x = vx) (v' : Value) (w' : World)
  (hrun : (Builtin.append_ #[t, t] t #[vs, vx]).run Tryz.prog w = .ok v' w') (h : K (a.put o.dst v') w') : o.wp Tryz.prog a w K Q := by
 unfold Oper.wp
 simp [execOp, ho, hty, resolve, invoke, builtin, hs, hx, hrun, Result.andThen]
 exact h
theorem nx_le (n : Nat) (L : Nat → Nat) (h : ∀ r, r < n → L r ≤ 1048576) : ∀ r, r < n + 1 → nx n L 1 r ≤ 1048576 := by
 intro r hr
 unfold nx
 split
 ·exact h r ‹_›
 ·decide
theorem rd_one (w : World) (g : Nat) (x : UInt8) (t : TypeId) (h : w.heap[g]? = some (.cells #[.int .u8 (x.toNat : Int)] t (0, 0))) : Rd w (some ⟨g, 0, none⟩) [x] := by
 intro hp
 refine ⟨g, 0, rfl, lt_of_block h, fun j hj => ?_⟩
 obtain rfl : j = 0 := by simpa using hj
 rw [cell_of_row _ _ _ _ t _ h]
 simp
theorem hb0_le {w0 w : World} {o : Obj} (h : On w fun u => Below w0.heap.size w0 u) (hb : Below w.heap.size w (w.alloc o)) : w0.heap.size ≤ w.heap.size := h.here.size
theorem cells_old {w0 u : World} {ga gp : Nat} {st : ByteArray} {a0 : Option Addr} {n0 c0 : Nat} (h1 : ga < w0.heap.size) (h2 : gp < w0.heap.size) (k1 : w0.cell? ⟨ga, 0, none⟩ = some (.string st)) (k2 : w0.cell? ⟨gp, 0, none⟩ = some (.slice a0 n0 c0)) (h : Below w0.heap.size w0 u) :
  u.cell? ⟨ga, 0, none⟩ = some (.string st) ∧ u.cell? ⟨gp, 0, none⟩ = some (.slice a0 n0 c0) := ⟨(h.cell (p := ⟨ga, 0, none⟩) h1).trans k1, (h.cell (p := ⟨gp, 0, none⟩) h2).trans k2⟩
end Go.Proofs.YtbloejlebikecaaGreatDoor
namespace Go.Proofs.YtbloejlebikecaaGreatDoor
open Go.RowKit
set_option linter.unusedVariables false
theorem rowo_below {w w' : World} {B : Nat} {v : Value} {n : Nat} {l : List Value} (h : w.ownsRow B 27 1 v n l) (hb : Below w.heap.size w w') : w'.ownsRow B 27 1 v n l := by
  refine ⟨h.1, ?_⟩
  rcases h.2 with h | ⟨g, cap, cur, e, h1, h2, h3⟩
  · exact .inl h
  · exact .inr ⟨g, cap, cur, e, h1, (hb.block g (lt_of_block h2)).trans h2, h3⟩
theorem on_own {w : World} {B : Nat} {v : Value} {n : Nat} {l : List Value} (h : w.ownsRow B 27 1 v n l) : On w fun u => u.ownsRow B 27 1 v n l := fun u hu => rowo_below h hu
theorem on_blk {w : World} {g : Nat} {o : Obj} (h : w.heap[g]? = some o) : On w fun u => u.heap[g]? = some o := fun u hu => (hu.block g (lt_of_block h)).trans h
theorem cells_one (n : Nat) (A : Nat → Option Addr) (L C : Nat → Nat) : ∀ u ∈ cellsOf n A L C, u.oneCell' = true := by
  intro u hu
  obtain ⟨r, _, rfl⟩ := List.mem_map.1 hu
  rfl
set_option maxRecDepth 100000 in
theorem rows_all (w : World) (a0 : Option Addr) (n0 c0 : Nat) (A : Nat → Option Addr) (L C : Nat → Nat) (xs : Nat → List UInt8) (hR : Rws w a0 n0 A L C xs) (hn : n0 ≤ 1000) (hc : n0 ≤ c0) (h0 : a0 = none → c0 = 0) :
    ∃ v w', (Builtin.append_ #[63, 63] 63 #[.slice none 0 0, .slice a0 n0 c0]).run Tryz.prog w = .ok v w' ∧ w'.ownsRow w.heap.size 27 1 v n0 (cellsOf n0 A L C) ∧ Below w.heap.size w w' := by
  obtain ⟨i0, hi, hz0, hz1, hz2⟩ := info_parts row_info
  rcases a0 with _ | ad
  · obtain rfl := h0 rfl
    obtain rfl : n0 = 0 := by omega
    refine ⟨_, w, run_append_owned_none (P := Tryz.prog) (w := w) w.heap.size 63 63 27 i0 1 Tryz.underlying63 hi (.slice none 0 0) 0 [] (World.ownsRow_nil w _ 27 1), World.ownsRow_nil w _ 27 1, Below.refl _ _⟩
  · obtain ⟨v', w', hrun, h2, h3, _⟩ := run_append_own_at (P := Tryz.prog) w w.heap.size 63 63 27 i0 (.slice none 0 0) 1 24 Tryz.underlying63 hi hz0 hz1 hz2 rfl (by omega) (.slice none 0 0) 0 [] (World.ownsRow_nil w _ 27 1) ad n0 c0 (cellsOf n0 A L C) (by rw [cellsOf_length, Nat.mul_one])
      (fun j u hj => by
        have hj2 : j < n0 := by
          rcases Nat.lt_or_ge j n0 with h | h
          · exact h
          · rw [List.getElem?_eq_none (by rw [cellsOf_length]; exact h)] at hj; cases hj
        rw [cellsOf_at A L C hj2] at hj
        injection hj with hj; subst hj
        obtain ⟨⟨go, o, e1, _, hc⟩, _⟩ := hR j hj2
        injection e1 with e1; subst e1
        rw [Addr.add_lit]; exact hc) (cells_one n0 A L C) (by simp only [maxLen]; omega) (by omega) (Nat.le_refl _)
    rw [Nat.zero_add, List.nil_append] at h2
    exact ⟨v', w', hrun, h2, below_grown (Below.refl _ _) (h3.but (some w.heap.size)) (Nat.le_refl _) (Nat.le_refl _)⟩
set_option maxRecDepth 100000 in
theorem rows_put (w0 w : World) (B : Nat) (a0 : Option Addr) (v : Value) (n : Nat) (A : Nat → Option Addr) (L C : Nat → Nat) (xs : Nat → List UInt8) (hB0 : w0.heap.size ≤ B) (hB : Below w0.heap.size w0 w) (hBw : B ≤ w.heap.size)
    (ho : w.ownsRow B 27 1 v n (cellsOf n A L C)) (hR : Rws w0 a0 n A L C xs) (hn : n ≤ 1000) (b d b1 : Nat) (x : UInt8) (hb : w.cell? ⟨b, 0, none⟩ = some (.slice (some ⟨b1, 0, none⟩) 1 1)) (hr : w.heap[b1]? = some (.cells #[.int .u8 (x.toNat : Int)] 5 (0, 0))) (hne : v.ownBlock ≠ some b1) :
    ∃ g c w', (Builtin.append_ #[63, 63] 63 #[v, .slice (some ⟨b, 0, none⟩) 1 d]).run Tryz.prog w = .ok (.slice (some ⟨g, 0, none⟩) (n + 1) c) w' ∧ Below w0.heap.size w0 w' ∧ w.heap.size ≤ w'.heap.size ∧ n + 1 ≤ c ∧
      Rws w' (some ⟨g, 0, none⟩) (n + 1) (nx n A (some ⟨b1, 0, none⟩)) (nx n L 1) (nx n C 1) (nx n xs [x]) ∧ (∀ k, k < w.heap.size → v.ownBlock ≠ some k → w'.heap[k]? = w.heap[k]?) := by
  obtain ⟨i0, hi, hz0, hz1, hz2⟩ := info_parts row_info
  have hnew : ∀ j u, ([Value.slice (some ⟨b1, 0, none⟩) 1 1] : List Value)[j]? = some u → w.cell? ((⟨b, 0, none⟩ : Addr).add j) = some u := by
    intro j u hj
    rcases j with _ | j
    · simp only [List.getElem?_cons_zero, Option.some.injEq] at hj
      subst hj
      rw [Addr.add_lit]; exact hb
    · simp at hj
  obtain ⟨v', w', hrun, hown, hgr, _⟩ := run_append_own_at (P := Tryz.prog) w B 63 63 27 i0 (.slice none 0 0) 1 24 Tryz.underlying63 hi hz0 hz1 hz2 rfl (by omega) v n (cellsOf n A L C) ho ⟨b, 0, none⟩ 1 d _ rfl hnew (by simp [Value.oneCell']) (by simp only [maxLen]; omega) (by omega) hBw
  have hkeep : ∀ k, k < w.heap.size → v.ownBlock ≠ some k → w'.heap[k]? = w.heap[k]? := fun k hk hv => hgr.block k hk (by intro e; exact hv e.symm)
  have hlo : ∀ k, v.ownBlock = some k → B ≤ k ∧ k < w.heap.size := World.ownsRow.lt ho
  have hB2 : Below w0.heap.size w0 w' := hB.trans ⟨hgr.os, hgr.tape, hgr.output, hgr.size, fun k hk => hkeep k (by have := hB.size; omega) (fun e => by have := (hlo k e).1; omega)⟩
  have hb1 : w'.heap[b1]? = some (.cells #[.int .u8 (x.toNat : Int)] 5 (0, 0)) := (hkeep b1 (lt_of_block hr) hne).trans hr
  rcases hown.2 with ⟨_, h⟩ | ⟨g, cap, cur, rfl, hbg, hh, hnc, hm, hs, ht⟩
  · omega
  · refine ⟨g, cap, w', hrun, hB2, hgr.size, hnc, fun r hr2 => ?_, hkeep⟩
    have hcell := World.ownsRow.cellAt hown r (by omega)
    rcases Nat.lt_or_ge r n with hlt | hge
    · obtain ⟨_, k1, k2, k3, k4, k5⟩ := hR r hlt
      simp only [nx, hlt, if_true]
      refine ⟨⟨g, 0, rfl, lt_of_block hh, ?_⟩, k1, k2.below hB2 (Nat.le_refl _), k3, k4, k5⟩
      rw [Nat.zero_add, hcell, List.getElem?_append_left (by rw [cellsOf_length]; exact hlt), cellsOf_at A L C hlt]
    · obtain rfl : r = n := by omega
      simp only [nx, Nat.lt_irrefl, if_false]
      refine ⟨⟨g, 0, rfl, lt_of_block hh, ?_⟩, rfl, rd_one w' b1 x 5 hb1, Nat.le_refl _, by omega, fun h => by cases h⟩
      rw [Nat.zero_add, hcell, List.getElem?_append_right (by rw [cellsOf_length]; exact Nat.le_refl _), cellsOf_length]
      simp
end Go.Proofs.YtbloejlebikecaaGreatDoor

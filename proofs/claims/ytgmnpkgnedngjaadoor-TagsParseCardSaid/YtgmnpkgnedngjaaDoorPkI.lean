/-
  nums.PutLong, walked: the bytes, then all 32 of a long number, in new memory. Condition: no more than 2^47 bytes came in.
  nums.PutBytes, walked: the bytes, then in four how many others there are, then these, in new memory. Condition: no more than 2^46 bytes came in, either time.
  nums.GetLong, walked: refused, or the long number that the first 32 bytes tell. Condition: the slice's capacity is at most 2^47.
-/
import Derived.Test.YtgmnpkgnedngjaaDoorPkG
import Derived.StillTailTactics
import Derived.Test.YtgmnpkgnedngjaaDoorPkD
namespace Go.Proofs.YtgmnpkgnedngjaaDoor
open Go.RowKit
set_option linter.unusedVariables false

theorem Rd.alloc {w : World} {A : Option Addr} {bs : List UInt8} (h : Rd w A bs) (o : Obj) : Rd (w.alloc o) A bs :=
  h.below ((Below.refl w.heap.size w).alloc (Nat.le_refl _) o) (Nat.le_refl _)

theorem RdW.of_block {w : World} {g h t : Nat} {ws : List Nat} (hw : ∀ x ∈ ws, x < 18446744073709551616) (hh : w.heap[h]? = some (.cells (ws.map fun (x : Nat) => Value.int .u64 (x : Int)).toArray t (0, 0))) (hne : h ≠ g) :
    RdW w g (some ⟨h, 0, none⟩) ws := by
  refine ⟨hw, fun hp => ⟨h, 0, rfl, lt_of_block hh, hne, fun j hj => ?_⟩⟩
  rw [cell_of_row _ _ _ _ t (0, 0) hh]
  simp [hj]

theorem slice_tail (g n m : Nat) (hm : 0 < m) (w : World) :
    (Instr.slice 37 (.slice (some ⟨g, 0, none⟩) (n + m) (n + m)) (some (.int .i64 (n : Int))) none none).run Tryd.prog w = .ok (.slice (some ⟨g, n, none⟩) m m) w := by
  have h5 : Tryd.prog.elem 37 = 5 := by kernel_rfl
  rw [run_slice_l (P := Tryd.prog) w 37 (some ⟨g, 0, none⟩) (n + m) (n + m) (by rw [h5]; exact Tryd.underlying37) .i64 (n : Int) (by omega) (by omega)]
  have hs : (sizeOf 5).run Tryd.prog w = .ok 1 w := by kernel_rfl
  rw [h5, hs]
  simp only [Result.andThen, sliced, Int.toNat_natCast]
  rw [if_neg (by omega)]
  simp only [Option.map, Nat.mul_one, add_plain, Nat.zero_add]
  rw [show n + m - n = m from by omega]

set_option maxRecDepth 100000 in
theorem putLong_any (A : Option Addr) (cp n0 n1 n2 n3 : Nat) (bs : List UInt8) (w : World) (hr : Rd w A bs) (hn : bs.length ≤ 140737488355328)
    (h0 : n0 < 18446744073709551616) (h1 : n1 < 18446744073709551616) (h2 : n2 < 18446744073709551616) (h3 : n3 < 18446744073709551616) :
    Calls Tryd.prog 17 #[.slice A bs.length cp, .agg #[.int .u64 (n0 : Int), .int .u64 (n1 : Int), .int .u64 (n2 : Int), .int .u64 (n3 : Int)]] w fun e w' =>
      e = .returned (.slice (some ⟨w.heap.size + 1, 0, none⟩) (bs.length + 32) (bs.length + 32)) ∧
      Row w' (w.heap.size + 1) (bs ++ be (wnum [n0, n1, n2, n3]) 32) ∧ Below w.heap.size w w' := by
  go_enter Tryd.func17, Tryd.ntmps17
  go_wp2_with fail
  have HA := hid (hr.alloc (.cells #[.int .u64 (n0 : Int), .int .u64 (n1 : Int), .int .u64 (n2 : Int), .int .u64 (n3 : Int)] 24))
  have HN := hid (heap_alloc_new w (.cells #[.int .u64 (n0 : Int), .int .u64 (n1 : Int), .int .u64 (n2 : Int), .int .u64 (n3 : Int)] 24))
  have HB := hid ((Below.refl w.heap.size w).alloc (Nat.le_refl _) (.cells #[.int .u64 (n0 : Int), .int .u64 (n1 : Int), .int .u64 (n2 : Int), .int .u64 (n3 : Int)] 24))
  have HS := hid (p := (w.alloc (.cells #[.int .u64 (n0 : Int), .int .u64 (n1 : Int), .int .u64 (n2 : Int), .int .u64 (n3 : Int)] 24)).heap.size = w.heap.size + 1) (by simp)
  generalize w.alloc (.cells #[.int .u64 (n0 : Int), .int .u64 (n1 : Int), .int .u64 (n2 : Int), .int .u64 (n3 : Int)] 24) = w0 at *
  refine (longer_at A cp 32 _ rfl bs w0 HA.out (by omega)).mono ?_
  rintro e w1 ⟨rfl, HR, hb1⟩
  have HR1 := hid HR
  clear HR
  have HN1 := hid ((hb1.block w.heap.size (by have := HS.out; omega)).trans HN.out)
  have hlt := HR1.out.lt
  have HW := hid (RdW.of_block (w := w1) (g := w0.heap.size) (h := w.heap.size) (t := 24) (ws := [n0, n1, n2, n3]) (by simp; omega) HN1.out (by have := HS.out; omega))
  have hsl := slice_tail w0.heap.size bs.length 32 (by omega)
  go_wp2_with fail
  go_still_tail 5, (by kernel_rfl)
  change wpList _ _ _ _ _ w1.drew
  have HR2 := hid (p := Row w1.drew w0.heap.size (bs ++ List.replicate 32 0)) HR1.out
  have HW2 := hid (p := RdW w1.drew w0.heap.size (some ⟨w.heap.size, 0, none⟩) [n0, n1, n2, n3]) HW.out
  have HB2 := hid (p := Below w.heap.size w w1.drew) ((HB.out.trans (hb1.mono (by have := HS.out; omega))).drew)
  clear HR1 HW hb1 hlt HN1 hsl
  generalize w1.drew = w2 at *
  go_wp2_with fail
  refine (lay_any _ _ w0.heap.size bs.length 32 32 4 _ [n0, n1, n2, n3] _ (fun _ => rfl) HR2.out (by simp) (by simp; omega) HW2.out (by simp) (by simp)).mono ?_
  rintro e w3 ⟨rfl, HR3, hg3⟩
  rw [laid_tail] at HR3
  have HR4 := hid HR3
  have HB3 := hid (HB2.out.grown hg3 (by have := HR2.out.lt; have := HS.out; omega) (by have := HS.out; simp; omega))
  clear HR3 hg3
  go_wp2
  go_ret
  rw [← HS.out]
  exact ⟨rfl, HR4.out, HB3.out⟩
end Go.Proofs.YtgmnpkgnedngjaaDoor
namespace Go.Proofs.YtgmnpkgnedngjaaDoor
open Go.RowKit
set_option linter.unusedVariables false

theorem laid_mid (bs : List UInt8) (N K m : Nat) : laid (bs ++ List.replicate (K + m) 0) (bs.length + K) N K = (bs ++ be N K) ++ List.replicate m 0 := by
  have e : bs.length + K - K = bs.length := by omega
  simp [laid, e]

theorem splice_tail (X : List UInt8) (ls : List UInt8) : splice (bvs (X ++ List.replicate ls.length 0)) X.length (bvs ls) = bvs (X ++ ls) := by
  simp [splice, bvs]

/-- copy(dst, src), dst in a block that is known whole -/
theorem copy_bytes (w : World) (g off dLen dCap sCap : Nat) (D B : Option Addr) (cur ls : List UInt8) (hD : 0 < ls.length → D = some ⟨g, off, none⟩) (hg : Row w g cur) (hl : Rd w B ls)
    (hfit : off + ls.length ≤ cur.length) (hd : ls.length ≤ dLen) :
    ∃ w3, (Builtin.copy_ #[37, 37] 3 #[.slice D dLen dCap, .slice B ls.length sCap]).run Tryd.prog w = .ok (goInt ls.length) w3 ∧
      Row w3 g (cur.take off ++ (ls ++ cur.drop (off + ls.length))) ∧ w.grownBy w3 (some g) := by
  rcases Nat.eq_zero_or_pos ls.length with h0 | h0
  · have hn : ls = [] := List.eq_nil_of_length_eq_zero h0
    subst hn
    refine ⟨w, ?_, by simpa using hg, World.grownBy.refl w _⟩
    exact run_copy_none (P := Tryd.prog) w 37 37 3 5 D B dLen dCap 0 sCap Tryd.underlying37 u8_size (Nat.zero_min _)
  · obtain rfl := hD h0
    obtain ⟨ad, rfl, hc⟩ := hl.cells h0
    have hrun := run_copy_row (P := Tryd.prog) w 37 37 3 5 g off dLen dCap ad ls.length sCap (bvs cur).toArray 5 (bvs ls) Tryd.underlying37 u8_size hg
      (by rw [bvs_length]; exact (Nat.min_eq_left hd).symm) hc (by simpa [bvs_length] using hfit) (bvs_one ls)
    rw [bvs_length] at hrun
    refine ⟨_, hrun, ?_, ?_⟩
    · have := setRow_heap w g _ ((bvs cur).take off ++ bvs ls ++ (bvs cur).drop (off + ls.length)).toArray 5 (0, 0) hg
      unfold Row
      rw [bvs_append, bvs_append, bvs_take, bvs_drop, ← List.append_assoc]
      exact this
    · exact ⟨rfl, rfl, rfl, by simp [World.setRow], fun k hk hne => setRow_other w g k _ (fun e => hne (by rw [e]))⟩

theorem putBytes_none (A B : Option Addr) (c d : Nat) (bs : List UInt8) (w : World) (hr : Rd w A bs) (hn : bs.length ≤ 140737488351232) :
    Calls Tryd.prog 25 #[.slice A bs.length c, .slice B 0 d] w fun e w' =>
      e = .returned (.slice (some ⟨w.heap.size, 0, none⟩) (bs.length + 4) (bs.length + 4)) ∧
      Row w' w.heap.size (bs ++ be 0 4) ∧ Below w.heap.size w w' := by
  go_enter Tryd.func25, Tryd.ntmps25
  go_wp2_with fail
  refine (longer_at A c 4 _ (by omega) bs w hr (by omega)).mono ?_
  rintro e w1 ⟨rfl, HR, hb1⟩
  have HR1 := hid HR
  clear HR
  have HW := hid (RdW.new w1 w.heap.size HR1.out.lt [0] (by simp))
  have HA := hid (HR1.out.alloc (.cells #[Value.int .u64 0] 22))
  have HB := hid (hb1.alloc (Nat.le_of_lt HR1.out.lt) (.cells #[Value.int .u64 0] 22))
  go_wp2_with fail
  refine (lay_any _ _ w.heap.size bs.length 4 _ 1 _ [0] _ (fun _ => rfl) HA.out (by simp) (by simp; omega) HW.out (by simp) (by simp)).mono ?_
  rintro e w2 ⟨rfl, HR2, hg2⟩
  rw [laid_tail] at HR2
  have HR3 := hid HR2
  have HB3 := hid (HB.out.grown hg2 (by have := HR1.out.lt; simp; omega) (by simp))
  clear HR2 hg2
  go_wp2_with (with_reducible refine wpList_copy_nothing rfl (.tmp 27) (.tmp 28) 37 37 rfl 5 Tryd.underlying37 u8_size _ _ _ _ _ _ rfl rfl rfl ?_)
  go_ret
  exact ⟨rfl, HR3.out, HB3.out⟩

theorem putBytes_pos (A B : Option Addr) (c d : Nat) (bs ls : List UInt8) (w : World) (hr : Rd w A bs) (hl : Rd w B ls) (hn : bs.length ≤ 140737488351232) (hm : ls.length ≤ 140737488351232) (h0 : 0 < ls.length) :
    Calls Tryd.prog 25 #[.slice A bs.length c, .slice B ls.length d] w fun e w' =>
      e = .returned (.slice (some ⟨w.heap.size, 0, none⟩) (bs.length + (4 + ls.length)) (bs.length + (4 + ls.length))) ∧
      Row w' w.heap.size (bs ++ (be ls.length 4 ++ ls)) ∧ Below w.heap.size w w' := by
  go_enter Tryd.func25, Tryd.ntmps25
  go_wp2_with fail
  refine (longer_at A c (4 + ls.length) _ (by omega) bs w hr (by omega)).mono ?_
  rintro e w1 ⟨rfl, HR, hb1⟩
  have HR1 := hid HR
  clear HR
  have HW := hid (RdW.new w1 w.heap.size HR1.out.lt [ls.length] (by simp; omega))
  have HA := hid (HR1.out.alloc (.cells #[Value.int .u64 (ls.length : Int)] 22))
  have HB := hid (hb1.alloc (Nat.le_of_lt HR1.out.lt) (.cells #[Value.int .u64 (ls.length : Int)] 22))
  go_wp2_with fail
  refine (lay_any _ _ w.heap.size bs.length 4 _ 1 _ [ls.length] _ (fun _ => rfl) HA.out (by simp) (by simp; omega) HW.out (by simp) (by simp)).mono ?_
  rintro e w2 ⟨rfl, HR2, hg2⟩
  rw [laid_mid] at HR2
  have HX := hid (p := wnum [ls.length] = ls.length) (by simp [wnum])
  rw [HX.out] at HR2
  have HR3 := hid HR2
  have HB3 := hid (HB.out.grown hg2 (by have := HR1.out.lt; simp; omega) (by simp))
  have HL3 := hid (hl.below HB3.out (Nat.le_refl _))
  clear HR2 hg2
  obtain ⟨w3, hrun, HR4, hg4⟩ := copy_bytes w2 w.heap.size (bs.length + 4) (bs.length + (4 + ls.length) - (bs.length + 4)) (bs.length + (4 + ls.length) - (bs.length + 4)) d _ B _ ls (fun _ => rfl) HR3.out HL3.out (by simp [be_length]; omega) (by omega)
  have HR5 := hid (p := Row w3 w.heap.size (bs ++ (be ls.length 4 ++ ls))) (by
    have e : (bs ++ be ls.length 4).length = bs.length + 4 := by simp [be_length]
    have e1 : ((bs ++ be ls.length 4 ++ List.replicate ls.length 0).take (bs.length + 4)) = bs ++ be ls.length 4 := by
      rw [← e]; exact List.take_left
    have e2 : ((bs ++ be ls.length 4 ++ List.replicate ls.length 0).drop (bs.length + 4 + ls.length)) = [] := by
      apply List.drop_eq_nil_of_le; simp [be_length]; omega
    rw [e1, e2] at HR4
    simpa using HR4)
  have HB5 := hid (HB3.out.grown hg4 (by have := HR3.out.lt; omega) (by simp))
  clear HR4 hg4
  go_wp2
  go_ret
  exact ⟨rfl, HR5.out, HB5.out⟩

/-- both -/
theorem putBytes_any (A B : Option Addr) (c d : Nat) (bs ls : List UInt8) (w : World) (hr : Rd w A bs) (hl : Rd w B ls) (hn : bs.length ≤ 140737488351232) (hm : ls.length ≤ 140737488351232) :
    Calls Tryd.prog 25 #[.slice A bs.length c, .slice B ls.length d] w fun e w' =>
      e = .returned (.slice (some ⟨w.heap.size, 0, none⟩) (bs.length + (4 + ls.length)) (bs.length + (4 + ls.length))) ∧
      Row w' w.heap.size (bs ++ (be ls.length 4 ++ ls)) ∧ Below w.heap.size w w' := by
  rcases Nat.eq_zero_or_pos ls.length with h0 | h0
  · have hn' : ls = [] := List.eq_nil_of_length_eq_zero h0
    subst hn'
    refine (putBytes_none A B c d bs w hr hn).mono ?_
    rintro e w1 ⟨rfl, HR, hb⟩
    exact ⟨rfl, by simpa using HR, hb⟩
  · exact putBytes_pos A B c d bs ls w hr hl hn hm h0
end Go.Proofs.YtgmnpkgnedngjaaDoor
namespace Go.Proofs.YtgmnpkgnedngjaaDoor
open Go.RowKit
set_option linter.unusedVariables false

/-- the eight bytes of word j, the highest word ahead -/
def word (bs : List UInt8) (j : Nat) : Nat := tell ((bs.drop (8 * j)).take 8)

end Go.Proofs.YtgmnpkgnedngjaaDoor

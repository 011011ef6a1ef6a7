/-
  nums.PutBytes, walked: the bytes, then in four how many others there are, then these, in new memory. Condition: no more than 2^46 bytes came in, either time.
-/
import Derived.Test.YtioebjbjpjbodaaDoorPkPutLong
namespace Go.Proofs.YtioebjbjpjbodaaDoor
open Go.RowKit
set_option linter.unusedVariables false

theorem laid_mid (bs : List UInt8) (N K m : Nat) : laid (bs ++ List.replicate (K + m) 0) (bs.length + K) N K = (bs ++ be N K) ++ List.replicate m 0 := by
  have e : bs.length + K - K = bs.length := by omega
  simp [laid, e]

/-- copy(dst, src), dst in a block that is known whole -/
theorem copy_bytes (w : World) (g off dLen dCap sCap : Nat) (D B : Option Addr) (cur ls : List UInt8) (hD : 0 < ls.length → D = some ⟨g, off, none⟩) (hg : Row w g cur) (hl : Rd w B ls)
    (hfit : off + ls.length ≤ cur.length) (hd : ls.length ≤ dLen) :
    ∃ w3, (Builtin.copy_ #[73, 73] 3 #[.slice D dLen dCap, .slice B ls.length sCap]).run Tryd.prog w = .ok (goInt ls.length) w3 ∧
      Row w3 g (cur.take off ++ (ls ++ cur.drop (off + ls.length))) ∧ w.grownBy w3 (some g) := by
  rcases Nat.eq_zero_or_pos ls.length with h0 | h0
  · have hn : ls = [] := List.eq_nil_of_length_eq_zero h0
    subst hn
    refine ⟨w, ?_, by simpa using hg, World.grownBy.refl w _⟩
    exact run_copy_none (P := Tryd.prog) w 73 73 3 5 D B dLen dCap 0 sCap Tryd.underlying73 u8_size (Nat.zero_min _)
  · obtain rfl := hD h0
    obtain ⟨ad, rfl, hc⟩ := hl.cells h0
    have hrun := run_copy_row (P := Tryd.prog) w 73 73 3 5 g off dLen dCap ad ls.length sCap (bvs cur).toArray 5 (bvs ls) Tryd.underlying73 u8_size hg
      (by rw [bvs_length]; exact (Nat.min_eq_left hd).symm) hc (by simpa [bvs_length] using hfit) (bvs_one ls)
    rw [bvs_length] at hrun
    refine ⟨_, hrun, ?_, ?_⟩
    · have := setRow_heap w g _ ((bvs cur).take off ++ bvs ls ++ (bvs cur).drop (off + ls.length)).toArray 5 (0, 0) hg
      unfold Row
      rw [bvs_append, bvs_append, bvs_take, bvs_drop, ← List.append_assoc]
      exact this
    · exact ⟨rfl, rfl, rfl, by simp [World.setRow], fun k hk hne => setRow_other w g k _ (fun e => hne (by rw [e]))⟩

theorem putBytes_none (A B : Option Addr) (c d : Nat) (bs : List UInt8) (w : World) (hr : Rd w A bs) (hn : bs.length ≤ 140737488351232) :
    Calls Tryd.prog 65 #[.slice A bs.length c, .slice B 0 d] w fun e w' =>
      e = .returned (.slice (some ⟨w.heap.size, 0, none⟩) (bs.length + 4) (bs.length + 4)) ∧
      Row w' w.heap.size (bs ++ be 0 4) ∧ Below w.heap.size w w' := by
  go_enter Tryd.func65, Tryd.ntmps65
  go_wp2_with fail
  refine (longer_at A c 4 _ (by omega) bs w hr (by omega)).mono ?_
  rintro e w1 ⟨rfl, HR, hb1⟩
  have HR1 := hid HR
  clear HR
  have HW := hid (RdW.new w1 w.heap.size HR1.out.lt [0] (by simp))
  have HA := hid (HR1.out.alloc (.cells #[Value.int .u64 0] 22))
  have HB := hid (hb1.alloc (Nat.le_of_lt HR1.out.lt) (.cells #[Value.int .u64 0] 22))
  go_wp2_with fail
  refine (lay_any _ _ w.heap.size bs.length 4 _ 1 _ [0] _ (fun _ => rfl) HA.out (by simp) (by simp; omega) HW.out (by simp) (by simp)).mono ?_
  rintro e w2 ⟨rfl, HR2, hg2⟩
  rw [laid_tail] at HR2
  have HR3 := hid HR2
  have HB3 := hid (HB.out.grown hg2 (by have := HR1.out.lt; simp; omega) (by simp))
  clear HR2 hg2
  go_wp2_with (with_reducible refine wpList_copy_nothing rfl (.tmp 27) (.tmp 28) 73 73 rfl 5 Tryd.underlying73 u8_size _ _ _ _ _ _ rfl rfl rfl ?_)
  go_ret
  exact ⟨rfl, HR3.out, HB3.out⟩

theorem putBytes_pos (A B : Option Addr) (c d : Nat) (bs ls : List UInt8) (w : World) (hr : Rd w A bs) (hl : Rd w B ls) (hn : bs.length ≤ 140737488351232) (hm : ls.length ≤ 140737488351232) (h0 : 0 < ls.length) :
    Calls Tryd.prog 65 #[.slice A bs.length c, .slice B ls.length d] w fun e w' =>
      e = .returned (.slice (some ⟨w.heap.size, 0, none⟩) (bs.length + (4 + ls.length)) (bs.length + (4 + ls.length))) ∧
      Row w' w.heap.size (bs ++ (be ls.length 4 ++ ls)) ∧ Below w.heap.size w w' := by
  go_enter Tryd.func65, Tryd.ntmps65
  go_wp2_with fail
  refine (longer_at A c (4 + ls.length) _ (by omega) bs w hr (by omega)).mono ?_
  rintro e w1 ⟨rfl, HR, hb1⟩
  have HR1 := hid HR
  clear HR
  have HW := hid (RdW.new w1 w.heap.size HR1.out.lt [ls.length] (by simp; omega))
  have HA := hid (HR1.out.alloc (.cells #[Value.int .u64 (ls.length : Int)] 22))
  have HB := hid (hb1.alloc (Nat.le_of_lt HR1.out.lt) (.cells #[Value.int .u64 (ls.length : Int)] 22))
  go_wp2_with fail
  refine (lay_any _ _ w.heap.size bs.length 4 _ 1 _ [ls.length] _ (fun _ => rfl) HA.out (by simp) (by simp; omega) HW.out (by simp) (by simp)).mono ?_
  rintro e w2 ⟨rfl, HR2, hg2⟩
  rw [laid_mid] at HR2
  have HX := hid (p := wnum [ls.length] = ls.length) (by simp [wnum])
  rw [HX.out] at HR2
  have HR3 := hid HR2
  have HB3 := hid (HB.out.grown hg2 (by have := HR1.out.lt; simp; omega) (by simp))
  have HL3 := hid (hl.below HB3.out (Nat.le_refl _))
  clear HR2 hg2
  obtain ⟨w3, hrun, HR4, hg4⟩ := copy_bytes w2 w.heap.size (bs.length + 4) (bs.length + (4 + ls.length) - (bs.length + 4)) (bs.length + (4 + ls.length) - (bs.length + 4)) d _ B _ ls (fun _ => rfl) HR3.out HL3.out (by simp [be_length]; omega) (by omega)
  have HR5 := hid (p := Row w3 w.heap.size (bs ++ (be ls.length 4 ++ ls))) (by
    have e : (bs ++ be ls.length 4).length = bs.length + 4 := by simp [be_length]
    have e1 : ((bs ++ be ls.length 4 ++ List.replicate ls.length 0).take (bs.length + 4)) = bs ++ be ls.length 4 := by
      rw [← e]; exact List.take_left
    have e2 : ((bs ++ be ls.length 4 ++ List.replicate ls.length 0).drop (bs.length + 4 + ls.length)) = [] := by
      apply List.drop_eq_nil_of_le; simp [be_length]; omega
    rw [e1, e2] at HR4
    simpa using HR4)
  have HB5 := hid (HB3.out.grown hg4 (by have := HR3.out.lt; omega) (by simp))
  clear HR4 hg4
  go_wp2
  go_ret
  exact ⟨rfl, HR5.out, HB5.out⟩

/-- both -/
theorem putBytes_any (A B : Option Addr) (c d : Nat) (bs ls : List UInt8) (w : World) (hr : Rd w A bs) (hl : Rd w B ls) (hn : bs.length ≤ 140737488351232) (hm : ls.length ≤ 140737488351232) :
    Calls Tryd.prog 65 #[.slice A bs.length c, .slice B ls.length d] w fun e w' =>
      e = .returned (.slice (some ⟨w.heap.size, 0, none⟩) (bs.length + (4 + ls.length)) (bs.length + (4 + ls.length))) ∧
      Row w' w.heap.size (bs ++ (be ls.length 4 ++ ls)) ∧ Below w.heap.size w w' := by
  rcases Nat.eq_zero_or_pos ls.length with h0 | h0
  · have hn' : ls = [] := List.eq_nil_of_length_eq_zero h0
    subst hn'
    refine (putBytes_none A B c d bs w hr hn).mono ?_
    rintro e w1 ⟨rfl, HR, hb⟩
    exact ⟨rfl, by simpa using HR, hb⟩
  · exact putBytes_pos A B c d bs ls w hr hl hn hm h0
end Go.Proofs.YtioebjbjpjbodaaDoor

/-
  nums.Put, walked: the bytes, then the number's last ones, in new memory. Condition: no more than 2^47 bytes came in.
-/
import Derived.Test.YtbloejlebikecaaGreatDoorLonger
import Derived.Test.YtbloejlebikecaaGreatDoorLay
namespace Go.Proofs.YtbloejlebikecaaGreatDoor
open Go.RowKit

theorem laid_tail (bs : List UInt8) (N K : Nat) : laid (bs ++ List.replicate K 0) (bs.length + K) N K = bs ++ be N K := by
  have e : bs.length + K - K = bs.length := by omega
  simp [laid, e]

theorem Row.alloc {w : World} {g : Nat} {bs : List UInt8} (h : Row w g bs) (o : Obj) : Row (w.alloc o) g bs := (Below.heap_alloc w o g h.lt).trans h

/-- a new block of words -/
theorem RdW.new (w : World) (g : Nat) (hg : g < w.heap.size) (ws : List Nat) (hw : ∀ x ∈ ws, x < 18446744073709551616) :
    RdW (w.alloc (.cells (ws.map fun (x : Nat) => Value.int .u64 (x : Int)).toArray 22)) g (some ⟨w.heap.size, 0, none⟩) ws := by
  refine ⟨hw, fun hp => ⟨w.heap.size, 0, rfl, by simp, by omega, fun j hj => ?_⟩⟩
  rw [cell_of_row _ _ _ _ 22 (0, 0) (heap_alloc_new w _)]
  simp [hj]

theorem longer_at (A : Option Addr) (c m : Nat) (mi : Int) (hm : mi = m) (bs : List UInt8) (w : World) (hr : Rd w A bs) (hn : bs.length + m ≤ 281474976710656) :
    Calls Tryz.prog 67 #[.slice A bs.length c, .int .i64 mi] w fun e w' => e = .returned (.slice (some ⟨w.heap.size, 0, none⟩) (bs.length + m) (bs.length + m)) ∧
      Row w' w.heap.size (bs ++ List.replicate m 0) ∧ Below w.heap.size w w' := by
  subst hm; exact longer_any A c m bs w hr hn

theorem put_none (A : Option Addr) (c n : Nat) (k : Int) (bs : List UInt8) (w : World) (hr : Rd w A bs) (hn : bs.length ≤ 140737488355328) (hx : n < 18446744073709551616) (hk : k ≤ 0) :
    Calls Tryz.prog 117 #[.slice A bs.length c, .int .u64 (n : Int), .int .i64 k] w fun e w' => e = .returned (.slice (some ⟨w.heap.size, 0, none⟩) bs.length bs.length) ∧
      Row w' w.heap.size bs ∧ Below w.heap.size w w' := by
  rcases (show k < 0 ∨ k = 0 from by omega) with hk | rfl
  all_goals
    go_enter Tryz.func117, Tryz.ntmps117
    go_wp2_with fail
    refine (longer_at A c 0 _ rfl bs w hr (by omega)).mono ?_
    rintro e w1 ⟨rfl, HR, hb1⟩
    have HR1 := hid (p := Row w1 w.heap.size bs) (by simpa using HR)
    clear HR
    rw [Nat.add_zero]
    have HW := hid (RdW.new w1 w.heap.size HR1.out.lt [n] (by simpa using hx))
    have HA := hid (HR1.out.alloc (.cells #[Value.int .u64 (n : Int)] 22))
    have HB := hid (hb1.alloc (Nat.le_of_lt HR1.out.lt) (.cells #[Value.int .u64 (n : Int)] 22))
    go_wp2_with fail
    refine (lay_any _ _ w.heap.size 0 0 0 1 bs [n] _ (fun h => absurd h (by omega)) HA.out (by omega) (by omega) HW.out (by simp) (by simp)).mono ?_
    rintro e w2 ⟨rfl, HR2, hg2⟩
    have HR3 := hid (p := Row w2 w.heap.size bs) (by simpa [laid_zero] using HR2)
    have HB3 := hid (HB.out.grown hg2 (by have := HR1.out.lt; simp; omega) (by simp))
    clear HR2 hg2
    go_wp2
    go_ret
    exact ⟨rfl, HR3.out, HB3.out⟩

theorem put_pos (A : Option Addr) (c n K : Nat) (k : Int) (bs : List UInt8) (w : World) (hr : Rd w A bs) (hn : bs.length ≤ 140737488355328) (hx : n < 18446744073709551616)
    (h0 : 0 < K) (hK : K ≤ 8) (hk : k = K ∨ (8 < k ∧ K = 8)) :
    Calls Tryz.prog 117 #[.slice A bs.length c, .int .u64 (n : Int), .int .i64 k] w fun e w' => e = .returned (.slice (some ⟨w.heap.size, 0, none⟩) (bs.length + K) (bs.length + K)) ∧
      Row w' w.heap.size (bs ++ be n K) ∧ Below w.heap.size w w' := by
  rcases hk with rfl | ⟨hk, rfl⟩
  case' inl => generalize hX : K = X at *
  case' inr => generalize hX : 8 = X at *
  all_goals
    have HX := hid hX
    clear hX
    have hX8 : X ≤ 8 := by have := HX.out; omega
    go_enter Tryz.func117, Tryz.ntmps117
    go_wp2_with fail
    refine (longer_at A c X _ (by have := HX.out; omega) bs w hr (by omega)).mono ?_
    rintro e w1 ⟨rfl, HR, hb1⟩
    have HR1 := hid HR
    clear HR
    have HW := hid (RdW.new w1 w.heap.size HR1.out.lt [n] (by simpa using hx))
    have HA := hid (HR1.out.alloc (.cells #[Value.int .u64 (n : Int)] 22))
    have HB := hid (hb1.alloc (Nat.le_of_lt HR1.out.lt) (.cells #[Value.int .u64 (n : Int)] 22))
    go_wp2_with fail
    refine (lay_any _ _ w.heap.size bs.length X X 1 _ [n] _ (fun _ => rfl) HA.out (by simp) (by simp; omega) HW.out (by simp) (by simp; omega)).mono ?_
    rintro e w2 ⟨rfl, HR2, hg2⟩
    rw [laid_tail] at HR2
    have HR3 := hid (p := Row w2 w.heap.size (bs ++ be n X)) (by simpa [wnum] using HR2)
    have HB3 := hid (HB.out.grown hg2 (by have := HR1.out.lt; simp; omega) (by simp))
    clear HR2 hg2
    go_wp2
    go_ret
    exact ⟨rfl, HR3.out, HB3.out⟩

/-- at any count: as many as are asked for, none at least, eight at most -/
theorem put_any (A : Option Addr) (c n K : Nat) (k : Int) (bs : List UInt8) (w : World) (hr : Rd w A bs) (hn : bs.length ≤ 140737488355328) (hx : n < 18446744073709551616)
    (hK : K = (min (max k 0) 8).toNat) :
    Calls Tryz.prog 117 #[.slice A bs.length c, .int .u64 (n : Int), .int .i64 k] w fun e w' => e = .returned (.slice (some ⟨w.heap.size, 0, none⟩) (bs.length + K) (bs.length + K)) ∧
      Row w' w.heap.size (bs ++ be n K) ∧ Below w.heap.size w w' := by
  rcases (show k ≤ 0 ∨ 0 < k from by omega) with h | h
  · obtain rfl : K = 0 := by omega
    refine (put_none A c n k bs w hr hn hx h).mono ?_
    rintro e w1 ⟨rfl, HR, hb⟩
    exact ⟨rfl, by simpa [be] using HR, hb⟩
  · exact put_pos A c n K k bs w hr hn hx (by omega) (by omega) (by omega)
end Go.Proofs.YtbloejlebikecaaGreatDoor

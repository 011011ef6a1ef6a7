/-
  nums.lay, walked: the room's bytes become the last ones of the words' number. Conditions: the words (four at most) lie in another block than the room, and are enough for it.
  nums.Put, walked: the bytes, then the number's last ones, in new memory. Condition: no more than 2^47 bytes came in.
-/
import Derived.Test.YtgmnpkgnedngjaaDoorPkB
import Derived.Outline
import Derived.WalkLawsBesides
import Derived.WalkSpells
import Derived.Deep.LoopGhost
import Derived.Test.YtgmnpkgnedngjaaDoorPkD
namespace Go.Proofs.YtgmnpkgnedngjaaDoor
open Go.RowKit

/-- a slice's address, and the words that lie there, outside block g -/
def RdW (w : World) (g : Nat) (A : Option Addr) (ws : List Nat) : Prop :=
  (∀ x ∈ ws, x < 18446744073709551616) ∧ (0 < ws.length → ∃ h o, A = some ⟨h, o, none⟩ ∧ h < w.heap.size ∧ h ≠ g ∧ ∀ j, (hj : j < ws.length) → w.cell? ⟨h, o + j, none⟩ = some (.int .u64 ((ws[j] : Nat) : Int)))

/-- the number of words, the lowest first -/
def wnum : List Nat → Nat
  | [] => 0
  | x :: r => x + 18446744073709551616 * wnum r

/-- the room behind k rounds -/
def laid (bs : List UInt8) (e N k : Nat) : List UInt8 := bs.take (e - k) ++ (be N k ++ bs.drop e)

theorem laid_zero (bs : List UInt8) (e N : Nat) : laid bs e N 0 = bs := by simp [laid, be]
theorem laid_length (bs : List UInt8) (e N k : Nat) (hk : k ≤ e) (he : e ≤ bs.length) : (laid bs e N k).length = bs.length := by
  simp [laid, be_length]; omega
theorem laid_succ (bs : List UInt8) (e N k : Nat) (hk : k < e) (he : e ≤ bs.length) : laid bs e N (k + 1) = (laid bs e N k).set (e - 1 - k) (UInt8.ofNat (N / 256 ^ k)) := by
  have h1 : e - k = (e - 1 - k) + 1 := by omega
  have h2 : e - (k + 1) = e - 1 - k := by omega
  have h3 : e - 1 - k < bs.length := by omega
  unfold laid
  rw [h1, h2, List.take_succ_eq_append_getElem h3, be, List.append_assoc, List.set_append]
  have h4 : (bs.take (e - 1 - k)).length = e - 1 - k := by rw [List.length_take]; omega
  rw [if_neg (by omega), h4, Nat.sub_self]
  rfl

theorem wnum_div (ws : List Nat) (hw : ∀ x ∈ ws, x < 18446744073709551616) (j : Nat) (hj : j < ws.length) : ∃ R, wnum ws / 18446744073709551616 ^ j = ws[j] + 18446744073709551616 * R := by
  induction ws generalizing j with
  | nil => simp at hj
  | cons x r ih =>
    cases j with
    | zero => exact ⟨wnum r, by simp [wnum]⟩
    | succ j =>
      obtain ⟨R, hR⟩ := ih (fun y hy => hw y (List.mem_cons_of_mem _ hy)) j (by simpa using hj)
      refine ⟨R, ?_⟩
      have hx := hw x (List.mem_cons_self ..)
      rw [Nat.pow_succ, Nat.mul_comm, ← Nat.div_div_eq_div_mul]
      have e : wnum (x :: r) / 18446744073709551616 = wnum r := by simp only [wnum]; omega
      rw [e, hR]
      simp

theorem low_byte (x R i : Nat) (hi : i < 8) : (x + 18446744073709551616 * R) / 256 ^ i % 256 = x / 256 ^ i % 256 := by
  match i, hi with
  | 0, _ => simp only [Nat.pow_zero]; omega
  | 1, _ => rw [show 256 ^ 1 = 256 from rfl]; omega
  | 2, _ => rw [show 256 ^ 2 = 65536 from rfl]; omega
  | 3, _ => rw [show 256 ^ 3 = 16777216 from rfl]; omega
  | 4, _ => rw [show 256 ^ 4 = 4294967296 from rfl]; omega
  | 5, _ => rw [show 256 ^ 5 = 1099511627776 from rfl]; omega
  | 6, _ => rw [show 256 ^ 6 = 281474976710656 from rfl]; omega
  | 7, _ => rw [show 256 ^ 7 = 72057594037927936 from rfl]; omega

theorem pow_split (k : Nat) : 256 ^ k = 18446744073709551616 ^ (k / 8) * 256 ^ (k % 8) := by
  have e : (18446744073709551616 : Nat) = 256 ^ 8 := by decide
  rw [e, ← Nat.pow_mul, ← Nat.pow_add]
  congr 1
  omega

theorem two_pow_bytes (i : Nat) : 2 ^ (i * 8) = 256 ^ i := by
  have e : (256 : Nat) = 2 ^ 8 := by decide
  rw [e, ← Nat.pow_mul, Nat.mul_comm]

theorem wnum_byte (ws : List Nat) (hw : ∀ x ∈ ws, x < 18446744073709551616) (k : Nat) (hk : k / 8 < ws.length) :
    (((UInt8.ofNat (wnum ws / 256 ^ k)).toNat : Nat) : Int) = ((ws[k / 8] : Nat) : Int) / 2 ^ (k % 8 * 8) % 256 := by
  obtain ⟨R, hR⟩ := wnum_div ws hw (k / 8) hk
  rw [UInt8.toNat_ofNat', pow_split, ← Nat.div_div_eq_div_mul, hR]
  have e8 : (2 : Nat) ^ 8 = 256 := by decide
  rw [e8, low_byte _ _ _ (by omega), ← two_pow_bytes]
  rw [Int.natCast_emod, Int.natCast_ediv, Int.natCast_pow]
  rfl

theorem Row.set {w : World} {g : Nat} {bs : List UInt8} (h : Row w g bs) (i : Nat) (b : UInt8) : Row (w.setCell ⟨g, i, none⟩ (.int .u8 ((b.toNat : Nat) : Int))) g (bs.set i b) := by
  unfold Row at h ⊢
  simp [World.setCell, Array.getElem?_modify, h, bvs, List.map_set]

theorem grown_set {w wr : World} {g i : Nat} (h : w.grownBy wr (some g)) (u : Value) : w.grownBy (wr.setCell ⟨g, i, none⟩ u) (some g) :=
  ⟨h.os, h.tape, h.output, by simpa using h.size, fun k hk hne => (Below.heap_setCell wr ⟨g, i, none⟩ u k (fun e => hne (by rw [e]))).trans (h.block k hk hne)⟩

set_option maxHeartbeats 400000 in
theorem lay_any (R A : Option Addr) (g off m c d : Nat) (bs : List UInt8) (ws : List Nat) (w : World) (hR : 0 < m → R = some ⟨g, off, none⟩) (hg : Row w g bs) (ho : off + m ≤ bs.length) (hb : bs.length ≤ 281474976710656) (hw : RdW w g A ws) (hwl : ws.length ≤ 4) (hmw : m ≤ ws.length * 8) :
    Calls Tryd.prog 29 #[.slice R m c, .slice A ws.length d] w fun e w' => e = .returned (.tuple #[]) ∧
      Row w' g (laid bs (off + m) (wnum ws) m) ∧ w.grownBy w' (some g) := by
  go_enter Tryd.func29, Tryd.ntmps29
  go_wp2
  go_loopw [11] (fun i wr => ∃ k : Nat, k ≤ m ∧ i = .int .i64 k ∧ Hid (Row wr g (laid bs (off + m) (wnum ws) k)) ∧ Hid (w.grownBy wr (some g))) (fun i _ => m - (intOf i).toNat)
  case atStart => exact ⟨0, Nat.zero_le _, rfl, by rw [laid_zero]; exact hg, World.grownBy.refl w _⟩
  case round =>
    obtain ⟨k, hk, rfl, HRk, HGk⟩ := hrel
    by_cases hlt : k < m
    · obtain rfl := hR (by omega)
      have hkw : k / 8 < ws.length := by omega
      obtain ⟨h, o, rfl, hh, hne, hcw⟩ := hw.2 (by omega)
      have hck' : wr.cell? ⟨h, o + k / 8, none⟩ = some (.int .u64 ((ws[k / 8] : Nat) : Int)) :=
        (World.cell?_of_block (HGk.out.block h hh (fun e => hne (by injection e)))).trans (hcw (k / 8) hkw)
      have HX := hid (wnum_byte ws hw.1 k hkw)
      have HL := hid (laid_succ bs (off + m) (wnum ws) k (by omega) ho)
      have hlen := laid_length bs (off + m) (wnum ws) k (by omega) ho
      have hx : ws[k / 8] < 18446744073709551616 := hw.1 _ (by simp)
      clear hcw
      generalize ws[k / 8] = x at hck' hx HX
      have hi : off + (m - 1 - k) < (laid bs (off + m) (wnum ws) k).length := by omega
      have hcell := HRk.out.cell (off + (m - 1 - k)) hi
      generalize (laid bs (off + m) (wnum ws) k)[off + (m - 1 - k)].toNat = v at hcell
      have hfz := HRk.out.frozen (off + (m - 1 - k))
      have HSet := hid (HRk.out.set (off + (m - 1 - k)) (UInt8.ofNat (wnum ws / 256 ^ k)))
      clear hlen hi hR hw
      go_wp2
      go_roundw
      case rel =>
        refine ⟨k + 1, by omega, by go_num, ?_, grown_set HGk.out _⟩
        have e : off + m - 1 - k = off + (m - 1 - k) := by omega
        rw [HL.out, e, ← HX.out]
        exact HSet.out
      case measure => simp [intOf]; omega
    · obtain rfl : k = m := by omega
      go_wp2
      go_end0
      exact ⟨rfl, HRk.out, HGk.out⟩
end Go.Proofs.YtgmnpkgnedngjaaDoor
namespace Go.Proofs.YtgmnpkgnedngjaaDoor
open Go.RowKit

theorem laid_tail (bs : List UInt8) (N K : Nat) : laid (bs ++ List.replicate K 0) (bs.length + K) N K = bs ++ be N K := by
  have e : bs.length + K - K = bs.length := by omega
  simp [laid, e]

theorem Row.alloc {w : World} {g : Nat} {bs : List UInt8} (h : Row w g bs) (o : Obj) : Row (w.alloc o) g bs := (Below.heap_alloc w o g h.lt).trans h

/-- a new block of words -/
theorem RdW.new (w : World) (g : Nat) (hg : g < w.heap.size) (ws : List Nat) (hw : ∀ x ∈ ws, x < 18446744073709551616) :
    RdW (w.alloc (.cells (ws.map fun (x : Nat) => Value.int .u64 (x : Int)).toArray 22)) g (some ⟨w.heap.size, 0, none⟩) ws := by
  refine ⟨hw, fun hp => ⟨w.heap.size, 0, rfl, by simp, by omega, fun j hj => ?_⟩⟩
  rw [cell_of_row _ _ _ _ 22 (0, 0) (heap_alloc_new w _)]
  simp [hj]

theorem longer_at (A : Option Addr) (c m : Nat) (mi : Int) (hm : mi = m) (bs : List UInt8) (w : World) (hr : Rd w A bs) (hn : bs.length + m ≤ 281474976710656) :
    Calls Tryd.prog 28 #[.slice A bs.length c, .int .i64 mi] w fun e w' => e = .returned (.slice (some ⟨w.heap.size, 0, none⟩) (bs.length + m) (bs.length + m)) ∧
      Row w' w.heap.size (bs ++ List.replicate m 0) ∧ Below w.heap.size w w' := by
  subst hm; exact longer_any A c m bs w hr hn

theorem put_none (A : Option Addr) (c n : Nat) (k : Int) (bs : List UInt8) (w : World) (hr : Rd w A bs) (hn : bs.length ≤ 140737488355328) (hx : n < 18446744073709551616) (hk : k ≤ 0) :
    Calls Tryd.prog 26 #[.slice A bs.length c, .int .u64 (n : Int), .int .i64 k] w fun e w' => e = .returned (.slice (some ⟨w.heap.size, 0, none⟩) bs.length bs.length) ∧
      Row w' w.heap.size bs ∧ Below w.heap.size w w' := by
  rcases (show k < 0 ∨ k = 0 from by omega) with hk | rfl
  all_goals
    go_enter Tryd.func26, Tryd.ntmps26
    go_wp2_with fail
    refine (longer_at A c 0 _ rfl bs w hr (by omega)).mono ?_
    rintro e w1 ⟨rfl, HR, hb1⟩
    have HR1 := hid (p := Row w1 w.heap.size bs) (by simpa using HR)
    clear HR
    rw [Nat.add_zero]
    have HW := hid (RdW.new w1 w.heap.size HR1.out.lt [n] (by simpa using hx))
    have HA := hid (HR1.out.alloc (.cells #[Value.int .u64 (n : Int)] 22))
    have HB := hid (hb1.alloc (Nat.le_of_lt HR1.out.lt) (.cells #[Value.int .u64 (n : Int)] 22))
    go_wp2_with fail
    refine (lay_any _ _ w.heap.size 0 0 0 1 bs [n] _ (fun h => absurd h (by omega)) HA.out (by omega) (by omega) HW.out (by simp) (by simp)).mono ?_
    rintro e w2 ⟨rfl, HR2, hg2⟩
    have HR3 := hid (p := Row w2 w.heap.size bs) (by simpa [laid_zero] using HR2)
    have HB3 := hid (HB.out.grown hg2 (by have := HR1.out.lt; simp; omega) (by simp))
    clear HR2 hg2
    go_wp2
    go_ret
    exact ⟨rfl, HR3.out, HB3.out⟩

theorem put_pos (A : Option Addr) (c n K : Nat) (k : Int) (bs : List UInt8) (w : World) (hr : Rd w A bs) (hn : bs.length ≤ 140737488355328) (hx : n < 18446744073709551616)
    (h0 : 0 < K) (hK : K ≤ 8) (hk : k = K ∨ (8 < k ∧ K = 8)) :
    Calls Tryd.prog 26 #[.slice A bs.length c, .int .u64 (n : Int), .int .i64 k] w fun e w' => e = .returned (.slice (some ⟨w.heap.size, 0, none⟩) (bs.length + K) (bs.length + K)) ∧
      Row w' w.heap.size (bs ++ be n K) ∧ Below w.heap.size w w' := by
  rcases hk with rfl | ⟨hk, rfl⟩
  case' inl => generalize hX : K = X at *
  case' inr => generalize hX : 8 = X at *
  all_goals
    have HX := hid hX
    clear hX
    have hX8 : X ≤ 8 := by have := HX.out; omega
    go_enter Tryd.func26, Tryd.ntmps26
    go_wp2_with fail
    refine (longer_at A c X _ (by have := HX.out; omega) bs w hr (by omega)).mono ?_
    rintro e w1 ⟨rfl, HR, hb1⟩
    have HR1 := hid HR
    clear HR
    have HW := hid (RdW.new w1 w.heap.size HR1.out.lt [n] (by simpa using hx))
    have HA := hid (HR1.out.alloc (.cells #[Value.int .u64 (n : Int)] 22))
    have HB := hid (hb1.alloc (Nat.le_of_lt HR1.out.lt) (.cells #[Value.int .u64 (n : Int)] 22))
    go_wp2_with fail
    refine (lay_any _ _ w.heap.size bs.length X X 1 _ [n] _ (fun _ => rfl) HA.out (by simp) (by simp; omega) HW.out (by simp) (by simp; omega)).mono ?_
    rintro e w2 ⟨rfl, HR2, hg2⟩
    rw [laid_tail] at HR2
    have HR3 := hid (p := Row w2 w.heap.size (bs ++ be n X)) (by simpa [wnum] using HR2)
    have HB3 := hid (HB.out.grown hg2 (by have := HR1.out.lt; simp; omega) (by simp))
    clear HR2 hg2
    go_wp2
    go_ret
    exact ⟨rfl, HR3.out, HB3.out⟩

/-- at any count: as many as are asked for, none at least, eight at most -/
theorem put_any (A : Option Addr) (c n K : Nat) (k : Int) (bs : List UInt8) (w : World) (hr : Rd w A bs) (hn : bs.length ≤ 140737488355328) (hx : n < 18446744073709551616)
    (hK : K = (min (max k 0) 8).toNat) :
    Calls Tryd.prog 26 #[.slice A bs.length c, .int .u64 (n : Int), .int .i64 k] w fun e w' => e = .returned (.slice (some ⟨w.heap.size, 0, none⟩) (bs.length + K) (bs.length + K)) ∧
      Row w' w.heap.size (bs ++ be n K) ∧ Below w.heap.size w w' := by
  rcases (show k ≤ 0 ∨ 0 < k from by omega) with h | h
  · obtain rfl : K = 0 := by omega
    refine (put_none A c n k bs w hr hn hx h).mono ?_
    rintro e w1 ⟨rfl, HR, hb⟩
    exact ⟨rfl, by simpa [be] using HR, hb⟩
  · exact put_pos A c n K k bs w hr hn hx (by omega) (by omega) (by omega)
end Go.Proofs.YtgmnpkgnedngjaaDoor

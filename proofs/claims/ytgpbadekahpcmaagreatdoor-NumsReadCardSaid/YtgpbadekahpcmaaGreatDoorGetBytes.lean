/-
  nums.GetBytes, walked: refused, or the bytes that stand behind their count, and how many that was. Condition: the slice's capacity is at most 2^47.
-/
import Derived.Test.YtgpbadekahpcmaaGreatDoorPut
import Derived.Test.YtgpbadekahpcmaaGreatDoorGet
namespace Go.Proofs.YtgpbadekahpcmaaGreatDoor
open Go.RowKit
set_option linter.unusedVariables false

theorem getBytes_head (A : Option Addr) (n c : Nat) (w : World) (hn : n < 4) :
    Calls Tryz.prog 21 #[.slice A n c] w fun e w' => e = .returned (.tuple #[.slice none 0 0, .int .i64 0, .int .i64 5]) ∧ w = w' := by
  go_enter Tryz.func21, Tryz.ntmps21
  go_wp2_with fail
  refine (get_short A n c 4 w (by omega) (by omega) (by omega)).mono ?_
  rintro e w' ⟨rfl, rfl⟩
  go_wp2
  go_ret3
  exact ⟨rfl, rfl⟩

theorem getBytes_short (A : Option Addr) (c : Nat) (bs : List UInt8) (w : World) (hr : Rd w A bs) (hc : bs.length ≤ c) (hc2 : c ≤ 9223372036854775807) (h4 : 4 ≤ bs.length) (hs : bs.length - 4 < tell (bs.take 4)) (hn : bs.length ≤ 140737488355328) :
    Calls Tryz.prog 21 #[.slice A bs.length c] w fun e w' => e = .returned (.tuple #[.slice none 0 0, .int .i64 0, .int .i64 5]) ∧ w = w' := by
  have HG := hid (get_ok A c 4 bs w hr hc (by omega) (by omega) h4)
  generalize tell (bs.take 4) = t at *
  go_enter Tryz.func21, Tryz.ntmps21
  go_wp2_with fail
  refine HG.out.mono ?_
  rintro e w' ⟨rfl, rfl⟩
  go_wp2
  go_ret3
  exact ⟨rfl, rfl⟩

theorem longer_len (A : Option Addr) (c n : Nat) (bs : List UInt8) (w : World) (hl : bs.length = n) (hr : Rd w A bs) (hn : n ≤ 281474976710656) :
    Calls Tryz.prog 23 #[.slice A n c, .int .i64 0] w fun e w' => e = .returned (.slice (some ⟨w.heap.size, 0, none⟩) n n) ∧
      Row w' w.heap.size bs ∧ Below w.heap.size w w' := by
  subst hl
  refine (longer_at A c 0 0 rfl bs w hr (by omega)).mono ?_
  rintro e w1 ⟨rfl, HR, hb⟩
  exact ⟨rfl, by simpa using HR, hb⟩

theorem getBytes_ok (A : Option Addr) (c : Nat) (bs : List UInt8) (w : World) (hr : Rd w A bs) (hc : bs.length ≤ c) (hc2 : c ≤ 9223372036854775807) (h4 : 4 ≤ bs.length) (hs : tell (bs.take 4) ≤ bs.length - 4) (hn : bs.length ≤ 140737488355328) :
    Calls Tryz.prog 21 #[.slice A bs.length c] w fun e w' => e = .returned (.tuple #[.slice (some ⟨w.heap.size, 0, none⟩) (tell (bs.take 4)) (tell (bs.take 4)), .int .i64 (4 + (tell (bs.take 4) : Int)), .int .i64 0]) ∧
      Row w' w.heap.size ((bs.drop 4).take (tell (bs.take 4))) ∧ Below w.heap.size w w' := by
  have HG := hid (get_ok A c 4 bs w hr hc (by omega) (by omega) h4)
  generalize tell (bs.take 4) = t at *
  obtain ⟨g, o, rfl, hg, hcell⟩ := hr (by omega)
  have HD := hid ((hr.cut 4 (some ⟨g, o + 4, none⟩) (fun ad h _ => by injection h with h; subst h; rw [add_plain])).take t)
  have HL := hid (p := ((bs.drop 4).take t).length = t) (by simp; omega)
  clear hcell
  rcases (show c = 4 ∨ 4 < c from by omega) with rfl | h5
  · obtain rfl : t = 0 := by omega
    go_enter Tryz.func21, Tryz.ntmps21
    go_wp2_with fail
    refine HG.out.mono ?_
    rintro e w' ⟨rfl, rfl⟩
    go_wp2_with fail
    refine (longer_len _ _ 0 [] _ rfl (Rd.nil _ _) (by omega)).mono ?_
    rintro e w1 ⟨rfl, HR, hb1⟩
    go_wp2
    go_ret3
    exact ⟨rfl, HR, hb1⟩
  · go_enter Tryz.func21, Tryz.ntmps21
    go_wp2_with fail
    refine HG.out.mono ?_
    rintro e w' ⟨rfl, rfl⟩
    go_wp2_with fail
    refine (longer_len _ _ t _ _ HL.out HD.out (by omega)).mono ?_
    rintro e w1 ⟨rfl, HR, hb1⟩
    go_wp2
    go_ret3
    exact ⟨rfl, HR, hb1⟩
end Go.Proofs.YtgpbadekahpcmaaGreatDoor

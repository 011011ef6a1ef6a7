/-
  nums.GetLong, walked: refused, or the long number that the first 32 bytes tell. Condition: the slice's capacity is at most 2^47.
-/
import Derived.Test.YtioebjbjpjbodaaDoorPkTold
import Derived.Test.YtioebjbjpjbodaaDoorPkPutLong
namespace Go.Proofs.YtioebjbjpjbodaaDoor
open Go.RowKit
set_option linter.unusedVariables false

/-- the eight bytes of word j, the highest word ahead -/
def word (bs : List UInt8) (j : Nat) : Nat := tell ((bs.drop (8 * j)).take 8)

theorem told_len (A : Option Addr) (c n t : Nat) (bs : List UInt8) (w : World) (hl : bs.length = n) (hn : n ≤ 8) (ht : tell bs = t) (hr : Rd w A bs) :
    Calls Tryd.prog 68 #[.slice A n c] w fun e w' => e = .returned (.int .u64 (t : Int)) ∧ w = w' := by
  subst hl; subst ht; exact told_any A c bs w hr hn

theorem getLong_ok (A : Option Addr) (c : Nat) (bs : List UInt8) (w : World) (hr : Rd w A bs) (hc : bs.length ≤ c) (hc2 : c ≤ 9223372036854775807) (h4 : 32 ≤ bs.length) :
    Calls Tryd.prog 54 #[.slice A bs.length c] w fun e w' => e = .returned (.tuple #[.agg #[.int .u64 (word bs 3 : Int), .int .u64 (word bs 2 : Int), .int .u64 (word bs 1 : Int), .int .u64 (word bs 0 : Int)], .int .i64 0]) ∧
      Below w.heap.size w w' := by
  obtain ⟨g, o, rfl, hg, hcell⟩ := hr (by omega)
  have H0 := hid ((hr.cut 0 (some ⟨g, o, none⟩) (fun ad h _ => by injection h with h; subst h; rw [add_plain]; rfl)).take 8)
  have H1 := hid ((hr.cut 8 (some ⟨g, o + 8, none⟩) (fun ad h _ => by injection h with h; subst h; rw [add_plain])).take 8)
  have H2 := hid ((hr.cut 16 (some ⟨g, o + 16, none⟩) (fun ad h _ => by injection h with h; subst h; rw [add_plain])).take 8)
  have H3 := hid ((hr.cut 24 (some ⟨g, o + 24, none⟩) (fun ad h _ => by injection h with h; subst h; rw [add_plain])).take 8)
  have HL : Hid (∀ k, k ≤ 24 → ((bs.drop k).take 8).length = 8) := hid (fun k hk => by simp; omega)
  have W0 := hid (p := tell ((bs.drop 0).take 8) = word bs 0) rfl
  have W1 := hid (p := tell ((bs.drop 8).take 8) = word bs 1) rfl
  have W2 := hid (p := tell ((bs.drop 16).take 8) = word bs 2) rfl
  have W3 := hid (p := tell ((bs.drop 24).take 8) = word bs 3) rfl
  clear hcell hr
  have h32 : decide ((bs.length : Int) < 32) = false := by simp; omega
  generalize word bs 0 = x0 at *
  generalize word bs 1 = x1 at *
  generalize word bs 2 = x2 at *
  generalize word bs 3 = x3 at *
  go_enter Tryd.func54, Tryd.ntmps54
  go_wp2
  refine wp_loop_rounds 5 ?_
  rw [rounds_succ]
  go_wp2_with fail
  refine (told_len _ _ 8 x0 _ _ (HL.out 0 (by omega)) (by omega) W0.out ((H0.out.alloc _).alloc _)).mono ?_
  rintro e w1 ⟨rfl, rfl⟩
  go_wp2
  rw [rounds_succ]
  go_wp2_with fail
  refine (told_len _ _ 8 x1 _ _ (HL.out 8 (by omega)) (by omega) W1.out ((H1.out.alloc _).alloc _)).mono ?_
  rintro e w1 ⟨rfl, rfl⟩
  go_wp2
  rw [rounds_succ]
  go_wp2_with fail
  refine (told_len _ _ 8 x2 _ _ (HL.out 16 (by omega)) (by omega) W2.out ((H2.out.alloc _).alloc _)).mono ?_
  rintro e w1 ⟨rfl, rfl⟩
  go_wp2
  rw [rounds_succ]
  go_wp2_with fail
  refine (told_len _ _ 8 x3 _ _ (HL.out 24 (by omega)) (by omega) W3.out ((H3.out.alloc _).alloc _)).mono ?_
  rintro e w1 ⟨rfl, rfl⟩
  go_wp2
  rw [rounds_succ]
  go_wp2
  refine bodyPost_ret (v := .tuple #[.agg #[.int .u64 (x3 : Int), .int .u64 (x2 : Int), .int .u64 (x1 : Int), .int .u64 (x0 : Int)], .int .i64 0]) (by simp [results, Tryd.results54, go_sem]) rfl ⟨rfl, ?_⟩
  exact ((Below.refl _ _).alloc (Nat.le_refl _) _).alloc (by simp) _
end Go.Proofs.YtioebjbjpjbodaaDoor

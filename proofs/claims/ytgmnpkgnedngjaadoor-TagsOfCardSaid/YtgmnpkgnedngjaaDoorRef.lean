/-
  The document's own answers (burrowref01), walked: behind, Row, Put. Conditions: sizes within 2^46.
-/
import Derived.Test.YtgmnpkgnedngjaaDoorAppend
import Derived.Outline
import Derived.WalkLawsBesides
import Derived.WalkSpells
namespace Go.Proofs.YtgmnpkgnedngjaaDoor
open Go.RowKit
set_option linter.unusedVariables false

/-- it returns a slice of its own that holds these bytes, and nothing that was there has changed -/
def OutO (w : World) (bs : List UInt8) (e : Ending) (w' : World) : Prop := ∃ v, e = .returned v ∧ Ow w' w.heap.size v bs ∧ Below w.heap.size w w'

theorem Row.one (w : World) (b : UInt8) : Row (w.alloc (.cells #[.int .u8 ((b.toNat : Nat) : Int)] 5)) w.heap.size [b] := heap_alloc_new w _

set_option maxRecDepth 100000 in
theorem behind_any (A B : Option Addr) (c d : Nat) (bs ls : List UInt8) (n m : Nat) (hn : bs.length = n) (hm : ls.length = m) (w : World) (ha : Rd w A bs) (hb : Rd w B ls) (hA : A = none → c = 0) (hB : B = none → d = 0) (hs : n + m ≤ 140737488355328) :
    Calls Tryd.prog 32 #[.slice A n c, .slice B m d] w (OutO w (bs ++ ls)) := by
  obtain ⟨v1, w1, hrun1, how1, hg1, _⟩ := append_bytes w w.heap.size (.slice none 0 0) [] bs A n c (Ow.nil _ _) ha hn hA (by simp; omega) (Nat.le_refl _)
  have hb1 : Below w.heap.size w w1 := (Below.refl _ _).grown hg1 (Nat.le_refl _) (by simp [Value.ownBlock])
  obtain ⟨v2, w2, hrun2, how2, hg2, _⟩ := append_bytes w1 w.heap.size v1 ([] ++ bs) ls B m d how1 (hb.below hb1 (Nat.le_refl _)) hm hB (by simp; omega) hb1.size
  have hb2 : Below w.heap.size w w2 := hb1.grown hg2 hb1.size (fun k hk => (World.ownsRow.lt how1 k hk).1)
  have HN1 := hid hrun1
  have HN2 := hid hrun2
  have HO := hid (p := OutO w (bs ++ ls) (.returned v2) w2) ⟨v2, rfl, by simpa using how2, hb2⟩
  clear hrun1 hrun2 how1 how2 hg1 hg2 hb1 hb2
  go_enter Tryd.func32, Tryd.ntmps32
  go_wp2_with (first | (at_builtin; refine step_append rfl (.const (.slice none 0 0)) (.tmp 5) rfl rfl _ _ rfl rfl v1 w1 HN1.out ?_) | (at_builtin; refine step_append rfl (.tmp 6) (.tmp 7) rfl rfl _ _ rfl rfl v2 w2 HN2.out ?_))
  go_ret
  exact HO.out

set_option maxRecDepth 100000 in
theorem row_any (k : Nat) : ∀ (n : Nat) (ki : Int) (w : World), n < 18446744073709551616 → ki = (k : Int) → k ≤ 8 → Calls Tryd.prog 33 #[.int .u64 (n : Int), .int .i64 ki] w (OutO w (be n k)) := by
  induction k with
  | zero =>
    rintro n ki w hn rfl _
    have HO := hid (p := OutO w (be n 0) (.returned (.slice none 0 0)) w) ⟨_, rfl, Ow.nil _ _, Below.refl _ _⟩
    go_enter Tryd.func33, Tryd.ntmps33
    go_wp2
    go_ret
    exact HO.out
  | succ k ih =>
    rintro n ki w hn rfl hk
    have IH := hid (ih (n / 256) (k : Int) w (by omega) rfl (by omega))
    clear ih
    have HB := hid (p := ((n : Int) % 256) = (((UInt8.ofNat n).toNat : Nat) : Int)) (by rw [UInt8.toNat_ofNat']; omega)
    have HD := hid (p := ((n : Int) / 256) = ((n / 256 : Nat) : Int)) (by omega)
    have HK := hid (p := (((k + 1 : Nat) : Int) - 1) = (k : Int)) (by omega)
    go_enter Tryd.func33, Tryd.ntmps33
    go_wp2_with fail
    rw [HD.out]
    refine IH.out.mono ?_
    rintro e w1 ⟨v1, rfl, how1, hb1⟩
    have hR : Row (w1.alloc (.cells #[.int .u8 ((n : Int) % 256)] 5)) w1.heap.size [UInt8.ofNat n] := by rw [HB.out]; exact Row.one w1 _
    obtain ⟨v2, w2, hrun2, how2, hg2, _⟩ := append_bytes (w1.alloc (.cells #[.int .u8 ((n : Int) % 256)] 5)) w.heap.size v1 (be (n / 256) k) [UInt8.ofNat n] (some ⟨w1.heap.size, 0, none⟩) 1 1 (World.ownsRow.alloc how1 _) hR.rd0 rfl (fun h => by cases h) (by rw [be_length]; omega) (by have := hb1.size; simp; omega)
    have hb2 : Below w.heap.size w w2 := (hb1.alloc hb1.size _).grown hg2 (by have := hb1.size; simp; omega) (fun k hk => (World.ownsRow.lt how1 k hk).1)
    have HO := hid (p := OutO w (be n (k + 1)) (.returned v2) w2) ⟨v2, rfl, by rw [be_snoc]; exact how2, hb2⟩
    have HN2 := hid hrun2
    clear hrun2 how1 how2 hg2 hb1 hb2 hR
    go_wp2_with (at_builtin; refine step_append rfl (.tmp 11) (.tmp 15) rfl rfl _ _ rfl rfl v2 w2 HN2.out ?_)
    go_ret
    exact HO.out
end Go.Proofs.YtgmnpkgnedngjaaDoor

/-
  The cipher's steps as the program takes them, in plain words: no program in it. Conditions: none.
-/
import Derived.Test.YtbccnkjfjlmflaaGreatDoorBx
import Derived.Test.YtbccnkjfjlmflaaGreatDoorAet
import Derived.Test.YtbccnkjfjlmflaaGreatDoorAeu
import Derived.Test.YtbccnkjfjlmflaaGreatDoorCia
namespace Go.Proofs.YtbccnkjfjlmflaaGreatDoor
open Go.RowKit
set_option linter.unusedVariables false
set_option linter.unusedSimpArgs false

theorem gb_set (l : List UInt8) (k : Nat) (x : UInt8) (i : Nat) (hk : k < l.length) : gb (l.set k x) i = if i = k then x else gb l i := by
  unfold gb
  rw [List.getD_eq_getElem?_getD, List.getD_eq_getElem?_getD, List.getElem?_set]
  by_cases h : k = i
  · subst h; simp [hk]
  · rw [if_neg h, if_neg (fun e => h e.symm)]
theorem tab_congr (n : Nat) (f g : Nat → UInt8) (h : ∀ i, i < n → f i = g i) : tab n f = tab n g := List.map_congr_left fun i hi => h i (List.mem_range.1 hi)
theorem tab_set (n : Nat) (f : Nat → UInt8) (k : Nat) (x : UInt8) : (tab n f).set k x = tab n (fun i => if i = k then x else f i) := by
  refine list_gb _ _ (by simp [tab_length]) fun i hi => ?_
  have hi' : i < n := by simpa [tab_length] using hi
  rw [gb_tab _ _ _ hi']
  rcases Nat.lt_or_ge k n with h | h
  · rw [gb_set _ _ _ _ (by rw [tab_length]; exact h), gb_tab _ _ _ hi']
  · rw [List.set_eq_of_length_le (by rw [tab_length]; exact h), gb_tab _ _ _ hi', if_neg (by omega)]
/-- both against each other -/
def ag (a b : List UInt8) : List UInt8 := tab 16 fun i => gb a i ^^^ gb b i
/-- S of each byte by a table -/
def oft (t b : List UInt8) : List UInt8 := tab 16 fun i => gb t (gb b i).toNat
/-- rows turned, and back -/
def tn (b : List UInt8) : List UInt8 := tab 16 fun i => gb b ((i + 4 * (i % 4)) % 16)
def nt (b : List UInt8) : List UInt8 := tab 16 fun i => gb b ((i + 12 * (i % 4)) % 16)
theorem ag_length (a b : List UInt8) : (ag a b).length = 16 := tab_length _ _
theorem oft_length (a b : List UInt8) : (oft a b).length = 16 := tab_length _ _
theorem tn_length (b : List UInt8) : (tn b).length = 16 := tab_length _ _
theorem nt_length (b : List UInt8) : (nt b).length = 16 := tab_length _ _
/-- a part of the rounds' words -/
def rkw (w : List UInt8) (n : Nat) : List UInt8 := (w.drop (16 * n)).take 16
theorem gb_rkw (w : List UInt8) (n i : Nat) (h : i < 16) : gb (rkw w n) i = gb w (16 * n + i) := by
  rw [rkw, gb_take _ _ _ h, gb_drop]
theorem rkw_length (w : List UInt8) (n : Nat) (h : 16 * n + 16 ≤ w.length) : (rkw w n).length = 16 := by simp [rkw]; omega
theorem ag_ark (w : List UInt8) (n : Nat) (b : List UInt8) : ag b (rkw w n) = ark w n b := tab_congr _ _ _ fun i hi => by rw [gb_rkw _ _ _ hi]
theorem sb_at (x : UInt8) : gb SB x.toNat = sbb x := rfl
theorem ib_at (x : UInt8) : gb IB x.toNat = ib x := rfl
theorem tn_oft (b : List UInt8) : tn (oft SB b) = ssh b := tab_congr _ _ _ fun i hi => by rw [oft, gb_tab _ _ _ (Nat.mod_lt _ (by decide)), sb_at]
theorem oft_nt (b : List UInt8) : oft IB (nt b) = hss b := tab_congr _ _ _ fun i hi => by rw [nt, gb_tab _ _ _ hi, ib_at]
/-- the first c columns mixed -/
def mxc (b : List UInt8) (c : Nat) : List UInt8 := tab 16 fun i => if i / 4 < c then mx (cb b i 0) (cb b i 1) (cb b i 2) (cb b i 3) else gb b i
theorem mxc_length (b : List UInt8) (c : Nat) : (mxc b c).length = 16 := tab_length _ _
theorem mxc_none (b : List UInt8) (h : b.length = 16) : mxc b 0 = b := tab_eq 16 _ b h fun i hi => by rw [if_neg (by omega)]
theorem mxc_all (b : List UInt8) : mxc b 4 = mixc b := tab_congr _ _ _ fun i hi => by rw [if_pos (by omega), mx_eq]
theorem mxc_step (b : List UInt8) (c : Nat) (hc : c < 4) (p q r t : UInt8) (hp : gb b (4 * c) = p) (hq : gb b (4 * c + 1) = q) (hr : gb b (4 * c + 2) = r) (ht : gb b (4 * c + 3) = t) :
    ((((mxc b c).set (4 * c) (mx p q r t)).set (4 * c + 1) (mx q r t p)).set (4 * c + 2) (mx r t p q)).set (4 * c + 3) (mx t p q r) = mxc b (c + 1) := by
  unfold mxc
  rw [tab_set, tab_set, tab_set, tab_set]
  refine tab_congr _ _ _ fun i hi => ?_
  subst hp; subst hq; subst hr; subst ht
  unfold cb
  rcases Nat.lt_trichotomy (i / 4) c with h | h | h
  · rw [if_neg (by omega), if_neg (by omega), if_neg (by omega), if_neg (by omega), if_pos h, if_pos (by omega)]
  · have e : i = 4 * c + i % 4 := by omega
    have hm : i % 4 < 4 := Nat.mod_lt _ (by decide)
    rw [show (if i / 4 < c + 1 then mx (gb b (4 * (i / 4) + (i + 0) % 4)) (gb b (4 * (i / 4) + (i + 1) % 4)) (gb b (4 * (i / 4) + (i + 2) % 4)) (gb b (4 * (i / 4) + (i + 3) % 4)) else gb b i) = mx (gb b (4 * (i / 4) + (i + 0) % 4)) (gb b (4 * (i / 4) + (i + 1) % 4)) (gb b (4 * (i / 4) + (i + 2) % 4)) (gb b (4 * (i / 4) + (i + 3) % 4)) from if_pos (by omega), h]
    generalize i % 4 = m at *
    match m, hm with
    | 0, _ => subst e; rw [if_neg (by omega), if_neg (by omega), if_neg (by omega), if_pos (by omega)]; congr 2 <;> omega
    | 1, _ => subst e; rw [if_neg (by omega), if_neg (by omega), if_pos (by omega)]; congr 2 <;> omega
    | 2, _ => subst e; rw [if_neg (by omega), if_pos (by omega)]; congr 2 <;> omega
    | 3, _ => subst e; rw [if_pos (by omega)]; congr 2 <;> omega
  · rw [if_neg (by omega), if_neg (by omega), if_neg (by omega), if_neg (by omega), if_neg (by omega), if_neg (by omega)]
theorem mxc_at (b : List UInt8) (c i : Nat) (hi : i < 16) (h : c ≤ i / 4) : gb (mxc b c) i = gb b i := by rw [mxc, gb_tab _ _ _ hi, if_neg (by omega)]
theorem tm_four (x : UInt8) : tm (tm x 2) 2 ^^^ tm (tm x 3) 3 = tm x 1 ^^^ tm x 0 := all_u8 (p := fun x => tm (tm x 2) 2 ^^^ tm (tm x 3) 3 = tm x 1 ^^^ tm x 0) (by decide +kernel) x
end Go.Proofs.YtbccnkjfjlmflaaGreatDoor

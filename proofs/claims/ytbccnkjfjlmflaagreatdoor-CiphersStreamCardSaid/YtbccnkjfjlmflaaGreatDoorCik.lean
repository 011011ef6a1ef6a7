/-
  The words of all rounds as the program spreads them are the chapter's: no program in it. Conditions: none.
-/
import Derived.Test.YtbccnkjfjlmflaaGreatDoorCii
namespace Go.Proofs.YtbccnkjfjlmflaaGreatDoor
open Go.RowKit
set_option linter.unusedVariables false
set_option linter.unusedSimpArgs false

theorem gb_app (a b : List UInt8) (i : Nat) (h : i < a.length) : gb (a ++ b) i = gb a i := by
  unfold gb
  rw [List.getD_eq_getElem?_getD, List.getD_eq_getElem?_getD, List.getElem?_append_left h]
theorem gb_app2 (a b : List UInt8) (i : Nat) (h : a.length ≤ i) : gb (a ++ b) i = gb b (i - a.length) := by
  unfold gb
  rw [List.getD_eq_getElem?_getD, List.getD_eq_getElem?_getD, List.getElem?_append_right h]
theorem kw_stable (key : List UInt8) (m : Nat) : ∀ n, m ≤ n → ∀ x, x < 4 * m → gb (kwords key n) x = gb (kwords key m) x := by
  intro n
  induction n with
  | zero => intro h x hx; omega
  | succ n ih =>
    intro h x hx
    rcases Nat.lt_or_ge m (n + 1) with hl | hl
    · rw [kwords, gb_app _ _ _ (by rw [kwords_length]; omega), ih (by omega) x hx]
    · rw [show m = n + 1 by omega]
theorem kw_at (key : List UInt8) (n i k : Nat) (hi : i < n) (hk : k < 4) : gb (kwords key n) (4 * i + k) =
    if i < 4 then gb key (4 * i + k) else gb (kwords key n) (4 * (i - 4) + k) ^^^ (if i % 4 = 0 then sbb (gb (kwords key n) (4 * (i - 1) + (k + 1) % 4)) ^^^ (if k = 0 then xts 1 (i / 4 - 1) else 0) else gb (kwords key n) (4 * (i - 1) + k)) := by
  rw [kw_stable key (i + 1) n (by omega) _ (by omega), kwords, gb_app2 _ _ _ (by rw [kwords_length]; omega), kwords_length, show 4 * i + k - 4 * i = k by omega, kword, gb_tab _ _ _ hk]
  by_cases h : i < 4
  · rw [if_pos h, if_pos h]
  · rw [if_neg h, if_neg h, kw_stable key i n (by omega) (4 * (i - 4) + k) (by omega), kw_stable key i n (by omega) (4 * (i - 1) + (k + 1) % 4) (by omega), kw_stable key i n (by omega) (4 * (i - 1) + k) (by omega)]
theorem fo2_out (v : List UInt8) (hv : v.length = 16) (n j : Nat) (hn : n ≤ 12) (h : j < 4 ∨ n + 4 ≤ j) : gb (fo2 v n) j = gb v j := by
  induction n with
  | zero => rfl
  | succ n ih => rw [fo2, gb_set _ _ _ _ (by rw [fo2_length, hv]; omega), if_neg (by omega), ih (by omega) (by omega)]
theorem fo2_in (v : List UInt8) (hv : v.length = 16) (n j : Nat) (hn : n ≤ 12) (h4 : 4 ≤ j) (h : j < n + 4) : gb (fo2 v n) j = gb v j ^^^ gb (fo2 v n) (j - 4) := by
  induction n with
  | zero => omega
  | succ n ih =>
    rw [fo2, gb_set _ _ _ _ (by rw [fo2_length, hv]; omega), gb_set _ _ _ _ (by rw [fo2_length, hv]; omega), if_neg (show ¬ j - 4 = n + 4 by omega)]
    by_cases hj : j = n + 4
    · subst hj
      rw [if_pos rfl, fo2_out v hv n (n + 4) (by omega) (by omega), show n + 4 - 4 = n by omega]
    · rw [if_neg hj, ih (by omega) (by omega)]
theorem wk_at (key : List UInt8) (h : key.length = 16) (n : Nat) (hn : n ≤ 10) : ∀ i, i < 16 * (n + 1) → gb (wk key n) i = gb (kwords key 44) i := by
  induction n with
  | zero =>
    intro i hi
    rw [wk, gb_app _ _ _ (by rw [h]; omega), show i = 4 * (i / 4) + i % 4 by omega, kw_at key 44 (i / 4) (i % 4) (by omega) (by omega), if_pos (by omega)]
  | succ n ih =>
    intro i hi
    have ih := ih (by omega)
    have hl := wk_length key h n (by omega)
    have hf : (fol SB (xts 1 n) (rkw (wk key n) n)).length = 16 := fol_length _ _ _
    rw [wk, gb_mid _ _ _ (by rw [hf, hl]; omega), hf]
    by_cases hi2 : i < 16 * (n + 1)
    · rw [if_neg (by omega), ih i hi2]
    · rw [if_pos (by omega)]
      obtain ⟨j, rfl⟩ : ∃ j, i = 16 * (n + 1) + j := ⟨i - 16 * (n + 1), by omega⟩
      have hj : j < 16 := by omega
      rw [show 16 * (n + 1) + j - 16 * (n + 1) = j by omega]
      clear hi hi2
      have hv : ∀ j, j < 16 → gb (rkw (wk key n) n) j = gb (kwords key 44) (16 * n + j) := fun j hj => by rw [gb_rkw _ _ _ hj, ih _ (by omega)]
      generalize rkw (wk key n) n = v at *
      generalize hK : kwords key 44 = K at *
      induction j using Nat.strongRecOn with
      | _ j jh =>
        have e := kw_at key 44 (4 * (n + 1) + j / 4) (j % 4) (by omega) (by omega)
        rw [hK, if_neg (by omega), show 4 * (4 * (n + 1) + j / 4) + j % 4 = 16 * (n + 1) + j by omega, show 4 * (4 * (n + 1) + j / 4 - 4) + j % 4 = 16 * n + j by omega, ← hv j hj] at e
        rw [e]
        unfold fol
        rcases Nat.lt_or_ge j 4 with h4 | h4
        · rw [if_pos (by omega), fo2_out _ (fo_length _ _ _) 12 j (by decide) (.inl h4), fo, gb_set _ _ _ _ (by rw [upto_length]; decide)]
          rw [show 4 * (4 * (n + 1) + j / 4 - 1) + (j % 4 + 1) % 4 = 16 * n + (12 + (j + 1) % 4) by omega, ← hv _ (by omega), show (4 * (n + 1) + j / 4) / 4 - 1 = n by omega, ← sb_at]
          by_cases h0 : j = 0
          · subst h0
            rw [if_pos rfl, if_pos (by decide), fo1, UInt8.xor_assoc]
          · rw [if_neg h0, if_neg (by omega), upto, gb_tab _ _ _ hj, if_pos h4, UInt8.xor_zero]; rfl
        · rw [if_neg (by omega), fo2_in _ (fo_length _ _ _) 12 j (by decide) h4 (by omega)]
          have e2 := jh (j - 4) (by omega) (by omega)
          unfold fol at e2
          rw [e2, show 4 * (4 * (n + 1) + j / 4 - 1) + j % 4 = 16 * (n + 1) + (j - 4) by omega]
          have e3 : gb (fo SB (xts 1 n) v) j = gb v j := by rw [fo, gb_set _ _ _ _ (by rw [upto_length]; decide), if_neg (by omega), upto_at _ _ _ _ _ hj h4]
          rw [e3]
/-- the words of all rounds -/
theorem wk_all (key : List UInt8) (h : key.length = 16) : wk key 10 = kwords key 44 := by
  have h1 := wk_length key h 10 (by decide)
  have h2 := kwords_length key 44
  have h3 := wk_at key h 10 (by decide)
  generalize wk key 10 = a at *
  generalize kwords key 44 = b at *
  exact list_gb _ _ (by omega) fun i hi => h3 i (by omega)
end Go.Proofs.YtbccnkjfjlmflaaGreatDoor

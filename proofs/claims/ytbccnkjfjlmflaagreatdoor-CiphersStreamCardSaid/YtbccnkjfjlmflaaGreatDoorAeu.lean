/-
  A number that rises, a stream, and bytes against it: no program in it. Conditions: none.
-/
import Derived.Test.YtbccnkjfjlmflaaGreatDoorAes
namespace Go.Proofs.YtbccnkjfjlmflaaGreatDoor
set_option linter.unusedVariables false
set_option linter.unusedSimpArgs false

/-- one more, the last byte ahead; it goes round -/
def inc : List UInt8 → List UInt8
  | [] => []
  | x :: r => if x + 1 = 0 then 0 :: inc r else (x + 1) :: r
theorem inc_length (l : List UInt8) : (inc l).length = l.length := by
  induction l with
  | nil => rfl
  | cons x r ih => unfold inc; split <;> simp [ih]
/-- the next number, its highest byte ahead -/
def nxt (b : List UInt8) : List UInt8 := (inc b.reverse).reverse
theorem nxt_length (b : List UInt8) : (nxt b).length = b.length := by simp [nxt, inc_length]
/-- the number that stands n on -/
def nth16 (b : List UInt8) : Nat → List UInt8
  | 0 => b
  | n + 1 => nxt (nth16 b n)
theorem nth16_length (b : List UInt8) (n : Nat) : (nth16 b n).length = b.length := by
  induction n with
  | zero => rfl
  | succ n ih => rw [nth16, nxt_length, ih]
theorem nth16_nxt (b : List UInt8) (n : Nat) : nth16 (nxt b) n = nth16 b (n + 1) := by
  induction n with
  | zero => rfl
  | succ n ih => rw [nth16, ih]; rfl
/-- byte i of a stream -/
def ks (key first : List UInt8) (i : Nat) : UInt8 := gb (enc key (nth16 first (i / 16))) (i % 16)
/-- bytes against a stream -/
def strm (key first b : List UInt8) : List UInt8 := tab b.length fun i => gb b i ^^^ ks key first i
theorem strm_length (key first b : List UInt8) : (strm key first b).length = b.length := tab_length _ _
theorem gb_strm (key first b : List UInt8) (i : Nat) (h : i < b.length) : gb (strm key first b) i = gb b i ^^^ ks key first i := gb_tab _ _ _ h
theorem list_gb (a b : List UInt8) (h : a.length = b.length) (he : ∀ i, i < a.length → gb a i = gb b i) : a = b := by
  rw [← tab_gb a.length a rfl]
  exact tab_eq _ _ b h.symm he
theorem strm_strm (key first b : List UInt8) : strm key first (strm key first b) = b := by
  refine list_gb _ _ (by rw [strm_length, strm_length]) fun i hi => ?_
  rw [strm_length, strm_length] at hi
  rw [gb_strm _ _ _ _ (by rw [strm_length]; exact hi), gb_strm _ _ _ _ hi, UInt8.xor_assoc, UInt8.xor_self, UInt8.xor_zero]
theorem gb_take (b : List UInt8) (n i : Nat) (h : i < n) : gb (b.take n) i = gb b i := by
  unfold gb
  rw [List.getD_eq_getElem?_getD, List.getD_eq_getElem?_getD, List.getElem?_take_of_lt h]
theorem gb_drop (b : List UInt8) (n i : Nat) : gb (b.drop n) i = gb b (n + i) := by
  unfold gb
  rw [List.getD_eq_getElem?_getD, List.getD_eq_getElem?_getD, List.getElem?_drop]
theorem strm_take (key first b : List UInt8) (n : Nat) : strm key first (b.take n) = (strm key first b).take n := by
  refine list_gb _ _ (by rw [strm_length, List.length_take, List.length_take, strm_length]) fun i hi => ?_
  rw [strm_length, List.length_take] at hi
  rw [gb_strm _ _ _ _ (by rw [List.length_take]; exact hi), gb_take _ _ _ (by omega), gb_take _ _ _ (by omega), gb_strm _ _ _ _ (by omega)]
theorem ks_on (key first : List UInt8) (i : Nat) : ks key first (16 + i) = ks key (nxt first) i := by
  unfold ks
  rw [nth16_nxt, show (16 + i) / 16 = i / 16 + 1 by omega, show (16 + i) % 16 = i % 16 by omega]
theorem strm_on (key first b : List UInt8) : strm key (nxt first) (b.drop 16) = (strm key first b).drop 16 := by
  refine list_gb _ _ (by rw [strm_length, List.length_drop, List.length_drop, strm_length]) fun i hi => ?_
  rw [strm_length, List.length_drop] at hi
  rw [gb_strm _ _ _ _ (by rw [List.length_drop]; exact hi), gb_drop, gb_drop, gb_strm _ _ _ _ (by omega), ks_on]
theorem ks_first (key first : List UInt8) (i : Nat) (h : i < 16) : ks key first i = gb (enc key first) i := by
  unfold ks
  rw [Nat.div_eq_of_lt h, Nat.mod_eq_of_lt h]; rfl
/-- the stream, some bytes on -/
theorem strm_snoc (key first b : List UInt8) (x : UInt8) : strm key first (b ++ [x]) = strm key first b ++ [x ^^^ ks key first b.length] := by
  have e : ∀ i, i < b.length → gb (b ++ [x]) i = gb b i := fun i hi => by
    unfold gb
    rw [List.getD_eq_getElem?_getD, List.getD_eq_getElem?_getD, List.getElem?_append_left hi]
  unfold strm
  rw [List.length_append, List.length_singleton]
  unfold tab
  rw [List.range_succ, List.map_append, List.map_singleton]
  congr 1
  · exact List.map_congr_left fun i hi => by rw [e i (List.mem_range.1 hi)]
  · congr 2
    simp [gb]
theorem enc_length (key b : List UInt8) : (enc key b).length = 16 := encw_length _ _
theorem dec_length (key b : List UInt8) : (dec key b).length = 16 := decw_length _ _
theorem dec_enc (key b : List UInt8) (h : b.length = 16) : dec key (enc key b) = b := decw_encw _ b h
theorem enc_dec (key b : List UInt8) (h : b.length = 16) : enc key (dec key b) = b := encw_decw _ b h
theorem enc_inj (key a b : List UInt8) (ha : a.length = 16) (hb : b.length = 16) : enc key a = enc key b ↔ a = b :=
  ⟨fun h => by rw [← dec_enc key a ha, h, dec_enc key b hb], fun h => by rw [h]⟩
end Go.Proofs.YtbccnkjfjlmflaaGreatDoor

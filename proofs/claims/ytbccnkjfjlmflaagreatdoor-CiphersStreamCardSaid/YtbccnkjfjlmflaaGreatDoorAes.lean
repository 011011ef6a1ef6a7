/-
  Bytes as polynomials; S of a byte; the steps of a round and back: no program in it. Conditions: none.
-/
import Derived.IntWalk
namespace Go.Proofs.YtbccnkjfjlmflaaGreatDoor
set_option linter.unusedVariables false

/-- all bytes -/
theorem all_u8 {p : UInt8 → Prop} (h : ∀ i, i < 256 → p (UInt8.ofNat i)) (x : UInt8) : p x := by
  have := h x.toNat x.toNat_lt
  rwa [UInt8.ofNat_toNat] at this
/-- twice a polynomial -/
def xt (a : UInt8) : UInt8 := (a <<< 1) ^^^ (if a &&& 128 = 0 then 0 else 27)
theorem top_or (a : UInt8) : a &&& 128 = 0 ∨ a &&& 128 = 128 := all_u8 (p := fun a => a &&& 128 = 0 ∨ a &&& 128 = 128) (by decide +kernel) a
theorem and_top (a b : UInt8) : (a ^^^ b) &&& 128 = (a &&& 128) ^^^ (b &&& 128) := by
  apply UInt8.toBitVec_inj.1
  simp only [UInt8.toBitVec_and, UInt8.toBitVec_xor]
  apply BitVec.eq_of_getElem_eq
  intro i hi
  simp
  cases a.toBitVec[i] <;> cases b.toBitVec[i] <;> simp
theorem xor_mid (a b c d : UInt8) : a ^^^ b ^^^ (c ^^^ d) = a ^^^ c ^^^ (b ^^^ d) := by
  rw [UInt8.xor_assoc, UInt8.xor_assoc, ← UInt8.xor_assoc b c d, UInt8.xor_comm b c, UInt8.xor_assoc c b d]
theorem xt_xor (a b : UInt8) : xt (a ^^^ b) = xt a ^^^ xt b := by
  unfold xt
  rw [UInt8.shiftLeft_xor, and_top, xor_mid]
  congr 1
  rcases top_or a with h | h <;> rcases top_or b with k | k <;> rw [h, k] <;> decide
/-- how often a polynomial is doubled -/
def xts (a : UInt8) : Nat → UInt8
  | 0 => a
  | n + 1 => xt (xts a n)
theorem xts_xor (a b : UInt8) (n : Nat) : xts (a ^^^ b) n = xts a n ^^^ xts b n := by
  induction n with
  | zero => rfl
  | succ n ih => rw [xts, ih, xt_xor]; rfl
/-- a product, n bits of the second one looked at -/
def tmn (a b : UInt8) : Nat → UInt8
  | 0 => 0
  | n + 1 => if b.toNat / 2 ^ n % 2 = 1 then tmn a b n ^^^ xts a n else tmn a b n
def tm (a b : UInt8) : UInt8 := tmn a b 8
theorem tmn_xor (a b k : UInt8) (n : Nat) : tmn (a ^^^ b) k n = tmn a k n ^^^ tmn b k n := by
  induction n with
  | zero => simp [tmn]
  | succ n ih =>
    unfold tmn
    rw [ih]
    split
    · rw [xts_xor, xor_mid]
    · rfl
theorem tm_xor (a b k : UInt8) : tm (a ^^^ b) k = tm a k ^^^ tm b k := tmn_xor a b k 8
/-- S of each byte, and back -/
def SB : List UInt8 := [99, 124, 119, 123, 242, 107, 111, 197, 48, 1, 103, 43, 254, 215, 171, 118, 202, 130, 201, 125, 250, 89, 71, 240, 173, 212, 162, 175, 156, 164, 114, 192, 183, 253, 147, 38, 54, 63, 247, 204, 52, 165, 229, 241, 113, 216, 49, 21, 4, 199, 35, 195, 24, 150, 5, 154, 7, 18, 128, 226, 235, 39, 178, 117, 9, 131, 44, 26, 27, 110, 90, 160, 82, 59, 214, 179, 41, 227, 47, 132, 83, 209, 0, 237, 32, 252, 177, 91, 106, 203, 190, 57, 74, 76, 88, 207, 208, 239, 170, 251, 67, 77, 51, 133, 69, 249, 2, 127, 80, 60, 159, 168, 81, 163, 64, 143, 146, 157, 56, 245, 188, 182, 218, 33, 16, 255, 243, 210, 205, 12, 19, 236, 95, 151, 68, 23, 196, 167, 126, 61, 100, 93, 25, 115, 96, 129, 79, 220, 34, 42, 144, 136, 70, 238, 184, 20, 222, 94, 11, 219, 224, 50, 58, 10, 73, 6, 36, 92, 194, 211, 172, 98, 145, 149, 228, 121, 231, 200, 55, 109, 141, 213, 78, 169, 108, 86, 244, 234, 101, 122, 174, 8, 186, 120, 37, 46, 28, 166, 180, 198, 232, 221, 116, 31, 75, 189, 139, 138, 112, 62, 181, 102, 72, 3, 246, 14, 97, 53, 87, 185, 134, 193, 29, 158, 225, 248, 152, 17, 105, 217, 142, 148, 155, 30, 135, 233, 206, 85, 40, 223, 140, 161, 137, 13, 191, 230, 66, 104, 65, 153, 45, 15, 176, 84, 187, 22]
def IB : List UInt8 := [82, 9, 106, 213, 48, 54, 165, 56, 191, 64, 163, 158, 129, 243, 215, 251, 124, 227, 57, 130, 155, 47, 255, 135, 52, 142, 67, 68, 196, 222, 233, 203, 84, 123, 148, 50, 166, 194, 35, 61, 238, 76, 149, 11, 66, 250, 195, 78, 8, 46, 161, 102, 40, 217, 36, 178, 118, 91, 162, 73, 109, 139, 209, 37, 114, 248, 246, 100, 134, 104, 152, 22, 212, 164, 92, 204, 93, 101, 182, 146, 108, 112, 72, 80, 253, 237, 185, 218, 94, 21, 70, 87, 167, 141, 157, 132, 144, 216, 171, 0, 140, 188, 211, 10, 247, 228, 88, 5, 184, 179, 69, 6, 208, 44, 30, 143, 202, 63, 15, 2, 193, 175, 189, 3, 1, 19, 138, 107, 58, 145, 17, 65, 79, 103, 220, 234, 151, 242, 207, 206, 240, 180, 230, 115, 150, 172, 116, 34, 231, 173, 53, 133, 226, 249, 55, 232, 28, 117, 223, 110, 71, 241, 26, 113, 29, 41, 197, 137, 111, 183, 98, 14, 170, 24, 190, 27, 252, 86, 62, 75, 198, 210, 121, 32, 154, 219, 192, 254, 120, 205, 90, 244, 31, 221, 168, 51, 136, 7, 199, 49, 177, 18, 16, 89, 39, 128, 236, 95, 96, 81, 127, 169, 25, 181, 74, 13, 45, 229, 122, 159, 147, 201, 156, 239, 160, 224, 59, 77, 174, 42, 245, 176, 200, 235, 187, 60, 131, 83, 153, 97, 23, 43, 4, 126, 186, 119, 214, 38, 225, 105, 20, 99, 85, 33, 12, 125]
def sbb (x : UInt8) : UInt8 := SB.getD x.toNat 0
def ib (x : UInt8) : UInt8 := IB.getD x.toNat 0
theorem ib_sb (x : UInt8) : ib (sbb x) = x := all_u8 (p := fun x => ib (sbb x) = x) (by decide +kernel) x
theorem sb_ib (x : UInt8) : sbb (ib x) = x := all_u8 (p := fun x => sbb (ib x) = x) (by decide +kernel) x
/-- a byte of a list -/
def gb (l : List UInt8) (i : Nat) : UInt8 := l.getD i 0
def tab (n : Nat) (f : Nat → UInt8) : List UInt8 := (List.range n).map f
theorem tab_length (n : Nat) (f : Nat → UInt8) : (tab n f).length = n := by simp [tab]
theorem gb_tab (n : Nat) (f : Nat → UInt8) (i : Nat) (h : i < n) : gb (tab n f) i = f i := by simp [gb, tab, h]
theorem tab_gb (n : Nat) (l : List UInt8) (h : l.length = n) : tab n (gb l) = l := by
  apply List.ext_getElem (by rw [tab_length, h])
  intro i h1 h2
  simp [tab, gb, h2]
theorem tab_eq (n : Nat) (f : Nat → UInt8) (l : List UInt8) (hl : l.length = n) (h : ∀ i, i < n → f i = gb l i) : tab n f = l := by
  rw [← tab_gb n l hl]
  unfold tab
  exact List.map_congr_left fun i hi => h i (List.mem_range.1 hi)
/-- against the words of round n -/
def ark (w : List UInt8) (n : Nat) (b : List UInt8) : List UInt8 := tab 16 fun i => gb b i ^^^ gb w (16 * n + i)
/-- S of each byte, rows turned; and back -/
def ssh (b : List UInt8) : List UInt8 := tab 16 fun i => sbb (gb b ((i + 4 * (i % 4)) % 16))
def hss (b : List UInt8) : List UInt8 := tab 16 fun i => ib (gb b ((i + 12 * (i % 4)) % 16))
/-- byte j on from i in i's column -/
def cb (b : List UInt8) (i j : Nat) : UInt8 := gb b (4 * (i / 4) + (i + j) % 4)
def mixc (b : List UInt8) : List UInt8 := tab 16 fun i => tm (cb b i 0) 2 ^^^ tm (cb b i 1) 3 ^^^ cb b i 2 ^^^ cb b i 3
def imix (b : List UInt8) : List UInt8 := tab 16 fun i => tm (cb b i 0) 14 ^^^ tm (cb b i 1) 11 ^^^ tm (cb b i 2) 13 ^^^ tm (cb b i 3) 9
theorem ark_ark (w : List UInt8) (n : Nat) (b : List UInt8) (h : b.length = 16) : ark w n (ark w n b) = b := by
  refine tab_eq 16 _ b h fun i hi => ?_
  rw [ark, gb_tab _ _ _ hi, UInt8.xor_assoc, UInt8.xor_self, UInt8.xor_zero]
theorem hss_ssh (b : List UInt8) (h : b.length = 16) : hss (ssh b) = b := by
  refine tab_eq 16 _ b h fun i hi => ?_
  rw [ssh, gb_tab _ _ _ (Nat.mod_lt _ (by decide)), ib_sb]
  congr 1; omega
theorem ssh_hss (b : List UInt8) (h : b.length = 16) : ssh (hss b) = b := by
  refine tab_eq 16 _ b h fun i hi => ?_
  rw [hss, gb_tab _ _ _ (Nat.mod_lt _ (by decide)), sb_ib]
  congr 1; omega
theorem cb_tab (f : Nat → UInt8) (i j : Nat) (h : i < 16) : cb (tab 16 f) i j = f (4 * (i / 4) + (i + j) % 4) := gb_tab _ _ _ (by omega)
theorem cb_cb (b : List UInt8) (i j k : Nat) : cb b (4 * (i / 4) + (i + j) % 4) k = cb b i (j + k) := by
  unfold cb
  congr 1; omega
theorem cb_c0 (b : List UInt8) (i k : Nat) : cb b (4 * (i / 4) + i % 4) k = cb b i k := by
  unfold cb
  congr 1; omega
theorem cb_4 (b : List UInt8) (i j : Nat) : cb b i (j + 4) = cb b i j := by
  unfold cb
  congr 1; omega
theorem im0 (x : UInt8) : tm (tm (x) 2) 14 ^^^ tm (x) 11 ^^^ tm (x) 13 ^^^ tm (tm (x) 3) 9 = x := all_u8 (p := fun x => tm (tm (x) 2) 14 ^^^ tm (x) 11 ^^^ tm (x) 13 ^^^ tm (tm (x) 3) 9 = x) (by decide +kernel) x
theorem im1 (x : UInt8) : tm (tm (x) 3) 14 ^^^ tm (tm (x) 2) 11 ^^^ tm (x) 13 ^^^ tm (x) 9 = 0 := all_u8 (p := fun x => tm (tm (x) 3) 14 ^^^ tm (tm (x) 2) 11 ^^^ tm (x) 13 ^^^ tm (x) 9 = 0) (by decide +kernel) x
theorem im2 (x : UInt8) : tm (x) 14 ^^^ tm (tm (x) 3) 11 ^^^ tm (tm (x) 2) 13 ^^^ tm (x) 9 = 0 := all_u8 (p := fun x => tm (x) 14 ^^^ tm (tm (x) 3) 11 ^^^ tm (tm (x) 2) 13 ^^^ tm (x) 9 = 0) (by decide +kernel) x
theorem im3 (x : UInt8) : tm (x) 14 ^^^ tm (x) 11 ^^^ tm (tm (x) 3) 13 ^^^ tm (tm (x) 2) 9 = 0 := all_u8 (p := fun x => tm (x) 14 ^^^ tm (x) 11 ^^^ tm (tm (x) 3) 13 ^^^ tm (tm (x) 2) 9 = 0) (by decide +kernel) x
theorem mi0 (x : UInt8) : tm (tm (x) 14) 2 ^^^ tm (tm (x) 9) 3 ^^^ tm (x) 13 ^^^ tm (x) 11 = x := all_u8 (p := fun x => tm (tm (x) 14) 2 ^^^ tm (tm (x) 9) 3 ^^^ tm (x) 13 ^^^ tm (x) 11 = x) (by decide +kernel) x
theorem mi1 (x : UInt8) : tm (tm (x) 11) 2 ^^^ tm (tm (x) 14) 3 ^^^ tm (x) 9 ^^^ tm (x) 13 = 0 := all_u8 (p := fun x => tm (tm (x) 11) 2 ^^^ tm (tm (x) 14) 3 ^^^ tm (x) 9 ^^^ tm (x) 13 = 0) (by decide +kernel) x
theorem mi2 (x : UInt8) : tm (tm (x) 13) 2 ^^^ tm (tm (x) 11) 3 ^^^ tm (x) 14 ^^^ tm (x) 9 = 0 := all_u8 (p := fun x => tm (tm (x) 13) 2 ^^^ tm (tm (x) 11) 3 ^^^ tm (x) 14 ^^^ tm (x) 9 = 0) (by decide +kernel) x
theorem mi3 (x : UInt8) : tm (tm (x) 9) 2 ^^^ tm (tm (x) 13) 3 ^^^ tm (x) 11 ^^^ tm (x) 14 = 0 := all_u8 (p := fun x => tm (tm (x) 9) 2 ^^^ tm (tm (x) 13) 3 ^^^ tm (x) 11 ^^^ tm (x) 14 = 0) (by decide +kernel) x

theorem mix_all (p q r t : UInt8) : (tm (tm p 2 ^^^ tm q 3 ^^^ r ^^^ t) 14 ^^^ tm (tm q 2 ^^^ tm r 3 ^^^ t ^^^ p) 11 ^^^ tm (tm r 2 ^^^ tm t 3 ^^^ p ^^^ q) 13 ^^^ tm (tm t 2 ^^^ tm p 3 ^^^ q ^^^ r) 9) = p := by
  have e : (tm (tm p 2 ^^^ tm q 3 ^^^ r ^^^ t) 14 ^^^ tm (tm q 2 ^^^ tm r 3 ^^^ t ^^^ p) 11 ^^^ tm (tm r 2 ^^^ tm t 3 ^^^ p ^^^ q) 13 ^^^ tm (tm t 2 ^^^ tm p 3 ^^^ q ^^^ r) 9) = (tm (tm (p) 2) 14 ^^^ tm (p) 11 ^^^ tm (p) 13 ^^^ tm (tm (p) 3) 9) ^^^ (tm (tm (q) 3) 14 ^^^ tm (tm (q) 2) 11 ^^^ tm (q) 13 ^^^ tm (q) 9) ^^^ (tm (r) 14 ^^^ tm (tm (r) 3) 11 ^^^ tm (tm (r) 2) 13 ^^^ tm (r) 9) ^^^ (tm (t) 14 ^^^ tm (t) 11 ^^^ tm (tm (t) 3) 13 ^^^ tm (tm (t) 2) 9) := by
    simp only [tm_xor]
    ac_rfl
  rw [e, im0, im1, im2, im3]; simp
theorem all_mix (p q r t : UInt8) : (tm (tm p 14 ^^^ tm q 11 ^^^ tm r 13 ^^^ tm t 9) 2 ^^^ tm (tm q 14 ^^^ tm r 11 ^^^ tm t 13 ^^^ tm p 9) 3 ^^^ (tm r 14 ^^^ tm t 11 ^^^ tm p 13 ^^^ tm q 9) ^^^ (tm t 14 ^^^ tm p 11 ^^^ tm q 13 ^^^ tm r 9)) = p := by
  have e : (tm (tm p 14 ^^^ tm q 11 ^^^ tm r 13 ^^^ tm t 9) 2 ^^^ tm (tm q 14 ^^^ tm r 11 ^^^ tm t 13 ^^^ tm p 9) 3 ^^^ (tm r 14 ^^^ tm t 11 ^^^ tm p 13 ^^^ tm q 9) ^^^ (tm t 14 ^^^ tm p 11 ^^^ tm q 13 ^^^ tm r 9)) = (tm (tm (p) 14) 2 ^^^ tm (tm (p) 9) 3 ^^^ tm (p) 13 ^^^ tm (p) 11) ^^^ (tm (tm (q) 11) 2 ^^^ tm (tm (q) 14) 3 ^^^ tm (q) 9 ^^^ tm (q) 13) ^^^ (tm (tm (r) 13) 2 ^^^ tm (tm (r) 11) 3 ^^^ tm (r) 14 ^^^ tm (r) 9) ^^^ (tm (tm (t) 9) 2 ^^^ tm (tm (t) 13) 3 ^^^ tm (t) 11 ^^^ tm (t) 14) := by
    simp only [tm_xor]
    ac_rfl
  rw [e, mi0, mi1, mi2, mi3]; simp
theorem imix_mixc (b : List UInt8) (h : b.length = 16) : imix (mixc b) = b := by
  refine tab_eq 16 _ b h fun i hi => ?_
  unfold mixc
  simp only [cb_tab _ _ _ hi, cb_cb, cb_c0, Nat.add_zero, Nat.reduceAdd]
  rw [show cb b i 4 = cb b i 0 from cb_4 b i 0, show cb b i 5 = cb b i 1 from cb_4 b i 1, show cb b i 6 = cb b i 2 from cb_4 b i 2, mix_all]
  unfold cb; congr 1; omega
theorem mixc_imix (b : List UInt8) (h : b.length = 16) : mixc (imix b) = b := by
  refine tab_eq 16 _ b h fun i hi => ?_
  unfold imix
  simp only [cb_tab _ _ _ hi, cb_cb, cb_c0, Nat.add_zero, Nat.reduceAdd]
  rw [show cb b i 4 = cb b i 0 from cb_4 b i 0, show cb b i 5 = cb b i 1 from cb_4 b i 1, show cb b i 6 = cb b i 2 from cb_4 b i 2, all_mix]
  unfold cb; congr 1; omega
/-- the first n rounds, n below ten -/
def rdw (w : List UInt8) (b : List UInt8) : Nat → List UInt8
  | 0 => ark w 0 b
  | n + 1 => ark w (n + 1) (mixc (ssh (rdw w b n)))
/-- a block in, by the words of all rounds -/
def encw (w b : List UInt8) : List UInt8 := ark w 10 (ssh (rdw w b 9))
/-- n rounds back -/
def back (w : List UInt8) (b : List UInt8) : Nat → List UInt8
  | 0 => ark w 0 b
  | n + 1 => back w (hss (imix (ark w (n + 1) b))) n
def decw (w b : List UInt8) : List UInt8 := back w (hss (ark w 10 b)) 9
theorem ark_length (w : List UInt8) (n : Nat) (b : List UInt8) : (ark w n b).length = 16 := tab_length _ _
theorem ssh_length (b : List UInt8) : (ssh b).length = 16 := tab_length _ _
theorem hss_length (b : List UInt8) : (hss b).length = 16 := tab_length _ _
theorem mixc_length (b : List UInt8) : (mixc b).length = 16 := tab_length _ _
theorem imix_length (b : List UInt8) : (imix b).length = 16 := tab_length _ _
theorem rnds_length (w b : List UInt8) (n : Nat) : (rdw w b n).length = 16 := by cases n <;> exact ark_length _ _ _
theorem back_length (w b : List UInt8) (n : Nat) : (back w b n).length = 16 := by
  induction n generalizing b with
  | zero => exact ark_length _ _ _
  | succ n ih => exact ih _
theorem encw_length (w b : List UInt8) : (encw w b).length = 16 := ark_length _ _ _
theorem decw_length (w b : List UInt8) : (decw w b).length = 16 := back_length _ _ _
theorem back_rnds (w b : List UInt8) (h : b.length = 16) (n : Nat) : back w (rdw w b n) n = b := by
  induction n with
  | zero => exact ark_ark w 0 b h
  | succ n ih => rw [rdw, back, ark_ark _ _ _ (mixc_length _), imix_mixc _ (ssh_length _), hss_ssh _ (rnds_length _ _ _), ih]
theorem rnds_back (w b : List UInt8) (h : b.length = 16) (n : Nat) : rdw w (back w b n) n = b := by
  induction n generalizing b with
  | zero => exact ark_ark w 0 b h
  | succ n ih => rw [rdw, back, ih _ (hss_length _), ssh_hss _ (imix_length _), mixc_imix _ (ark_length _ _ _), ark_ark _ _ _ h]
/-- there and back -/
theorem decw_encw (w b : List UInt8) (h : b.length = 16) : decw w (encw w b) = b := by
  rw [decw, encw, ark_ark _ _ _ (ssh_length _), hss_ssh _ (rnds_length _ _ _), back_rnds w b h]
theorem encw_decw (w b : List UInt8) (h : b.length = 16) : encw w (decw w b) = b := by
  rw [decw, encw, rnds_back w _ (hss_length _), ssh_hss _ (ark_length _ _ _), ark_ark _ _ _ h]
/-- a word of the round keys, those ahead of it known -/
def kword (key w : List UInt8) (i : Nat) : List UInt8 :=
  tab 4 fun k => if i < 4 then gb key (4 * i + k) else gb w (4 * (i - 4) + k) ^^^ (if i % 4 = 0 then sbb (gb w (4 * (i - 1) + (k + 1) % 4)) ^^^ (if k = 0 then xts 1 (i / 4 - 1) else 0) else gb w (4 * (i - 1) + k))
def kwords (key : List UInt8) : Nat → List UInt8
  | 0 => []
  | i + 1 => kwords key i ++ kword key (kwords key i) i
theorem kwords_length (key : List UInt8) (i : Nat) : (kwords key i).length = 4 * i := by
  induction i with
  | zero => rfl
  | succ i ih => rw [kwords, List.length_append, ih, kword, tab_length]; omega
/-- Block, Back -/
def enc (key b : List UInt8) : List UInt8 := encw (kwords key 44) b
def dec (key b : List UInt8) : List UInt8 := decw (kwords key 44) b
theorem enc_fips : enc (tab 16 fun i => UInt8.ofNat i) (tab 16 fun i => UInt8.ofNat (17 * i)) = [0x69, 0xc4, 0xe0, 0xd8, 0x6a, 0x7b, 0x04, 0x30, 0xd8, 0xcd, 0xb7, 0x80, 0x70, 0xb4, 0xc5, 0x5a] := by decide +kernel
end Go.Proofs.YtbccnkjfjlmflaaGreatDoor

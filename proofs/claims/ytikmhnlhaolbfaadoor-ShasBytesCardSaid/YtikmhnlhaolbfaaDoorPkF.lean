/-
  shas.Number's closure, walked: the number that the sum of the parts and one byte more tells. Conditions: the library's table K lies there; 999 parts at most, each of 2^20 bytes at most; a text of 1000000 bytes at most.
  divides.take, walked. Conditions: what is left is below m, and the bit is 0 or 1.
  Numbers that are divided: no program stands here. Conditions: none.
  divides.bring, walked. Conditions: what is left is below m; 256 bits at the most.
  divides.Div, walked: how often, and what is left. Conditions: none.
  divides.Wide, walked: what is left of twice as many words. Conditions: none.
  shas.Number, walked: what is left by m of the parts' two sums. Conditions: the library's table K lies there; 999 parts at most, each of 2^20 bytes at most; a text of 1000000 bytes at most.
  append onto a slice of bytes of the call's own. Conditions: no more than 2^47 bytes in all.
  The document's own answers (burrowref01), walked: behind, Row, Put. Conditions: sizes within 2^46.
  The document's own answers (burrowref01), walked: Put, PutLong, PutBytes. Conditions: sizes within 2^46.
  burrowref05.round, table, walked: the document's own. Conditions: none.
-/
import Derived.Test.YtikmhnlhaolbfaaDoorPkD
import Derived.Test.YtikmhnlhaolbfaaDoorPkE
import Derived.Test.YtikmhnlhaolbfaaDoorPkC
import Derived.Test.YtikmhnlhaolbfaaDoorPkA
import Derived.Maps.AppendAt
import Derived.Laws.AppendOwnNone
import Derived.Outline
import Derived.WalkLawsBesides
import Derived.WalkSpells
import Derived.Test.YtikmhnlhaolbfaaDoorPkB
namespace Go.Proofs.YtikmhnlhaolbfaaDoor
open Go.RowKit
set_option linter.unusedVariables false
set_option linter.unusedSimpArgs false

theorem words32 (r : List UInt8) (h : r.length = 32) : wd (tell r) 0 = word r 3 ∧ wd (tell r) 1 = word r 2 ∧ wd (tell r) 2 = word r 1 ∧ wd (tell r) 3 = word r 0 := by
  have e0 : tell r = word r 0 * 256 ^ 24 + tell (r.drop 8) := by
    conv => lhs; rw [← List.take_append_drop 8 r]
    rw [tell_append, List.length_drop, h]; rfl
  have e1 : tell (r.drop 8) = word r 1 * 256 ^ 16 + tell (r.drop 16) := by
    conv => lhs; rw [← List.take_append_drop 8 (r.drop 8)]
    rw [tell_append, List.length_drop, List.length_drop, h, List.drop_drop]; rfl
  have e2 : tell (r.drop 16) = word r 2 * 256 ^ 8 + tell (r.drop 24) := by
    conv => lhs; rw [← List.take_append_drop 8 (r.drop 16)]
    rw [tell_append, List.length_drop, List.length_drop, h, List.drop_drop]; rfl
  have e3 : tell (r.drop 24) = word r 3 := by
    have : (r.drop 24).take 8 = r.drop 24 := List.take_of_length_le (by rw [List.length_drop, h]; decide)
    show tell (r.drop 24) = tell ((r.drop (8 * 3)).take 8)
    rw [show 8 * 3 = 24 from rfl, this]
  have lt : ∀ k, word r k < 18446744073709551616 := by
    intro k
    have h1 := tell_lt ((r.drop (8 * k)).take 8)
    have h2 : 256 ^ ((r.drop (8 * k)).take 8).length ≤ 256 ^ 8 := Nat.pow_le_pow_right (by decide) (by rw [List.length_take]; omega)
    show tell ((r.drop (8 * k)).take 8) < 18446744073709551616
    have h3 : (256 : Nat) ^ 8 = 18446744073709551616 := by decide
    omega
  have l0 := lt 0; have l1 := lt 1; have l2 := lt 2; have l3 := lt 3
  rw [e1, e2, e3] at e0
  rw [show (256 : Nat) ^ 24 = 6277101735386680763835789423207666416102355444464034512896 by decide, show (256 : Nat) ^ 16 = 340282366920938463463374607431768211456 by decide, show (256 : Nat) ^ 8 = 18446744073709551616 by decide] at e0
  clear e1 e2 e3 lt
  generalize tell r = T at *
  generalize word r 0 = x0 at *
  generalize word r 1 = x1 at *
  generalize word r 2 = x2 at *
  generalize word r 3 = x3 at *
  simp only [wd]
  rw [show (18446744073709551616 : Nat) ^ 0 = 1 by decide, show (18446744073709551616 : Nat) ^ 1 = 18446744073709551616 by decide, show (18446744073709551616 : Nat) ^ 2 = 340282366920938463463374607431768211456 by decide, show (18446744073709551616 : Nat) ^ 3 = 6277101735386680763835789423207666416102355444464034512896 by decide]
  omega
/-- nums.GetLong over a sum's box -/
theorem gl_at (r : List UInt8) (g t : Nat) {w w' : World} {l : List (Nat × Nat)} (hq : r.length = 32) (hz : Bt w' g 44 r) (et : tell r = t) (h : Env w l w') :
    Calls Tryd.prog 56 #[.slice (some ⟨g, 0, none⟩) 32 32] w' fun e w2 => e = .returned (.tuple #[num t, .int .i64 0]) ∧ Env w l w2 := by
  have hr : Rd w' (some ⟨g, 0, none⟩) r := by
    intro hp
    refine ⟨g, 0, rfl, lt_of_block hz, fun j hj => ?_⟩
    rw [cell_of_row _ _ _ _ 44 _ hz]
    simp [bvs, hj]
  have hg := getLong_ok (some ⟨g, 0, none⟩) 32 r w' hr (by omega) (by decide) (by omega)
  rw [hq] at hg
  refine hg.mono ?_
  rintro e w2 ⟨rfl, hb⟩
  obtain ⟨h0, h1, h2, h3⟩ := words32 r hq
  subst et
  refine ⟨?_, h.on hb⟩
  unfold num
  rw [← h0, ← h1, ← h2, ← h3]
  try rfl
theorem lt0 {w w0 : World} {ga g : Nat} (e : w.heap.size = g) (h : ga < g) (hb : Below w.heap.size w w0) : ga < w0.heap.size := Nat.lt_of_lt_of_le (e ▸ h) hb.size
/-- one half of the number -/
def half (s : List UInt8) (n : Nat) (xs : Nat → List UInt8) (x : UInt8) : Nat := tell (sha (spelt s (n + 1) (nx n xs [x]) (n + 1)))
theorem half_lt (s : List UInt8) (n : Nat) (xs : Nat → List UInt8) (x : UInt8) : half s n xs x < 2 ^ 256 := by
  have h := tell_lt (sha (spelt s (n + 1) (nx n xs [x]) (n + 1)))
  rw [sha_length, show (256 : Nat) ^ 32 = 2 ^ 256 by decide] at h
  exact h
set_option maxRecDepth 100000 in
set_option maxHeartbeats 4000000 in
theorem half_any (st : ByteArray) (a0 : Option Addr) (n0 c0 : Nat) (A : Nat → Option Addr) (L C : Nat → Nat) (xs : Nat → List UInt8) (ga gp : Nat) (x : UInt8) (xi : Int) (w : World) (hx : xi = (x.toNat : Int)) (hR : Rws w a0 n0 A L C xs) (hK : Kt w) (hn : n0 + 1 ≤ 1000) (hL : ∀ r, r < n0 → L r ≤ 1048576) (hs : st.size ≤ 1000000) (hc : n0 ≤ c0) (h0 : a0 = none → c0 = 0)
    (hga : w.cell? ⟨ga, 0, none⟩ = some (.string st)) (hgp : w.cell? ⟨gp, 0, none⟩ = some (.slice a0 n0 c0)) :
    Calls Tryd.prog 87 #[.int .u8 xi, .pointer (some ⟨ga, 0, none⟩), .pointer (some ⟨gp, 0, none⟩)] w fun e w' => e = .returned (num (half st.data.toList n0 xs x)) ∧ Below w.heap.size w w' := by
  obtain ⟨r, er⟩ : ∃ z, sha (spelt st.data.toList (n0 + 1) (nx n0 xs [x]) (n0 + 1)) = z := ⟨_, rfl⟩
  obtain ⟨t, et⟩ : ∃ z, tell r = z := ⟨_, rfl⟩
  have hq : r.length = 32 := by rw [← er]; exact sha_length _
  rw [half, er, et]
  have ER := hid er
  have ET := hid et
  have HQ := hid hq
  have HC := hid hc
  have HN := hid (show n0 ≤ 1000 by omega)
  have HN1 := hid hn
  have HZa := hid h0
  have HZ := hid (show a0 = none → n0 = 0 from fun e => by have := h0 e; omega)
  have HL1 := hid (nx_le n0 L hL)
  have HS := hid hs
  have HX := hid hx
  have FK := hid (on_kt hK)
  have FR := hid (on_rws hR)
  have FC := hid ((on_cell (World.block_lt_of_cell? _ _ hga) hga).both (on_cell (World.block_lt_of_cell? _ _ hgp) hgp))
  have HO1 := hid (World.block_lt_of_cell? _ _ hga)
  have HO2 := hid (World.block_lt_of_cell? _ _ hgp)
  clear er et hq hc hn h0 hL hs hx hK hR hga hgp
  have H0 := hid (((Env.refl w).zero).perm (l' := [(w.heap.size, 0)]) (by simp))
  have DZ := hid (show w.heap.size ≤ w.heap.size by omega)
  go_enter Tryd.func87, Tryd.ntmps87
  go_upto_region 1 with fail
  generalize w.alloc (.cells #[.int .u64 0, .int .u64 0, .int .u64 0, .int .u64 0] 24) = w0 at *
  generalize hzg_z : w.heap.size = g_z at *
  have FK := hid (FK.out.on H0.out.1)
  have FR := hid (FR.out.on H0.out.1)
  have FC := hid (FC.out.on H0.out.1)
  have HO1 := hid (lt0 hzg_z HO1.out H0.out.1)
  have HO2 := hid (lt0 hzg_z HO2.out H0.out.1)
  have HCA := hid FC.out.here.1
  have HCP := hid FC.out.here.2
  refine hf1_ok FK FR FC HO1 HO2 HCA HCP HC HN HN HN1 HZa HZ HL1 HS HX ER HQ _ _ _ _ _ _ _ _ _ _ _ _ _ _ _ _ _ _ _ (hid ?_)
  intro d8 d9 d10 d11 d12 d13 d14 d15 gz u FZ
  have H1 := hid (H0.out.on FZ.out.here.2)
  have HB := hid FZ.out.here.1
  clear FK FR FC HO1 HO2 HCA HCP HC HN HN1 HZa HZ HL1 HS HX ER FZ H0
  go_wp2_with fail
  refine (gl_at r gz t HQ.out HB.out ET.out H1.out).mono ?_
  rintro e w2 ⟨rfl, h⟩
  have H2 := hid h
  clear h H1
  clear HB HQ ET
  go_upto_region 3 with fail
  have H2b := hid (H2.out.new t)
  clear H2
  generalize w2.alloc (.cells (cls t) 24) = w2b at *
  generalize w2.heap.size = g6 at *
  obtain ⟨c0x2a, c0x2b, c0x2c, c0x2d⟩ := H2b.out.cell (g6) (t) (by simp)
  have c0x2l := H2b.out.lt (g6) (t) (by simp)
  have c0x2m := Nat.le_of_lt c0x2l
  obtain ⟨z0, z1, z2, z3⟩ := H2b.out.cell g_z 0 (by simp)
  have zl := H2b.out.lt g_z 0 (by simp)
  have zf := H2b.out.frozen g_z 0 (by simp)
  have HZ := hid (H2b.out.set g_z 0 (t) [] (by simp) (by rw [hzg_z]; exact DZ.out) (by simp))
  go_wp2
  clear z0 z1 z2 z3 zl zf
  try rw [Exit.noGoto_ret]
  change bodyPost _ _ _ _ _ (fil w2b g_z (t))
  generalize fil w2b g_z (t) = wz at *
  obtain ⟨k0, k1, k2, k3⟩ := HZ.out.cell g_z (t) (by simp)
  exact bodyPost_ret (v := num (t)) (by simp [results, Tryd.results87, go_sem, k0, k1, k2, k3]) rfl ⟨rfl, HZ.out.1⟩
end Go.Proofs.YtikmhnlhaolbfaaDoor
namespace Go.Proofs.YtikmhnlhaolbfaaDoor
open Go.RowKit
set_option linter.unusedVariables false

theorem even_word {s b : Nat} (he : s % 2 = 0) (hb : b ≤ 1) : wd (s + b) 0 = wd s 0 + b ∧ wd (s + b) 1 = wd s 1 ∧ wd (s + b) 2 = wd s 2 ∧ wd (s + b) 3 = wd s 3 := by
  unfold wd
  have e1 : (18446744073709551616 : Nat) ^ 1 = 18446744073709551616 := by decide
  have e2 : (18446744073709551616 : Nat) ^ 2 = 340282366920938463463374607431768211456 := by decide
  have e3 : (18446744073709551616 : Nat) ^ 3 = 6277101735386680763835789423207666416102355444464034512896 := by decide
  rw [e1, e2, e3, Nat.pow_zero]
  refine ⟨?_, ?_, ?_, ?_⟩ <;> omega
theorem or_bit {s b : Nat} (he : s % 2 = 0) (hb : b ≤ 1) : bits .or .u64 (wd s 0 : Int) (b : Int) = (wd (s + b) 0 : Int) := by
  have hl := wd_lt s 0
  have hw : wd s 0 % 2 = 0 := by unfold wd; rw [Nat.pow_zero]; omega
  rw [(even_word he hb).1, u64_or_nat _ _ hl (by omega)]
  congr 1
  have h := Nat.shiftLeft_add_eq_or_of_lt (b := b) (i := 1) (by omega) (wd s 0 / 2)
  rw [Nat.shiftLeft_eq, Nat.pow_one] at h
  rw [show wd s 0 / 2 * 2 = wd s 0 by omega] at h
  omega
theorem take_num {r b m : Nat} (hm : m < 2 ^ 256) (hr : r < m) (hb : b ≤ 1) :
    (r + r) % 2 ^ 256 % 2 = 0 ∧ (r + r) % 2 ^ 256 + b < 2 ^ 256 ∧
    ((2 * r + b < m ∧ (2 * r + b) % m = (r + r) % 2 ^ 256 + b ∧ (2 * r + b) / m = 0 ∧ (((r + r) / 2 ^ 256 : Nat) : Int) < ((lent ((r + r) % 2 ^ 256 + b) m : Nat) : Int)) ∨
     (m ≤ 2 * r + b ∧ (2 * r + b) % m = dif ((r + r) % 2 ^ 256 + b) m ∧ (2 * r + b) / m = 1 ∧ ¬ ((((r + r) / 2 ^ 256 : Nat) : Int) < ((lent ((r + r) % 2 ^ 256 + b) m : Nat) : Int)))) := by
  rcases Nat.lt_or_ge (2 * r + b) m with h | h
  · have e1 : (2 * r + b) % m = 2 * r + b := Nat.mod_eq_of_lt h
    have e2 : (2 * r + b) / m = 0 := Nat.div_eq_of_lt h
    rw [e1, e2]
    unfold lent
    rw [p256] at *
    refine ⟨by omega, by omega, .inl ⟨h, by omega, rfl, ?_⟩⟩
    rw [if_pos (by omega)]
    omega
  · have e1 : (2 * r + b) % m = 2 * r + b - m := by rw [Nat.mod_eq_sub_mod h, Nat.mod_eq_of_lt (by omega)]
    have e2 : (2 * r + b) / m = 1 := by rw [Nat.div_eq_sub_div (by omega) h, Nat.div_eq_of_lt (by omega)]
    rw [e1, e2]
    unfold lent dif
    rw [p256] at *
    refine ⟨by omega, by omega, .inr ⟨h, ?_, rfl, ?_⟩⟩ <;> split <;> omega

set_option maxRecDepth 100000 in
set_option maxHeartbeats 1600000 in
theorem dtake_any (r b m : Nat) (w : World) (hm : m < 2 ^ 256) (hr : r < m) (hb : b ≤ 1) :
    Calls Tryd.prog 100 #[num r, .int .u64 (b : Int), num m] w fun e w' => e = .returned (.tuple #[num ((2 * r + b) % m), .int .u64 (((2 * r + b) / m : Nat) : Int)]) ∧ Below w.heap.size w w' := by
  obtain ⟨he, hs, hc⟩ := take_num hm hr hb
  obtain ⟨s, es⟩ : ∃ s, (r + r) % 2 ^ 256 = s := ⟨_, rfl⟩
  obtain ⟨k, ek⟩ : ∃ k : Int, (((r + r) / 2 ^ 256 : Nat) : Int) = k := ⟨_, rfl⟩
  rw [es] at he hs hc
  rw [ek] at hc
  obtain ⟨t, et⟩ : ∃ t, dif (s + b) m = t := ⟨_, rfl⟩
  obtain ⟨l, el⟩ : ∃ l : Int, ((lent (s + b) m : Nat) : Int) = l := ⟨_, rfl⟩
  rw [et, el] at hc
  have ho := or_bit he hb
  obtain ⟨w0, w1, w2, w3⟩ := even_word he hb
  have ES := hid es
  have EK := hid ek
  have ET := hid et
  have EL := hid el
  have HM := hid hm
  have HR := hid (Nat.lt_trans hr hm)
  have HS := hid hs
  have W1 := hid w1
  have W2 := hid w2
  have W3 := hid w3
  have HE := hid (((((Env.refl w).new r).new m).zero).perm (l' := [(w.heap.size + 1 + 1, 0), (w.heap.size + 1, m), (w.heap.size, r)]) (by simp))
  clear es ek et el hm hr hs w0 w1 w2 w3 he hb
  rcases hc with ⟨_, c1, c2, c3⟩ | ⟨_, c1, c2, c3⟩
  · rw [c1, c2]
    clear c1 c2
    go_enter Tryd.func100, Tryd.ntmps100
    go_wp2_with fail
    refine (env_of (add_b r r s k _ HR.out HR.out ES.out EK.out) HE.out).mono ?_
    rintro e u1 ⟨rfl, h⟩
    have H1 := hid h
    have G6 := hid (show w.heap.size ≤ w.heap.size + 1 + 1 by omega)
    clear h HE
    generalize w.heap.size + 1 + 1 = g6 at *
    generalize w.heap.size + 1 = g5 at *
    obtain ⟨m0, m1, m2, m3⟩ := H1.out.cell g5 m (by simp)
    have l5 := H1.out.lt g5 m (by simp)
    have l6 := H1.out.lt g6 0 (by simp)
    go_wp2_with fail
    rw [← W1.out, ← W2.out, ← W3.out]
    change Calls _ _ #[num (s + b), num m] (u1.alloc (.cells (cls (s + b)) 24)) _
    have H2 := hid (H1.out.new (s + b))
    have N6 := hid (Nat.ne_of_lt l6)
    clear H1 m0 m1 m2 m3 l5 l6
    refine (env_of (sub_b (s + b) m t l _ HS.out HM.out ET.out EL.out) H2.out).mono ?_
    rintro e u2 ⟨rfl, h⟩
    have H3 := hid h
    clear h H2
    generalize u1.heap.size = g8 at *
    obtain ⟨s0, s1, s2, s3⟩ := H3.out.cell g8 (s + b) (by simp)
    obtain ⟨z0, z1, z2, z3⟩ := H3.out.cell g6 0 (by simp)
    have f6 := H3.out.frozen g6 0 (by simp)
    have l8 := H3.out.lt g8 (s + b) (by simp)
    have l6 := H3.out.lt g6 0 (by simp)
    have n6 := N6.out
    have HZ := hid ((H3.out.set g6 0 (s + b) [] (by simp) G6.out (by simp)).new t)
    go_wp2
    clear s0 s1 s2 s3 z0 z1 z2 z3 f6 l8 l6 n6
    change bodyPost _ _ _ _ _ ((fil u2 g6 (s + b)).alloc (.cells (cls t) 24))
    generalize (fil u2 g6 (s + b)).alloc (.cells (cls t) 24) = wz at *
    obtain ⟨k0, k1, k2, k3⟩ := HZ.out.cell g6 (s + b) (by simp)
    exact bodyPost_ret (v := .tuple #[num (s + b), .int .u64 0]) (by simp [results, Tryd.results100, go_sem, k0, k1, k2, k3]) rfl ⟨rfl, HZ.out.1⟩
  · rw [c1, c2]
    clear c1 c2
    go_enter Tryd.func100, Tryd.ntmps100
    go_wp2_with fail
    refine (env_of (add_b r r s k _ HR.out HR.out ES.out EK.out) HE.out).mono ?_
    rintro e u1 ⟨rfl, h⟩
    have H1 := hid h
    have G6 := hid (show w.heap.size ≤ w.heap.size + 1 + 1 by omega)
    clear h HE
    generalize w.heap.size + 1 + 1 = g6 at *
    generalize w.heap.size + 1 = g5 at *
    obtain ⟨m0, m1, m2, m3⟩ := H1.out.cell g5 m (by simp)
    have l5 := H1.out.lt g5 m (by simp)
    have l6 := H1.out.lt g6 0 (by simp)
    go_wp2_with fail
    rw [← W1.out, ← W2.out, ← W3.out]
    change Calls _ _ #[num (s + b), num m] (u1.alloc (.cells (cls (s + b)) 24)) _
    have H2 := hid (H1.out.new (s + b))
    have N6 := hid (Nat.ne_of_lt l6)
    clear H1 m0 m1 m2 m3 l5 l6
    refine (env_of (sub_b (s + b) m t l _ HS.out HM.out ET.out EL.out) H2.out).mono ?_
    rintro e u2 ⟨rfl, h⟩
    have H3 := hid h
    clear h H2
    generalize u1.heap.size = g8 at *
    obtain ⟨s0, s1, s2, s3⟩ := H3.out.cell g8 (s + b) (by simp)
    obtain ⟨z0, z1, z2, z3⟩ := H3.out.cell g6 0 (by simp)
    have f6 := H3.out.frozen g6 0 (by simp)
    have l8 := H3.out.lt g8 (s + b) (by simp)
    have l6 := H3.out.lt g6 0 (by simp)
    have n6 := N6.out
    have HZ := hid ((H3.out.set g6 0 t [] (by simp) G6.out (by simp)).new t)
    go_wp2
    clear s0 s1 s2 s3 z0 z1 z2 z3 f6 l8 l6 n6
    change bodyPost _ _ _ _ _ ((fil u2 g6 t).alloc (.cells (cls t) 24))
    generalize (fil u2 g6 t).alloc (.cells (cls t) 24) = wz at *
    obtain ⟨k0, k1, k2, k3⟩ := HZ.out.cell g6 t (by simp)
    exact bodyPost_ret (v := .tuple #[num t, .int .u64 1]) (by simp [results, Tryd.results100, go_sem, k0, k1, k2, k3]) rfl ⟨rfl, HZ.out.1⟩
end Go.Proofs.YtikmhnlhaolbfaaDoor
namespace Go.Proofs.YtikmhnlhaolbfaaDoor
set_option linter.unusedVariables false

/-- a bit more of what is divided: doubled, the bit added, m taken away if it goes -/
theorem div_step {P q r m b : Nat} (h : P = q * m + r) (hr : r < m) (hb : b < 2) :
    (2 * r + b < m → 2 * P + b = (2 * q) * m + (2 * r + b)) ∧ (m ≤ 2 * r + b → 2 * P + b = (2 * q + 1) * m + (2 * r + b - m) ∧ 2 * r + b - m < m) := by
  have e : 2 * P = 2 * q * m + 2 * r := by rw [h, Nat.mul_add, Nat.mul_assoc]
  refine ⟨fun _ => by omega, fun hm => ⟨?_, by omega⟩⟩
  rw [Nat.add_mul, Nat.one_mul]
  omega
theorem div_unique {P q r m : Nat} (h : P = q * m + r) (hr : r < m) : q = P / m ∧ r = P % m := by
  have hm : 0 < m := by omega
  rw [h, Nat.add_comm, Nat.add_mul_div_right _ _ hm, Nat.add_mul_mod_self_right, Nat.div_eq_of_lt hr, Nat.mod_eq_of_lt hr, Nat.zero_add]
  exact ⟨rfl, rfl⟩
/-- a bit of the quotient and of what is left, from the beginning of n above bit i on -/
theorem div_bits (n m i : Nat) (hm : 0 < m) : n / 2 ^ i = (n / 2 ^ i / m) * m + n / 2 ^ i % m ∧ n / 2 ^ i % m < m := by
  refine ⟨?_, Nat.mod_lt _ hm⟩
  have := Nat.div_add_mod (n / 2 ^ i) m
  rw [Nat.mul_comm] at this
  exact this.symm
theorem rest_step (n m i : Nat) (hm : 0 < m) : n / 2 ^ i % m = (if 2 * (n / 2 ^ (i + 1) % m) + bitAt n i < m then 2 * (n / 2 ^ (i + 1) % m) + bitAt n i else 2 * (n / 2 ^ (i + 1) % m) + bitAt n i - m)
    ∧ n / 2 ^ i / m = 2 * (n / 2 ^ (i + 1) / m) + (if 2 * (n / 2 ^ (i + 1) % m) + bitAt n i < m then 0 else 1) := by
  obtain ⟨h1, h2⟩ := div_bits n m (i + 1) hm
  have hb := bitAt_lt n i
  obtain ⟨s1, s2⟩ := div_step h1 h2 hb
  have e := bit_step n i
  split
  · rename_i h
    have t := s1 h
    rw [← e] at t
    obtain ⟨u1, u2⟩ := div_unique t h
    exact ⟨u2.symm, by rw [Nat.add_zero]; exact u1.symm⟩
  · rename_i h
    obtain ⟨t, t2⟩ := s2 (by omega)
    rw [← e] at t
    obtain ⟨u1, u2⟩ := div_unique t t2
    exact ⟨u2.symm, u1.symm⟩
/-- one more: it leaves one more, or nothing, and goes once more then -/
theorem div_next (a b : Nat) (hb : 0 < b) : (a % b + 1 = b → (a + 1) / b = a / b + 1 ∧ (a + 1) % b = 0) ∧ (a % b + 1 ≠ b → (a + 1) / b = a / b ∧ (a + 1) % b = a % b + 1) := by
  have h := Nat.div_add_mod a b
  have hl := Nat.mod_lt a hb
  rw [Nat.mul_comm] at h
  constructor
  · intro e
    have : a + 1 = (a / b + 1) * b + 0 := by rw [Nat.add_mul, Nat.one_mul]; omega
    obtain ⟨u1, u2⟩ := div_unique this hb
    exact ⟨u1.symm, u2.symm⟩
  · intro e
    have : a + 1 = (a / b) * b + (a % b + 1) := by omega
    obtain ⟨u1, u2⟩ := div_unique this (by omega)
    exact ⟨u1.symm, u2.symm⟩
/-- both moved up alike -/
theorem div_up (x y j : Nat) : x * 2 ^ j / (y * 2 ^ j) = x / y ∧ x * 2 ^ j % (y * 2 ^ j) = x % y * 2 ^ j :=
  ⟨Nat.mul_div_mul_right _ _ (Nat.two_pow_pos j), Nat.mul_mod_mul_right ..⟩
/-- what is left of both halves -/
theorem wide_halves (M lo hi m : Nat) : (lo + M * hi) % m = (lo % m + M * (hi % m)) % m := by
  have h1 : (lo + M * hi) % m = (lo % m + M * hi % m) % m := Nat.add_mod ..
  have h2 : (lo % m + M * (hi % m)) % m = (lo % m % m + M * (hi % m) % m) % m := Nat.add_mod ..
  rw [h1, h2, Nat.mod_mod, Nat.mul_mod_mod]
/-- by a power of two the lowest bits are left -/
theorem wide_cut (lo hi k j : Nat) (h : j ≤ k) : (lo + 2 ^ k * hi) % 2 ^ j = lo % 2 ^ j := by
  have e : 2 ^ k = 2 ^ j * 2 ^ (k - j) := by rw [← Nat.pow_add]; congr 1; omega
  rw [e, Nat.mul_assoc, Nat.add_mul_mod_self_left]
/-- between: the product is not above, once more is too often -/
theorem div_between (a b : Nat) (hb : 0 < b) : a / b * b ≤ a ∧ a < a / b * b + b ∧ a - a / b * b = a % b := by
  have h := Nat.div_add_mod a b
  have hl := Nat.mod_lt a hb
  rw [Nat.mul_comm] at h
  omega
/-- what two have in common, by halves and by taking the less away -/
theorem gcd_twice (a b : Nat) : Nat.gcd (2 * a) (2 * b) = 2 * Nat.gcd a b := Nat.gcd_mul_left 2 a b
theorem gcd_odd {a b : Nat} (hb : b % 2 = 1) : Nat.gcd (2 * a) b = Nat.gcd a b := by
  have h : Nat.Coprime 2 b := by
    unfold Nat.Coprime
    rw [Nat.gcd_rec, hb]; decide
  exact Nat.Coprime.gcd_mul_left_cancel a h
theorem gcd_odd' {a b : Nat} (ha : a % 2 = 1) : Nat.gcd a (2 * b) = Nat.gcd a b := by rw [Nat.gcd_comm, gcd_odd ha, Nat.gcd_comm]
theorem gcd_less {a b : Nat} (h : b ≤ a) : Nat.gcd (a - b) b = Nat.gcd a b := Nat.gcd_sub_self_left h
theorem gcd_less' {a b : Nat} (h : a ≤ b) : Nat.gcd a (b - a) = Nat.gcd a b := by rw [Nat.gcd_comm, gcd_less h, Nat.gcd_comm]
theorem gcd_zero_iff (a b : Nat) : Nat.gcd a b = 0 ↔ a = 0 ∧ b = 0 := Nat.gcd_eq_zero_iff
theorem gcd_rest (a b n : Nat) : Nat.gcd a b % n = 0 ↔ a % n = 0 ∧ b % n = 0 := by
  constructor
  · intro h
    have hd := Nat.dvd_of_mod_eq_zero h
    exact ⟨Nat.mod_eq_zero_of_dvd (Nat.dvd_trans hd (Nat.gcd_dvd_left a b)), Nat.mod_eq_zero_of_dvd (Nat.dvd_trans hd (Nat.gcd_dvd_right a b))⟩
  · intro ⟨h1, h2⟩
    exact Nat.mod_eq_zero_of_dvd (Nat.dvd_gcd (Nat.dvd_of_mod_eq_zero h1) (Nat.dvd_of_mod_eq_zero h2))
theorem gcd_le {a b M : Nat} (ha : a < M) (hb : b < M) (h : 0 < M) : Nat.gcd a b < M := by
  rcases Nat.eq_zero_or_pos a with rfl | hp
  · rw [Nat.gcd_zero_left]; exact hb
  · exact Nat.lt_of_le_of_lt (Nat.le_of_dvd hp (Nat.gcd_dvd_left a b)) ha

/-! Two words by one, a half at a time (math/bits.Div64): u below y, y's highest bit set; B = 2^32. -/
theorem half_first {u y1 y0 : Nat} (h1 : 2147483648 ≤ y1) (h0 : y0 < 4294967296) (hu : u < y1 * 4294967296 + y0) : u / y1 ≤ 4294967297 ∧ u = u / y1 * y1 + u % y1 ∧ u % y1 < y1 := by
  have hp : 0 < y1 := by omega
  refine ⟨?_, ?_, Nat.mod_lt _ hp⟩
  · have : u / y1 < 4294967298 := by
      rw [Nat.div_lt_iff_lt_mul hp]
      omega
    omega
  · have := Nat.div_add_mod u y1
    rw [Nat.mul_comm] at this
    exact this.symm
/-- the test says whether q is too great -/
theorem half_test {u u1 y1 y0 q r : Nat} (h : u = q * y1 + r) : (r * 4294967296 + u1 < q * y0) ↔ (u * 4294967296 + u1 < q * (y1 * 4294967296 + y0)) := by
  have e1 : q * (y1 * 4294967296 + y0) = q * y1 * 4294967296 + q * y0 := by rw [Nat.mul_add, Nat.mul_assoc]
  have e2 : u * 4294967296 = q * y1 * 4294967296 + r * 4294967296 := by rw [h, Nat.add_mul]
  rw [e1, e2]
  omega
theorem half_most {u u1 y : Nat} (hu : u < y) (h1 : u1 < 4294967296) : (u * 4294967296 + u1) / y < 4294967296 := by
  rw [Nat.div_lt_iff_lt_mul (by omega)]
  have : (u + 1) * 4294967296 ≤ y * 4294967296 := Nat.mul_le_mul_right _ hu
  rw [Nat.add_mul] at this
  rw [Nat.mul_comm 4294967296 y]
  omega
/-- too great: one less -/
theorem half_less {n y q : Nat} (hy : 0 < y) (hq : n / y < 4294967296) (hle : n / y ≤ q) (h : 4294967296 ≤ q ∨ n < q * y) : n / y ≤ q - 1 ∧ 1 ≤ q := by
  have key : n / y < q := by
    rcases h with h | h
    · exact Nat.lt_of_lt_of_le hq h
    · rw [Nat.div_lt_iff_lt_mul hy]; exact h
  generalize n / y = d at *
  omega
/-- not too great: it is the one -/
theorem half_done {n y q : Nat} (hy : 0 < y) (hle : n / y ≤ q) (h : q * y ≤ n) : q = n / y := by
  have : q ≤ n / y := by rw [Nat.le_div_iff_mul_le hy]; exact h
  omega
/-- what is left over is a half's most: it is the one -/
theorem half_broken {u u1 y1 y0 q r : Nat} (h : u = q * y1 + r) (hy : 0 < y1 * 4294967296 + y0) (h0 : y0 < 4294967296) (hq : q ≤ 4294967296) (hr : 4294967296 ≤ r) (hle : (u * 4294967296 + u1) / (y1 * 4294967296 + y0) ≤ q) : q = (u * 4294967296 + u1) / (y1 * 4294967296 + y0) := by
  refine half_done hy hle ?_
  rcases Nat.lt_or_ge (u * 4294967296 + u1) (q * (y1 * 4294967296 + y0)) with hl | hl
  · have ht := (half_test (u1 := u1) (y0 := y0) h).2 hl
    have a : q * y0 ≤ 4294967296 * 4294967295 := Nat.mul_le_mul hq (by omega)
    have b : 4294967296 * 4294967296 ≤ r * 4294967296 := Nat.mul_le_mul_right _ hr
    omega
  · exact hl
/-- both halves: two words, moved up by s, divided -/
theorem half_both {u u1 u0 y q1 q0 r1 r0 : Nat} (h1 : u * 4294967296 + u1 = q1 * y + r1) (h0 : r1 * 4294967296 + u0 = q0 * y + r0) :
    (u * 4294967296 + u1) * 4294967296 + u0 = (q1 * 4294967296 + q0) * y + r0 := by
  rw [h1, Nat.add_mul, Nat.add_mul, Nat.add_assoc, h0, Nat.mul_right_comm]
  omega
theorem moved_div {n y s q r : Nat} (hy : 0 < y) (h : n * 2 ^ s = q * (y * 2 ^ s) + r) (hr : r < y * 2 ^ s) : q = n / y ∧ r / 2 ^ s = n % y := by
  obtain ⟨h1, h2⟩ := div_unique h hr
  rw [Nat.mul_div_mul_right _ _ (Nat.two_pow_pos s)] at h1
  rw [Nat.mul_mod_mul_right] at h2
  exact ⟨h1, by rw [h2, Nat.mul_div_cancel _ (Nat.two_pow_pos s)]⟩
end Go.Proofs.YtikmhnlhaolbfaaDoor
namespace Go.Proofs.YtikmhnlhaolbfaaDoor
open Go.RowKit
set_option linter.unusedVariables false

/-- a word of a box is filled anew -/
theorem Env.word {w w' : World} {l : List (Nat × Nat)} (h : Env w l w') (g x y j : Nat) (l' : List (Nat × Nat)) (hm : (g, x) ∈ l) (hg : w.heap.size ≤ g) (hl : ∀ p ∈ l', p ∈ l ∧ p.1 ≠ g) (hj : j < 4) (ho : ∀ i, i ≠ j → wd y i = wd x i) : Env w ((g, y) :: l') (w'.setCell ⟨g, j, none⟩ (.int .u64 (wd y j : Int))) := by
  refine ⟨h.1.setCell (p := ⟨g, j, none⟩) hg _, fun p hp => ?_⟩
  rcases List.mem_cons.1 hp with rfl | hp
  · have hf := (h.nm g x hm).fr
    have : j = 0 ∨ j = 1 ∨ j = 2 ∨ j = 3 := by omega
    rcases this with rfl | rfl | rfl | rfl
    · have := hf.set0 (.int .u64 (wd y 0 : Int)); rw [← ho 1 (by decide), ← ho 2 (by decide), ← ho 3 (by decide)] at this; exact this
    · have := hf.set1 (.int .u64 (wd y 1 : Int)); rw [← ho 0 (by decide), ← ho 2 (by decide), ← ho 3 (by decide)] at this; exact this
    · have := hf.set2 (.int .u64 (wd y 2 : Int)); rw [← ho 0 (by decide), ← ho 1 (by decide), ← ho 3 (by decide)] at this; exact this
    · have := hf.set3 (.int .u64 (wd y 3 : Int)); rw [← ho 0 (by decide), ← ho 1 (by decide), ← ho 2 (by decide)] at this; exact this
  · exact (Below.heap_setCell w' ⟨g, j, none⟩ _ p.1 (hl p hp).2).trans (h.2 p (hl p hp).1)

/-- a bit that is set where there is none below: just one word changes -/
theorem word_set {Q e p b : Nat} (hp : p < 64) (hb : b ≤ 1) :
    (∀ i, i ≠ e → wd (Q * 2 ^ (64 * e + p + 1) + b * 2 ^ (64 * e + p)) i = wd (Q * 2 ^ (64 * e + p + 1)) i)
    ∧ wd (Q * 2 ^ (64 * e + p + 1) + b * 2 ^ (64 * e + p)) e = wd (Q * 2 ^ (64 * e + p + 1)) e + b * 2 ^ p
    ∧ wd (Q * 2 ^ (64 * e + p + 1)) e % 2 ^ (p + 1) = 0 := by
  have hW : (18446744073709551616 : Nat) = 2 ^ 64 := by decide
  have hlt : b * 2 ^ (64 * e + p) < 2 ^ (64 * e + p + 1) := by
    have := Nat.two_pow_pos (64 * e + p)
    rw [Nat.pow_succ]
    rcases (show b = 0 ∨ b = 1 by omega) with rfl | rfl <;> omega
  have hsplit : ∀ i, 18446744073709551616 ^ i = 2 ^ (64 * i) := fun i => by rw [hW, ← Nat.pow_mul]
  have hlow : Q * 2 ^ (64 * e + p + 1) / 2 ^ (64 * e) = Q * 2 ^ (p + 1) := by
    rw [show 64 * e + p + 1 = (p + 1) + 64 * e by omega, Nat.pow_add, ← Nat.mul_assoc, Nat.mul_div_cancel _ (Nat.two_pow_pos _)]
  have hlow2 : (Q * 2 ^ (64 * e + p + 1) + b * 2 ^ (64 * e + p)) / 2 ^ (64 * e) = Q * 2 ^ (p + 1) + b * 2 ^ p := by
    rw [show 64 * e + p + 1 = (p + 1) + 64 * e by omega, show 64 * e + p = p + 64 * e by omega, Nat.pow_add 2 (p + 1) (64 * e), Nat.pow_add 2 p (64 * e), ← Nat.mul_assoc, ← Nat.mul_assoc, ← Nat.add_mul, Nat.mul_div_cancel _ (Nat.two_pow_pos _)]
  have hm : Q * 2 ^ (p + 1) % 2 ^ 64 = Q % 2 ^ (64 - (p + 1)) * 2 ^ (p + 1) := by
    have : (2 : Nat) ^ 64 = 2 ^ (64 - (p + 1)) * 2 ^ (p + 1) := by rw [← Nat.pow_add]; congr 1; omega
    rw [this, Nat.mul_mod_mul_right]
  refine ⟨fun i hi => ?_, ?_, ?_⟩
  · unfold wd
    rw [hsplit]
    rcases Nat.lt_or_ge i e with h | h
    · have d : ∀ X, X * 2 ^ (64 * e + p) / 2 ^ (64 * i) % 18446744073709551616 = 0 := fun X => by
        rw [hW, show 64 * e + p = (64 * e + p - 64 * i - 64) + 64 + 64 * i by omega, Nat.pow_add, Nat.pow_add, ← Nat.mul_assoc, Nat.mul_div_cancel _ (Nat.two_pow_pos _), ← Nat.mul_assoc, Nat.mul_mod_left]
      have e1 : Q * 2 ^ (64 * e + p + 1) + b * 2 ^ (64 * e + p) = (2 * Q + b) * 2 ^ (64 * e + p) := by rw [Nat.pow_succ, Nat.add_mul, Nat.mul_comm 2 Q, Nat.mul_assoc, Nat.mul_comm 2]
      have e2 : Q * 2 ^ (64 * e + p + 1) = (2 * Q) * 2 ^ (64 * e + p) := by rw [Nat.pow_succ, Nat.mul_comm 2 Q, Nat.mul_assoc, Nat.mul_comm 2]
      rw [e1, e2, d, d]
    · have e1 : ∀ X, X / 2 ^ (64 * i) = X / 2 ^ (64 * e + p + 1) / 2 ^ (64 * i - (64 * e + p + 1)) := fun X => by
        rw [Nat.div_div_eq_div_mul, ← Nat.pow_add, show 64 * e + p + 1 + (64 * i - (64 * e + p + 1)) = 64 * i by omega]
      rw [e1, e1 (Q * 2 ^ (64 * e + p + 1)), Nat.mul_comm Q, Nat.mul_add_div (Nat.two_pow_pos _), Nat.div_eq_of_lt hlt, Nat.add_zero, Nat.mul_div_cancel_left _ (Nat.two_pow_pos _)]
  · unfold wd
    rw [hsplit, hlow2, hlow, hW]
    have hb2 : b * 2 ^ p < 2 ^ (p + 1) := by
      have := Nat.two_pow_pos p
      rw [Nat.pow_succ]
      rcases (show b = 0 ∨ b = 1 by omega) with rfl | rfl <;> omega
    rw [Nat.add_mod, hm, Nat.mod_eq_of_lt (Nat.lt_of_lt_of_le hb2 (Nat.pow_le_pow_right (by omega) (by omega)))]
    refine Nat.mod_eq_of_lt ?_
    have h1 : Q % 2 ^ (64 - (p + 1)) + 1 ≤ 2 ^ (64 - (p + 1)) := Nat.mod_lt _ (Nat.two_pow_pos _)
    have h2 := Nat.mul_le_mul_right (2 ^ (p + 1)) h1
    rw [← Nat.pow_add, show 64 - (p + 1) + (p + 1) = 64 by omega, Nat.add_mul] at h2
    omega
  · unfold wd
    rw [hsplit, hlow, hW, hm, Nat.mul_mod_left]

theorem bring_start {r a c m : Nat} (hr : r < m) : (r * 2 ^ c + a % 2 ^ c) / 2 ^ c / m = 0 ∧ (r * 2 ^ c + a % 2 ^ c) / 2 ^ c % m = r := by
  have hl := Nat.mod_lt a (Nat.two_pow_pos c)
  rw [Nat.mul_comm, Nat.mul_add_div (Nat.two_pow_pos c), Nat.div_eq_of_lt hl, Nat.add_zero, Nat.div_eq_of_lt hr, Nat.mod_eq_of_lt hr]
  exact ⟨rfl, rfl⟩
theorem bring_bit {r a c j : Nat} (hj : j < c) : bitAt (r * 2 ^ c + a % 2 ^ c) j = bitAt a j := by
  unfold bitAt
  have e : r * 2 ^ c + a % 2 ^ c = a % 2 ^ c + 2 ^ (j + 1) * (r * 2 ^ (c - (j + 1))) := by
    have : 2 ^ c = 2 ^ (j + 1) * 2 ^ (c - (j + 1)) := by rw [← Nat.pow_add]; congr 1; omega
    conv => lhs; lhs; rw [this]
    rw [Nat.mul_left_comm, Nat.add_comm]
  have h2 : ∀ X : Nat, X / 2 ^ j % 2 = X % 2 ^ (j + 1) / 2 ^ j := fun X => by rw [Nat.pow_succ, Nat.mod_mul_right_div_self]
  rw [h2, h2, e, Nat.add_mul_mod_self_left, Nat.mod_mod_of_dvd _ (Nat.pow_dvd_pow 2 (by omega))]
theorem bring_step (N m j : Nat) (hm : 0 < m) : (2 * (N / 2 ^ (j + 1) % m) + bitAt N j) % m = N / 2 ^ j % m ∧ N / 2 ^ j / m = 2 * (N / 2 ^ (j + 1) / m) + (2 * (N / 2 ^ (j + 1) % m) + bitAt N j) / m := by
  have h := Nat.div_add_mod (N / 2 ^ (j + 1)) m
  have e : N / 2 ^ j = 2 * (N / 2 ^ (j + 1) % m) + bitAt N j + m * (2 * (N / 2 ^ (j + 1) / m)) := by
    rw [bit_step N j, Nat.mul_left_comm]; omega
  rw [e, Nat.add_mul_mod_self_left, Nat.add_mul_div_left _ _ hm, Nat.add_comm (2 * (N / 2 ^ (j + 1) / m))]
  exact ⟨rfl, rfl⟩
theorem bring_lt {r a c m : Nat} (hr : r < m) : (r * 2 ^ c + a % 2 ^ c) / m < 2 ^ c := by
  have hl := Nat.mod_lt a (Nat.two_pow_pos c)
  rw [Nat.div_lt_iff_lt_mul (by omega), Nat.mul_comm (2 ^ c)]
  have := Nat.mul_le_mul_right (2 ^ c) (Nat.succ_le_of_lt hr)
  rw [Nat.succ_mul] at this
  omega
/-- goes, moved up to its place in its word, and laid into it -/
theorem or_up {x p b : Nat} (hx : x < 18446744073709551616) (hp : p < 64) (hb : b ≤ 1) (h0 : x % 2 ^ (p + 1) = 0) : bits .or .u64 (x : Int) ((b * 2 ^ p : Nat) : Int) = ((x + b * 2 ^ p : Nat) : Int) := by
  have hpp : 2 ^ p * 2 ≤ 18446744073709551616 := by rw [← Nat.pow_succ]; exact Nat.le_trans (Nat.pow_le_pow_right (by omega) (show p + 1 ≤ 64 by omega)) (by decide)
  have hbl : b * 2 ^ p < 2 ^ (p + 1) := by
    have := Nat.two_pow_pos p
    rw [Nat.pow_succ]
    rcases (show b = 0 ∨ b = 1 by omega) with rfl | rfl <;> omega
  have hbl2 : b * 2 ^ p < 18446744073709551616 := by rw [Nat.pow_succ] at hbl; omega
  rw [u64_or_nat _ _ hx hbl2]
  congr 1
  have h := Nat.shiftLeft_add_eq_or_of_lt hbl (x / 2 ^ (p + 1))
  rw [Nat.shiftLeft_eq, Nat.div_mul_cancel (Nat.dvd_of_mod_eq_zero h0)] at h
  omega

theorem take_b (r b m s : Nat) (q : Int) (w : World) (hm : m < 2 ^ 256) (hr : r < m) (hb : b ≤ 1) (hs : (2 * r + b) % m = s) (hq : (((2 * r + b) / m : Nat) : Int) = q) :
    Calls Tryd.prog 100 #[num r, .int .u64 (b : Int), num m] w fun e w' => e = .returned (.tuple #[num s, .int .u64 q]) ∧ Below w.heap.size w w' := by
  subst hs; subst hq; exact dtake_any r b m w hm hr hb
set_option maxRecDepth 100000 in
set_option maxHeartbeats 3200000 in
theorem bring_any (r a c m : Nat) (w : World) (hr : r < m) (hm : m < 2 ^ 256) (ha : a < 2 ^ 256) (hc : c ≤ 256) :
    Calls Tryd.prog 59 #[num r, num a, .int .i64 (c : Int), num m] w fun e w' => e = .returned (.tuple #[num ((r * 2 ^ c + a % 2 ^ c) / m), num ((r * 2 ^ c + a % 2 ^ c) % m)]) ∧ Below w.heap.size w w' := by
  obtain ⟨s1, s2⟩ := bring_start (a := a) (c := c) hr
  have hbits : ∀ j, j < c → bitAt (r * 2 ^ c + a % 2 ^ c) j = bitAt a j := fun j hj => bring_bit hj
  have hql := bring_lt (a := a) (c := c) hr
  generalize r * 2 ^ c + a % 2 ^ c = N at *
  have HM := hid hm
  have HP := hid (show 0 < m by omega)
  have HA := hid ha
  have HB := hid hbits
  have HQ := hid hql
  have HE := hid (((((((Env.refl w).new r).new a).new m).zero).zero).perm (l' := [(w.heap.size + 1 + 1 + 1, N / 2 ^ c / m * 2 ^ c), (w.heap.size, N / 2 ^ c % m), (w.heap.size + 1, a), (w.heap.size + 1 + 1, m), (w.heap.size + 1 + 1 + 1 + 1, 0)]) (by rw [s1, s2]; simp))
  have D := hid (show w.heap.size ≠ w.heap.size + 1 ∧ w.heap.size ≠ w.heap.size + 1 + 1 ∧ w.heap.size ≠ w.heap.size + 1 + 1 + 1 ∧ w.heap.size ≠ w.heap.size + 1 + 1 + 1 + 1 ∧ w.heap.size + 1 ≠ w.heap.size + 1 + 1 + 1 ∧ w.heap.size + 1 + 1 ≠ w.heap.size + 1 + 1 + 1 ∧ w.heap.size + 1 + 1 + 1 + 1 ≠ w.heap.size + 1 + 1 + 1 ∧ w.heap.size ≤ w.heap.size + 1 + 1 + 1 ∧ w.heap.size ≤ w.heap.size + 1 + 1 + 1 + 1 ∧ w.heap.size ≤ w.heap.size by omega)
  clear hm hr ha hbits s1 s2 hql
  go_enter Tryd.func59, Tryd.ntmps59
  go_wp2
  generalize ((((w.alloc (.cells (cls r) 24)).alloc (.cells (cls a) 24)).alloc (.cells (cls m) 24)).alloc (.cells #[.int .u64 0, .int .u64 0, .int .u64 0, .int .u64 0] 24)).alloc (.cells #[.int .u64 0, .int .u64 0, .int .u64 0, .int .u64 0] 24) = w0 at *
  generalize w.heap.size + 1 + 1 + 1 + 1 = g9 at *
  generalize w.heap.size + 1 + 1 + 1 = g8 at *
  generalize w.heap.size + 1 + 1 = g7 at *
  generalize w.heap.size + 1 = g5 at *
  generalize hg4 : w.heap.size = g4 at *
  go_loopw [14] (fun s wr => ∃ i k : Nat, i + k = c ∧ s = .int .i64 (i : Int) ∧ Hid (Env w [(g8, N / 2 ^ k / m * 2 ^ k), (g4, N / 2 ^ k % m), (g5, a), (g7, m), (g9, 0)] wr)) (fun s _ => c - (intOf s).toNat)
  case atStart => exact ⟨0, c, by omega, rfl, HE⟩
  case round =>
    obtain ⟨i, k, hk, rfl, H⟩ := hrel
    clear HE
    by_cases h0 : k = 0
    · subst h0
      have E1 := hid (p := N / 2 ^ 0 / m * 2 ^ 0 = N / m) (by rw [Nat.pow_zero, Nat.div_one, Nat.mul_one])
      have E2 := hid (p := N / 2 ^ 0 % m = N % m) (by rw [Nat.pow_zero, Nat.div_one])
      have H2 := hid (p := Env w [(g8, N / m), (g4, N % m), (g5, a), (g7, m), (g9, 0)] wr) (by have := H.out; rw [E1.out, E2.out] at this; exact this)
      clear H E1 E2
      have hb := hc
      obtain ⟨q0, q1, q2, q3⟩ := H2.out.cell g8 (N / m) (by simp)
      obtain ⟨r0, r1, r2, r3⟩ := H2.out.cell g4 (N % m) (by simp)
      obtain ⟨z0, z1, z2, z3⟩ := H2.out.cell g9 0 (by simp)
      have f8 := H2.out.frozen g8 (N / m) (by simp)
      have f9 := H2.out.frozen g9 0 (by simp)
      obtain ⟨d1, d2, d3, d4, d5, d6, d7, d8, d9, _⟩ := D.out
      have n1 : (g9 = g8) = False := eq_false d7
      have n2 : (g8 = g9) = False := eq_false (Ne.symm d7)
      have n3 : (g4 = g8) = False := eq_false d3
      have n4 : (g4 = g9) = False := eq_false d4
      have HZ := hid ((H2.out.set g8 (N / m) (N / m) [(g4, N % m), (g9, 0)] (by simp) (by omega) (by simp; exact ⟨d3, d7⟩)).set g9 0 (N % m) [(g8, N / m)] (by simp) (by omega) (by simp; exact Ne.symm d7))
      have nlt : ¬ ((i : Int) < (c : Int)) := by omega
      go_wp2
      go_region
      all_goals
        go_wp2
        clear q0 q1 q2 q3 r0 r1 r2 r3 z0 z1 z2 z3 f8 f9
        change bodyPost _ _ _ _ _ (fil (fil wr g8 (N / m)) g9 (N % m)).drew
        generalize fil (fil wr g8 (N / m)) g9 (N % m) = wz at *
        obtain ⟨k0, k1, k2, k3⟩ := HZ.out.cell g8 (N / m) (by simp)
        obtain ⟨j0, j1, j2, j3⟩ := HZ.out.cell g9 (N % m) (by simp)
        exact bodyPost_ret (v := .tuple #[num (N / m), num (N % m)]) (by simp [results, Tryd.results59, go_sem, k0, k1, k2, k3, j0, j1, j2, j3]) rfl ⟨rfl, HZ.out.1.drew⟩
    · obtain ⟨j, rfl⟩ : ∃ j, k = j + 1 := ⟨k - 1, by omega⟩
      clear h0
      have A1 : IntKind.i64.wrap ((c : Int) - 1) = (c : Int) - 1 := IntWalk.i64_in _ (by omega)
      have A2 : IntKind.i64.wrap ((c : Int) - 1 - (i : Int)) = (j : Int) := by rw [IntWalk.i64_in _ (by omega)]; omega
      have lt1 : (i : Int) < (c : Int) := by omega
      obtain ⟨t1, t2⟩ := bring_step N m j HP.out
      rw [HB.out j (by omega)] at t1 t2
      have hbl := bitAt_lt a j
      have hrl := Nat.mod_lt (N / 2 ^ (j + 1)) HP.out
      have hbi : Hid ((bi a (j : Int) : Int) = (bitAt a j : Int)) := hid (by unfold bi; rw [if_neg (by omega), Int.toNat_natCast])
      generalize N / 2 ^ (j + 1) % m = R at *
      generalize N / 2 ^ (j + 1) / m = Q at *
      generalize bitAt a j = b at *
      obtain ⟨g, eg, hg⟩ : ∃ g, (2 * R + b) / m = g ∧ g ≤ 1 := ⟨_, rfl, by
        have : (2 * R + b) / m < 2 := by rw [Nat.div_lt_iff_lt_mul HP.out]; omega
        omega⟩
      rw [eg] at t2
      obtain ⟨R2, ER⟩ : ∃ x, Hid (N / 2 ^ j % m = x) := ⟨_, hid rfl⟩
      have T1 := hid (t1.trans ER.out)
      have T2 := hid t2
      have HR := hid hrl
      have HBl := hid (show b ≤ 1 by omega)
      have EG := hid (show (((2 * R + b) / m : Nat) : Int) = (g : Int) by rw [eg])
      clear t1 t2 hrl hbl eg
      go_upto_region 6 with fail
      obtain ⟨a0, a1, a2, a3⟩ := H.out.cell g5 a (by simp)
      obtain ⟨m0, m1, m2, m3⟩ := H.out.cell g7 m (by simp)
      obtain ⟨r0, r1, r2, r3⟩ := H.out.cell g4 R (by simp)
      have fr := H.out.frozen g4 R (by simp)
      go_cut [12] (fun s12 wx => s12 = .int .u64 (g : Int) ∧ Hid (Env w [(g4, R2), (g8, Q * 2 ^ (j + 1)), (g5, a), (g7, m), (g9, 0)] wx))
      case first =>
        have hs := H.out.drew
        go_region_with (first | ((go_at_call 101); (with_reducible refine (bit_at a (j : Int) (b : Int) (by assumption) HA.out (by omega) (by omega) hbi.out).mono ?_); rintro e wn ⟨rfl, hs⟩; obtain ⟨a0, a1, a2, a3⟩ := hs.cell g5 a (by simp); obtain ⟨m0, m1, m2, m3⟩ := hs.cell g7 m (by simp); obtain ⟨r0, r1, r2, r3⟩ := hs.cell g4 R (by simp); have fr := hs.frozen g4 R (by simp)) | ((go_at_call 100); (with_reducible refine (env_of (take_b R b m R2 (g : Int) _ HM.out HR.out HBl.out T1.out EG.out) (by assumption)).mono ?_); rintro e wn ⟨rfl, hs⟩; obtain ⟨a0, a1, a2, a3⟩ := hs.cell g5 a (by simp); obtain ⟨m0, m1, m2, m3⟩ := hs.cell g7 m (by simp); obtain ⟨r0, r1, r2, r3⟩ := hs.cell g4 R (by simp); have fr := hs.frozen g4 R (by simp)))
        all_goals
          go_wp2_with fail
          go_meet
          exact ⟨rfl, hid (hs.set g4 R R2 _ (by simp) (by omega) (by obtain ⟨d1, d2, d3, d4, d5, d6, d7, _⟩ := D.out; simp; exact ⟨Ne.symm d3, Ne.symm d1, Ne.symm d2, Ne.symm d4⟩))⟩
      case rest =>
        obtain ⟨rfl, H2⟩ := hcut
        clear a0 a1 a2 a3 m0 m1 m2 m3 r0 r1 r2 r3 fr H A1 A2 lt1
        obtain ⟨e, p, hj, hp⟩ : ∃ e p, j = 64 * e + p ∧ p < 64 := ⟨j / 64, j % 64, by omega, Nat.mod_lt _ (by decide)⟩
        have he : e = 0 ∨ e = 1 ∨ e = 2 ∨ e = 3 := by omega
        obtain ⟨q1, q2, q3⟩ := word_set (Q := Q) (e := e) hp hg
        rw [← hj] at q1 q2 q3
        have T3 := hid (p := N / 2 ^ j / m * 2 ^ j = Q * 2 ^ (j + 1) + g * 2 ^ j) (by rw [T2.out, Nat.add_mul, Nat.pow_succ, Nat.mul_comm 2 Q, Nat.mul_assoc, Nat.mul_comm 2])
        have hpp : 2 ^ p * 2 ≤ 18446744073709551616 := by rw [← Nat.pow_succ]; exact Nat.le_trans (Nat.pow_le_pow_right (by omega) (show p + 1 ≤ 64 by omega)) (by decide)
        have Q4 := hid (p := IntKind.u64.wrap ((g : Int) * 2 ^ p) = ((g * 2 ^ p : Nat) : Int)) (by
          have e1 : ((g : Int) * 2 ^ p) = ((g * 2 ^ p : Nat) : Int) := by simp
          rw [e1, IntWalk.u64_in _ ?_]
          have := Nat.mul_le_mul_right (2 ^ p) hg
          omega)
        have Q5 := hid (p := bits .or .u64 (wd (Q * 2 ^ (j + 1)) e : Int) ((g * 2 ^ p : Nat) : Int) = (wd (Q * 2 ^ (j + 1) + g * 2 ^ j) e : Int)) (by rw [or_up (wd_lt _ _) hp hg q3, q2])
        have QO := hid q1
        have HJ := hid hj
        have HP2 := hid hp
        clear q1 q2 q3 hpp hj hp
        obtain ⟨q0', q1', q2', q3'⟩ := H2.out.cell g8 (Q * 2 ^ (j + 1)) (by simp)
        have f8 := H2.out.frozen g8 (Q * 2 ^ (j + 1)) (by simp)
        rcases he with rfl | rfl | rfl | rfl
        · have B1 : (j : Int) / 64 = 0 := by have := HJ.out; have := HP2.out; omega
          have B2 : IntKind.i64.wrap 0 = 0 := by decide
          have B3 : (j : Int) % 64 = (p : Int) := by have := HJ.out; have := HP2.out; omega
          have B4 : IntKind.u64.wrap ((g : Int) * 2 ^ p) = (g : Int) * 2 ^ p := by rw [Q4.out]; simp
          have B5 : bits .or .u64 (wd (Q * 2 ^ (j + 1)) 0 : Int) ((g : Int) * 2 ^ p) = (wd (Q * 2 ^ (j + 1) + g * 2 ^ j) 0 : Int) := by have := Q5.out; rwa [show ((g * 2 ^ p : Nat) : Int) = (g : Int) * 2 ^ p by simp] at this
          go_upto_region 7 with fail
          go_region
          all_goals
            have H3 := hid (Env.drew (H2.out.word g8 (Q * 2 ^ (j + 1)) (Q * 2 ^ (j + 1) + g * 2 ^ j) 0 [(g4, R2), (g5, a), (g7, m), (g9, 0)] (by simp) (by obtain ⟨d1, d2, d3, d4, d5, d6, d7, d8, _⟩ := D.out; omega) (by obtain ⟨d1, d2, d3, d4, d5, d6, d7, _⟩ := D.out; simp; exact ⟨d3, d5, d6, d7⟩) (by decide) QO.out))
            clear q0' q1' q2' q3' f8 B1 B2 B3 B4 B5
            go_wp2
            go_roundw
            case rel => exact ⟨i + 1, j, by omega, by go_num, hid (by rw [T3.out, ER.out]; exact H3.out)⟩
            case measure => simp [intOf]; omega
        · have B1 : (j : Int) / 64 = 1 := by have := HJ.out; have := HP2.out; omega
          have B2 : IntKind.i64.wrap 1 = 1 := by decide
          have B3 : (j : Int) % 64 = (p : Int) := by have := HJ.out; have := HP2.out; omega
          have B4 : IntKind.u64.wrap ((g : Int) * 2 ^ p) = (g : Int) * 2 ^ p := by rw [Q4.out]; simp
          have B5 : bits .or .u64 (wd (Q * 2 ^ (j + 1)) 1 : Int) ((g : Int) * 2 ^ p) = (wd (Q * 2 ^ (j + 1) + g * 2 ^ j) 1 : Int) := by have := Q5.out; rwa [show ((g * 2 ^ p : Nat) : Int) = (g : Int) * 2 ^ p by simp] at this
          go_upto_region 7 with fail
          go_region
          all_goals
            have H3 := hid (Env.drew (H2.out.word g8 (Q * 2 ^ (j + 1)) (Q * 2 ^ (j + 1) + g * 2 ^ j) 1 [(g4, R2), (g5, a), (g7, m), (g9, 0)] (by simp) (by obtain ⟨d1, d2, d3, d4, d5, d6, d7, d8, _⟩ := D.out; omega) (by obtain ⟨d1, d2, d3, d4, d5, d6, d7, _⟩ := D.out; simp; exact ⟨d3, d5, d6, d7⟩) (by decide) QO.out))
            clear q0' q1' q2' q3' f8 B1 B2 B3 B4 B5
            go_wp2
            go_roundw
            case rel => exact ⟨i + 1, j, by omega, by go_num, hid (by rw [T3.out, ER.out]; exact H3.out)⟩
            case measure => simp [intOf]; omega
        · have B1 : (j : Int) / 64 = 2 := by have := HJ.out; have := HP2.out; omega
          have B2 : IntKind.i64.wrap 2 = 2 := by decide
          have B3 : (j : Int) % 64 = (p : Int) := by have := HJ.out; have := HP2.out; omega
          have B4 : IntKind.u64.wrap ((g : Int) * 2 ^ p) = (g : Int) * 2 ^ p := by rw [Q4.out]; simp
          have B5 : bits .or .u64 (wd (Q * 2 ^ (j + 1)) 2 : Int) ((g : Int) * 2 ^ p) = (wd (Q * 2 ^ (j + 1) + g * 2 ^ j) 2 : Int) := by have := Q5.out; rwa [show ((g * 2 ^ p : Nat) : Int) = (g : Int) * 2 ^ p by simp] at this
          go_upto_region 7 with fail
          go_region
          all_goals
            have H3 := hid (Env.drew (H2.out.word g8 (Q * 2 ^ (j + 1)) (Q * 2 ^ (j + 1) + g * 2 ^ j) 2 [(g4, R2), (g5, a), (g7, m), (g9, 0)] (by simp) (by obtain ⟨d1, d2, d3, d4, d5, d6, d7, d8, _⟩ := D.out; omega) (by obtain ⟨d1, d2, d3, d4, d5, d6, d7, _⟩ := D.out; simp; exact ⟨d3, d5, d6, d7⟩) (by decide) QO.out))
            clear q0' q1' q2' q3' f8 B1 B2 B3 B4 B5
            go_wp2
            go_roundw
            case rel => exact ⟨i + 1, j, by omega, by go_num, hid (by rw [T3.out, ER.out]; exact H3.out)⟩
            case measure => simp [intOf]; omega
        · have B1 : (j : Int) / 64 = 3 := by have := HJ.out; have := HP2.out; omega
          have B2 : IntKind.i64.wrap 3 = 3 := by decide
          have B3 : (j : Int) % 64 = (p : Int) := by have := HJ.out; have := HP2.out; omega
          have B4 : IntKind.u64.wrap ((g : Int) * 2 ^ p) = (g : Int) * 2 ^ p := by rw [Q4.out]; simp
          have B5 : bits .or .u64 (wd (Q * 2 ^ (j + 1)) 3 : Int) ((g : Int) * 2 ^ p) = (wd (Q * 2 ^ (j + 1) + g * 2 ^ j) 3 : Int) := by have := Q5.out; rwa [show ((g * 2 ^ p : Nat) : Int) = (g : Int) * 2 ^ p by simp] at this
          go_upto_region 7 with fail
          go_region
          all_goals
            have H3 := hid (Env.drew (H2.out.word g8 (Q * 2 ^ (j + 1)) (Q * 2 ^ (j + 1) + g * 2 ^ j) 3 [(g4, R2), (g5, a), (g7, m), (g9, 0)] (by simp) (by obtain ⟨d1, d2, d3, d4, d5, d6, d7, d8, _⟩ := D.out; omega) (by obtain ⟨d1, d2, d3, d4, d5, d6, d7, _⟩ := D.out; simp; exact ⟨d3, d5, d6, d7⟩) (by decide) QO.out))
            clear q0' q1' q2' q3' f8 B1 B2 B3 B4 B5
            go_wp2
            go_roundw
            case rel => exact ⟨i + 1, j, by omega, by go_num, hid (by rw [T3.out, ER.out]; exact H3.out)⟩
            case measure => simp [intOf]; omega
end Go.Proofs.YtikmhnlhaolbfaaDoor
namespace Go.Proofs.YtikmhnlhaolbfaaDoor
open Go.RowKit
set_option linter.unusedVariables false

theorem shf_down (a c : Nat) (ha : a < 2 ^ 256) : shf a (-(c : Int)) = a / 2 ^ c := by
  unfold shf
  split
  · have : c = 0 := by omega
    subst this
    simp [Nat.mod_eq_of_lt ha]
  · rw [show (-(-(c : Int))).toNat = c by omega]
theorem div_first {a b : Nat} (hb : 0 < b) : a / 2 ^ (nbits a + 1 - nbits b) < b := by
  have h1 := nbits_lt a
  have h2 := nbits_le b hb
  have h3 := nbits_pos b hb
  refine Nat.lt_of_lt_of_le ?_ h2
  rw [Nat.div_lt_iff_lt_mul (Nat.two_pow_pos _), ← Nat.pow_add]
  refine Nat.lt_of_lt_of_le h1 (Nat.pow_le_pow_right (by omega) ?_)
  omega
theorem bring_b (r a c m q s : Nat) (w : World) (hr : r < m) (hm : m < 2 ^ 256) (ha : a < 2 ^ 256) (hc : c ≤ 256) (hq : (r * 2 ^ c + a % 2 ^ c) / m = q) (hs : (r * 2 ^ c + a % 2 ^ c) % m = s) :
    Calls Tryd.prog 59 #[num r, num a, .int .i64 (c : Int), num m] w fun e w' => e = .returned (.tuple #[num q, num s]) ∧ Below w.heap.size w w' := by
  subst hq; subst hs; exact bring_any r a c m w hr hm ha hc
theorem eq_none (x : Nat) (hx : x < 2 ^ 256) (h : x ≠ 0) (w : World) : (Op.equalIn 10000 24 (num x) (.agg #[.int .u64 0, .int .u64 0, .int .u64 0, .int .u64 0])).run Tryd.prog w = .ok false w := by
  rw [num_zero]; exact eq_no x 0 hx (by decide) h w
theorem eq_none_yes (w : World) : (Op.equalIn 10000 24 (num 0) (.agg #[.int .u64 0, .int .u64 0, .int .u64 0, .int .u64 0])).run Tryd.prog w = .ok true w := by
  rw [num_zero]; exact eq_yes 0 0 rfl w

set_option maxRecDepth 100000 in
set_option maxHeartbeats 3200000 in
theorem div_none (a : Nat) (w : World) : Calls Tryd.prog 15 #[num a, num 0] w fun e w' => e = .returned (.tuple #[num 0, num 0, .int .i64 1]) ∧ Below w.heap.size w w' := by
  have q0 := eq_none_yes
  go_enter Tryd.func15, Tryd.ntmps15
  go_wp2
  refine bodyPost_ret (v := .tuple #[.agg #[.int .u64 0, .int .u64 0, .int .u64 0, .int .u64 0], .agg #[.int .u64 0, .int .u64 0, .int .u64 0, .int .u64 0], .int .i64 1]) (by simp [results, Tryd.results15, go_sem]) rfl ⟨by rw [num_zero], ?_⟩
  repeat (first | exact Below.refl _ _ | refine Below.drew ?_ | refine bal ?_ _)

set_option maxRecDepth 100000 in
set_option maxHeartbeats 3200000 in
theorem div_some (a b : Nat) (w : World) (ha : a < 2 ^ 256) (hb : b < 2 ^ 256) (h0 : b ≠ 0) : Calls Tryd.prog 15 #[num a, num b] w fun e w' => e = .returned (.tuple #[num (a / b), num (a % b), .int .i64 0]) ∧ Below w.heap.size w w' := by
  have qb := eq_none b hb h0
  obtain ⟨x, hx⟩ : ∃ x, nbits a = x := ⟨_, rfl⟩
  obtain ⟨y, hy⟩ : ∃ y, nbits b = y := ⟨_, rfl⟩
  have x1 := nbits_up a 256 ha
  have y1 := nbits_up b 256 hb
  have y2 := nbits_pos b (by omega)
  have hf := div_first (a := a) (b := b) (by omega)
  rw [hx] at x1 hf
  rw [hy] at y1 y2 hf
  obtain ⟨c, hc⟩ : ∃ c, x + 1 - y = c := ⟨_, rfl⟩
  rw [hc] at hf
  obtain ⟨r, er⟩ : ∃ r, a / 2 ^ c = r := ⟨_, rfl⟩
  rw [er] at hf
  have K1 := hid (p := (r * 2 ^ c + a % 2 ^ c) / b = a / b) (by rw [← er, down_up])
  have K2 := hid (p := (r * 2 ^ c + a % 2 ^ c) % b = a % b) (by rw [← er, down_up])
  have HX := hid (p := (nbits a : Int) = (x : Int)) (by rw [hx])
  have HY := hid (p := (nbits b : Int) = (y : Int)) (by rw [hy])
  have HR := hid (p := shf a (-(c : Int)) = r) (by rw [shf_down a c ha, er])
  have HF := hid hf
  have HA := hid ha
  have HB := hid hb
  have HC := hid (show c ≤ 256 by omega)
  have W1 : IntKind.i64.wrap ((x : Int) - (y : Int)) = (x : Int) - (y : Int) := IntWalk.i64_in _ (by omega)
  have W2 : IntKind.i64.wrap ((x : Int) - (y : Int) + 1) = (x : Int) - (y : Int) + 1 := IntWalk.i64_in _ (by omega)
  have W3 : max ((x : Int) - (y : Int) + 1) 0 = (c : Int) := by omega
  have W4 : IntKind.i64.wrap (-(c : Int)) = -(c : Int) := IntWalk.i64_in _ (by omega)
  have W5 : (0 : Int) ≤ c := by omega
  clear hx hy x1 y1 y2 hf hc er ha hb h0
  have HE := hid ((((((Env.refl w).new a).new b).zero).zero).perm (l' := [(w.heap.size, a), (w.heap.size + 1, b), (w.heap.size + 1 + 1, 0), (w.heap.size + 1 + 1 + 1, 0)]) (by simp))
  have D := hid (show w.heap.size ≠ w.heap.size + 1 + 1 ∧ w.heap.size ≠ w.heap.size + 1 + 1 + 1 ∧ w.heap.size + 1 ≠ w.heap.size + 1 + 1 ∧ w.heap.size + 1 ≠ w.heap.size + 1 + 1 + 1 ∧ w.heap.size + 1 + 1 ≠ w.heap.size + 1 + 1 + 1 ∧ w.heap.size ≤ w.heap.size + 1 + 1 ∧ w.heap.size ≤ w.heap.size + 1 + 1 + 1 by omega)
  go_enter Tryd.func15, Tryd.ntmps15
  go_upto_region 3 with fail
  generalize (((w.alloc (.cells (cls a) 24)).alloc (.cells (cls b) 24)).alloc (.cells #[.int .u64 0, .int .u64 0, .int .u64 0, .int .u64 0] 24)).alloc (.cells #[.int .u64 0, .int .u64 0, .int .u64 0, .int .u64 0] 24) = w0 at *
  generalize w.heap.size + 1 + 1 + 1 = g5 at *
  generalize w.heap.size + 1 + 1 = g4 at *
  generalize w.heap.size + 1 = g3 at *
  generalize hg2 : w.heap.size = g2 at *
  obtain ⟨cg2a, cg2b, cg2c, cg2d⟩ := HE.out.cell g2 (a) (by simp)
  have lg2 := HE.out.lt g2 (a) (by simp)
  obtain ⟨cg3a, cg3b, cg3c, cg3d⟩ := HE.out.cell g3 (b) (by simp)
  have lg3 := HE.out.lt g3 (b) (by simp)
  go_cut [7] (fun s7 wx => s7 = .int .i64 (c : Int) ∧ Hid (Env w [(g2, a), (g3, b), (g4, 0), (g5, 0)] wx))
  case first =>
    have hs := HE.out.drew
    go_region_with (first | ((go_at_call 58); (with_reducible refine (bits_at a (x : Int) (by assumption) HA.out HX.out).mono ?_); rintro e wn ⟨rfl, hs⟩; obtain ⟨cg2a, cg2b, cg2c, cg2d⟩ := hs.cell g2 (a) (by simp); have lg2 := hs.lt g2 (a) (by simp); obtain ⟨cg3a, cg3b, cg3c, cg3d⟩ := hs.cell g3 (b) (by simp); have lg3 := hs.lt g3 (b) (by simp)) | ((go_at_call 58); (with_reducible refine (bits_at b (y : Int) (by assumption) HB.out HY.out).mono ?_); rintro e wn ⟨rfl, hs⟩; obtain ⟨cg2a, cg2b, cg2c, cg2d⟩ := hs.cell g2 (a) (by simp); have lg2 := hs.lt g2 (a) (by simp); obtain ⟨cg3a, cg3b, cg3c, cg3d⟩ := hs.cell g3 (b) (by simp); have lg3 := hs.lt g3 (b) (by simp)))
    all_goals
      go_wp2_with fail
      go_meet
      exact ⟨rfl, hid hs⟩
  case rest =>
    obtain ⟨rfl, H1⟩ := hcut
    clear cg2a cg2b cg2c cg2d lg2 cg3a cg3b cg3c cg3d lg3 HE
    go_upto_region 4 with fail
    obtain ⟨cg2a, cg2b, cg2c, cg2d⟩ := H1.out.cell g2 (a) (by simp)
    have lg2 := H1.out.lt g2 (a) (by simp)
    obtain ⟨cg3a, cg3b, cg3c, cg3d⟩ := H1.out.cell g3 (b) (by simp)
    have lg3 := H1.out.lt g3 (b) (by simp)
    obtain ⟨cg4a, cg4b, cg4c, cg4d⟩ := H1.out.cell g4 (0) (by simp)
    have lg4 := H1.out.lt g4 (0) (by simp)
    obtain ⟨cg5a, cg5b, cg5c, cg5d⟩ := H1.out.cell g5 (0) (by simp)
    have lg5 := H1.out.lt g5 (0) (by simp)
    have fg4 := H1.out.frozen g4 (0) (by simp)
    have fg5 := H1.out.frozen g5 (0) (by simp)
    go_cut [7] (fun s7 wx => s7 = .int .i64 (c : Int) ∧ Hid (Env w [(g5, a % b), (g4, a / b)] wx))
    case first =>
      have hs := H1.out.drew
      obtain ⟨d1, d2, d3, d4, d5, d6, d7⟩ := D.out
      go_region_with (first | ((go_at_call 57); (with_reducible refine (shift_at a r (-(c : Int)) (by assumption) HA.out (by have := HC.out; omega) (by have := HC.out; omega) HR.out).mono ?_); rintro e wn ⟨rfl, hs⟩; obtain ⟨cg2a, cg2b, cg2c, cg2d⟩ := hs.cell g2 (a) (by simp); have lg2 := hs.lt g2 (a) (by simp); obtain ⟨cg3a, cg3b, cg3c, cg3d⟩ := hs.cell g3 (b) (by simp); have lg3 := hs.lt g3 (b) (by simp); obtain ⟨cg4a, cg4b, cg4c, cg4d⟩ := hs.cell g4 (0) (by simp); have lg4 := hs.lt g4 (0) (by simp); obtain ⟨cg5a, cg5b, cg5c, cg5d⟩ := hs.cell g5 (0) (by simp); have lg5 := hs.lt g5 (0) (by simp); have fg4 := hs.frozen g4 (0) (by simp); have fg5 := hs.frozen g5 (0) (by simp)) | ((go_at_call 59); (with_reducible refine (env_of (bring_b r a c b (a / b) (a % b) _ HF.out HB.out HA.out HC.out K1.out K2.out) (by assumption)).mono ?_); rintro e wn ⟨rfl, hs⟩; obtain ⟨cg2a, cg2b, cg2c, cg2d⟩ := hs.cell g2 (a) (by simp); have lg2 := hs.lt g2 (a) (by simp); obtain ⟨cg3a, cg3b, cg3c, cg3d⟩ := hs.cell g3 (b) (by simp); have lg3 := hs.lt g3 (b) (by simp); obtain ⟨cg4a, cg4b, cg4c, cg4d⟩ := hs.cell g4 (0) (by simp); have lg4 := hs.lt g4 (0) (by simp); obtain ⟨cg5a, cg5b, cg5c, cg5d⟩ := hs.cell g5 (0) (by simp); have lg5 := hs.lt g5 (0) (by simp); have fg4 := hs.frozen g4 (0) (by simp); have fg5 := hs.frozen g5 (0) (by simp)))
      all_goals
        go_wp2_with fail
        go_meet
        exact ⟨rfl, hid ((hs.set g4 0 (a / b) [(g5, 0)] (by simp) (by omega) (by simp; exact Ne.symm d5)).set g5 0 (a % b) [(g4, a / b)] (by simp) (by omega) (by simp; exact d5))⟩
    case rest =>
      obtain ⟨rfl, H2⟩ := hcut
      clear cg2a cg2b cg2c cg2d lg2 cg3a cg3b cg3c cg3d lg3 cg4a cg4b cg4c cg4d lg4 cg5a cg5b cg5c cg5d lg5 fg4 fg5 H1
      obtain ⟨d1, d2, d3, d4, d5, d6, d7⟩ := D.out
      have n1 : (g4 = g5) = False := eq_false d5
      have n2 : (g5 = g4) = False := eq_false (Ne.symm d5)
      obtain ⟨cg4a, cg4b, cg4c, cg4d⟩ := H2.out.cell g4 (a / b) (by simp)
      have lg4 := H2.out.lt g4 (a / b) (by simp)
      obtain ⟨cg5a, cg5b, cg5c, cg5d⟩ := H2.out.cell g5 (a % b) (by simp)
      have lg5 := H2.out.lt g5 (a % b) (by simp)
      have fg4 := H2.out.frozen g4 (a / b) (by simp)
      have fg5 := H2.out.frozen g5 (a % b) (by simp)
      have HZ := hid ((H2.out.set g4 (a / b) (a / b) [(g5, a % b)] (by simp) (by omega) (by simp; exact Ne.symm d5)).set g5 (a % b) (a % b) [(g4, a / b)] (by simp) (by omega) (by simp; exact d5))
      go_wp2
      go_region
      all_goals
        go_wp2
        clear cg4a cg4b cg4c cg4d lg4 cg5a cg5b cg5c cg5d lg5 fg4 fg5
        change bodyPost _ _ _ _ _ (fil (fil wc g4 (a / b)) g5 (a % b)).drew
        generalize fil (fil wc g4 (a / b)) g5 (a % b) = wz at *
        obtain ⟨k0, k1, k2, k3⟩ := HZ.out.cell g4 (a / b) (by simp)
        obtain ⟨j0, j1, j2, j3⟩ := HZ.out.cell g5 (a % b) (by simp)
        exact bodyPost_ret (v := .tuple #[num (a / b), num (a % b), .int .i64 0]) (by simp [results, Tryd.results15, go_sem, k0, k1, k2, k3, j0, j1, j2, j3]) rfl ⟨rfl, HZ.out.1.drew⟩
end Go.Proofs.YtikmhnlhaolbfaaDoor
namespace Go.Proofs.YtikmhnlhaolbfaaDoor
open Go.RowKit
set_option linter.unusedVariables false

theorem div_b (a b q r : Nat) (w : World) (ha : a < 2 ^ 256) (hb : b < 2 ^ 256) (h0 : b ≠ 0) (hq : a / b = q) (hr : a % b = r) : Calls Tryd.prog 15 #[num a, num b] w fun e w' => e = .returned (.tuple #[num q, num r, .int .i64 0]) ∧ Below w.heap.size w w' := by
  subst hq; subst hr; exact div_some a b w ha hb h0
theorem div_at (a b q r : Nat) {w w' : World} {l : List (Nat × Nat)} (h : Env w l w') (ha : a < 2 ^ 256) (hb : b < 2 ^ 256) (h0 : b ≠ 0) (hq : a / b = q) (hr : a % b = r) : Calls Tryd.prog 15 #[num a, num b] w' fun e w2 => e = .returned (.tuple #[num q, num r, .int .i64 0]) ∧ Env w l w2 :=
  env_of (div_b a b q r w' ha hb h0 hq hr) h
theorem div_none_at (a : Nat) {w w' : World} {l : List (Nat × Nat)} (h : Env w l w') : Calls Tryd.prog 15 #[num a, num 0] w' fun e w2 => e = .returned (.tuple #[num 0, num 0, .int .i64 1]) ∧ Env w l w2 :=
  env_of (div_none a w') h
theorem bring_at (r a c m q s : Nat) {w w' : World} {l : List (Nat × Nat)} (h : Env w l w') (hr : r < m) (hm : m < 2 ^ 256) (ha : a < 2 ^ 256) (hc : c ≤ 256) (hq : (r * 2 ^ c + a % 2 ^ c) / m = q) (hs : (r * 2 ^ c + a % 2 ^ c) % m = s) :
    Calls Tryd.prog 59 #[num r, num a, .int .i64 (c : Int), num m] w' fun e w2 => e = .returned (.tuple #[num q, num s]) ∧ Env w l w2 :=
  env_of (bring_b r a c m q s w' hr hm ha hc hq hs) h

/-- what is left of high and low together -/
def wid (lo hi m : Nat) : Nat := (lo + 2 ^ 256 * hi) % m
theorem wid_lt {lo hi m : Nat} (h0 : m ≠ 0) (hm : m < 2 ^ 256) : wid lo hi m < 2 ^ 256 := Nat.lt_trans (Nat.mod_lt _ (by omega)) hm
theorem wid_zero {lo hi m : Nat} (h : hi % m = 0) : wid lo hi m = lo % m := by
  unfold wid
  rw [Nat.add_mod, Nat.mul_mod, h, Nat.mul_zero, Nat.zero_mod, Nat.add_zero, Nat.mod_mod]
theorem wid_some {lo hi m : Nat} (hl : lo < 2 ^ 256) : (hi % m * 2 ^ 256 + lo % 2 ^ 256) % m = wid lo hi m := by
  unfold wid
  rw [Nat.mod_eq_of_lt hl, Nat.add_comm, Nat.add_mod, Nat.mod_mul_mod, ← Nat.add_mod, Nat.mul_comm hi]

set_option maxRecDepth 100000 in
set_option maxHeartbeats 3200000 in
theorem wide_none (lo hi : Nat) (w : World) : Calls Tryd.prog 17 #[num lo, num hi, num 0] w fun e w' => e = .returned (.tuple #[num 0, .int .i64 1]) ∧ Below w.heap.size w w' := by
  have HE := hid (((((Env.refl w).new lo).new hi).new 0).zero)
  go_enter Tryd.func17, Tryd.ntmps17
  go_wp2_with fail
  refine (div_none_at hi HE.out).mono ?_
  rintro e u1 ⟨rfl, h⟩
  have H1 := hid (h.perm (l' := [(w.heap.size + 1 + 1 + 1, 0)]) (by simp))
  have D := hid (show w.heap.size ≤ w.heap.size + 1 + 1 + 1 by omega)
  clear h HE
  generalize w.heap.size + 1 + 1 + 1 = g6 at *
  obtain ⟨z0, z1, z2, z3⟩ := H1.out.cell g6 0 (by simp)
  have l6 := H1.out.lt g6 0 (by simp)
  have f6 := H1.out.frozen g6 0 (by simp)
  have HZ := hid ((H1.out.set g6 0 0 [] (by simp) D.out (by simp)).new2 0 0)
  go_wp2
  clear z0 z1 z2 z3 l6 f6
  change bodyPost _ _ _ _ _ (((fil u1 g6 0).alloc (.cells (cls 0) 24)).alloc (.cells (cls 0) 24))
  generalize ((fil u1 g6 0).alloc (.cells (cls 0) 24)).alloc (.cells (cls 0) 24) = wz at *
  obtain ⟨k0, k1, k2, k3⟩ := HZ.out.cell g6 0 (by simp)
  exact bodyPost_ret (v := .tuple #[num 0, .int .i64 1]) (by simp [results, Tryd.results17, go_sem, k0, k1, k2, k3]) rfl ⟨rfl, HZ.out.1⟩
set_option maxRecDepth 100000 in
set_option maxHeartbeats 3200000 in
theorem wide_zero (lo hi m : Nat) (w : World) (hlo : lo < 2 ^ 256) (hhi : hi < 2 ^ 256) (hm : m < 2 ^ 256) (h0 : m ≠ 0) (hr : hi % m = 0) : Calls Tryd.prog 17 #[num lo, num hi, num m] w fun e w' => e = .returned (.tuple #[num (wid lo hi m), .int .i64 0]) ∧ Below w.heap.size w w' := by
  rw [wid_zero hr]
  obtain ⟨s, es⟩ : ∃ s, lo % m = s := ⟨_, rfl⟩
  rw [es]
  have E0 := hid hr
  have qn := eq_none_yes
  obtain ⟨q2, eq2⟩ : ∃ q2, lo / m = q2 := ⟨_, rfl⟩
  obtain ⟨q, eq⟩ : ∃ q, hi / m = q := ⟨_, rfl⟩
  have LO := hid hlo
  have HI := hid hhi
  have HM := hid hm
  have H0 := hid h0
  have EQ := hid eq
  have EQ2 := hid eq2
  have ES := hid es
  clear hlo hhi hm h0 eq eq2 es hr
  have HE := hid ((((((Env.refl w).new lo).new hi).new m).zero).perm (l' := [(w.heap.size, lo), (w.heap.size + 1 + 1, m), (w.heap.size + 1 + 1 + 1, 0)]) (by simp))
  have D := hid (show w.heap.size ≤ w.heap.size + 1 + 1 + 1 by omega)
  go_enter Tryd.func17, Tryd.ntmps17
  go_wp2_with fail
  refine (div_at hi m q 0 HE.out HI.out HM.out H0.out EQ.out E0.out).mono ?_
  rintro e u1 ⟨rfl, h⟩
  have H1 := hid h
  clear h HE
  generalize w.heap.size + 1 + 1 + 1 = g6 at *
  generalize w.heap.size + 1 + 1 = g5 at *
  generalize hg3 : w.heap.size = g3 at *
  obtain ⟨a0, a1, a2, a3⟩ := H1.out.cell g3 lo (by simp)
  have l3 := H1.out.lt g3 lo (by simp)
  obtain ⟨m0, m1, m2, m3⟩ := H1.out.cell g5 m (by simp)
  have l5 := H1.out.lt g5 m (by simp)
  go_wp2_with fail
  clear a0 a1 a2 a3 l3 m0 m1 m2 m3 l5 qn
  have H1b := hid (H1.out.new2 q 0)
  have N6 := hid (show g6 ≠ u1.heap.size + 1 by have := H1.out.lt g6 0 (by simp); omega)
  have G9 := hid (show w.heap.size ≤ u1.heap.size + 1 by have := H1.out.1.size; omega)
  clear H1
  generalize (u1.alloc (.cells (cls q) 24)).alloc (.cells (cls 0) 24) = u1b at *
  generalize u1.heap.size = g8 at *
  refine (div_at lo m q2 s H1b.out LO.out HM.out H0.out EQ2.out ES.out).mono ?_
  rintro e u2 ⟨rfl, h⟩
  have H2 := hid h
  clear h H1b
  obtain ⟨a0, a1, a2, a3⟩ := H2.out.cell (g8 + 1) 0 (by simp)
  have l9 := H2.out.lt (g8 + 1) 0 (by simp)
  have f9 := H2.out.frozen (g8 + 1) 0 (by simp)
  obtain ⟨b0, b1, b2, b3⟩ := H2.out.cell g6 0 (by simp)
  have l6 := H2.out.lt g6 0 (by simp)
  have f6 := H2.out.frozen g6 0 (by simp)
  have n6 : g6 ≠ g8 + 1 := N6.out
  have n6' : (g6 = g8 + 1) = False := eq_false n6
  have n6'' : (g8 + 1 = g6) = False := eq_false (Ne.symm n6)
  have HZ := hid ((H2.out.set (g8 + 1) 0 s [(g6, 0)] (by simp) G9.out (by simp; exact n6)).set g6 0 s [] (by simp) (by rw [hg3]; exact D.out) (by simp))
  go_wp2
  clear a0 a1 a2 a3 l9 f9 b0 b1 b2 b3 l6 f6
  change bodyPost _ _ _ _ _ (fil (fil u2 (g8 + 1) s) g6 s)
  generalize fil (fil u2 (g8 + 1) s) g6 s = wz at *
  obtain ⟨k0, k1, k2, k3⟩ := HZ.out.cell g6 s (by simp)
  exact bodyPost_ret (v := .tuple #[num s, .int .i64 0]) (by simp [results, Tryd.results17, go_sem, k0, k1, k2, k3]) rfl ⟨rfl, HZ.out.1⟩
set_option maxRecDepth 100000 in
set_option maxHeartbeats 3200000 in
theorem wide_rest (lo hi m : Nat) (w : World) (hlo : lo < 2 ^ 256) (hhi : hi < 2 ^ 256) (hm : m < 2 ^ 256) (h0 : m ≠ 0) (hr : hi % m ≠ 0) : Calls Tryd.prog 17 #[num lo, num hi, num m] w fun e w' => e = .returned (.tuple #[num (wid lo hi m), .int .i64 0]) ∧ Below w.heap.size w w' := by
  have hs := wid_some (m := m) (hi := hi) hlo
  obtain ⟨s, es'⟩ : ∃ s, wid lo hi m = s := ⟨_, rfl⟩
  rw [es'] at hs ⊢
  clear es'
  have hrl := Nat.mod_lt hi (Nat.pos_of_ne_zero h0)
  obtain ⟨r, er⟩ : ∃ r, hi % m = r := ⟨_, rfl⟩
  rw [er] at hr hs hrl
  have es := hs
  have E0 := hid er
  have RL := hid hrl
  have qn := eq_none r (Nat.lt_trans hrl hm) hr
  obtain ⟨q2, eq2⟩ : ∃ q2, (r * 2 ^ 256 + lo % 2 ^ 256) / m = q2 := ⟨_, rfl⟩
  obtain ⟨q, eq⟩ : ∃ q, hi / m = q := ⟨_, rfl⟩
  have LO := hid hlo
  have HI := hid hhi
  have HM := hid hm
  have H0 := hid h0
  have EQ := hid eq
  have EQ2 := hid eq2
  have ES := hid es
  clear hlo hhi hm h0 eq eq2 es hr hs hrl er
  have HE := hid ((((((Env.refl w).new lo).new hi).new m).zero).perm (l' := [(w.heap.size, lo), (w.heap.size + 1 + 1, m), (w.heap.size + 1 + 1 + 1, 0)]) (by simp))
  have D := hid (show w.heap.size ≤ w.heap.size + 1 + 1 + 1 by omega)
  go_enter Tryd.func17, Tryd.ntmps17
  go_wp2_with fail
  refine (div_at hi m q r HE.out HI.out HM.out H0.out EQ.out E0.out).mono ?_
  rintro e u1 ⟨rfl, h⟩
  have H1 := hid h
  clear h HE
  generalize w.heap.size + 1 + 1 + 1 = g6 at *
  generalize w.heap.size + 1 + 1 = g5 at *
  generalize hg3 : w.heap.size = g3 at *
  obtain ⟨a0, a1, a2, a3⟩ := H1.out.cell g3 lo (by simp)
  have l3 := H1.out.lt g3 lo (by simp)
  obtain ⟨m0, m1, m2, m3⟩ := H1.out.cell g5 m (by simp)
  have l5 := H1.out.lt g5 m (by simp)
  go_wp2_with fail
  clear a0 a1 a2 a3 l3 m0 m1 m2 m3 l5 qn
  have H1b := hid (H1.out.new2 q r)
  have N6 := hid (show g6 ≠ u1.heap.size + 1 by have := H1.out.lt g6 0 (by simp); omega)
  have G9 := hid (show w.heap.size ≤ u1.heap.size + 1 by have := H1.out.1.size; omega)
  clear H1
  generalize (u1.alloc (.cells (cls q) 24)).alloc (.cells (cls r) 24) = u1b at *
  generalize u1.heap.size = g8 at *
  refine (bring_at r lo 256 m q2 s H1b.out RL.out HM.out LO.out (by decide) EQ2.out ES.out).mono ?_
  rintro e u2 ⟨rfl, h⟩
  have H2 := hid h
  clear h H1b
  obtain ⟨a0, a1, a2, a3⟩ := H2.out.cell (g8 + 1) r (by simp)
  have l9 := H2.out.lt (g8 + 1) r (by simp)
  have f9 := H2.out.frozen (g8 + 1) r (by simp)
  obtain ⟨b0, b1, b2, b3⟩ := H2.out.cell g6 0 (by simp)
  have l6 := H2.out.lt g6 0 (by simp)
  have f6 := H2.out.frozen g6 0 (by simp)
  have n6 : g6 ≠ g8 + 1 := N6.out
  have n6' : (g6 = g8 + 1) = False := eq_false n6
  have n6'' : (g8 + 1 = g6) = False := eq_false (Ne.symm n6)
  have HZ := hid ((H2.out.set (g8 + 1) r s [(g6, 0)] (by simp) G9.out (by simp; exact n6)).set g6 0 s [] (by simp) (by rw [hg3]; exact D.out) (by simp))
  go_wp2
  clear a0 a1 a2 a3 l9 f9 b0 b1 b2 b3 l6 f6
  change bodyPost _ _ _ _ _ (fil (fil u2 (g8 + 1) s) g6 s)
  generalize fil (fil u2 (g8 + 1) s) g6 s = wz at *
  obtain ⟨k0, k1, k2, k3⟩ := HZ.out.cell g6 s (by simp)
  exact bodyPost_ret (v := .tuple #[num s, .int .i64 0]) (by simp [results, Tryd.results17, go_sem, k0, k1, k2, k3]) rfl ⟨rfl, HZ.out.1⟩
theorem wide_some (lo hi m : Nat) (w : World) (hlo : lo < 2 ^ 256) (hhi : hi < 2 ^ 256) (hm : m < 2 ^ 256) (h0 : m ≠ 0) : Calls Tryd.prog 17 #[num lo, num hi, num m] w fun e w' => e = .returned (.tuple #[num (wid lo hi m), .int .i64 0]) ∧ Below w.heap.size w w' := by
  by_cases hr : hi % m = 0
  · exact wide_zero lo hi m w hlo hhi hm h0 hr
  · exact wide_rest lo hi m w hlo hhi hm h0 hr
theorem wide_b (lo hi m s : Nat) (w : World) (hlo : lo < 2 ^ 256) (hhi : hi < 2 ^ 256) (hm : m < 2 ^ 256) (h0 : m ≠ 0) (hs : wid lo hi m = s) : Calls Tryd.prog 17 #[num lo, num hi, num m] w fun e w' => e = .returned (.tuple #[num s, .int .i64 0]) ∧ Below w.heap.size w w' := by
  subst hs; exact wide_some lo hi m w hlo hhi hm h0
theorem wide_at (lo hi m s : Nat) {w w' : World} {l : List (Nat × Nat)} (h : Env w l w') (hlo : lo < 2 ^ 256) (hhi : hi < 2 ^ 256) (hm : m < 2 ^ 256) (h0 : m ≠ 0) (hs : wid lo hi m = s) : Calls Tryd.prog 17 #[num lo, num hi, num m] w' fun e w2 => e = .returned (.tuple #[num s, .int .i64 0]) ∧ Env w l w2 :=
  env_of (wide_b lo hi m s w' hlo hhi hm h0 hs) h
theorem wide_none_at (lo hi : Nat) {w w' : World} {l : List (Nat × Nat)} (h : Env w l w') : Calls Tryd.prog 17 #[num lo, num hi, num 0] w' fun e w2 => e = .returned (.tuple #[num 0, .int .i64 1]) ∧ Env w l w2 :=
  env_of (wide_none lo hi w') h
end Go.Proofs.YtikmhnlhaolbfaaDoor
namespace Go.Proofs.YtikmhnlhaolbfaaDoor
open Go.RowKit
set_option linter.unusedVariables false
set_option linter.unusedSimpArgs false

/-- the parts' number below m -/
def nof (s : List UInt8) (n : Nat) (xs : Nat → List UInt8) (m : Nat) : Nat := wid (half s n xs 1) (half s n xs 0) m
theorem wide_both (lo hi m s : Nat) {w w' : World} {l : List (Nat × Nat)} (hlo : lo < 2 ^ 256) (hhi : hi < 2 ^ 256) (hm : m < 2 ^ 256) (hs : (if m = 0 then 0 else wid lo hi m) = s) (e : Int) (he : (if m = 0 then 1 else 0 : Int) = e) (h : Env w l w') :
    Calls Tryd.prog 17 #[num lo, num hi, num m] w' fun r w2 => r = .returned (.tuple #[num s, .int .i64 e]) ∧ Env w l w2 := by
  by_cases h0 : m = 0
  · subst h0
    rw [if_pos rfl] at hs he
    subst hs; subst he
    exact wide_none_at lo hi h
  · rw [if_neg h0] at hs he
    subst he
    exact wide_at lo hi m s h hlo hhi hm h0 hs
/-- the closure, with what it rests on -/
theorem half_k (st : ByteArray) (a0 : Option Addr) (n0 c0 : Nat) (A : Nat → Option Addr) (L C : Nat → Nat) (xs : Nat → List UInt8) (ga gp : Nat) (x : UInt8) (xi : Int) (t : Nat) {w0 w' : World} {l : List (Nat × Nat)} (hx : xi = (x.toNat : Int)) (ht : half st.data.toList n0 xs x = t) (hR : Rws w0 a0 n0 A L C xs) (hK : Kt w0) (hn : n0 + 1 ≤ 1000) (hL : ∀ r, r < n0 → L r ≤ 1048576) (hs : st.size ≤ 1000000) (hc : n0 ≤ c0) (h0 : a0 = none → c0 = 0)
    (hga : w0.cell? ⟨ga, 0, none⟩ = some (.string st)) (hgp : w0.cell? ⟨gp, 0, none⟩ = some (.slice a0 n0 c0)) (h : Env w0 l w') :
    Calls Tryd.prog 87 #[.int .u8 xi, .pointer (some ⟨ga, 0, none⟩), .pointer (some ⟨gp, 0, none⟩)] w' fun e w2 => e = .returned (num t) ∧ Env w0 l w2 := by
  subst ht
  exact env_of (half_any st a0 n0 c0 A L C xs ga gp x xi w' hx ((on_rws hR) _ h.1) ((on_kt hK) _ h.1) hn hL hs hc h0 ((on_cell (World.block_lt_of_cell? _ _ hga) hga) _ h.1) ((on_cell (World.block_lt_of_cell? _ _ hgp) hgp) _ h.1)) h
theorem num_boxes (w : World) (m : Nat) (v1 v2 : Value) :
    Env w [(w.heap.size, m), (w.heap.size + 1 + 1 + 1, 0)] ((((w.alloc (.cells (cls m) 24)).alloc (.cells #[v1] 9)).alloc (.cells #[v2] 48)).alloc (.cells #[.int .u64 0, .int .u64 0, .int .u64 0, .int .u64 0] 24)) ∧
    ((((w.alloc (.cells (cls m) 24)).alloc (.cells #[v1] 9)).alloc (.cells #[v2] 48)).alloc (.cells #[.int .u64 0, .int .u64 0, .int .u64 0, .int .u64 0] 24)).cell? ⟨w.heap.size + 1, 0, none⟩ = some v1 ∧
    ((((w.alloc (.cells (cls m) 24)).alloc (.cells #[v1] 9)).alloc (.cells #[v2] 48)).alloc (.cells #[.int .u64 0, .int .u64 0, .int .u64 0, .int .u64 0] 24)).cell? ⟨w.heap.size + 1 + 1, 0, none⟩ = some v2 := by
  have sz : ∀ (u : World) (o : Obj), (u.alloc o).heap.size = u.heap.size + 1 := fun u o => Array.size_push _
  have e1 := (Env.refl w).new m
  have e2 := e1.on ((Below.refl _ _).alloc (Nat.le_refl _) (.cells #[v1] 9))
  have e3 := e2.on ((Below.refl _ _).alloc (Nat.le_refl _) (.cells #[v2] 48))
  have e4 := e3.zero
  have k1 : ((w.alloc (.cells (cls m) 24)).alloc (.cells #[v1] 9)).cell? ⟨w.heap.size + 1, 0, none⟩ = some v1 := by
    have := cell_of_row _ _ 0 _ 9 (0, 0) (heap_alloc_new (w.alloc (.cells (cls m) 24)) (.cells #[v1] 9))
    rw [sz] at this
    exact this
  have k2 : (((w.alloc (.cells (cls m) 24)).alloc (.cells #[v1] 9)).alloc (.cells #[v2] 48)).cell? ⟨w.heap.size + 1 + 1, 0, none⟩ = some v2 := by
    have := cell_of_row _ _ 0 _ 48 (0, 0) (heap_alloc_new ((w.alloc (.cells (cls m) 24)).alloc (.cells #[v1] 9)) (.cells #[v2] 48))
    rw [sz, sz] at this
    exact this
  refine ⟨?_, ?_, ?_⟩
  · have := e4.perm (l' := [(w.heap.size, m), ((((w.alloc (.cells (cls m) 24)).alloc (.cells #[v1] 9)).alloc (.cells #[v2] 48)).heap.size, 0)]) (by simp)
    rw [sz, sz, sz] at this
    exact this
  · rw [World.cell?_alloc_past _ _ _ (by simp only [sz]; omega), World.cell?_alloc_past _ _ _ (by simp only [sz]; omega)]
    exact k1
  · rw [World.cell?_alloc_past _ _ _ (by simp only [sz]; omega)]
    exact k2
set_option maxRecDepth 100000 in
set_option maxHeartbeats 4000000 in
theorem number_any (st : ByteArray) (a0 : Option Addr) (n0 c0 : Nat) (A : Nat → Option Addr) (L C : Nat → Nat) (xs : Nat → List UInt8) (m s : Nat) (e : Int) (w : World) (hm : m < 2 ^ 256) (hR : Rws w a0 n0 A L C xs) (hK : Kt w) (hn : n0 + 1 ≤ 1000) (hL : ∀ r, r < n0 → L r ≤ 1048576) (hs : st.size ≤ 1000000) (hc : n0 ≤ c0) (h0 : a0 = none → c0 = 0)
    (hv : (if m = 0 then 0 else nof st.data.toList n0 xs m) = s) (he : (if m = 0 then 1 else 0 : Int) = e) :
    Calls Tryd.prog 43 #[num m, .string st, .slice a0 n0 c0] w fun r w' => r = .returned (.tuple #[num s, .int .i64 e]) ∧ Below w.heap.size w w' := by
  obtain ⟨lo, elo⟩ : ∃ z, half st.data.toList n0 xs 1 = z := ⟨_, rfl⟩
  obtain ⟨hi, ehi⟩ : ∃ z, half st.data.toList n0 xs 0 = z := ⟨_, rfl⟩
  unfold nof at hv
  rw [elo, ehi] at hv
  have HLO := hid (elo ▸ half_lt _ _ _ _ : lo < 2 ^ 256)
  have HHI := hid (ehi ▸ half_lt _ _ _ _ : hi < 2 ^ 256)
  have ELO := hid elo
  have EHI := hid ehi
  have HM := hid hm
  have HN := hid hn
  have HL := hid hL
  have HS := hid hs
  have HC := hid hc
  have H0A := hid h0
  have HV := hid hv
  have HE := hid he
  have HR0 := hid hR
  have HK0 := hid hK
  clear elo ehi hm hn hL hs hc h0 hv he hR hK
  obtain ⟨b1, b2, b3⟩ := num_boxes w m (.string st) (.slice a0 n0 c0)
  have H0 := hid b1
  have HCA := hid b2
  have HCP := hid b3
  clear b1 b2 b3
  have DZ := hid (show w.heap.size ≤ w.heap.size + 1 + 1 + 1 by omega)
  have DN := hid (show w.heap.size ≠ w.heap.size + 1 + 1 + 1 by omega)
  go_enter Tryd.func43, Tryd.ntmps43
  go_upto_region 2 with fail
  generalize (((w.alloc (.cells (cls m) 24)).alloc (.cells #[.string st] 9)).alloc (.cells #[.slice a0 n0 c0] 48)).alloc (.cells #[.int .u64 0, .int .u64 0, .int .u64 0, .int .u64 0] 24) = w0 at *
  generalize w.heap.size + 1 + 1 + 1 = g_z at *
  generalize w.heap.size + 1 + 1 = g_p at *
  generalize w.heap.size + 1 = g_s at *
  generalize hzg_a : w.heap.size = g_a at *
  have HR := hid ((on_rws HR0.out) _ H0.out.1)
  have HK := hid ((on_kt HK0.out) _ H0.out.1)
  clear HR0 HK0
  have hs := (show Env w0 [(g_a, m), (g_z, 0)] w0 from ⟨Below.refl _ _, H0.out.2⟩).drew
  refine wp_region_noPanic ?_
  refine Goes.region (fun (_ : Array Bool) (w' : World) => (w'.cell? ⟨g_a, 0, none⟩ = some (.int .u64 (wd (m) 0 : Int)) ∧ w'.cell? ⟨g_a, 1, none⟩ = some (.int .u64 (wd (m) 1 : Int)) ∧ w'.cell? ⟨g_a, 2, none⟩ = some (.int .u64 (wd (m) 2 : Int)) ∧ w'.cell? ⟨g_a, 3, none⟩ = some (.int .u64 (wd (m) 3 : Int)))) (by kernel_rfl) ?_
  generalize w0.drew = wd at *
  refine Goes.take (i := 0) (o := ⟨some 10, _, _, _, _, _⟩) (v := ?_) [] rfl (by kernel_rfl) (by kernel_rfl) (by kernel_rfl) (fun _ _ _ h => h) (by kernel_rfl) (fun L u h => h) (Or.inl ⟨by rfl, ?_⟩) (Env.cell hs g_a m (by simp)) ?_
  rotate_left
  · intro u hY; go_simp; try with_reducible rfl
  try simp only [Act.put, List.setIfInBounds_toArray, List.set_cons_zero, List.set_cons_succ]
  refine Goes.take (i := 2) (o := ⟨some 12, _, _, _, _, _⟩) (v := ?_) [] rfl (by kernel_rfl) (by kernel_rfl) (by kernel_rfl) (fun _ _ _ h => h) (by kernel_rfl) (fun L u h => h) (Or.inl ⟨by rfl, ?_⟩) (Env.cell hs g_a m (by simp)) ?_
  rotate_left
  · intro u hY; go_simp; try with_reducible rfl
  try simp only [Act.put, List.setIfInBounds_toArray, List.set_cons_zero, List.set_cons_succ]
  refine Goes.take (i := 4) (o := ⟨some 14, _, _, _, _, _⟩) (v := ?_) [] rfl (by kernel_rfl) (by kernel_rfl) (by kernel_rfl) (fun _ _ _ h => h) (by kernel_rfl) (fun L u h => h) (Or.inl ⟨by rfl, ?_⟩) (Env.cell hs g_a m (by simp)) ?_
  rotate_left
  · rintro u ⟨up, -, hX⟩; (try dsimp only at hX); obtain ⟨x0, x1, x2, x3⟩ := hX; go_simp; try with_reducible rfl
  try simp only [Act.put, List.setIfInBounds_toArray, List.set_cons_zero, List.set_cons_succ]
  refine Goes.one (i := 1) (o := ⟨some 11, _, _, _, _, _⟩) (by kernel_rfl) rfl (fun K hK => ?_)
  go_simp
  with_reducible refine (half_k st a0 n0 c0 A L C xs g_s g_p 1 1 lo rfl ELO.out HR.out HK.out HN.out HL.out HS.out HC.out H0A.out HCA.out HCP.out hs).mono ?_
  rintro e1 wn1 ⟨rfl, hs1⟩
  clear hs
  have hs := hs1
  clear hs1
  go_wp2_with fail
  refine hK.out _ _ (Env.cell hs g_a m (by simp)) ?_
  clear hK K
  try simp only [Act.put, List.setIfInBounds_toArray, List.set_cons_zero, List.set_cons_succ]
  refine Goes.one (i := 3) (o := ⟨some 13, _, _, _, _, _⟩) (by kernel_rfl) rfl (fun K hK => ?_)
  go_simp
  with_reducible refine (half_k st a0 n0 c0 A L C xs g_s g_p 0 0 hi rfl EHI.out HR.out HK.out HN.out HL.out HS.out HC.out H0A.out HCA.out HCP.out hs).mono ?_
  rintro e1 wn2 ⟨rfl, hs1⟩
  clear hs
  have hs := hs1
  clear hs1
  go_wp2_with fail
  refine hK.out _ _ (Env.cell hs g_a m (by simp)) ?_
  clear hK K
  try simp only [Act.put, List.setIfInBounds_toArray, List.set_cons_zero, List.set_cons_succ]
  refine Goes.one (i := 5) (o := ⟨some 15, _, _, _, _, _⟩) (by kernel_rfl) rfl (fun K hK => ?_)
  go_simp
  with_reducible refine (wide_both lo hi m s HLO.out HHI.out HM.out HV.out e HE.out hs).mono ?_
  rintro e1 wn3 ⟨rfl, hs1⟩
  clear hs
  have hs := hs1
  clear hs1
  go_wp2_with fail
  refine hK.out _ _ (Env.cell hs g_a m (by simp)) ?_
  clear hK K
  try simp only [Act.put, List.setIfInBounds_toArray, List.set_cons_zero, List.set_cons_succ]
  refine Goes.take (i := 6) (o := ⟨some 16, _, _, _, _, _⟩) (v := ?_) [] rfl (by kernel_rfl) (by kernel_rfl) (by kernel_rfl) (fun _ _ _ h => h) (by kernel_rfl) (fun L u h => h) (Or.inl ⟨by rfl, ?_⟩) (Env.cell hs g_a m (by simp)) ?_
  rotate_left
  · intro u hY; go_simp; try with_reducible rfl
  try simp only [Act.put, List.setIfInBounds_toArray, List.set_cons_zero, List.set_cons_succ]
  refine Goes.take (i := 7) (o := ⟨some 17, _, _, _, _, _⟩) (v := ?_) [] rfl (by kernel_rfl) (by kernel_rfl) (by kernel_rfl) (fun _ _ _ h => h) (by kernel_rfl) (fun L u h => h) (Or.inl ⟨by rfl, ?_⟩) (Env.cell hs g_a m (by simp)) ?_
  rotate_left
  · intro u hY; go_simp; try with_reducible rfl
  try simp only [Act.put, List.setIfInBounds_toArray, List.set_cons_zero, List.set_cons_succ]
  refine Goes.one (i := 8) (o := ⟨none, _, _, _, _, _⟩) (by kernel_rfl) rfl (fun K hK => ?_)
  have HW := hid (H0.out.on hs.1)
  obtain ⟨z0, z1, z2, z3⟩ := HW.out.cell g_z 0 (by simp)
  have zl := HW.out.lt g_z 0 (by simp)
  have zf := HW.out.frozen g_z 0 (by simp)
  have HZ := hid (HW.out.set g_z 0 s [(g_a, m)] (by simp) (by rw [hzg_a]; exact DZ.out) (by simp; exact DN.out))
  go_simp
  refine hK.out _ _ (Env.cell HZ.out g_a m (by simp)) ?_
  clear hK K z0 z1 z2 z3 zl zf
  have hs := HZ.out
  try simp only [Act.put, List.setIfInBounds_toArray, List.set_cons_zero, List.set_cons_succ]
  refine Goes.take (i := 9) (o := ⟨some 7, _, _, _, _, _⟩) (v := ?_) [] rfl (by kernel_rfl) (by kernel_rfl) (by kernel_rfl) (fun _ _ _ h => h) (by kernel_rfl) (fun L u h => h) (Or.inl ⟨by rfl, ?_⟩) (Env.cell hs g_a m (by simp)) ?_
  rotate_left
  · intro u hY; go_simp; try with_reducible rfl
  try simp only [Act.put, List.setIfInBounds_toArray, List.set_cons_zero, List.set_cons_succ]
  refine Goes.done (by kernel_rfl) ?_ _
  refine NoPanic.normal ?_
  go_wp2
  try rw [Exit.noGoto_ret]
  obtain ⟨k0, k1, k2, k3⟩ := HZ.out.cell g_z s (by simp)
  exact bodyPost_ret (v := .tuple #[num s, .int .i64 e]) (by simp [results, Tryd.results43, go_sem, k0, k1, k2, k3]) rfl ⟨rfl, HZ.out.1⟩
end Go.Proofs.YtikmhnlhaolbfaaDoor
namespace Go.Proofs.YtikmhnlhaolbfaaDoor
open Go.RowKit
set_option linter.unusedVariables false

/-- a slice of the call's own that holds these bytes -/
def Ow (w : World) (base : Nat) (v : Value) (bs : List UInt8) : Prop := w.ownsRow base 5 1 v bs.length (bvs bs)

theorem Ow.nil (w : World) (base : Nat) : Ow w base (.slice none 0 0) [] := World.ownsRow_nil w base 5 1

/-- what it looks like, and what it reads as -/
theorem Ow.form {w : World} {base : Nat} {v : Value} {bs : List UInt8} (h : Ow w base v bs) :
    ∃ A c, v = .slice A bs.length c ∧ bs.length ≤ c ∧ c ≤ 9223372036854775807 ∧ Rd w A bs ∧ (A = none → c = 0) := by
  rcases h.2 with ⟨rfl, hn⟩ | ⟨g, cap, cur, rfl, hb, hh, hnc, hm, hs, ht⟩
  · have : bs = [] := List.eq_nil_of_length_eq_zero hn
    subst this
    exact ⟨none, 0, rfl, Nat.le_refl _, by omega, Rd.nil _ _, fun _ => rfl⟩
  · refine ⟨_, cap, rfl, hnc, hm, fun hp => ⟨g, 0, rfl, lt_of_block hh, fun j hj => ?_⟩, fun h => by cases h⟩
    have := World.ownsRow.cellAt h j (by simpa using hj)
    rw [Nat.zero_add, this]
    simp [bvs, hj]

set_option maxRecDepth 100000 in
theorem append_bytes (w : World) (base : Nat) (v : Value) (bs ls : List UInt8) (A : Option Addr) (m c : Nat) (hown : Ow w base v bs) (hr : Rd w A ls) (hl : ls.length = m) (hA : A = none → c = 0)
    (hsz : bs.length + m ≤ 140737488355328) (hbase : base ≤ w.heap.size) :
    ∃ v' w', (Builtin.append_ #[41, 41] 41 #[v, .slice A m c]).run Tryd.prog w = .ok v' w' ∧ Ow w' base v' (bs ++ ls) ∧ w.grownBy w' v.ownBlock ∧
      (v'.ownBlock = v.ownBlock ∨ v'.ownBlock = some w.heap.size) := by
  obtain ⟨i0, hi, hz0, hz1, hz2⟩ := info_parts u8_info
  rcases A with _ | ad
  · have hm : ls = [] := by
      rcases Nat.eq_zero_or_pos ls.length with h0 | h0
      · exact List.eq_nil_of_length_eq_zero h0
      · obtain ⟨_, _, h, _⟩ := hr h0; cases h
    subst hm
    subst hl
    obtain rfl := hA rfl
    exact ⟨v, w, run_append_owned_none (P := Tryd.prog) (w := w) base 41 41 5 i0 1 Tryd.underlying41 hi v bs.length _ hown, by simpa using hown, World.grownBy.refl w _, .inl rfl⟩
  · have hc : ∀ j u, (bvs ls)[j]? = some u → w.cell? (ad.add j) = some u := by
      intro j u hu
      rcases Nat.eq_zero_or_pos ls.length with h0 | h0
      · have : ls = [] := List.eq_nil_of_length_eq_zero h0
        subst this; simp [bvs] at hu
      · obtain ⟨ad', h, hc⟩ := hr.cells h0
        injection h with h
        subst h
        exact hc j u hu
    obtain ⟨v', w', hrun, h2, h3, _, h5⟩ := run_append_own_at (P := Tryd.prog) w base 41 41 5 i0 (.int .u8 0) 1 1 Tryd.underlying41 hi hz0 hz1 hz2 rfl (by omega) v bs.length (bvs bs) hown ad m c (bvs ls) (by rw [bvs_length, hl, Nat.mul_one]) hc (bvs_one ls)
      (by simp only [maxLen]; omega) (by omega) hbase
    refine ⟨v', w', hrun, ?_, h3, h5⟩
    unfold Ow
    rw [bvs_append, List.length_append, hl]
    exact h2

/-- the walk's step at an append whose run is known -/
theorem step_append {ops : Array Oper} {rest : List Oper} {o : Oper} {a : Act} {w : World} {Q : Exit → Act → World → Prop} (hgd : o.guard = none) (s x : Operand)
    (ho : o.op = .call { callee := .builtin .append, args := #[s, x], argTypes := #[41, 41] }) (hty : o.type = 41) (vs vx : Value) (hs : a.eval s = vs) (hx : a.eval x = vx) (v' : Value) (w' : World)
    (hrun : (Builtin.append_ #[41, 41] 41 #[vs, vx]).run Tryd.prog w = .ok v' w') (h : wpList Tryd.prog ops Q rest (a.put o.dst v') w') : wpList Tryd.prog ops Q (o :: rest) a w := by
  refine wpList_plain hgd fun K hK => ?_
  unfold Oper.wp
  simp [execOp, ho, hty, resolve, invoke, builtin, hs, hx, hrun, Result.andThen]
  exact hK _ _ h
end Go.Proofs.YtikmhnlhaolbfaaDoor
namespace Go.Proofs.YtikmhnlhaolbfaaDoor
open Go.RowKit
set_option linter.unusedVariables false

/-- it returns a slice of its own that holds these bytes, and nothing that was there has changed -/
def OutO (w : World) (bs : List UInt8) (e : Ending) (w' : World) : Prop := ∃ v, e = .returned v ∧ Ow w' w.heap.size v bs ∧ Below w.heap.size w w'

theorem Row.one (w : World) (b : UInt8) : Row (w.alloc (.cells #[.int .u8 ((b.toNat : Nat) : Int)] 5)) w.heap.size [b] := heap_alloc_new w _

set_option maxRecDepth 100000 in
theorem behind_any (A B : Option Addr) (c d : Nat) (bs ls : List UInt8) (n m : Nat) (hn : bs.length = n) (hm : ls.length = m) (w : World) (ha : Rd w A bs) (hb : Rd w B ls) (hA : A = none → c = 0) (hB : B = none → d = 0) (hs : n + m ≤ 140737488355328) :
    Calls Tryd.prog 103 #[.slice A n c, .slice B m d] w (OutO w (bs ++ ls)) := by
  obtain ⟨v1, w1, hrun1, how1, hg1, _⟩ := append_bytes w w.heap.size (.slice none 0 0) [] bs A n c (Ow.nil _ _) ha hn hA (by simp; omega) (Nat.le_refl _)
  have hb1 : Below w.heap.size w w1 := (Below.refl _ _).grown hg1 (Nat.le_refl _) (by simp [Value.ownBlock])
  obtain ⟨v2, w2, hrun2, how2, hg2, _⟩ := append_bytes w1 w.heap.size v1 ([] ++ bs) ls B m d how1 (hb.below hb1 (Nat.le_refl _)) hm hB (by simp; omega) hb1.size
  have hb2 : Below w.heap.size w w2 := hb1.grown hg2 hb1.size (fun k hk => (World.ownsRow.lt how1 k hk).1)
  have HN1 := hid hrun1
  have HN2 := hid hrun2
  have HO := hid (p := OutO w (bs ++ ls) (.returned v2) w2) ⟨v2, rfl, by simpa using how2, hb2⟩
  clear hrun1 hrun2 how1 how2 hg1 hg2 hb1 hb2
  go_enter Tryd.func103, Tryd.ntmps103
  go_wp2_with (first | (at_builtin; refine step_append rfl (.const (.slice none 0 0)) (.tmp 5) rfl rfl _ _ rfl rfl v1 w1 HN1.out ?_) | (at_builtin; refine step_append rfl (.tmp 6) (.tmp 7) rfl rfl _ _ rfl rfl v2 w2 HN2.out ?_))
  go_ret
  exact HO.out

set_option maxRecDepth 100000 in
theorem row_any (k : Nat) : ∀ (n : Nat) (ki : Int) (w : World), n < 18446744073709551616 → ki = (k : Int) → k ≤ 8 → Calls Tryd.prog 104 #[.int .u64 (n : Int), .int .i64 ki] w (OutO w (be n k)) := by
  induction k with
  | zero =>
    rintro n ki w hn rfl _
    have HO := hid (p := OutO w (be n 0) (.returned (.slice none 0 0)) w) ⟨_, rfl, Ow.nil _ _, Below.refl _ _⟩
    go_enter Tryd.func104, Tryd.ntmps104
    go_wp2
    go_ret
    exact HO.out
  | succ k ih =>
    rintro n ki w hn rfl hk
    have IH := hid (ih (n / 256) (k : Int) w (by omega) rfl (by omega))
    clear ih
    have HB := hid (p := ((n : Int) % 256) = (((UInt8.ofNat n).toNat : Nat) : Int)) (by rw [UInt8.toNat_ofNat']; omega)
    have HD := hid (p := ((n : Int) / 256) = ((n / 256 : Nat) : Int)) (by omega)
    have HK := hid (p := (((k + 1 : Nat) : Int) - 1) = (k : Int)) (by omega)
    go_enter Tryd.func104, Tryd.ntmps104
    go_wp2_with fail
    rw [HD.out]
    refine IH.out.mono ?_
    rintro e w1 ⟨v1, rfl, how1, hb1⟩
    have hR : Row (w1.alloc (.cells #[.int .u8 ((n : Int) % 256)] 5)) w1.heap.size [UInt8.ofNat n] := by rw [HB.out]; exact Row.one w1 _
    obtain ⟨v2, w2, hrun2, how2, hg2, _⟩ := append_bytes (w1.alloc (.cells #[.int .u8 ((n : Int) % 256)] 5)) w.heap.size v1 (be (n / 256) k) [UInt8.ofNat n] (some ⟨w1.heap.size, 0, none⟩) 1 1 (World.ownsRow.alloc how1 _) hR.rd0 rfl (fun h => by cases h) (by rw [be_length]; omega) (by have := hb1.size; simp; omega)
    have hb2 : Below w.heap.size w w2 := (hb1.alloc hb1.size _).grown hg2 (by have := hb1.size; simp; omega) (fun k hk => (World.ownsRow.lt how1 k hk).1)
    have HO := hid (p := OutO w (be n (k + 1)) (.returned v2) w2) ⟨v2, rfl, by rw [be_snoc]; exact how2, hb2⟩
    have HN2 := hid hrun2
    clear hrun2 how1 how2 hg2 hb1 hb2 hR
    go_wp2_with (at_builtin; refine step_append rfl (.tmp 11) (.tmp 15) rfl rfl _ _ rfl rfl v2 w2 HN2.out ?_)
    go_ret
    exact HO.out
end Go.Proofs.YtikmhnlhaolbfaaDoor
namespace Go.Proofs.YtikmhnlhaolbfaaDoor
open Go.RowKit
set_option linter.unusedVariables false

theorem row_none (n : Nat) (ki : Int) (w : World) (hn : n < 18446744073709551616) (hk : ki ≤ 0) (h1 : -9223372036854775808 ≤ ki) : Calls Tryd.prog 104 #[.int .u64 (n : Int), .int .i64 ki] w (OutO w []) := by
  have HO := hid (p := OutO w [] (.returned (.slice none 0 0)) w) ⟨_, rfl, Ow.nil _ _, Below.refl _ _⟩
  go_enter Tryd.func104, Tryd.ntmps104
  go_wp2
  go_ret
  exact HO.out

/-- at any count -/
theorem row_at (n K : Nat) (ki : Int) (w : World) (hn : n < 18446744073709551616) (hK : K = (max ki 0).toNat) (h8 : ki ≤ 8) (h1 : -9223372036854775808 ≤ ki) : Calls Tryd.prog 104 #[.int .u64 (n : Int), .int .i64 ki] w (OutO w (be n K)) := by
  rcases (show ki ≤ 0 ∨ 0 < ki from by omega) with h | h
  · obtain rfl : K = 0 := by omega
    exact row_none n ki w hn h h1
  · exact row_any K n ki w hn (by omega) (by omega)

theorem OutO.trans {w w1 w2 : World} {bs : List UInt8} {e : Ending} (h : OutO w1 bs e w2) (hb : Below w.heap.size w w1) : OutO w bs e w2 := by
  obtain ⟨v, rfl, how, hb2⟩ := h
  refine ⟨v, rfl, ?_, hb.trans (hb2.mono hb.size)⟩
  refine ⟨how.1, ?_⟩
  rcases how.2 with h | ⟨g, cap, cur, h1, h2, h3⟩
  · exact .inl h
  · exact .inr ⟨g, cap, cur, h1, Nat.le_trans hb.size h2, h3⟩

set_option maxRecDepth 100000 in
theorem rput_any (A : Option Addr) (c n K : Nat) (k : Int) (bs : List UInt8) (w : World) (hr : Rd w A bs) (hA : A = none → c = 0) (hn : bs.length ≤ 140737488351232) (hx : n < 18446744073709551616) (hK : K = (min (max k 0) 8).toNat) (h1 : -9223372036854775808 ≤ k) :
    Calls Tryd.prog 119 #[.slice A bs.length c, .int .u64 (n : Int), .int .i64 k] w (OutO w (bs ++ be n K)) := by
  have HK := hid hK
  clear hK
  rcases (show k ≤ 8 ∨ 8 < k from by omega) with h | h
  · go_enter Tryd.func119, Tryd.ntmps119
    go_wp2_with fail
    refine (row_at n K _ w hx (by have := HK.out; omega) (by omega) (by omega)).mono ?_
    rintro e w1 ⟨v1, rfl, how1, hb1⟩
    obtain ⟨B, d, rfl, hd1, hd2, hrB, hB0⟩ := how1.form
    rw [be_length] at hd1 ⊢
    have HR := hid (hr.below hb1 (Nat.le_refl _))
    have HRB := hid hrB
    clear how1 hrB
    have hK8 : K ≤ 8 := by have := HK.out; omega
    go_wp2_with fail
    refine (behind_any A B c d bs (be n K) bs.length K rfl (be_length _ _) w1 HR.out HRB.out hA hB0 (by omega)).mono ?_
    intro e w2 ho
    have HO := hid (ho.trans hb1)
    clear ho
    obtain ⟨v2, rfl, how2, hb2⟩ := HO.out
    clear how2 hb2
    go_wp2
    go_ret
    exact HO.out
  · go_enter Tryd.func119, Tryd.ntmps119
    go_wp2_with fail
    refine (row_at n K _ w hx (by have := HK.out; omega) (by omega) (by omega)).mono ?_
    rintro e w1 ⟨v1, rfl, how1, hb1⟩
    obtain ⟨B, d, rfl, hd1, hd2, hrB, hB0⟩ := how1.form
    rw [be_length] at hd1 ⊢
    have HR := hid (hr.below hb1 (Nat.le_refl _))
    have HRB := hid hrB
    clear how1 hrB
    have hK8 : K ≤ 8 := by have := HK.out; omega
    go_wp2_with fail
    refine (behind_any A B c d bs (be n K) bs.length K rfl (be_length _ _) w1 HR.out HRB.out hA hB0 (by omega)).mono ?_
    intro e w2 ho
    have HO := hid (ho.trans hb1)
    clear ho
    obtain ⟨v2, rfl, how2, hb2⟩ := HO.out
    clear how2 hb2
    go_wp2
    go_ret
    exact HO.out
set_option maxRecDepth 100000 in
theorem rputBytes_any (A B : Option Addr) (c d : Nat) (bs ls : List UInt8) (w : World) (hr : Rd w A bs) (hl : Rd w B ls) (hA : A = none → c = 0) (hB : B = none → d = 0) (hn : bs.length ≤ 35184372088832) (hm : ls.length ≤ 35184372088832) :
    Calls Tryd.prog 118 #[.slice A bs.length c, .slice B ls.length d] w (OutO w (bs ++ (be ls.length 4 ++ ls))) := by
  go_enter Tryd.func118, Tryd.ntmps118
  go_wp2_with fail
  refine (row_at ls.length 4 _ w (by omega) rfl (by omega) (by omega)).mono ?_
  rintro e w1 ⟨v1, rfl, how1, hb1⟩
  obtain ⟨B1, d1, rfl, hd1, hd2, hrB, hB0⟩ := how1.form
  rw [be_length] at hd1 ⊢
  have HR := hid (hr.below hb1 (Nat.le_refl _))
  have HL := hid (hl.below hb1 (Nat.le_refl _))
  have HRB := hid hrB
  clear how1 hrB
  go_wp2_with fail
  refine (behind_any B1 B d1 d (be ls.length 4) ls 4 ls.length (be_length _ _) rfl w1 HRB.out HL.out hB0 hB (by omega)).mono ?_
  rintro e w2 ⟨v2, rfl, how2, hb2⟩
  have hb12 := hb1.trans (hb2.mono hb1.size)
  obtain ⟨B2, d2, rfl, hd21, hd22, hrB2, hB20⟩ := how2.form
  rw [List.length_append, be_length] at hd21 ⊢
  have HR2 := hid (HR.out.below hb2 (Nat.le_refl _))
  have HRB2 := hid hrB2
  clear how2 hrB2
  go_wp2_with fail
  refine (behind_any A B2 c d2 bs (be ls.length 4 ++ ls) bs.length (4 + ls.length) rfl (by simp [be_length]) w2 HR2.out HRB2.out hA hB20 (by omega)).mono ?_
  intro e w3 ho
  have HO := hid (ho.trans hb12)
  clear ho
  obtain ⟨v3, rfl, how3, hb3⟩ := HO.out
  clear how3 hb3
  go_wp2
  go_ret
  exact HO.out
end Go.Proofs.YtikmhnlhaolbfaaDoor
namespace Go.Proofs.YtikmhnlhaolbfaaDoor
open Go.RowKit
set_option linter.unusedVariables false
set_option linter.unusedSimpArgs false

theorem rot_eq2 (x n : Nat) (hx : x < 4294967296) : bits .or .u32 ((x : Int) / ((2 ^ n : Nat) : Int)) (IntKind.u32.wrap ((x : Int) * ((2 ^ (32 - n) : Nat) : Int))) = ((rot x n : Nat) : Int) := by
  have e1 : IntKind.u32.wrap ((x : Int) * ((2 ^ (32 - n) : Nat) : Int)) = ((x * 2 ^ (32 - n) % 4294967296 : Nat) : Int) := by rw [IntKind.wrap_u32]; omega
  have e2 : (x : Int) / ((2 ^ n : Nat) : Int) = ((x / 2 ^ n : Nat) : Int) := by omega
  rw [e1, e2, u32_or_nat _ _ (dn_lt _ hx) (Nat.mod_lt _ (by decide)), rot]

theorem round_2 (x : Nat) (w : World) (hx : x < 4294967296) : Calls Tryd.prog 115 #[.int .u32 x, .int .u64 2] w fun e w' => e = .returned (.int .u32 (rot x 2 : Nat)) ∧ w = w' := by
  have hb : IntKind.u64.wrap (32 - 2) = 30 := by decide +kernel
  go_enter Tryd.func115, Tryd.ntmps115
  go_wp2
  go_ret
  exact ⟨by rw [← rot_eq2 x 2 hx]; rfl, rfl⟩
theorem round_6 (x : Nat) (w : World) (hx : x < 4294967296) : Calls Tryd.prog 115 #[.int .u32 x, .int .u64 6] w fun e w' => e = .returned (.int .u32 (rot x 6 : Nat)) ∧ w = w' := by
  have hb : IntKind.u64.wrap (32 - 6) = 26 := by decide +kernel
  go_enter Tryd.func115, Tryd.ntmps115
  go_wp2
  go_ret
  exact ⟨by rw [← rot_eq2 x 6 hx]; rfl, rfl⟩
theorem round_7 (x : Nat) (w : World) (hx : x < 4294967296) : Calls Tryd.prog 115 #[.int .u32 x, .int .u64 7] w fun e w' => e = .returned (.int .u32 (rot x 7 : Nat)) ∧ w = w' := by
  have hb : IntKind.u64.wrap (32 - 7) = 25 := by decide +kernel
  go_enter Tryd.func115, Tryd.ntmps115
  go_wp2
  go_ret
  exact ⟨by rw [← rot_eq2 x 7 hx]; rfl, rfl⟩
theorem round_11 (x : Nat) (w : World) (hx : x < 4294967296) : Calls Tryd.prog 115 #[.int .u32 x, .int .u64 11] w fun e w' => e = .returned (.int .u32 (rot x 11 : Nat)) ∧ w = w' := by
  have hb : IntKind.u64.wrap (32 - 11) = 21 := by decide +kernel
  go_enter Tryd.func115, Tryd.ntmps115
  go_wp2
  go_ret
  exact ⟨by rw [← rot_eq2 x 11 hx]; rfl, rfl⟩
theorem round_13 (x : Nat) (w : World) (hx : x < 4294967296) : Calls Tryd.prog 115 #[.int .u32 x, .int .u64 13] w fun e w' => e = .returned (.int .u32 (rot x 13 : Nat)) ∧ w = w' := by
  have hb : IntKind.u64.wrap (32 - 13) = 19 := by decide +kernel
  go_enter Tryd.func115, Tryd.ntmps115
  go_wp2
  go_ret
  exact ⟨by rw [← rot_eq2 x 13 hx]; rfl, rfl⟩
theorem round_17 (x : Nat) (w : World) (hx : x < 4294967296) : Calls Tryd.prog 115 #[.int .u32 x, .int .u64 17] w fun e w' => e = .returned (.int .u32 (rot x 17 : Nat)) ∧ w = w' := by
  have hb : IntKind.u64.wrap (32 - 17) = 15 := by decide +kernel
  go_enter Tryd.func115, Tryd.ntmps115
  go_wp2
  go_ret
  exact ⟨by rw [← rot_eq2 x 17 hx]; rfl, rfl⟩
theorem round_18 (x : Nat) (w : World) (hx : x < 4294967296) : Calls Tryd.prog 115 #[.int .u32 x, .int .u64 18] w fun e w' => e = .returned (.int .u32 (rot x 18 : Nat)) ∧ w = w' := by
  have hb : IntKind.u64.wrap (32 - 18) = 14 := by decide +kernel
  go_enter Tryd.func115, Tryd.ntmps115
  go_wp2
  go_ret
  exact ⟨by rw [← rot_eq2 x 18 hx]; rfl, rfl⟩
theorem round_19 (x : Nat) (w : World) (hx : x < 4294967296) : Calls Tryd.prog 115 #[.int .u32 x, .int .u64 19] w fun e w' => e = .returned (.int .u32 (rot x 19 : Nat)) ∧ w = w' := by
  have hb : IntKind.u64.wrap (32 - 19) = 13 := by decide +kernel
  go_enter Tryd.func115, Tryd.ntmps115
  go_wp2
  go_ret
  exact ⟨by rw [← rot_eq2 x 19 hx]; rfl, rfl⟩
theorem round_22 (x : Nat) (w : World) (hx : x < 4294967296) : Calls Tryd.prog 115 #[.int .u32 x, .int .u64 22] w fun e w' => e = .returned (.int .u32 (rot x 22 : Nat)) ∧ w = w' := by
  have hb : IntKind.u64.wrap (32 - 22) = 10 := by decide +kernel
  go_enter Tryd.func115, Tryd.ntmps115
  go_wp2
  go_ret
  exact ⟨by rw [← rot_eq2 x 22 hx]; rfl, rfl⟩
theorem round_25 (x : Nat) (w : World) (hx : x < 4294967296) : Calls Tryd.prog 115 #[.int .u32 x, .int .u64 25] w fun e w' => e = .returned (.int .u32 (rot x 25 : Nat)) ∧ w = w' := by
  have hb : IntKind.u64.wrap (32 - 25) = 7 := by decide +kernel
  go_enter Tryd.func115, Tryd.ntmps115
  go_wp2
  go_ret
  exact ⟨by rw [← rot_eq2 x 25 hx]; rfl, rfl⟩
set_option maxRecDepth 100000 in
/-- the table's slice -/
theorem table_any (w : World) : Calls Tryd.prog 80 #[] w fun e w' => e = .returned (.slice (some ⟨w.heap.size, 0, none⟩) 64 64) ∧ Hid (Us w' w.heap.size 32 kk) ∧ Below w.heap.size w w' := by
  go_enter Tryd.func80, Tryd.ntmps80
  go_wp2
  have h : Us (w.alloc (.cells (dv kk).toArray 32)) w.heap.size 32 kk := heap_alloc_new w _
  have hB : Below w.heap.size w (w.alloc (.cells (dv kk).toArray 32)) := (Below.refl _ _).alloc (Nat.le_refl _) _
  go_ret
  exact ⟨rfl, hid h, hB⟩
end Go.Proofs.YtikmhnlhaolbfaaDoor

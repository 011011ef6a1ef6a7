/-
  burrowref03.Word, word, walked. Conditions: none of its own.
  Long numbers as rows of bytes, carried beside boxes. Conditions: none of its own.
  burrowref03.Common, walked: the greatest that divides both. Conditions: none of its own.
-/
import Derived.Test.YtaggegknnnembaaPkA
import Derived.Test.YtaggegknnnembaaPkB
import Derived.Test.YtaggegknnnembaaOrd
import Derived.Test.YtaggegknnnembaaDv64
import Derived.Test.YtaggegknnnembaaHd
import Derived.Test.YtaggegknnnembaaDivNumber
import Derived.Test.YtaggegknnnembaaBox
import Derived.Deep.LoopGhost
namespace Go.Proofs.Ytaggegknnnembaa
open Go.RowKit
set_option linter.unusedVariables false

theorem rwd_one {p : Nat} (h : p < 18446744073709551616) : wd p 0 = p := by
  unfold wd; rw [Nat.pow_zero, Nat.div_one, Nat.mod_eq_of_lt h]
set_option maxRecDepth 100000 in
set_option maxHeartbeats 4000000 in
theorem rword_yes (a : Nat) (w : World) (ha : a < 2 ^ 256) (h : a < 18446744073709551616) : Calls Try.prog 48 #[num a] w fun e w' => e = .returned (.bool true) ∧ Below w.heap.size w w' := by
  have hw := wd_lt a 0
  have e : wd a 0 = a := rwd_one h
  have q1 := eq_yes a (wd a 0) e.symm
  have HW := hid hw
  clear hw ha h e
  have H0 := hid (((Env.refl w).new a).perm (l' := [(w.heap.size, a)]) (by simp))
  go_enter Try.func48, Try.ntmps48
  go_wp2_with fail
  generalize w.alloc (.cells (cls a) 24) = w0 at *
  generalize hzg_a : w.heap.size = g_a at *
  go_upto_region 1 with fail
  have hs := H0.out.drew
  refine wp_region_noPanic ?_
  refine Goes.region (fun (L : Array Bool) (w' : World) => w'.cell? ⟨g_a, 0, none⟩ = some (.int .u64 (wd (a) 0 : Int)) ∧ w'.cell? ⟨g_a, 1, none⟩ = some (.int .u64 (wd (a) 1 : Int)) ∧ w'.cell? ⟨g_a, 2, none⟩ = some (.int .u64 (wd (a) 2 : Int)) ∧ w'.cell? ⟨g_a, 3, none⟩ = some (.int .u64 (wd (a) 3 : Int))) (by kernel_rfl) ?_
  generalize w0.drew = wdr at *
  have hJJ := hid (And.intro (Env.cell hs g_a (a) (by simp)).1 (And.intro (Env.cell hs g_a (a) (by simp)).2.1 (And.intro (Env.cell hs g_a (a) (by simp)).2.2.1 (Env.cell hs g_a (a) (by simp)).2.2.2)))
  refine Goes.tk (i := 0) (o := ⟨some 3, _, _, _, _, _⟩) (v := ?_) [] (y := Or.inl ⟨by rfl, ?_⟩) (s := hJJ.out) (H := ?_)
  rotate_left
  · rintro w ⟨up, -, hX⟩; (try dsimp only at hX); obtain ⟨x0, x1, x2, x3⟩ := hX; go_simp; try with_reducible rfl
  try simp only [putz]
  refine Goes.tk (i := 1) (o := ⟨some 4, _, _, _, _, _⟩) (v := ?_) [] (y := Or.inl ⟨by rfl, ?_⟩) (s := hJJ.out) (H := ?_)
  rotate_left
  · rintro w ⟨up, -, hX⟩; (try dsimp only at hX); obtain ⟨x0, x1, x2, x3⟩ := hX; go_simp; try with_reducible rfl
  try simp only [putz]
  refine Goes.tk (i := 2) (o := ⟨some 5, _, _, _, _, _⟩) (v := ?_) [] (y := Or.inl ⟨by rfl, ?_⟩) (s := hJJ.out) (H := ?_)
  rotate_left
  · rintro w ⟨up, -, hX⟩; (try dsimp only at hX); obtain ⟨x0, x1, x2, x3⟩ := hX; go_simp; try with_reducible rfl
  try simp only [putz]
  clear hJJ
  refine Goes.one (i := 3) (o := ⟨some 6, _, _, _, _, _⟩) (by kernel_rfl) rfl (fun K hK => ?_)
  go_simp
  with_reducible refine (env_of (rof_any (wd a 0) _ HW.out) hs).mono ?_
  rintro e wn1 ⟨rfl, hs1⟩
  go_wp2_with fail
  refine hK.out _ _ (⟨(Env.cell hs1 g_a (a) (by simp)).1, (Env.cell hs1 g_a (a) (by simp)).2.1, (Env.cell hs1 g_a (a) (by simp)).2.2.1, (Env.cell hs1 g_a (a) (by simp)).2.2.2⟩) ?_
  clear hK K
  try simp only [putz]
  clear hs
  have hs := hs1
  clear hs1
  have hJJ := hid (And.intro (Env.cell hs g_a (a) (by simp)).1 (And.intro (Env.cell hs g_a (a) (by simp)).2.1 (And.intro (Env.cell hs g_a (a) (by simp)).2.2.1 (Env.cell hs g_a (a) (by simp)).2.2.2)))
  refine Goes.tk (i := 4) (o := ⟨some 7, _, _, _, _, _⟩) (v := ?_) [] (y := Or.inl ⟨by rfl, ?_⟩) (s := hJJ.out) (H := ?_)
  rotate_left
  · intro w hY; go_simp; try with_reducible rfl
  try simp only [putz]
  refine Goes.tk (i := 5) (o := ⟨some 2, _, _, _, _, _⟩) (v := ?_) [] (y := Or.inl ⟨by rfl, ?_⟩) (s := hJJ.out) (H := ?_)
  rotate_left
  · intro w hY; go_simp; try with_reducible rfl
  try simp only [putz]
  clear hJJ
  refine Goes.done (by kernel_rfl) ?_ _
  refine NoPanic.normal ?_
  go_wp2_with fail
  exact bodyPost_ret (v := .bool true) (by simp [results, Try.results48, go_sem]) rfl ⟨rfl, hs.1⟩
set_option maxRecDepth 100000 in
set_option maxHeartbeats 4000000 in
theorem rword_no (a : Nat) (w : World) (ha : a < 2 ^ 256) (h : 18446744073709551616 ≤ a) : Calls Try.prog 48 #[num a] w fun e w' => e = .returned (.bool false) ∧ Below w.heap.size w w' := by
  have hw := wd_lt a 0
  have q1 := eq_no a (wd a 0) ha (Nat.lt_trans hw (by decide)) (by omega)
  have HW := hid hw
  clear hw ha h
  have H0 := hid (((Env.refl w).new a).perm (l' := [(w.heap.size, a)]) (by simp))
  go_enter Try.func48, Try.ntmps48
  go_wp2_with fail
  generalize w.alloc (.cells (cls a) 24) = w0 at *
  generalize hzg_a : w.heap.size = g_a at *
  go_upto_region 1 with fail
  have hs := H0.out.drew
  refine wp_region_noPanic ?_
  refine Goes.region (fun (L : Array Bool) (w' : World) => w'.cell? ⟨g_a, 0, none⟩ = some (.int .u64 (wd (a) 0 : Int)) ∧ w'.cell? ⟨g_a, 1, none⟩ = some (.int .u64 (wd (a) 1 : Int)) ∧ w'.cell? ⟨g_a, 2, none⟩ = some (.int .u64 (wd (a) 2 : Int)) ∧ w'.cell? ⟨g_a, 3, none⟩ = some (.int .u64 (wd (a) 3 : Int))) (by kernel_rfl) ?_
  generalize w0.drew = wdr at *
  have hJJ := hid (And.intro (Env.cell hs g_a (a) (by simp)).1 (And.intro (Env.cell hs g_a (a) (by simp)).2.1 (And.intro (Env.cell hs g_a (a) (by simp)).2.2.1 (Env.cell hs g_a (a) (by simp)).2.2.2)))
  refine Goes.tk (i := 0) (o := ⟨some 3, _, _, _, _, _⟩) (v := ?_) [] (y := Or.inl ⟨by rfl, ?_⟩) (s := hJJ.out) (H := ?_)
  rotate_left
  · rintro w ⟨up, -, hX⟩; (try dsimp only at hX); obtain ⟨x0, x1, x2, x3⟩ := hX; go_simp; try with_reducible rfl
  try simp only [putz]
  refine Goes.tk (i := 1) (o := ⟨some 4, _, _, _, _, _⟩) (v := ?_) [] (y := Or.inl ⟨by rfl, ?_⟩) (s := hJJ.out) (H := ?_)
  rotate_left
  · rintro w ⟨up, -, hX⟩; (try dsimp only at hX); obtain ⟨x0, x1, x2, x3⟩ := hX; go_simp; try with_reducible rfl
  try simp only [putz]
  refine Goes.tk (i := 2) (o := ⟨some 5, _, _, _, _, _⟩) (v := ?_) [] (y := Or.inl ⟨by rfl, ?_⟩) (s := hJJ.out) (H := ?_)
  rotate_left
  · rintro w ⟨up, -, hX⟩; (try dsimp only at hX); obtain ⟨x0, x1, x2, x3⟩ := hX; go_simp; try with_reducible rfl
  try simp only [putz]
  clear hJJ
  refine Goes.one (i := 3) (o := ⟨some 6, _, _, _, _, _⟩) (by kernel_rfl) rfl (fun K hK => ?_)
  go_simp
  with_reducible refine (env_of (rof_any (wd a 0) _ HW.out) hs).mono ?_
  rintro e wn1 ⟨rfl, hs1⟩
  go_wp2_with fail
  refine hK.out _ _ (⟨(Env.cell hs1 g_a (a) (by simp)).1, (Env.cell hs1 g_a (a) (by simp)).2.1, (Env.cell hs1 g_a (a) (by simp)).2.2.1, (Env.cell hs1 g_a (a) (by simp)).2.2.2⟩) ?_
  clear hK K
  try simp only [putz]
  clear hs
  have hs := hs1
  clear hs1
  have hJJ := hid (And.intro (Env.cell hs g_a (a) (by simp)).1 (And.intro (Env.cell hs g_a (a) (by simp)).2.1 (And.intro (Env.cell hs g_a (a) (by simp)).2.2.1 (Env.cell hs g_a (a) (by simp)).2.2.2)))
  refine Goes.tk (i := 4) (o := ⟨some 7, _, _, _, _, _⟩) (v := ?_) [] (y := Or.inl ⟨by rfl, ?_⟩) (s := hJJ.out) (H := ?_)
  rotate_left
  · intro w hY; go_simp; try with_reducible rfl
  try simp only [putz]
  refine Goes.tk (i := 5) (o := ⟨some 2, _, _, _, _, _⟩) (v := ?_) [] (y := Or.inl ⟨by rfl, ?_⟩) (s := hJJ.out) (H := ?_)
  rotate_left
  · intro w hY; go_simp; try with_reducible rfl
  try simp only [putz]
  clear hJJ
  refine Goes.done (by kernel_rfl) ?_ _
  refine NoPanic.normal ?_
  go_wp2_with fail
  exact bodyPost_ret (v := .bool false) (by simp [results, Try.results48, go_sem]) rfl ⟨rfl, hs.1⟩
theorem rword_any (a : Nat) (v : Bool) (w : World) (ha : a < 2 ^ 256) (hv : decide (a < 18446744073709551616) = v) : Calls Try.prog 48 #[num a] w fun e w' => e = .returned (.bool v) ∧ Below w.heap.size w w' := by
  subst hv
  by_cases h : a < 18446744073709551616
  · rw [decide_eq_true h]; exact rword_yes a w ha h
  · rw [decide_eq_false h]; exact rword_no a w ha (by omega)
theorem rget_at (A : Option Addr) (c n K t : Nat) (bs : List UInt8) (w : World) (hl : bs.length = n) (hr : Rd w A bs) (hc : n ≤ c) (hc2 : c ≤ 9223372036854775807) (h8 : K ≤ 8) (hk : K ≤ n) (ht : tell (bs.take K) = t) :
    Calls Try.prog 98 #[.slice A n c, .int .i64 (K : Int)] w (Says2 w (t : Int) 0) := by
  subst hl; subst ht; exact rget_ok A c K bs w hr hc hc2 h8 hk
set_option maxRecDepth 100000 in
set_option maxHeartbeats 4000000 in
theorem rwords_any (A : Option Addr) (c K m R : Nat) (bs : List UInt8) (w : World) (hl : bs.length = 8 * K) (hr : Rd w A bs) (hA : A = none → c = 0) (hc : bs.length ≤ c) (hc2 : c ≤ 9223372036854775807) (hK : K ≤ 1000000) (hm0 : 0 < m) (hm : m < 18446744073709551616) (hR : tell bs % m = R) :
    Calls Try.prog 92 #[.slice A bs.length c, .int .u64 (m : Int)] w fun e w' => e = .returned (.int .u64 (R : Int)) ∧ Below w.heap.size w w' := by
  have HR := hid hr
  have HM := hid hm
  have H0 := hid hm0
  have HC := hid hc
  have HC2 := hid hc2
  have HL := hid hl
  have HA := hid hA
  have ER0 := hid hR
  have hn : bs.length ≤ 8000000 := by omega
  obtain ⟨n, en⟩ : ∃ n, bs.length = n := ⟨_, rfl⟩
  rw [en] at hn
  have EN := hid en
  clear hr hm hm0 hc hc2 hl hA hR
  rw [en]
  clear en
  go_enter Try.func92, Try.ntmps92
  go_wp2_with fail
  go_loopw [5, 6] (fun s5 s6 wr => ∃ j p r : Nat, Hid (p = 8 * j ∧ j ≤ K) ∧ s6 = .int .i64 (p : Int) ∧ s5 = .int .u64 (r : Int) ∧ Hid (r = tell (bs.take p) % m) ∧ Hid (Below w.heap.size w wr)) (fun _ s _ => n - (intOf s).toNat)
  case atStart => exact ⟨0, 0, 0, hid ⟨rfl, by omega⟩, rfl, rfl, hid (by simp [tell]), hid (Below.refl _ _)⟩
  case round =>
    obtain ⟨j, p, r, hj, rfl, rfl, P, H⟩ := hrel
    by_cases h : j = K
    · have hpn : p = n := by have := EN.out; have := HL.out; have := hj.out; omega
      have nlt : ¬ ((p : Int) < (n : Int)) := by omega
      have PE := hid (show r = R by rw [← ER0.out, P.out, hpn, ← EN.out, List.take_length])
      clear hpn h
      go_wp2
      exact bodyPost_ret (v := .int .u64 (r : Int)) (by simp [results, Try.results92, go_sem]) rfl ⟨by rw [PE.out], H.out⟩
    · have hlt : p + 8 ≤ n := by have := EN.out; have := HL.out; have := hj.out; omega
      have lt1 : (p : Int) < (n : Int) := by omega
      have i1 : p ≤ n := by omega
      have i2 : (p : Int) ≤ (n : Int) := by omega
      have i3 : (0 : Int) ≤ (p : Int) := by omega
      have i5 : IntKind.i64.wrap (p : Int) = (p : Int) := IntWalk.i64_in _ (by omega)
      have i4 : IntKind.i64.wrap ((p : Int) + 8) = ((p + 8 : Nat) : Int) := by rw [IntWalk.i64_in _ (by omega)]; omega
      have hlB : p < bs.length := by have := EN.out; omega
      obtain ⟨g, o, hAe, hg, hcell⟩ := HR.out (by omega)
      have hcut : Hid (Rd w (some ⟨g, o + p, none⟩) (bs.drop p)) := hid (HR.out.cut p _ (fun ad had _ => by rw [hAe] at had; injection had with had; subst had; rw [nadd_plain]))
      have hl8 : ((bs.drop p).take 8).length = 8 := by simp; have := EN.out; omega
      have HT := hid (show tell (bs.take (p + 8)) = tell (bs.take p) * 18446744073709551616 + tell ((bs.drop p).take 8) by
        have e : bs.take (p + 8) = bs.take p ++ (bs.drop p).take 8 := by rw [List.take_add]
        rw [e, tell_append, hl8])
      have RL := hid (show r < m by rw [P.out]; exact Nat.mod_lt _ H0.out)
      obtain ⟨t, et⟩ : ∃ t, tell ((bs.drop p).take 8) = t := ⟨_, rfl⟩
      have TL := hid (show t < 18446744073709551616 by
        have := tell_lt ((bs.drop p).take 8)
        rw [hl8, et] at this; exact this)
      obtain ⟨r', er⟩ : ∃ z, (r * 18446744073709551616 + t) % m = z := ⟨_, rfl⟩
      have ER := hid er
      have P2 := hid (show r' = tell (bs.take (p + 8)) % m by rw [HT.out, et, ← er, P.out, Nat.add_mod, Nat.mod_mul_mod, ← Nat.add_mod])
      have ET := hid et
      have HDL : Hid (((bs.drop p).length : Nat) = n - p) := hid (by simp; rw [EN.out])
      have HQ : Hid (p + 8 = 8 * (j + 1) ∧ j + 1 ≤ K) := hid (by have := hj.out; omega)
      have hcn : Hid (n ≤ c) := hid (by have := HC.out; rw [EN.out] at this; exact this)
      subst hAe
      have hcp : ¬ c = p := by have := hcn.out; omega
      have hcp2 : c - p ≤ 9223372036854775807 ∧ n - p ≤ c - p ∧ 8 ≤ n - p := by have := hcn.out; have := HC2.out; omega
      have HCP := hid hcp2
      clear er et hcell hl8 hlB h hcp2
      go_wp2_with fail
      refine (rget_at (some ⟨g, o + p, none⟩) (c - p) (n - p) 8 t (bs.drop p) wr HDL.out (hcut.out.below H.out (Nat.le_refl _)) HCP.out.2.1 HCP.out.1 (by omega) HCP.out.2.2 ET.out).mono ?_
      rintro e w1 ⟨rfl, q, rfl⟩
      have H1 := hid (below_drewN H.out q)
      go_wp2_with fail
      refine (div64_any r t m _ r' _ (Nat.lt_of_lt_of_le RL.out (Nat.le_refl _)) TL.out HM.out rfl ER.out).mono ?_
      rintro e w2 ⟨rfl, hb⟩
      have H2 := hid (H1.out.trans (hb.mono H1.out.size))
      go_wp2_with fail
      go_roundw
      case measure => simp [intOf]; omega
      case rel => exact ⟨j + 1, p + 8, r', HQ, rfl, rfl, P2, H2⟩
end Go.Proofs.Ytaggegknnnembaa
namespace Go.Proofs.Ytaggegknnnembaa
open Go.RowKit
set_option linter.unusedVariables false

theorem wnum_wd (x : Nat) (hx : x < 2 ^ 256) : wnum [wd x 0, wd x 1, wd x 2, wd x 3] = x := by
  simp only [wnum, wd]
  rw [show (2 : Nat) ^ 256 = 115792089237316195423570985008687907853269984665640564039457584007913129639936 by decide] at hx
  rw [show (18446744073709551616 : Nat) ^ 0 = 1 by decide, show (18446744073709551616 : Nat) ^ 1 = 18446744073709551616 by decide, show (18446744073709551616 : Nat) ^ 2 = 340282366920938463463374607431768211456 by decide, show (18446744073709551616 : Nat) ^ 3 = 6277101735386680763835789423207666416102355444464034512896 by decide]
  omega
/-- a slice that reads as these bytes, within the heap -/
def Sl (w : World) (A : Option Addr) (c : Nat) (bs : List UInt8) : Prop := Rd w A bs ∧ (A = none → c = 0) ∧ bs.length ≤ c ∧ c ≤ 9223372036854775807 ∧ ∀ ad, A = some ad → ad.block < w.heap.size
theorem Sl.on {w w' : World} {A : Option Addr} {c : Nat} {bs : List UInt8} (h : Sl w A c bs) (hb : Below w.heap.size w w') : Sl w' A c bs :=
  ⟨h.1.below hb (Nat.le_refl _), h.2.1, h.2.2.1, h.2.2.2.1, fun ad e => Nat.lt_of_lt_of_le (h.2.2.2.2 ad e) hb.size⟩
theorem Sl.of {w : World} {B : Nat} {v : Value} {bs : List UInt8} (h : Ow w B v bs) : ∃ A c, v = .slice A bs.length c ∧ Sl w A c bs ∧ ∀ ad, A = some ad → B ≤ ad.block := by
  obtain ⟨A, c, rfl, h1, h2, h3, h4⟩ := h.form
  refine ⟨A, c, rfl, ⟨h3, h4, h1, h2, ?_⟩, ?_⟩
  · intro ad e
    subst e
    rcases h.2 with ⟨e, _⟩ | ⟨g, cap, cur, e, hb, hh, _⟩
    · cases e
    · injection e with e1; injection e1 with e1; subst e1; exact lt_of_block hh
  · intro ad e
    subst e
    rcases h.2 with ⟨e, _⟩ | ⟨g, cap, cur, e, hb, hh, _⟩
    · cases e
    · injection e with e1; injection e1 with e1; subst e1; exact hb
theorem Rd.setOther {w : World} {A : Option Addr} {bs : List UInt8} {g i : Nat} (h : Rd w A bs) (hn : ∀ ad, A = some ad → ad.block ≠ g) (u : Value) : Rd (w.setCell ⟨g, i, none⟩ u) A bs := by
  intro hp
  obtain ⟨gg, o, rfl, hg, hc⟩ := h hp
  refine ⟨gg, o, rfl, by simpa [World.setCell] using hg, fun j hj => ?_⟩
  have hne : (⟨gg, o + j, none⟩ : Addr) ≠ ⟨g, i, none⟩ := by intro e; injection e with e1; exact hn _ rfl e1
  rw [World.cell?_setCell_other (h := Ne.symm hne)]
  exact hc j hj
theorem Sl.fil {w : World} {A : Option Addr} {c : Nat} {bs : List UInt8} {g : Nat} (h : Sl w A c bs) (hn : ∀ ad, A = some ad → ad.block ≠ g) (x : Nat) : Sl (fil w g x) A c bs := by
  refine ⟨(((h.1.setOther hn _).setOther hn _).setOther hn _).setOther hn _, h.2.1, h.2.2.1, h.2.2.2.1, fun ad e => ?_⟩
  have := h.2.2.2.2 ad e
  simpa [World.setCell] using this
/-- boxes, and a slice beside them -/
def Ek (w : World) (l : List (Nat × Nat)) (A : Option Addr) (c : Nat) (bs : List UInt8) (w' : World) : Prop := Env w l w' ∧ Sl w' A c bs ∧ ∀ p ∈ l, ∀ ad, A = some ad → ad.block ≠ p.1
section
variable {w w' w2 : World} {l : List (Nat × Nat)} {A : Option Addr} {c : Nat} {bs : List UInt8}
theorem Ek.on (h : Ek w l A c bs w') (hb : Below w'.heap.size w' w2) : Ek w l A c bs w2 := ⟨h.1.on hb, h.2.1.on hb, h.2.2⟩
theorem Ek.drew (h : Ek w l A c bs w') : Ek w l A c bs w'.drew := ⟨h.1.drew, h.2.1.on (Below.refl _ _).drew, h.2.2⟩
theorem Ek.cell (h : Ek w l A c bs w') (g x : Nat) (hm : (g, x) ∈ l) : w'.cell? ⟨g, 0, none⟩ = some (.int .u64 (wd x 0 : Int)) ∧ w'.cell? ⟨g, 1, none⟩ = some (.int .u64 (wd x 1 : Int)) ∧ w'.cell? ⟨g, 2, none⟩ = some (.int .u64 (wd x 2 : Int)) ∧ w'.cell? ⟨g, 3, none⟩ = some (.int .u64 (wd x 3 : Int)) := h.1.cell g x hm
theorem Ek.lt (h : Ek w l A c bs w') (g x : Nat) (hm : (g, x) ∈ l) : g < w'.heap.size := h.1.lt g x hm
theorem Ek.frozen (h : Ek w l A c bs w') (g x : Nat) (hm : (g, x) ∈ l) (i : Nat) : w'.frozen? ⟨g, i, none⟩ = false := h.1.frozen g x hm i
theorem Ek.fresh (h : Ek w l A c bs w') : Fsh w l w'.heap.size := h.1.fresh
theorem Ek.perm {l' : List (Nat × Nat)} (h : Ek w l A c bs w') (hs : ∀ p ∈ l', p ∈ l) : Ek w l' A c bs w' := ⟨h.1.perm hs, h.2.1, fun p hp => h.2.2 p (hs p hp)⟩
theorem Ek.zero (h : Ek w l A c bs w') : Ek w ((w'.heap.size, 0) :: l) A c bs (w'.alloc (.cells #[.int .u64 0, .int .u64 0, .int .u64 0, .int .u64 0] 24)) :=
  ⟨h.1.zero, h.2.1.on (bal (Below.refl _ _) _), fun p hp ad e => by
    rcases List.mem_cons.1 hp with rfl | hp
    · exact Nat.ne_of_lt (h.2.1.2.2.2.2 ad e)
    · exact h.2.2 p hp ad e⟩
theorem Ek.set (h : Ek w l A c bs w') (g x y : Nat) (l' : List (Nat × Nat)) (hm : (g, x) ∈ l) (hg : w.heap.size ≤ g) (hl : ∀ p ∈ l', p ∈ l ∧ p.1 ≠ g) : Ek w ((g, y) :: l') A c bs (fil w' g y) :=
  ⟨h.1.set g x y l' hm hg hl, h.2.1.fil (fun ad e => h.2.2 (g, x) hm ad e) y, fun p hp ad e => by
    rcases List.mem_cons.1 hp with rfl | hp
    · exact h.2.2 (g, x) hm ad e
    · exact h.2.2 p (hl p hp).1 ad e⟩
theorem Ek.of {B : Nat} {v : Value} (h : Env w l w') (hb : Below w'.heap.size w' w2) (ho : Ow w2 B v bs) (hB : w'.heap.size ≤ B) : ∃ A c, v = .slice A bs.length c ∧ Ek w l A c bs w2 := by
  obtain ⟨A, c, e, hs, hA⟩ := Sl.of ho
  exact ⟨A, c, e, h.on hb, hs, fun p hp ad e => Nat.ne_of_gt (Nat.lt_of_lt_of_le (h.lt p.1 p.2 hp) (Nat.le_trans hB (hA ad e)))⟩
theorem ek_of {f : FuncId} {args : Array Value} {v : Value} (hc : Calls Try.prog f args w' fun e w2 => e = .returned v ∧ Below w'.heap.size w' w2) (h : Ek w l A c bs w') : Calls Try.prog f args w' fun e w2 => e = .returned v ∧ Ek w l A c bs w2 :=
  hc.mono fun e w2 ⟨he, hb⟩ => ⟨he, h.on hb⟩
/-- a long number as bytes -/
theorem put_k (x : Nat) (hx : x < 2 ^ 256) (h : Env w l w') : Calls Try.prog 77 #[.slice none 0 0, num x] w' fun e w2 => ∃ A c, e = .returned (.slice A 32 c) ∧ Ek w l A c (be x 32) w2 := by
  refine (rputLong_any none 0 (wd x 0) (wd x 1) (wd x 2) (wd x 3) [] w' (Rd.nil _ _) (fun _ => rfl) (by simp) (wd_lt x 0) (wd_lt x 1) (wd_lt x 2) (wd_lt x 3)).mono ?_
  rintro e w2 ⟨v, rfl, ho, hb⟩
  rw [wnum_wd x hx, List.nil_append] at ho
  obtain ⟨A, c, rfl, hk⟩ := Ek.of h hb ho (Nat.le_refl _)
  rw [be_length]
  exact ⟨A, c, rfl, hk⟩
/-- one behind others -/
theorem put_then (y n n2 : Nat) (hl : bs.length = n) (hn : n ≤ 1000000) (hn2 : n + 32 = n2) (hy : y < 2 ^ 256) (h : Ek w l A c bs w') : Calls Try.prog 77 #[.slice A n c, num y] w' fun e w2 => ∃ A2 c2, e = .returned (.slice A2 n2 c2) ∧ Ek w l A2 c2 (bs ++ be y 32) w2 := by
  subst hl
  refine (rputLong_any A c (wd y 0) (wd y 1) (wd y 2) (wd y 3) bs w' h.2.1.1 h.2.1.2.1 (by omega) (wd_lt y 0) (wd_lt y 1) (wd_lt y 2) (wd_lt y 3)).mono ?_
  rintro e w2 ⟨v, rfl, ho, hb⟩
  rw [wnum_wd y hy] at ho
  obtain ⟨A, c, rfl, hk⟩ := Ek.of h.1 hb ho (Nat.le_refl _)
  rw [List.length_append, be_length, hn2]
  exact ⟨A, c, rfl, hk⟩
theorem words_k (n K m R : Nat) (hl : bs.length = n) (hK : n = 8 * K) (hK2 : K ≤ 1000000) (hm0 : 0 < m) (hm : m < 18446744073709551616) (hR : tell bs % m = R) (h : Ek w l A c bs w') :
    Calls Try.prog 92 #[.slice A n c, .int .u64 (m : Int)] w' fun e w2 => e = .returned (.int .u64 (R : Int)) ∧ Ek w l A c bs w2 := by
  subst hl
  exact ek_of (rwords_any A c K m R bs w' hK h.2.1.1 h.2.1.2.1 h.2.1.2.2.1 h.2.1.2.2.2.1 hK2 hm0 hm hR) h
theorem be_word (q j k : Nat) : tell (((be q (j + 8 + k)).drop j).take 8) = q / 256 ^ k % 18446744073709551616 := by
  have e1 : be q (j + 8 + k) = be (q / 256 ^ (8 + k)) j ++ (be (q / 256 ^ k) 8 ++ be q k) := by
    rw [Nat.add_assoc, be_add, be_add q 8 k]
  rw [e1, List.drop_left' (be_length _ _), List.take_left' (be_length _ _), tell_be]
theorem getlong_k (q : Nat) (hq : q < 2 ^ 256) (h : Ek w l A c (be q 32) w') : Calls Try.prog 78 #[.slice A 32 c] w' fun e w2 => e = .returned (.tuple #[num q, .int .i64 0]) ∧ Env w l w2 := by
  have hg := rgetLong_ok A c (be q 32) w' h.2.1.1 h.2.1.2.2.1 h.2.1.2.2.2.1 (by rw [be_length]; omega)
  rw [be_length] at hg
  refine hg.mono ?_
  rintro e w2 ⟨rfl, hb⟩
  refine ⟨?_, h.1.on hb⟩
  have w0 : word (be q 32) 0 = wd q 3 := by have := be_word q 0 24; unfold word wd; rw [show (8 * 0 : Nat) = 0 from rfl]; rw [show (0 + 8 + 24 : Nat) = 32 from rfl] at this; rw [this, show (256 : Nat) ^ 24 = 18446744073709551616 ^ 3 by decide]
  have w1 : word (be q 32) 1 = wd q 2 := by have := be_word q 8 16; unfold word wd; rw [show (8 * 1 : Nat) = 8 from rfl]; rw [show (8 + 8 + 16 : Nat) = 32 from rfl] at this; rw [this, show (256 : Nat) ^ 16 = 18446744073709551616 ^ 2 by decide]
  have w2' : word (be q 32) 2 = wd q 1 := by have := be_word q 16 8; unfold word wd; rw [show (8 * 2 : Nat) = 16 from rfl]; rw [show (16 + 8 + 8 : Nat) = 32 from rfl] at this; rw [this, show (256 : Nat) ^ 8 = 18446744073709551616 ^ 1 by decide]
  have w3 : word (be q 32) 3 = wd q 0 := by have := be_word q 24 0; unfold word wd; rw [show (8 * 3 : Nat) = 24 from rfl]; rw [show (24 + 8 + 0 : Nat) = 32 from rfl] at this; rw [this, show (256 : Nat) ^ 0 = 18446744073709551616 ^ 0 by decide]
  rw [w0, w1, w2', w3]
theorem ek_env (h : Ek w l A c bs w') : Env w l w' := h.1
end
end Go.Proofs.Ytaggegknnnembaa
namespace Go.Proofs.Ytaggegknnnembaa
open Go.RowKit
set_option linter.unusedVariables false

/-- a number, and its lowest bit -/
theorem rbit0_b (x : Nat) (b : Int) (w : World) (hx : x < 2 ^ 256) (hb : ((x % 2 : Nat) : Int) = b) : Calls Try.prog 52 #[num x, .int .i64 0] w fun e w' => e = .returned (.int .u64 b) ∧ Below w.heap.size w w' := by
  subst hb
  have h := rbit_any x 0 w hx
  have e : bi x 0 = x % 2 := by
    unfold bi bitAt
    simp
  rwa [e] at h
theorem rhalf_b (x y : Nat) (w : World) (hx : x < 2 ^ 256) (hy : x / 2 = y) : Calls Try.prog 75 #[num x, .int .i64 (-1)] w fun e w' => e = .returned (num y) ∧ Below w.heap.size w w' := by
  subst hy
  have h := rshift_any x (-1) w hx
  have e : shf x (-1) = x / 2 := by unfold shf; simp
  rwa [e] at h
theorem rups_b (x y : Nat) (t : Nat) (w : World) (hx : x < 2 ^ 256) (hy : x * 2 ^ t = y) (hyl : y < 2 ^ 256) : Calls Try.prog 75 #[num x, .int .i64 (t : Int)] w fun e w' => e = .returned (num y) ∧ Below w.heap.size w w' := by
  have h := rshift_any x (t : Int) w hx
  have e : shf x (t : Int) = y := by
    unfold shf
    rw [if_pos (by omega), Int.toNat_natCast, hy, Nat.mod_eq_of_lt hyl]
  rwa [e] at h
theorem rsub_c (x y d : Nat) (k : Int) (w : World) (hx : x < 2 ^ 256) (hy : y < 2 ^ 256) (hs : dif x y = d) (hk : ((lent x y : Nat) : Int) = k) : Calls Try.prog 46 #[num x, num y] w fun e w2 => e = .returned (.tuple #[num d, .int .u64 k]) ∧ Below w.heap.size w w2 := by
  subst hs; subst hk; exact r2sub_any x y w hx hy
theorem rcmp_c (x y : Nat) (c : Int) (w : World) (hx : x < 2 ^ 256) (hy : y < 2 ^ 256) (hc : cmpN x y = c) : Calls Try.prog 36 #[num x, num y] w fun e w2 => e = .returned (.int .i64 c) ∧ Below w.heap.size w w2 := by
  subst hc; exact rcmp_any x y w hx hy
/-- one round, by numbers: what is left, and how many twos came out -/
def Cm (a b x y t : Nat) : Prop := x ≠ 0 ∧ x < 2 ^ 256 ∧ y < 2 ^ 256 ∧ Nat.gcd x y * 2 ^ t = Nat.gcd a b ∧ t < 256
theorem Cm.both {a b x y t : Nat} (h : Cm a b x y t) (hl : Nat.gcd a b < 2 ^ 256) (hy : y ≠ 0) (h1 : x % 2 = 0) (h2 : y % 2 = 0) : Cm a b (x / 2) (y / 2) (t + 1) ∧ x / 2 + y / 2 < x + y := by
  obtain ⟨h0, hx, hy2, hg, ht⟩ := h
  have e1 : x = 2 * (x / 2) := by omega
  have e2 : y = 2 * (y / 2) := by omega
  have hg2 : Nat.gcd x y = 2 * Nat.gcd (x / 2) (y / 2) := by
    have := gcd_twice (x / 2) (y / 2)
    rwa [← e1, ← e2] at this
  have hgg : Nat.gcd (x / 2) (y / 2) * 2 ^ (t + 1) = Nat.gcd a b := by rw [← hg, hg2, Nat.pow_succ, Nat.mul_comm (2 ^ t) 2, ← Nat.mul_assoc, Nat.mul_comm _ 2]
  have hp : 0 < Nat.gcd (x / 2) (y / 2) := Nat.gcd_pos_of_pos_left _ (by omega)
  refine ⟨⟨by omega, by omega, by omega, hgg, ?_⟩, by omega⟩
  have h3 : 2 ^ (t + 1) ≤ Nat.gcd (x / 2) (y / 2) * 2 ^ (t + 1) := Nat.le_mul_of_pos_left _ hp
  exact (Nat.pow_lt_pow_iff_right (a := 2) (by decide)).1 (Nat.lt_of_le_of_lt (by rw [← hgg]; exact h3) hl)
theorem Cm.one {a b x y t : Nat} (h : Cm a b x y t) (h1 : x % 2 = 0) (h2 : y % 2 = 1) : Cm a b (x / 2) y t ∧ x / 2 + y < x + y := by
  obtain ⟨h0, hx, hy2, hg, ht⟩ := h
  have e1 : x = 2 * (x / 2) := by omega
  have hg2 : Nat.gcd x y = Nat.gcd (x / 2) y := by
    have := gcd_odd (a := x / 2) h2
    rwa [← e1] at this
  exact ⟨⟨by omega, by omega, hy2, by rw [← hg2]; exact hg, ht⟩, by omega⟩
theorem Cm.two {a b x y t : Nat} (h : Cm a b x y t) (hy : y ≠ 0) (h1 : x % 2 = 1) (h2 : y % 2 = 0) : Cm a b x (y / 2) t ∧ x + y / 2 < x + y := by
  obtain ⟨h0, hx, hy2, hg, ht⟩ := h
  have e1 : y = 2 * (y / 2) := by omega
  have hg2 : Nat.gcd x y = Nat.gcd x (y / 2) := by
    have := gcd_odd' (b := y / 2) h1
    rwa [← e1] at this
  exact ⟨⟨h0, hx, by omega, by rw [← hg2]; exact hg, ht⟩, by omega⟩
theorem Cm.more {a b x y t : Nat} (h : Cm a b x y t) (hy : y ≠ 0) (h1 : y < x) : Cm a b (x - y) y t ∧ x - y + y < x + y := by
  obtain ⟨h0, hx, hy2, hg, ht⟩ := h
  exact ⟨⟨by omega, by omega, hy2, by rw [gcd_less (by omega)]; exact hg, ht⟩, by omega⟩
theorem Cm.less {a b x y t : Nat} (h : Cm a b x y t) (h1 : x ≤ y) : Cm a b x (y - x) t ∧ x + (y - x) < x + y := by
  obtain ⟨h0, hx, hy2, hg, ht⟩ := h
  exact ⟨⟨h0, hx, by omega, by rw [gcd_less' h1]; exact hg, ht⟩, by omega⟩
set_option maxRecDepth 100000 in
set_option maxHeartbeats 4000000 in
theorem rcommon_left (b : Nat) (w : World) (hb : b < 2 ^ 256) : Calls Try.prog 53 #[num 0, num b] w fun e w' => e = .returned (num b) ∧ Below w.heap.size w w' := by
  have q0 := eq_yes 0 0 rfl
  clear hb
  obtain ⟨a, ea⟩ : ∃ a, a = 0 := ⟨0, rfl⟩
  rw [← ea]
  have q1 := eq_yes a 0 ea
  clear ea q0
  have H0 := hid ((((((Env.refl w).new a).new b).zero).zero).perm (l' := [(w.heap.size, a), (w.heap.size + 1, b), (w.heap.size + 1 + 1, 0), (w.heap.size + 1 + 1 + 1, 0)]) (by simp))
  have D := hid (show w.heap.size ≠ w.heap.size + 1 ∧ w.heap.size ≠ w.heap.size + 1 + 1 ∧ w.heap.size ≠ w.heap.size + 1 + 1 + 1 ∧ w.heap.size + 1 ≠ w.heap.size + 1 + 1 ∧ w.heap.size + 1 ≠ w.heap.size + 1 + 1 + 1 ∧ w.heap.size + 1 + 1 ≠ w.heap.size + 1 + 1 + 1 ∧ w.heap.size ≤ w.heap.size + 1 ∧ w.heap.size ≤ w.heap.size + 1 + 1 ∧ w.heap.size ≤ w.heap.size by omega)
  go_enter Try.func53, Try.ntmps53
  go_upto_region 2 with fail
  generalize (((w.alloc (.cells (cls a) 24)).alloc (.cells (cls b) 24)).alloc (.cells #[.int .u64 0, .int .u64 0, .int .u64 0, .int .u64 0] 24)).alloc (.cells #[.int .u64 0, .int .u64 0, .int .u64 0, .int .u64 0] 24) = w0 at *
  generalize w.heap.size + 1 + 1 + 1 = g5 at *
  generalize w.heap.size + 1 + 1 = g4 at *
  generalize w.heap.size + 1 = g3 at *
  generalize eg2 : w.heap.size = g2 at *
  obtain ⟨c0x0a, c0x0b, c0x0c, c0x0d⟩ := H0.out.cell (g2) (a) (by simp)
  have c0x0l := H0.out.lt (g2) (a) (by simp)
  have c0x0m := Nat.le_of_lt c0x0l
  obtain ⟨c6x0a, c6x0b, c6x0c, c6x0d⟩ := H0.out.cell (g5) (0) (by simp)
  have c6x0l := H0.out.lt (g5) (0) (by simp)
  have c6x0m := Nat.le_of_lt c6x0l
  obtain ⟨c12x0a, c12x0b, c12x0c, c12x0d⟩ := H0.out.cell (g3) (b) (by simp)
  have c12x0l := H0.out.lt (g3) (b) (by simp)
  have c12x0m := Nat.le_of_lt c12x0l
  obtain ⟨c18x0a, c18x0b, c18x0c, c18x0d⟩ := H0.out.cell (g4) (0) (by simp)
  have c18x0l := H0.out.lt (g4) (0) (by simp)
  have c18x0m := Nat.le_of_lt c18x0l
  have f24x0 := H0.out.frozen g4 0 (by simp)
  have HZ := hid (H0.out.set g4 0 (b) [] (by simp) (by obtain ⟨d1, d2, d3, d4, d5, d6, d7, d8, d9⟩ := D.out; omega) (by simp))
  go_wp2
  clear c0x0a c0x0b c0x0c c0x0d c0x0l c0x0m c6x0a c6x0b c6x0c c6x0d c6x0l c6x0m c12x0a c12x0b c12x0c c12x0d c12x0l c12x0m c18x0a c18x0b c18x0c c18x0d c18x0l c18x0m f24x0
  try rw [Exit.noGoto_ret]
  change bodyPost _ _ _ _ _ (fil w0 g4 (b))
  generalize fil w0 g4 (b) = wz at *
  obtain ⟨k0, k1, k2, k3⟩ := HZ.out.cell g4 (b) (by simp)
  exact bodyPost_ret (v := num (b)) (by simp [results, Try.results53, go_sem, k0, k1, k2, k3]) rfl ⟨rfl, HZ.out.1⟩
set_option maxRecDepth 100000 in
set_option maxHeartbeats 6400000 in
theorem rcommon_some (a b : Nat) (w : World) (ha : a < 2 ^ 256) (hb : b < 2 ^ 256) (ha0 : a ≠ 0) : Calls Try.prog 53 #[num a, num b] w fun e w' => e = .returned (num (Nat.gcd a b)) ∧ Below w.heap.size w w' := by
  have qa := eq_no a 0 ha (by decide) ha0
  have HGL := hid (show Nat.gcd a b < 2 ^ 256 from Nat.lt_of_le_of_lt (Nat.le_of_dvd (Nat.pos_of_ne_zero ha0) (Nat.gcd_dvd_left a b)) ha)
  have HC := hid (show Cm a b a b 0 from ⟨ha0, ha, hb, by rw [Nat.pow_zero, Nat.mul_one], by omega⟩)
  have q00 := eq_yes 0 0 rfl
  obtain ⟨G, eG⟩ : ∃ z, Nat.gcd a b = z := ⟨_, rfl⟩
  rw [eG]
  have EG := hid eG
  have GL := hid (show G < 2 ^ 256 by rw [← eG]; exact HGL.out)
  clear eG
  clear ha hb ha0
  have H0 := hid ((((((Env.refl w).new a).new b).zero).zero).perm (l' := [(w.heap.size, a), (w.heap.size + 1, b), (w.heap.size + 1 + 1, 0), (w.heap.size + 1 + 1 + 1, 0)]) (by simp))
  have D := hid (show w.heap.size ≠ w.heap.size + 1 ∧ w.heap.size ≠ w.heap.size + 1 + 1 ∧ w.heap.size ≠ w.heap.size + 1 + 1 + 1 ∧ w.heap.size + 1 ≠ w.heap.size + 1 + 1 ∧ w.heap.size + 1 ≠ w.heap.size + 1 + 1 + 1 ∧ w.heap.size + 1 + 1 ≠ w.heap.size + 1 + 1 + 1 ∧ w.heap.size ≤ w.heap.size + 1 ∧ w.heap.size ≤ w.heap.size + 1 + 1 ∧ w.heap.size ≤ w.heap.size by omega)
  go_enter Try.func53, Try.ntmps53
  go_upto_region 2 with fail
  generalize (((w.alloc (.cells (cls a) 24)).alloc (.cells (cls b) 24)).alloc (.cells #[.int .u64 0, .int .u64 0, .int .u64 0, .int .u64 0] 24)).alloc (.cells #[.int .u64 0, .int .u64 0, .int .u64 0, .int .u64 0] 24) = w0 at *
  generalize w.heap.size + 1 + 1 + 1 = g5 at *
  generalize w.heap.size + 1 + 1 = g4 at *
  generalize w.heap.size + 1 = g3 at *
  generalize eg2 : w.heap.size = g2 at *
  obtain ⟨c0x0a, c0x0b, c0x0c, c0x0d⟩ := H0.out.cell (g2) (a) (by simp)
  have c0x0l := H0.out.lt (g2) (a) (by simp)
  have c0x0m := Nat.le_of_lt c0x0l
  obtain ⟨c6x0a, c6x0b, c6x0c, c6x0d⟩ := H0.out.cell (g5) (0) (by simp)
  have c6x0l := H0.out.lt (g5) (0) (by simp)
  have c6x0m := Nat.le_of_lt c6x0l
  go_wp2
  clear c0x0a c0x0b c0x0c c0x0d c0x0l c0x0m c6x0a c6x0b c6x0c c6x0d c6x0l c6x0m
  go_loopg [6] (a + b) (fun n s6 wr => ∃ x y t : Nat, x + y = n ∧ s6 = .int .i64 (t : Int) ∧ Hid (Cm a b x y t) ∧ Hid (Env w [(g2, x), (g3, y), (g4, 0), (g5, 0)] wr))
  case atStart => exact ⟨a, b, 0, rfl, rfl, HC, hid (H0.out.perm (by simp))⟩
  case round =>
    obtain ⟨x, y, t, hn, rfl, PX, H⟩ := hrel
    clear H0 HC qa
    have hx0 : x ≠ 0 := PX.out.1
    have qx := eq_no x 0 PX.out.2.1 (by decide) hx0
    have XL := hid PX.out.2.1
    have YL := hid PX.out.2.2.1
    by_cases hy : y = 0
    · subst hy
      have E := hid (show x * 2 ^ t = G by have := PX.out.2.2.2.1; rw [Nat.gcd_zero_right] at this; rw [this]; exact EG.out)
      clear hn hx0
      obtain ⟨c0x0a, c0x0b, c0x0c, c0x0d⟩ := H.out.cell (g3) (0) (by simp)
      have c0x0l := H.out.lt (g3) (0) (by simp)
      have c0x0m := Nat.le_of_lt c0x0l
      obtain ⟨c6x0a, c6x0b, c6x0c, c6x0d⟩ := H.out.cell (g5) (0) (by simp)
      have c6x0l := H.out.lt (g5) (0) (by simp)
      have c6x0m := Nat.le_of_lt c6x0l
      obtain ⟨c12x0a, c12x0b, c12x0c, c12x0d⟩ := H.out.cell (g2) (x) (by simp)
      have c12x0l := H.out.lt (g2) (x) (by simp)
      have c12x0m := Nat.le_of_lt c12x0l
      go_wp2_with fail
      clear c0x0a c0x0b c0x0c c0x0d c0x0l c0x0m c6x0a c6x0b c6x0c c6x0d c6x0l c6x0m c12x0a c12x0b c12x0c c12x0d c12x0l c12x0m
      refine (env_of (rups_b x G t _ XL.out E.out GL.out) H.out).mono ?_
      rintro e w1 ⟨rfl, h⟩
      have H1 := hid h
      clear h H
      obtain ⟨c0x1a, c0x1b, c0x1c, c0x1d⟩ := H1.out.cell (g4) (0) (by simp)
      have c0x1l := H1.out.lt (g4) (0) (by simp)
      have c0x1m := Nat.le_of_lt c0x1l
      have f6x1 := H1.out.frozen g4 0 (by simp)
      have HZ := hid (H1.out.set g4 0 (G) [] (by simp) (by obtain ⟨d1, d2, d3, d4, d5, d6, d7, d8, d9⟩ := D.out; omega) (by simp))
      go_wp2
      clear c0x1a c0x1b c0x1c c0x1d c0x1l c0x1m f6x1
      try rw [Exit.noGoto_ret]
      change bodyPost _ _ _ _ _ (fil w1 g4 (G))
      generalize fil w1 g4 (G) = wz at *
      obtain ⟨k0, k1, k2, k3⟩ := HZ.out.cell g4 (G) (by simp)
      exact bodyPost_ret (v := num (G)) (by simp [results, Try.results53, go_sem, k0, k1, k2, k3]) rfl ⟨rfl, HZ.out.1⟩
    · have qy := eq_no y 0 YL.out (by decide) hy
      rcases Nat.mod_two_eq_zero_or_one x with hx2 | hx2
      · have BX : Hid (((x % 2 : Nat) : Int) = 0) := hid (by rw [hx2]; rfl)
        rcases Nat.mod_two_eq_zero_or_one y with hy2 | hy2
        · have BY : Hid (((y % 2 : Nat) : Int) = 0) := hid (by rw [hy2]; rfl)
          have PN := PX.out.both HGL.out hy hx2 hy2
          have PN := hid PN
          obtain ⟨x2, ex2⟩ : ∃ z, x / 2 = z := ⟨_, rfl⟩
          obtain ⟨y2, ey2⟩ : ∃ z, y / 2 = z := ⟨_, rfl⟩
          rw [ex2, ey2] at PN
          have EX := hid ex2
          have EY := hid ey2
          have qx2 := eq_no x2 0 PN.out.1.2.1 (by decide) PN.out.1.1
          have tw : IntKind.i64.wrap ((t : Int) + 1) = ((t + 1 : Nat) : Int) := by rw [IntWalk.i64_in _ (by have := PX.out.2.2.2.2; omega)]; omega
          clear ex2 ey2 hx2 hy2 hx0 hy
          obtain ⟨c0x0a, c0x0b, c0x0c, c0x0d⟩ := H.out.cell (g3) (y) (by simp)
          have c0x0l := H.out.lt (g3) (y) (by simp)
          have c0x0m := Nat.le_of_lt c0x0l
          obtain ⟨c6x0a, c6x0b, c6x0c, c6x0d⟩ := H.out.cell (g5) (0) (by simp)
          have c6x0l := H.out.lt (g5) (0) (by simp)
          have c6x0m := Nat.le_of_lt c6x0l
          obtain ⟨c12x0a, c12x0b, c12x0c, c12x0d⟩ := H.out.cell (g2) (x) (by simp)
          have c12x0l := H.out.lt (g2) (x) (by simp)
          have c12x0m := Nat.le_of_lt c12x0l
          go_wp2_with fail
          clear c0x0a c0x0b c0x0c c0x0d c0x0l c0x0m c6x0a c6x0b c6x0c c6x0d c6x0l c6x0m c12x0a c12x0b c12x0c c12x0d c12x0l c12x0m
          refine (env_of (rbit0_b x 0 _ XL.out BX.out) H.out).mono ?_
          rintro e w1 ⟨rfl, h⟩
          have H1 := hid h
          clear h H
          obtain ⟨c0x1a, c0x1b, c0x1c, c0x1d⟩ := H1.out.cell (g3) (y) (by simp)
          have c0x1l := H1.out.lt (g3) (y) (by simp)
          have c0x1m := Nat.le_of_lt c0x1l
          go_wp2_with fail
          clear c0x1a c0x1b c0x1c c0x1d c0x1l c0x1m
          refine (env_of (rbit0_b y 0 _ YL.out BY.out) H1.out).mono ?_
          rintro e w2 ⟨rfl, h⟩
          have H2 := hid h
          clear h H1
          obtain ⟨c0x2a, c0x2b, c0x2c, c0x2d⟩ := H2.out.cell (g2) (x) (by simp)
          have c0x2l := H2.out.lt (g2) (x) (by simp)
          have c0x2m := Nat.le_of_lt c0x2l
          go_wp2_with fail
          clear c0x2a c0x2b c0x2c c0x2d c0x2l c0x2m
          refine (env_of (rhalf_b x x2 _ XL.out EX.out) H2.out).mono ?_
          rintro e w3 ⟨rfl, h⟩
          have H3 := hid h
          clear h H2
          obtain ⟨c0x3a, c0x3b, c0x3c, c0x3d⟩ := H3.out.cell (g2) (x) (by simp)
          have c0x3l := H3.out.lt (g2) (x) (by simp)
          have c0x3m := Nat.le_of_lt c0x3l
          have f6x3 := H3.out.frozen g2 (x) (by simp)
          have HS3 := hid (H3.out.set g2 (x) (x2) [(g3, y), (g4, 0), (g5, 0)] (by simp) (by obtain ⟨d1, d2, d3, d4, d5, d6, d7, d8, d9⟩ := D.out; omega) (by obtain ⟨d1, d2, d3, d4, d5, d6, d7, d8, d9⟩ := D.out; simp; omega))
          go_upto_region 12 with fail
          clear c0x3a c0x3b c0x3c c0x3d c0x3l c0x3m f6x3
          clear H3
          change Code.wp _ _ _ _ (fil w3 g2 (x2))
          generalize fil w3 g2 (x2) = ws3 at *
          obtain ⟨c0x3a, c0x3b, c0x3c, c0x3d⟩ := HS3.out.cell (g3) (y) (by simp)
          have c0x3l := HS3.out.lt (g3) (y) (by simp)
          have c0x3m := Nat.le_of_lt c0x3l
          go_wp2_with fail
          clear c0x3a c0x3b c0x3c c0x3d c0x3l c0x3m
          refine (env_of (rhalf_b y y2 _ YL.out EY.out) HS3.out).mono ?_
          rintro e w4 ⟨rfl, h⟩
          have H4 := hid h
          clear h HS3
          obtain ⟨c0x4a, c0x4b, c0x4c, c0x4d⟩ := H4.out.cell (g3) (y) (by simp)
          have c0x4l := H4.out.lt (g3) (y) (by simp)
          have c0x4m := Nat.le_of_lt c0x4l
          have f6x4 := H4.out.frozen g3 (y) (by simp)
          have HS4 := hid (H4.out.set g3 (y) (y2) [(g2, x2), (g4, 0), (g5, 0)] (by simp) (by obtain ⟨d1, d2, d3, d4, d5, d6, d7, d8, d9⟩ := D.out; omega) (by obtain ⟨d1, d2, d3, d4, d5, d6, d7, d8, d9⟩ := D.out; simp; omega))
          go_upto_region 19 with fail
          clear c0x4a c0x4b c0x4c c0x4d c0x4l c0x4m f6x4
          clear H4
          change Code.wp _ _ _ _ (fil w4 g3 (y2))
          generalize fil w4 g3 (y2) = ws4 at *
          obtain ⟨c0x4a, c0x4b, c0x4c, c0x4d⟩ := HS4.out.cell (g2) (x2) (by simp)
          have c0x4l := HS4.out.lt (g2) (x2) (by simp)
          have c0x4m := Nat.le_of_lt c0x4l
          obtain ⟨c6x4a, c6x4b, c6x4c, c6x4d⟩ := HS4.out.cell (g5) (0) (by simp)
          have c6x4l := HS4.out.lt (g5) (0) (by simp)
          have c6x4m := Nat.le_of_lt c6x4l
          go_wp2_with fail
          clear c0x4a c0x4b c0x4c c0x4d c0x4l c0x4m c6x4a c6x4b c6x4c c6x4d c6x4l c6x4m
          go_roundg (x2 + y2)
          case measure => have := PN.out.2; omega
          case rel => exact ⟨x2, y2, t + 1, rfl, by first | rfl | simp, hid PN.out.1, hid (HS4.out.perm (by simp))⟩
        · have BY : Hid (((y % 2 : Nat) : Int) = 1) := hid (by rw [hy2]; rfl)
          have PN := PX.out.one hx2 hy2
          have PN := hid PN
          obtain ⟨x2, ex2⟩ : ∃ z, x / 2 = z := ⟨_, rfl⟩
          rw [ex2] at PN
          have EX := hid ex2
          have qx2 := eq_no x2 0 PN.out.1.2.1 (by decide) PN.out.1.1
          clear ex2 hx2 hy2 hx0 hy
          obtain ⟨c0x0a, c0x0b, c0x0c, c0x0d⟩ := H.out.cell (g3) (y) (by simp)
          have c0x0l := H.out.lt (g3) (y) (by simp)
          have c0x0m := Nat.le_of_lt c0x0l
          obtain ⟨c6x0a, c6x0b, c6x0c, c6x0d⟩ := H.out.cell (g5) (0) (by simp)
          have c6x0l := H.out.lt (g5) (0) (by simp)
          have c6x0m := Nat.le_of_lt c6x0l
          obtain ⟨c12x0a, c12x0b, c12x0c, c12x0d⟩ := H.out.cell (g2) (x) (by simp)
          have c12x0l := H.out.lt (g2) (x) (by simp)
          have c12x0m := Nat.le_of_lt c12x0l
          go_wp2_with fail
          clear c0x0a c0x0b c0x0c c0x0d c0x0l c0x0m c6x0a c6x0b c6x0c c6x0d c6x0l c6x0m c12x0a c12x0b c12x0c c12x0d c12x0l c12x0m
          refine (env_of (rbit0_b x 0 _ XL.out BX.out) H.out).mono ?_
          rintro e w1 ⟨rfl, h⟩
          have H1 := hid h
          clear h H
          obtain ⟨c0x1a, c0x1b, c0x1c, c0x1d⟩ := H1.out.cell (g3) (y) (by simp)
          have c0x1l := H1.out.lt (g3) (y) (by simp)
          have c0x1m := Nat.le_of_lt c0x1l
          go_wp2_with fail
          clear c0x1a c0x1b c0x1c c0x1d c0x1l c0x1m
          refine (env_of (rbit0_b y 1 _ YL.out BY.out) H1.out).mono ?_
          rintro e w2 ⟨rfl, h⟩
          have H2 := hid h
          clear h H1
          obtain ⟨c0x2a, c0x2b, c0x2c, c0x2d⟩ := H2.out.cell (g2) (x) (by simp)
          have c0x2l := H2.out.lt (g2) (x) (by simp)
          have c0x2m := Nat.le_of_lt c0x2l
          go_wp2_with fail
          clear c0x2a c0x2b c0x2c c0x2d c0x2l c0x2m
          refine (env_of (rhalf_b x x2 _ XL.out EX.out) H2.out).mono ?_
          rintro e w3 ⟨rfl, h⟩
          have H3 := hid h
          clear h H2
          obtain ⟨c0x3a, c0x3b, c0x3c, c0x3d⟩ := H3.out.cell (g2) (x) (by simp)
          have c0x3l := H3.out.lt (g2) (x) (by simp)
          have c0x3m := Nat.le_of_lt c0x3l
          have f6x3 := H3.out.frozen g2 (x) (by simp)
          have HS3 := hid (H3.out.set g2 (x) (x2) [(g3, y), (g4, 0), (g5, 0)] (by simp) (by obtain ⟨d1, d2, d3, d4, d5, d6, d7, d8, d9⟩ := D.out; omega) (by obtain ⟨d1, d2, d3, d4, d5, d6, d7, d8, d9⟩ := D.out; simp; omega))
          go_upto_region 19 with fail
          clear c0x3a c0x3b c0x3c c0x3d c0x3l c0x3m f6x3
          clear H3
          change Code.wp _ _ _ _ (fil w3 g2 (x2))
          generalize fil w3 g2 (x2) = ws3 at *
          obtain ⟨c0x3a, c0x3b, c0x3c, c0x3d⟩ := HS3.out.cell (g2) (x2) (by simp)
          have c0x3l := HS3.out.lt (g2) (x2) (by simp)
          have c0x3m := Nat.le_of_lt c0x3l
          obtain ⟨c6x3a, c6x3b, c6x3c, c6x3d⟩ := HS3.out.cell (g5) (0) (by simp)
          have c6x3l := HS3.out.lt (g5) (0) (by simp)
          have c6x3m := Nat.le_of_lt c6x3l
          go_wp2_with fail
          clear c0x3a c0x3b c0x3c c0x3d c0x3l c0x3m c6x3a c6x3b c6x3c c6x3d c6x3l c6x3m
          go_roundg (x2 + y)
          case measure => have := PN.out.2; omega
          case rel => exact ⟨x2, y, t, rfl, by first | rfl | simp, hid PN.out.1, hid (HS3.out.perm (by simp))⟩
      · have BX : Hid (((x % 2 : Nat) : Int) = 1) := hid (by rw [hx2]; rfl)
        rcases Nat.mod_two_eq_zero_or_one y with hy2 | hy2
        · have BY : Hid (((y % 2 : Nat) : Int) = 0) := hid (by rw [hy2]; rfl)
          have PN := PX.out.two hy hx2 hy2
          have PN := hid PN
          obtain ⟨y2, ey2⟩ : ∃ z, y / 2 = z := ⟨_, rfl⟩
          rw [ey2] at PN
          have EY := hid ey2
          clear ey2 hx2 hy2 hx0 hy
          obtain ⟨c0x0a, c0x0b, c0x0c, c0x0d⟩ := H.out.cell (g3) (y) (by simp)
          have c0x0l := H.out.lt (g3) (y) (by simp)
          have c0x0m := Nat.le_of_lt c0x0l
          obtain ⟨c6x0a, c6x0b, c6x0c, c6x0d⟩ := H.out.cell (g5) (0) (by simp)
          have c6x0l := H.out.lt (g5) (0) (by simp)
          have c6x0m := Nat.le_of_lt c6x0l
          obtain ⟨c12x0a, c12x0b, c12x0c, c12x0d⟩ := H.out.cell (g2) (x) (by simp)
          have c12x0l := H.out.lt (g2) (x) (by simp)
          have c12x0m := Nat.le_of_lt c12x0l
          go_wp2_with fail
          clear c0x0a c0x0b c0x0c c0x0d c0x0l c0x0m c6x0a c6x0b c6x0c c6x0d c6x0l c6x0m c12x0a c12x0b c12x0c c12x0d c12x0l c12x0m
          refine (env_of (rbit0_b x 1 _ XL.out BX.out) H.out).mono ?_
          rintro e w1 ⟨rfl, h⟩
          have H1 := hid h
          clear h H
          obtain ⟨c0x1a, c0x1b, c0x1c, c0x1d⟩ := H1.out.cell (g3) (y) (by simp)
          have c0x1l := H1.out.lt (g3) (y) (by simp)
          have c0x1m := Nat.le_of_lt c0x1l
          go_wp2_with fail
          clear c0x1a c0x1b c0x1c c0x1d c0x1l c0x1m
          refine (env_of (rbit0_b y 0 _ YL.out BY.out) H1.out).mono ?_
          rintro e w2 ⟨rfl, h⟩
          have H2 := hid h
          clear h H1
          obtain ⟨c0x2a, c0x2b, c0x2c, c0x2d⟩ := H2.out.cell (g3) (y) (by simp)
          have c0x2l := H2.out.lt (g3) (y) (by simp)
          have c0x2m := Nat.le_of_lt c0x2l
          go_wp2_with fail
          clear c0x2a c0x2b c0x2c c0x2d c0x2l c0x2m
          refine (env_of (rhalf_b y y2 _ YL.out EY.out) H2.out).mono ?_
          rintro e w3 ⟨rfl, h⟩
          have H3 := hid h
          clear h H2
          obtain ⟨c0x3a, c0x3b, c0x3c, c0x3d⟩ := H3.out.cell (g3) (y) (by simp)
          have c0x3l := H3.out.lt (g3) (y) (by simp)
          have c0x3m := Nat.le_of_lt c0x3l
          have f6x3 := H3.out.frozen g3 (y) (by simp)
          have HS3 := hid (H3.out.set g3 (y) (y2) [(g2, x), (g4, 0), (g5, 0)] (by simp) (by obtain ⟨d1, d2, d3, d4, d5, d6, d7, d8, d9⟩ := D.out; omega) (by obtain ⟨d1, d2, d3, d4, d5, d6, d7, d8, d9⟩ := D.out; simp; omega))
          go_upto_region 19 with fail
          clear c0x3a c0x3b c0x3c c0x3d c0x3l c0x3m f6x3
          clear H3
          change Code.wp _ _ _ _ (fil w3 g3 (y2))
          generalize fil w3 g3 (y2) = ws3 at *
          obtain ⟨c0x3a, c0x3b, c0x3c, c0x3d⟩ := HS3.out.cell (g2) (x) (by simp)
          have c0x3l := HS3.out.lt (g2) (x) (by simp)
          have c0x3m := Nat.le_of_lt c0x3l
          obtain ⟨c6x3a, c6x3b, c6x3c, c6x3d⟩ := HS3.out.cell (g5) (0) (by simp)
          have c6x3l := HS3.out.lt (g5) (0) (by simp)
          have c6x3m := Nat.le_of_lt c6x3l
          go_wp2_with fail
          clear c0x3a c0x3b c0x3c c0x3d c0x3l c0x3m c6x3a c6x3b c6x3c c6x3d c6x3l c6x3m
          go_roundg (x + y2)
          case measure => have := PN.out.2; omega
          case rel => exact ⟨x, y2, t, rfl, by first | rfl | simp, hid PN.out.1, hid (HS3.out.perm (by simp))⟩
        · have BY : Hid (((y % 2 : Nat) : Int) = 1) := hid (by rw [hy2]; rfl)
          by_cases hlt : y < x
          · have PN := PX.out.more hy hlt
            have PN := hid PN
            obtain ⟨c, ec⟩ : ∃ c, cmpN x y = c := ⟨_, rfl⟩
            have c1 : 0 < c := by rw [← ec]; unfold cmpN; split <;> (try split) <;> omega
            obtain ⟨d, ed⟩ : ∃ d, x - y = d := ⟨_, rfl⟩
            rw [ed] at PN
            have ed2 : dif x y = d := by unfold dif; rw [if_neg (by omega), ed]
            have ln : ((lent x y : Nat) : Int) = 0 := by unfold lent; rw [if_neg (by omega)]; rfl
            have EC := hid ec
            have ED := hid ed2
            have LN := hid ln
            have qd := eq_no d 0 PN.out.1.2.1 (by decide) PN.out.1.1
            clear ec ed ed2 ln hlt hx2 hy2 hx0 hy
            obtain ⟨c0x0a, c0x0b, c0x0c, c0x0d⟩ := H.out.cell (g3) (y) (by simp)
            have c0x0l := H.out.lt (g3) (y) (by simp)
            have c0x0m := Nat.le_of_lt c0x0l
            obtain ⟨c6x0a, c6x0b, c6x0c, c6x0d⟩ := H.out.cell (g5) (0) (by simp)
            have c6x0l := H.out.lt (g5) (0) (by simp)
            have c6x0m := Nat.le_of_lt c6x0l
            obtain ⟨c12x0a, c12x0b, c12x0c, c12x0d⟩ := H.out.cell (g2) (x) (by simp)
            have c12x0l := H.out.lt (g2) (x) (by simp)
            have c12x0m := Nat.le_of_lt c12x0l
            go_wp2_with fail
            clear c0x0a c0x0b c0x0c c0x0d c0x0l c0x0m c6x0a c6x0b c6x0c c6x0d c6x0l c6x0m c12x0a c12x0b c12x0c c12x0d c12x0l c12x0m
            refine (env_of (rbit0_b x 1 _ XL.out BX.out) H.out).mono ?_
            rintro e w1 ⟨rfl, h⟩
            have H1 := hid h
            clear h H
            obtain ⟨c0x1a, c0x1b, c0x1c, c0x1d⟩ := H1.out.cell (g3) (y) (by simp)
            have c0x1l := H1.out.lt (g3) (y) (by simp)
            have c0x1m := Nat.le_of_lt c0x1l
            go_wp2_with fail
            clear c0x1a c0x1b c0x1c c0x1d c0x1l c0x1m
            refine (env_of (rbit0_b y 1 _ YL.out BY.out) H1.out).mono ?_
            rintro e w2 ⟨rfl, h⟩
            have H2 := hid h
            clear h H1
            obtain ⟨c0x2a, c0x2b, c0x2c, c0x2d⟩ := H2.out.cell (g2) (x) (by simp)
            have c0x2l := H2.out.lt (g2) (x) (by simp)
            have c0x2m := Nat.le_of_lt c0x2l
            obtain ⟨c6x2a, c6x2b, c6x2c, c6x2d⟩ := H2.out.cell (g3) (y) (by simp)
            have c6x2l := H2.out.lt (g3) (y) (by simp)
            have c6x2m := Nat.le_of_lt c6x2l
            go_wp2_with fail
            clear c0x2a c0x2b c0x2c c0x2d c0x2l c0x2m c6x2a c6x2b c6x2c c6x2d c6x2l c6x2m
            refine (env_of (rcmp_c x y c _ XL.out YL.out EC.out) H2.out).mono ?_
            rintro e w3 ⟨rfl, h⟩
            have H3 := hid h
            clear h H2
            obtain ⟨c0x3a, c0x3b, c0x3c, c0x3d⟩ := H3.out.cell (g2) (x) (by simp)
            have c0x3l := H3.out.lt (g2) (x) (by simp)
            have c0x3m := Nat.le_of_lt c0x3l
            obtain ⟨c6x3a, c6x3b, c6x3c, c6x3d⟩ := H3.out.cell (g3) (y) (by simp)
            have c6x3l := H3.out.lt (g3) (y) (by simp)
            have c6x3m := Nat.le_of_lt c6x3l
            go_wp2_with fail
            clear c0x3a c0x3b c0x3c c0x3d c0x3l c0x3m c6x3a c6x3b c6x3c c6x3d c6x3l c6x3m
            refine (env_of (rsub_c x y d 0 _ XL.out YL.out ED.out LN.out) H3.out).mono ?_
            rintro e w4 ⟨rfl, h⟩
            have H4 := hid h
            clear h H3
            obtain ⟨c0x4a, c0x4b, c0x4c, c0x4d⟩ := H4.out.cell (g2) (x) (by simp)
            have c0x4l := H4.out.lt (g2) (x) (by simp)
            have c0x4m := Nat.le_of_lt c0x4l
            have f6x4 := H4.out.frozen g2 (x) (by simp)
            have HS4 := hid (H4.out.set g2 (x) (d) [(g3, y), (g4, 0), (g5, 0)] (by simp) (by obtain ⟨d1, d2, d3, d4, d5, d6, d7, d8, d9⟩ := D.out; omega) (by obtain ⟨d1, d2, d3, d4, d5, d6, d7, d8, d9⟩ := D.out; simp; omega))
            go_upto_region 19 with fail
            clear c0x4a c0x4b c0x4c c0x4d c0x4l c0x4m f6x4
            clear H4
            change Code.wp _ _ _ _ (fil w4 g2 (d))
            generalize fil w4 g2 (d) = ws4 at *
            obtain ⟨c0x4a, c0x4b, c0x4c, c0x4d⟩ := HS4.out.cell (g2) (d) (by simp)
            have c0x4l := HS4.out.lt (g2) (d) (by simp)
            have c0x4m := Nat.le_of_lt c0x4l
            obtain ⟨c6x4a, c6x4b, c6x4c, c6x4d⟩ := HS4.out.cell (g5) (0) (by simp)
            have c6x4l := HS4.out.lt (g5) (0) (by simp)
            have c6x4m := Nat.le_of_lt c6x4l
            go_wp2_with fail
            clear c0x4a c0x4b c0x4c c0x4d c0x4l c0x4m c6x4a c6x4b c6x4c c6x4d c6x4l c6x4m
            go_roundg (d + y)
            case measure => have := PN.out.2; omega
            case rel => exact ⟨d, y, t, rfl, by first | rfl | simp, hid PN.out.1, hid (HS4.out.perm (by simp))⟩
          · have PN := PX.out.less (by omega)
            have PN := hid PN
            obtain ⟨c, ec⟩ : ∃ c, cmpN x y = c := ⟨_, rfl⟩
            have c1 : ¬ 0 < c := by rw [← ec]; unfold cmpN; split <;> (try split) <;> omega
            obtain ⟨d, ed⟩ : ∃ d, y - x = d := ⟨_, rfl⟩
            rw [ed] at PN
            have ed2 : dif y x = d := by unfold dif; rw [if_neg (by omega), ed]
            have ln : ((lent y x : Nat) : Int) = 0 := by unfold lent; rw [if_neg (by omega)]; rfl
            have EC := hid ec
            have ED := hid ed2
            have LN := hid ln
            clear ec ed ed2 ln hlt hx2 hy2 hx0 hy
            obtain ⟨c0x0a, c0x0b, c0x0c, c0x0d⟩ := H.out.cell (g3) (y) (by simp)
            have c0x0l := H.out.lt (g3) (y) (by simp)
            have c0x0m := Nat.le_of_lt c0x0l
            obtain ⟨c6x0a, c6x0b, c6x0c, c6x0d⟩ := H.out.cell (g5) (0) (by simp)
            have c6x0l := H.out.lt (g5) (0) (by simp)
            have c6x0m := Nat.le_of_lt c6x0l
            obtain ⟨c12x0a, c12x0b, c12x0c, c12x0d⟩ := H.out.cell (g2) (x) (by simp)
            have c12x0l := H.out.lt (g2) (x) (by simp)
            have c12x0m := Nat.le_of_lt c12x0l
            go_wp2_with fail
            clear c0x0a c0x0b c0x0c c0x0d c0x0l c0x0m c6x0a c6x0b c6x0c c6x0d c6x0l c6x0m c12x0a c12x0b c12x0c c12x0d c12x0l c12x0m
            refine (env_of (rbit0_b x 1 _ XL.out BX.out) H.out).mono ?_
            rintro e w1 ⟨rfl, h⟩
            have H1 := hid h
            clear h H
            obtain ⟨c0x1a, c0x1b, c0x1c, c0x1d⟩ := H1.out.cell (g3) (y) (by simp)
            have c0x1l := H1.out.lt (g3) (y) (by simp)
            have c0x1m := Nat.le_of_lt c0x1l
            go_wp2_with fail
            clear c0x1a c0x1b c0x1c c0x1d c0x1l c0x1m
            refine (env_of (rbit0_b y 1 _ YL.out BY.out) H1.out).mono ?_
            rintro e w2 ⟨rfl, h⟩
            have H2 := hid h
            clear h H1
            obtain ⟨c0x2a, c0x2b, c0x2c, c0x2d⟩ := H2.out.cell (g2) (x) (by simp)
            have c0x2l := H2.out.lt (g2) (x) (by simp)
            have c0x2m := Nat.le_of_lt c0x2l
            obtain ⟨c6x2a, c6x2b, c6x2c, c6x2d⟩ := H2.out.cell (g3) (y) (by simp)
            have c6x2l := H2.out.lt (g3) (y) (by simp)
            have c6x2m := Nat.le_of_lt c6x2l
            go_wp2_with fail
            clear c0x2a c0x2b c0x2c c0x2d c0x2l c0x2m c6x2a c6x2b c6x2c c6x2d c6x2l c6x2m
            refine (env_of (rcmp_c x y c _ XL.out YL.out EC.out) H2.out).mono ?_
            rintro e w3 ⟨rfl, h⟩
            have H3 := hid h
            clear h H2
            obtain ⟨c0x3a, c0x3b, c0x3c, c0x3d⟩ := H3.out.cell (g2) (x) (by simp)
            have c0x3l := H3.out.lt (g2) (x) (by simp)
            have c0x3m := Nat.le_of_lt c0x3l
            obtain ⟨c6x3a, c6x3b, c6x3c, c6x3d⟩ := H3.out.cell (g3) (y) (by simp)
            have c6x3l := H3.out.lt (g3) (y) (by simp)
            have c6x3m := Nat.le_of_lt c6x3l
            go_wp2_with fail
            clear c0x3a c0x3b c0x3c c0x3d c0x3l c0x3m c6x3a c6x3b c6x3c c6x3d c6x3l c6x3m
            refine (env_of (rsub_c y x d 0 _ YL.out XL.out ED.out LN.out) H3.out).mono ?_
            rintro e w4 ⟨rfl, h⟩
            have H4 := hid h
            clear h H3
            obtain ⟨c0x4a, c0x4b, c0x4c, c0x4d⟩ := H4.out.cell (g3) (y) (by simp)
            have c0x4l := H4.out.lt (g3) (y) (by simp)
            have c0x4m := Nat.le_of_lt c0x4l
            have f6x4 := H4.out.frozen g3 (y) (by simp)
            have HS4 := hid (H4.out.set g3 (y) (d) [(g2, x), (g4, 0), (g5, 0)] (by simp) (by obtain ⟨d1, d2, d3, d4, d5, d6, d7, d8, d9⟩ := D.out; omega) (by obtain ⟨d1, d2, d3, d4, d5, d6, d7, d8, d9⟩ := D.out; simp; omega))
            go_upto_region 19 with fail
            clear c0x4a c0x4b c0x4c c0x4d c0x4l c0x4m f6x4
            clear H4
            change Code.wp _ _ _ _ (fil w4 g3 (d))
            generalize fil w4 g3 (d) = ws4 at *
            obtain ⟨c0x4a, c0x4b, c0x4c, c0x4d⟩ := HS4.out.cell (g2) (x) (by simp)
            have c0x4l := HS4.out.lt (g2) (x) (by simp)
            have c0x4m := Nat.le_of_lt c0x4l
            obtain ⟨c6x4a, c6x4b, c6x4c, c6x4d⟩ := HS4.out.cell (g5) (0) (by simp)
            have c6x4l := HS4.out.lt (g5) (0) (by simp)
            have c6x4m := Nat.le_of_lt c6x4l
            go_wp2_with fail
            clear c0x4a c0x4b c0x4c c0x4d c0x4l c0x4m c6x4a c6x4b c6x4c c6x4d c6x4l c6x4m
            go_roundg (x + d)
            case measure => have := PN.out.2; omega
            case rel => exact ⟨x, d, t, rfl, by first | rfl | simp, hid PN.out.1, hid (HS4.out.perm (by simp))⟩
theorem rcommon_any (a b G : Nat) (w : World) (ha : a < 2 ^ 256) (hb : b < 2 ^ 256) (hG : Nat.gcd a b = G) : Calls Try.prog 53 #[num a, num b] w fun e w' => e = .returned (num G) ∧ Below w.heap.size w w' := by
  subst hG
  by_cases h : a = 0
  · subst h; rw [Nat.gcd_zero_left]; exact rcommon_left b w hb
  · exact rcommon_some a b w ha hb h
end Go.Proofs.Ytaggegknnnembaa

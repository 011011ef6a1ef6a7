/-
  burrowref03.Word, word, walked. Conditions: none of its lown.
  Long numbers as rows of bytes, carried beside boxes. Conditions: none of its lown.
-/
import Derived.Test.YtcijnoapjicliaaDoorRefGet
import Derived.Test.YtcijnoapjicliaaDoorPkT
import Derived.Test.YtcijnoapjicliaaDoorPkO
import Derived.Test.YtcijnoapjicliaaDoorPkC
import Derived.Test.YtcijnoapjicliaaDoorDv64
namespace Go.Proofs.YtcijnoapjicliaaDoor
open Go.RowKit
set_option linter.unusedVariables false

theorem rwd_one {p : Nat} (h : p < 18446744073709551616) : wd p 0 = p := by
  unfold wd; rw [Nat.pow_zero, Nat.div_one, Nat.mod_eq_of_lt h]
set_option maxRecDepth 100000 in
set_option maxHeartbeats 4000000 in
theorem rword_yes (a : Nat) (w : World) (ha : a < 2 ^ 256) (h : a < 18446744073709551616) : Calls Tryd.prog 56 #[num a] w fun e w' => e = .returned (.bool true) ∧ Below w.heap.size w w' := by
  have hw := wd_lt a 0
  have e : wd a 0 = a := rwd_one h
  have q1 := eq_yes a (wd a 0) e.symm
  have HW := hid hw
  clear hw ha h e
  have H0 := hid (((Env.refl w).new a).perm (l' := [(w.heap.size, a)]) (by simp))
  go_enter Tryd.func56, Tryd.ntmps56
  go_wp2_with fail
  generalize w.alloc (.cells (cls a) 26) = w0 at *
  generalize hzg_a : w.heap.size = g_a at *
  go_upto_region 1 with fail
  have hs := H0.out.drew
  refine wp_region_noPanic ?_
  refine Goes.region (fun (L : Array Bool) (w' : World) => w'.cell? ⟨g_a, 0, none⟩ = some (.int .u64 (wd (a) 0 : Int)) ∧ w'.cell? ⟨g_a, 1, none⟩ = some (.int .u64 (wd (a) 1 : Int)) ∧ w'.cell? ⟨g_a, 2, none⟩ = some (.int .u64 (wd (a) 2 : Int)) ∧ w'.cell? ⟨g_a, 3, none⟩ = some (.int .u64 (wd (a) 3 : Int))) (by kernel_rfl) ?_
  generalize w0.drew = wdr at *
  have hJJ := hid (And.intro (Env.cell hs g_a (a) (by simp)).1 (And.intro (Env.cell hs g_a (a) (by simp)).2.1 (And.intro (Env.cell hs g_a (a) (by simp)).2.2.1 (Env.cell hs g_a (a) (by simp)).2.2.2)))
  refine Goes.tk (i := 0) (o := ⟨some 3, _, _, _, _, _⟩) (v := ?_) [] (y := Or.inl ⟨by rfl, ?_⟩) (s := hJJ.out) (H := ?_)
  rotate_left
  · rintro w ⟨up, -, hX⟩; (try dsimp only at hX); obtain ⟨x0, x1, x2, x3⟩ := hX; go_simp; try with_reducible rfl
  try simp only [putz]
  refine Goes.tk (i := 1) (o := ⟨some 4, _, _, _, _, _⟩) (v := ?_) [] (y := Or.inl ⟨by rfl, ?_⟩) (s := hJJ.out) (H := ?_)
  rotate_left
  · rintro w ⟨up, -, hX⟩; (try dsimp only at hX); obtain ⟨x0, x1, x2, x3⟩ := hX; go_simp; try with_reducible rfl
  try simp only [putz]
  refine Goes.tk (i := 2) (o := ⟨some 5, _, _, _, _, _⟩) (v := ?_) [] (y := Or.inl ⟨by rfl, ?_⟩) (s := hJJ.out) (H := ?_)
  rotate_left
  · rintro w ⟨up, -, hX⟩; (try dsimp only at hX); obtain ⟨x0, x1, x2, x3⟩ := hX; go_simp; try with_reducible rfl
  try simp only [putz]
  clear hJJ
  refine Goes.one (i := 3) (o := ⟨some 6, _, _, _, _, _⟩) (by kernel_rfl) rfl (fun K hK => ?_)
  go_simp
  with_reducible refine (env_of (rlof_any (wd a 0) _ HW.out) hs).mono ?_
  rintro e wn1 ⟨rfl, hs1⟩
  go_wp2_with fail
  refine hK.out _ _ (⟨(Env.cell hs1 g_a (a) (by simp)).1, (Env.cell hs1 g_a (a) (by simp)).2.1, (Env.cell hs1 g_a (a) (by simp)).2.2.1, (Env.cell hs1 g_a (a) (by simp)).2.2.2⟩) ?_
  clear hK K
  try simp only [putz]
  clear hs
  have hs := hs1
  clear hs1
  have hJJ := hid (And.intro (Env.cell hs g_a (a) (by simp)).1 (And.intro (Env.cell hs g_a (a) (by simp)).2.1 (And.intro (Env.cell hs g_a (a) (by simp)).2.2.1 (Env.cell hs g_a (a) (by simp)).2.2.2)))
  refine Goes.tk (i := 4) (o := ⟨some 7, _, _, _, _, _⟩) (v := ?_) [] (y := Or.inl ⟨by rfl, ?_⟩) (s := hJJ.out) (H := ?_)
  rotate_left
  · intro w hY; go_simp; try with_reducible rfl
  try simp only [putz]
  refine Goes.tk (i := 5) (o := ⟨some 2, _, _, _, _, _⟩) (v := ?_) [] (y := Or.inl ⟨by rfl, ?_⟩) (s := hJJ.out) (H := ?_)
  rotate_left
  · intro w hY; go_simp; try with_reducible rfl
  try simp only [putz]
  clear hJJ
  refine Goes.done (by kernel_rfl) ?_ _
  refine NoPanic.normal ?_
  go_wp2_with fail
  exact bodyPost_ret (v := .bool true) (by simp [results, Tryd.results56, go_sem]) rfl ⟨rfl, hs.1⟩
set_option maxRecDepth 100000 in
set_option maxHeartbeats 4000000 in
theorem rword_no (a : Nat) (w : World) (ha : a < 2 ^ 256) (h : 18446744073709551616 ≤ a) : Calls Tryd.prog 56 #[num a] w fun e w' => e = .returned (.bool false) ∧ Below w.heap.size w w' := by
  have hw := wd_lt a 0
  have q1 := eq_no a (wd a 0) ha (Nat.lt_trans hw (by decide)) (by omega)
  have HW := hid hw
  clear hw ha h
  have H0 := hid (((Env.refl w).new a).perm (l' := [(w.heap.size, a)]) (by simp))
  go_enter Tryd.func56, Tryd.ntmps56
  go_wp2_with fail
  generalize w.alloc (.cells (cls a) 26) = w0 at *
  generalize hzg_a : w.heap.size = g_a at *
  go_upto_region 1 with fail
  have hs := H0.out.drew
  refine wp_region_noPanic ?_
  refine Goes.region (fun (L : Array Bool) (w' : World) => w'.cell? ⟨g_a, 0, none⟩ = some (.int .u64 (wd (a) 0 : Int)) ∧ w'.cell? ⟨g_a, 1, none⟩ = some (.int .u64 (wd (a) 1 : Int)) ∧ w'.cell? ⟨g_a, 2, none⟩ = some (.int .u64 (wd (a) 2 : Int)) ∧ w'.cell? ⟨g_a, 3, none⟩ = some (.int .u64 (wd (a) 3 : Int))) (by kernel_rfl) ?_
  generalize w0.drew = wdr at *
  have hJJ := hid (And.intro (Env.cell hs g_a (a) (by simp)).1 (And.intro (Env.cell hs g_a (a) (by simp)).2.1 (And.intro (Env.cell hs g_a (a) (by simp)).2.2.1 (Env.cell hs g_a (a) (by simp)).2.2.2)))
  refine Goes.tk (i := 0) (o := ⟨some 3, _, _, _, _, _⟩) (v := ?_) [] (y := Or.inl ⟨by rfl, ?_⟩) (s := hJJ.out) (H := ?_)
  rotate_left
  · rintro w ⟨up, -, hX⟩; (try dsimp only at hX); obtain ⟨x0, x1, x2, x3⟩ := hX; go_simp; try with_reducible rfl
  try simp only [putz]
  refine Goes.tk (i := 1) (o := ⟨some 4, _, _, _, _, _⟩) (v := ?_) [] (y := Or.inl ⟨by rfl, ?_⟩) (s := hJJ.out) (H := ?_)
  rotate_left
  · rintro w ⟨up, -, hX⟩; (try dsimp only at hX); obtain ⟨x0, x1, x2, x3⟩ := hX; go_simp; try with_reducible rfl
  try simp only [putz]
  refine Goes.tk (i := 2) (o := ⟨some 5, _, _, _, _, _⟩) (v := ?_) [] (y := Or.inl ⟨by rfl, ?_⟩) (s := hJJ.out) (H := ?_)
  rotate_left
  · rintro w ⟨up, -, hX⟩; (try dsimp only at hX); obtain ⟨x0, x1, x2, x3⟩ := hX; go_simp; try with_reducible rfl
  try simp only [putz]
  clear hJJ
  refine Goes.one (i := 3) (o := ⟨some 6, _, _, _, _, _⟩) (by kernel_rfl) rfl (fun K hK => ?_)
  go_simp
  with_reducible refine (env_of (rlof_any (wd a 0) _ HW.out) hs).mono ?_
  rintro e wn1 ⟨rfl, hs1⟩
  go_wp2_with fail
  refine hK.out _ _ (⟨(Env.cell hs1 g_a (a) (by simp)).1, (Env.cell hs1 g_a (a) (by simp)).2.1, (Env.cell hs1 g_a (a) (by simp)).2.2.1, (Env.cell hs1 g_a (a) (by simp)).2.2.2⟩) ?_
  clear hK K
  try simp only [putz]
  clear hs
  have hs := hs1
  clear hs1
  have hJJ := hid (And.intro (Env.cell hs g_a (a) (by simp)).1 (And.intro (Env.cell hs g_a (a) (by simp)).2.1 (And.intro (Env.cell hs g_a (a) (by simp)).2.2.1 (Env.cell hs g_a (a) (by simp)).2.2.2)))
  refine Goes.tk (i := 4) (o := ⟨some 7, _, _, _, _, _⟩) (v := ?_) [] (y := Or.inl ⟨by rfl, ?_⟩) (s := hJJ.out) (H := ?_)
  rotate_left
  · intro w hY; go_simp; try with_reducible rfl
  try simp only [putz]
  refine Goes.tk (i := 5) (o := ⟨some 2, _, _, _, _, _⟩) (v := ?_) [] (y := Or.inl ⟨by rfl, ?_⟩) (s := hJJ.out) (H := ?_)
  rotate_left
  · intro w hY; go_simp; try with_reducible rfl
  try simp only [putz]
  clear hJJ
  refine Goes.done (by kernel_rfl) ?_ _
  refine NoPanic.normal ?_
  go_wp2_with fail
  exact bodyPost_ret (v := .bool false) (by simp [results, Tryd.results56, go_sem]) rfl ⟨rfl, hs.1⟩
theorem rword_any (a : Nat) (v : Bool) (w : World) (ha : a < 2 ^ 256) (hv : decide (a < 18446744073709551616) = v) : Calls Tryd.prog 56 #[num a] w fun e w' => e = .returned (.bool v) ∧ Below w.heap.size w w' := by
  subst hv
  by_cases h : a < 18446744073709551616
  · rw [decide_eq_true h]; exact rword_yes a w ha h
  · rw [decide_eq_false h]; exact rword_no a w ha (by omega)
theorem rget_at (A : Option Addr) (c n K t : Nat) (bs : List UInt8) (w : World) (hl : bs.length = n) (hr : Rd w A bs) (hc : n ≤ c) (hc2 : c ≤ 9223372036854775807) (h8 : K ≤ 8) (hk : K ≤ n) (ht : tell (bs.take K) = t) :
    Calls Tryd.prog 75 #[.slice A n c, .int .i64 (K : Int)] w (Says2 w (t : Int) 0) := by
  subst hl; subst ht; exact rget_ok A c K bs w hr hc hc2 h8 hk
set_option maxRecDepth 100000 in
set_option maxHeartbeats 4000000 in
theorem rwords_any (A : Option Addr) (c K m R : Nat) (bs : List UInt8) (w : World) (hl : bs.length = 8 * K) (hr : Rd w A bs) (hA : A = none → c = 0) (hc : bs.length ≤ c) (hc2 : c ≤ 9223372036854775807) (hK : K ≤ 1000000) (hm0 : 0 < m) (hm : m < 18446744073709551616) (hR : tell bs % m = R) :
    Calls Tryd.prog 58 #[.slice A bs.length c, .int .u64 (m : Int)] w fun e w' => e = .returned (.int .u64 (R : Int)) ∧ Below w.heap.size w w' := by
  have HR := hid hr
  have HM := hid hm
  have H0 := hid hm0
  have HC := hid hc
  have HC2 := hid hc2
  have HL := hid hl
  have HA := hid hA
  have ER0 := hid hR
  have hn : bs.length ≤ 8000000 := by omega
  obtain ⟨n, en⟩ : ∃ n, bs.length = n := ⟨_, rfl⟩
  rw [en] at hn
  have EN := hid en
  clear hr hm hm0 hc hc2 hl hA hR
  rw [en]
  clear en
  go_enter Tryd.func58, Tryd.ntmps58
  go_wp2_with fail
  go_loopw [5, 6] (fun s5 s6 wr => ∃ j p r : Nat, Hid (p = 8 * j ∧ j ≤ K) ∧ s6 = .int .i64 (p : Int) ∧ s5 = .int .u64 (r : Int) ∧ Hid (r = tell (bs.take p) % m) ∧ Hid (Below w.heap.size w wr)) (fun _ s _ => n - (intOf s).toNat)
  case atStart => exact ⟨0, 0, 0, hid ⟨rfl, by omega⟩, rfl, rfl, hid (by simp [tell]), hid (Below.refl _ _)⟩
  case round =>
    obtain ⟨j, p, r, hj, rfl, rfl, P, H⟩ := hrel
    by_cases h : j = K
    · have hpn : p = n := by have := EN.out; have := HL.out; have := hj.out; omega
      have nlt : ¬ ((p : Int) < (n : Int)) := by omega
      have PE := hid (show r = R by rw [← ER0.out, P.out, hpn, ← EN.out, List.take_length])
      clear hpn h
      go_wp2
      exact bodyPost_ret (v := .int .u64 (r : Int)) (by simp [results, Tryd.results58, go_sem]) rfl ⟨by rw [PE.out], H.out⟩
    · have hlt : p + 8 ≤ n := by have := EN.out; have := HL.out; have := hj.out; omega
      have lt1 : (p : Int) < (n : Int) := by omega
      have i1 : p ≤ n := by omega
      have i2 : (p : Int) ≤ (n : Int) := by omega
      have i3 : (0 : Int) ≤ (p : Int) := by omega
      have i5 : IntKind.i64.wrap (p : Int) = (p : Int) := IntWalk.i64_in _ (by omega)
      have i4 : IntKind.i64.wrap ((p : Int) + 8) = ((p + 8 : Nat) : Int) := by rw [IntWalk.i64_in _ (by omega)]; omega
      have hlB : p < bs.length := by have := EN.out; omega
      obtain ⟨g, o, hAe, hg, hcell⟩ := HR.out (by omega)
      have hcut : Hid (Rd w (some ⟨g, o + p, none⟩) (bs.drop p)) := hid (HR.out.cut p _ (fun ad had _ => by rw [hAe] at had; injection had with had; subst had; rw [add_plain]))
      have hl8 : ((bs.drop p).take 8).length = 8 := by simp; have := EN.out; omega
      have HT := hid (show tell (bs.take (p + 8)) = tell (bs.take p) * 18446744073709551616 + tell ((bs.drop p).take 8) by
        have e : bs.take (p + 8) = bs.take p ++ (bs.drop p).take 8 := by rw [List.take_add]
        rw [e, tell_append, hl8])
      have RL := hid (show r < m by rw [P.out]; exact Nat.mod_lt _ H0.out)
      obtain ⟨t, et⟩ : ∃ t, tell ((bs.drop p).take 8) = t := ⟨_, rfl⟩
      have TL := hid (show t < 18446744073709551616 by
        have := tell_lt ((bs.drop p).take 8)
        rw [hl8, et] at this; exact this)
      obtain ⟨r', er⟩ : ∃ z, (r * 18446744073709551616 + t) % m = z := ⟨_, rfl⟩
      have ER := hid er
      have P2 := hid (show r' = tell (bs.take (p + 8)) % m by rw [HT.out, et, ← er, P.out, Nat.add_mod, Nat.mod_mul_mod, ← Nat.add_mod])
      have ET := hid et
      have HDL : Hid (((bs.drop p).length : Nat) = n - p) := hid (by simp; rw [EN.out])
      have HQ : Hid (p + 8 = 8 * (j + 1) ∧ j + 1 ≤ K) := hid (by have := hj.out; omega)
      have hcn : Hid (n ≤ c) := hid (by have := HC.out; rw [EN.out] at this; exact this)
      subst hAe
      have hcp : ¬ c = p := by have := hcn.out; omega
      have hcp2 : c - p ≤ 9223372036854775807 ∧ n - p ≤ c - p ∧ 8 ≤ n - p := by have := hcn.out; have := HC2.out; omega
      have HCP := hid hcp2
      clear er et hcell hl8 hlB h hcp2
      go_wp2_with fail
      refine (rget_at (some ⟨g, o + p, none⟩) (c - p) (n - p) 8 t (bs.drop p) wr HDL.out (hcut.out.below H.out (Nat.le_refl _)) HCP.out.2.1 HCP.out.1 (by omega) HCP.out.2.2 ET.out).mono ?_
      rintro e w1 ⟨rfl, q, rfl⟩
      have H1 := hid (below_drewN H.out q)
      go_wp2_with fail
      refine (div64_any r t m _ r' _ (Nat.lt_of_lt_of_le RL.out (Nat.le_refl _)) TL.out HM.out rfl ER.out).mono ?_
      rintro e w2 ⟨rfl, hb⟩
      have H2 := hid (H1.out.trans (hb.mono H1.out.size))
      go_wp2_with fail
      go_roundw
      case measure => simp [intOf]; omega
      case rel => exact ⟨j + 1, p + 8, r', HQ, rfl, rfl, P2, H2⟩
end Go.Proofs.YtcijnoapjicliaaDoor
namespace Go.Proofs.YtcijnoapjicliaaDoor
open Go.RowKit
set_option linter.unusedVariables false

theorem wnum_wd (x : Nat) (hx : x < 2 ^ 256) : wnum [wd x 0, wd x 1, wd x 2, wd x 3] = x := by
  simp only [wnum, wd]
  rw [show (2 : Nat) ^ 256 = 115792089237316195423570985008687907853269984665640564039457584007913129639936 by decide] at hx
  rw [show (18446744073709551616 : Nat) ^ 0 = 1 by decide, show (18446744073709551616 : Nat) ^ 1 = 18446744073709551616 by decide, show (18446744073709551616 : Nat) ^ 2 = 340282366920938463463374607431768211456 by decide, show (18446744073709551616 : Nat) ^ 3 = 6277101735386680763835789423207666416102355444464034512896 by decide]
  omega
/-- a slice that reads as these bytes, within the heap -/
def Sl (w : World) (A : Option Addr) (c : Nat) (bs : List UInt8) : Prop := Rd w A bs ∧ (A = none → c = 0) ∧ bs.length ≤ c ∧ c ≤ 9223372036854775807 ∧ ∀ ad, A = some ad → ad.block < w.heap.size
theorem Sl.on {w w' : World} {A : Option Addr} {c : Nat} {bs : List UInt8} (h : Sl w A c bs) (hb : Below w.heap.size w w') : Sl w' A c bs :=
  ⟨h.1.below hb (Nat.le_refl _), h.2.1, h.2.2.1, h.2.2.2.1, fun ad e => Nat.lt_of_lt_of_le (h.2.2.2.2 ad e) hb.size⟩
theorem Sl.of {w : World} {B : Nat} {v : Value} {bs : List UInt8} (h : Ow w B v bs) : ∃ A c, v = .slice A bs.length c ∧ Sl w A c bs ∧ ∀ ad, A = some ad → B ≤ ad.block := by
  obtain ⟨A, c, rfl, h1, h2, h3, h4⟩ := h.form
  refine ⟨A, c, rfl, ⟨h3, h4, h1, h2, ?_⟩, ?_⟩
  · intro ad e
    subst e
    rcases h.2 with ⟨e, _⟩ | ⟨g, cap, cur, e, hb, hh, _⟩
    · cases e
    · injection e with e1; injection e1 with e1; subst e1; exact lt_of_block hh
  · intro ad e
    subst e
    rcases h.2 with ⟨e, _⟩ | ⟨g, cap, cur, e, hb, hh, _⟩
    · cases e
    · injection e with e1; injection e1 with e1; subst e1; exact hb
theorem Rd.setOther {w : World} {A : Option Addr} {bs : List UInt8} {g i : Nat} (h : Rd w A bs) (hn : ∀ ad, A = some ad → ad.block ≠ g) (u : Value) : Rd (w.setCell ⟨g, i, none⟩ u) A bs := by
  intro hp
  obtain ⟨gg, o, rfl, hg, hc⟩ := h hp
  refine ⟨gg, o, rfl, by simpa [World.setCell] using hg, fun j hj => ?_⟩
  have hne : (⟨gg, o + j, none⟩ : Addr) ≠ ⟨g, i, none⟩ := by intro e; injection e with e1; exact hn _ rfl e1
  rw [World.cell?_setCell_other (h := Ne.symm hne)]
  exact hc j hj
theorem Sl.fil {w : World} {A : Option Addr} {c : Nat} {bs : List UInt8} {g : Nat} (h : Sl w A c bs) (hn : ∀ ad, A = some ad → ad.block ≠ g) (x : Nat) : Sl (fil w g x) A c bs := by
  refine ⟨(((h.1.setOther hn _).setOther hn _).setOther hn _).setOther hn _, h.2.1, h.2.2.1, h.2.2.2.1, fun ad e => ?_⟩
  have := h.2.2.2.2 ad e
  simpa [World.setCell] using this
/-- boxes, and a slice beside them -/
def Ek (w : World) (l : List (Nat × Nat)) (A : Option Addr) (c : Nat) (bs : List UInt8) (w' : World) : Prop := Env w l w' ∧ Sl w' A c bs ∧ ∀ p ∈ l, ∀ ad, A = some ad → ad.block ≠ p.1
section
variable {w w' w2 : World} {l : List (Nat × Nat)} {A : Option Addr} {c : Nat} {bs : List UInt8}
theorem Ek.on (h : Ek w l A c bs w') (hb : Below w'.heap.size w' w2) : Ek w l A c bs w2 := ⟨h.1.on hb, h.2.1.on hb, h.2.2⟩
theorem Ek.drew (h : Ek w l A c bs w') : Ek w l A c bs w'.drew := ⟨h.1.drew, h.2.1.on (Below.refl _ _).drew, h.2.2⟩
theorem Ek.cell (h : Ek w l A c bs w') (g x : Nat) (hm : (g, x) ∈ l) : w'.cell? ⟨g, 0, none⟩ = some (.int .u64 (wd x 0 : Int)) ∧ w'.cell? ⟨g, 1, none⟩ = some (.int .u64 (wd x 1 : Int)) ∧ w'.cell? ⟨g, 2, none⟩ = some (.int .u64 (wd x 2 : Int)) ∧ w'.cell? ⟨g, 3, none⟩ = some (.int .u64 (wd x 3 : Int)) := h.1.cell g x hm
theorem Ek.lt (h : Ek w l A c bs w') (g x : Nat) (hm : (g, x) ∈ l) : g < w'.heap.size := h.1.lt g x hm
theorem Ek.frozen (h : Ek w l A c bs w') (g x : Nat) (hm : (g, x) ∈ l) (i : Nat) : w'.frozen? ⟨g, i, none⟩ = false := h.1.frozen g x hm i
theorem Ek.fresh (h : Ek w l A c bs w') : Fsh w l w'.heap.size := h.1.fresh
theorem Ek.perm {l' : List (Nat × Nat)} (h : Ek w l A c bs w') (hs : ∀ p ∈ l', p ∈ l) : Ek w l' A c bs w' := ⟨h.1.perm hs, h.2.1, fun p hp => h.2.2 p (hs p hp)⟩
theorem Ek.zero (h : Ek w l A c bs w') : Ek w ((w'.heap.size, 0) :: l) A c bs (w'.alloc (.cells #[.int .u64 0, .int .u64 0, .int .u64 0, .int .u64 0] 26)) :=
  ⟨h.1.zero, h.2.1.on (bal (Below.refl _ _) _), fun p hp ad e => by
    rcases List.mem_cons.1 hp with rfl | hp
    · exact Nat.ne_of_lt (h.2.1.2.2.2.2 ad e)
    · exact h.2.2 p hp ad e⟩
theorem Ek.set (h : Ek w l A c bs w') (g x y : Nat) (l' : List (Nat × Nat)) (hm : (g, x) ∈ l) (hg : w.heap.size ≤ g) (hl : ∀ p ∈ l', p ∈ l ∧ p.1 ≠ g) : Ek w ((g, y) :: l') A c bs (fil w' g y) :=
  ⟨h.1.set g x y l' hm hg hl, h.2.1.fil (fun ad e => h.2.2 (g, x) hm ad e) y, fun p hp ad e => by
    rcases List.mem_cons.1 hp with rfl | hp
    · exact h.2.2 (g, x) hm ad e
    · exact h.2.2 p (hl p hp).1 ad e⟩
theorem Ek.of {B : Nat} {v : Value} (h : Env w l w') (hb : Below w'.heap.size w' w2) (ho : Ow w2 B v bs) (hB : w'.heap.size ≤ B) : ∃ A c, v = .slice A bs.length c ∧ Ek w l A c bs w2 := by
  obtain ⟨A, c, e, hs, hA⟩ := Sl.of ho
  exact ⟨A, c, e, h.on hb, hs, fun p hp ad e => Nat.ne_of_gt (Nat.lt_of_lt_of_le (h.lt p.1 p.2 hp) (Nat.le_trans hB (hA ad e)))⟩
theorem ek_of {f : FuncId} {args : Array Value} {v : Value} (hc : Calls Tryd.prog f args w' fun e w2 => e = .returned v ∧ Below w'.heap.size w' w2) (h : Ek w l A c bs w') : Calls Tryd.prog f args w' fun e w2 => e = .returned v ∧ Ek w l A c bs w2 :=
  hc.mono fun e w2 ⟨he, hb⟩ => ⟨he, h.on hb⟩
/-- a long number as bytes -/
theorem put_k (x : Nat) (hx : x < 2 ^ 256) (h : Env w l w') : Calls Tryd.prog 55 #[.slice none 0 0, num x] w' fun e w2 => ∃ A c, e = .returned (.slice A 32 c) ∧ Ek w l A c (be x 32) w2 := by
  refine (rputLong_any none 0 (wd x 0) (wd x 1) (wd x 2) (wd x 3) [] w' (Rd.nil _ _) (fun _ => rfl) (by simp) (wd_lt x 0) (wd_lt x 1) (wd_lt x 2) (wd_lt x 3)).mono ?_
  rintro e w2 ⟨v, rfl, ho, hb⟩
  rw [wnum_wd x hx, List.nil_append] at ho
  obtain ⟨A, c, rfl, hk⟩ := Ek.of h hb ho (Nat.le_refl _)
  rw [be_length]
  exact ⟨A, c, rfl, hk⟩
/-- one behind others -/
theorem put_then (y n n2 : Nat) (hl : bs.length = n) (hn : n ≤ 1000000) (hn2 : n + 32 = n2) (hy : y < 2 ^ 256) (h : Ek w l A c bs w') : Calls Tryd.prog 55 #[.slice A n c, num y] w' fun e w2 => ∃ A2 c2, e = .returned (.slice A2 n2 c2) ∧ Ek w l A2 c2 (bs ++ be y 32) w2 := by
  subst hl
  refine (rputLong_any A c (wd y 0) (wd y 1) (wd y 2) (wd y 3) bs w' h.2.1.1 h.2.1.2.1 (by omega) (wd_lt y 0) (wd_lt y 1) (wd_lt y 2) (wd_lt y 3)).mono ?_
  rintro e w2 ⟨v, rfl, ho, hb⟩
  rw [wnum_wd y hy] at ho
  obtain ⟨A, c, rfl, hk⟩ := Ek.of h.1 hb ho (Nat.le_refl _)
  rw [List.length_append, be_length, hn2]
  exact ⟨A, c, rfl, hk⟩
theorem words_k (n K m R : Nat) (hl : bs.length = n) (hK : n = 8 * K) (hK2 : K ≤ 1000000) (hm0 : 0 < m) (hm : m < 18446744073709551616) (hR : tell bs % m = R) (h : Ek w l A c bs w') :
    Calls Tryd.prog 58 #[.slice A n c, .int .u64 (m : Int)] w' fun e w2 => e = .returned (.int .u64 (R : Int)) ∧ Ek w l A c bs w2 := by
  subst hl
  exact ek_of (rwords_any A c K m R bs w' hK h.2.1.1 h.2.1.2.1 h.2.1.2.2.1 h.2.1.2.2.2.1 hK2 hm0 hm hR) h
theorem be_word (q j k : Nat) : tell (((be q (j + 8 + k)).drop j).take 8) = q / 256 ^ k % 18446744073709551616 := by
  have e1 : be q (j + 8 + k) = be (q / 256 ^ (8 + k)) j ++ (be (q / 256 ^ k) 8 ++ be q k) := by
    rw [Nat.add_assoc, be_add, be_add q 8 k]
  rw [e1, List.drop_left' (be_length _ _), List.take_left' (be_length _ _), tell_be]
theorem getlong_k (q : Nat) (hq : q < 2 ^ 256) (h : Ek w l A c (be q 32) w') : Calls Tryd.prog 37 #[.slice A 32 c] w' fun e w2 => e = .returned (.tuple #[num q, .int .i64 0]) ∧ Env w l w2 := by
  have hg := rgetLong_ok A c (be q 32) w' h.2.1.1 h.2.1.2.2.1 h.2.1.2.2.2.1 (by rw [be_length]; omega)
  rw [be_length] at hg
  refine hg.mono ?_
  rintro e w2 ⟨rfl, hb⟩
  refine ⟨?_, h.1.on hb⟩
  have w0 : word (be q 32) 0 = wd q 3 := by have := be_word q 0 24; unfold word wd; rw [show (8 * 0 : Nat) = 0 from rfl]; rw [show (0 + 8 + 24 : Nat) = 32 from rfl] at this; rw [this, show (256 : Nat) ^ 24 = 18446744073709551616 ^ 3 by decide]
  have w1 : word (be q 32) 1 = wd q 2 := by have := be_word q 8 16; unfold word wd; rw [show (8 * 1 : Nat) = 8 from rfl]; rw [show (8 + 8 + 16 : Nat) = 32 from rfl] at this; rw [this, show (256 : Nat) ^ 16 = 18446744073709551616 ^ 2 by decide]
  have w2' : word (be q 32) 2 = wd q 1 := by have := be_word q 16 8; unfold word wd; rw [show (8 * 2 : Nat) = 16 from rfl]; rw [show (16 + 8 + 8 : Nat) = 32 from rfl] at this; rw [this, show (256 : Nat) ^ 8 = 18446744073709551616 ^ 1 by decide]
  have w3 : word (be q 32) 3 = wd q 0 := by have := be_word q 24 0; unfold word wd; rw [show (8 * 3 : Nat) = 24 from rfl]; rw [show (24 + 8 + 0 : Nat) = 32 from rfl] at this; rw [this, show (256 : Nat) ^ 0 = 18446744073709551616 ^ 0 by decide]
  rw [w0, w1, w2', w3]
theorem ek_env (h : Ek w l A c bs w') : Env w l w' := h.1
end
end Go.Proofs.YtcijnoapjicliaaDoor

/-
  shas.Number's closure, walked: the number that the sum of the parts and one byte more tells. Conditions: the library's table K lies there; 999 parts at most, each of 2^20 bytes at most; a text of 1000000 bytes at most.
  shas.Number, walked: what is left by m of the parts' two sums. Conditions: the library's table K lies there; 999 parts at most, each of 2^20 bytes at most; a text of 1000000 bytes at most.
-/
import Derived.Test.YtcijnoapjicliaaDoorPkK
import Derived.Test.YtcijnoapjicliaaDoorPkO
import Derived.Test.YtcijnoapjicliaaDoorPkI
import Derived.Test.YtcijnoapjicliaaDoorPkC
namespace Go.Proofs.YtcijnoapjicliaaDoor
open Go.RowKit
set_option linter.unusedVariables false
set_option linter.unusedSimpArgs false

theorem words32 (r : List UInt8) (h : r.length = 32) : wd (tell r) 0 = word r 3 ∧ wd (tell r) 1 = word r 2 ∧ wd (tell r) 2 = word r 1 ∧ wd (tell r) 3 = word r 0 := by
  have e0 : tell r = word r 0 * 256 ^ 24 + tell (r.drop 8) := by
    conv => lhs; rw [← List.take_append_drop 8 r]
    rw [tell_append, List.length_drop, h]; rfl
  have e1 : tell (r.drop 8) = word r 1 * 256 ^ 16 + tell (r.drop 16) := by
    conv => lhs; rw [← List.take_append_drop 8 (r.drop 8)]
    rw [tell_append, List.length_drop, List.length_drop, h, List.drop_drop]; rfl
  have e2 : tell (r.drop 16) = word r 2 * 256 ^ 8 + tell (r.drop 24) := by
    conv => lhs; rw [← List.take_append_drop 8 (r.drop 16)]
    rw [tell_append, List.length_drop, List.length_drop, h, List.drop_drop]; rfl
  have e3 : tell (r.drop 24) = word r 3 := by
    have : (r.drop 24).take 8 = r.drop 24 := List.take_of_length_le (by rw [List.length_drop, h]; decide)
    show tell (r.drop 24) = tell ((r.drop (8 * 3)).take 8)
    rw [show 8 * 3 = 24 from rfl, this]
  have lt : ∀ k, word r k < 18446744073709551616 := by
    intro k
    have h1 := tell_lt ((r.drop (8 * k)).take 8)
    have h2 : 256 ^ ((r.drop (8 * k)).take 8).length ≤ 256 ^ 8 := Nat.pow_le_pow_right (by decide) (by rw [List.length_take]; omega)
    show tell ((r.drop (8 * k)).take 8) < 18446744073709551616
    have h3 : (256 : Nat) ^ 8 = 18446744073709551616 := by decide
    omega
  have l0 := lt 0; have l1 := lt 1; have l2 := lt 2; have l3 := lt 3
  rw [e1, e2, e3] at e0
  rw [show (256 : Nat) ^ 24 = 6277101735386680763835789423207666416102355444464034512896 by decide, show (256 : Nat) ^ 16 = 340282366920938463463374607431768211456 by decide, show (256 : Nat) ^ 8 = 18446744073709551616 by decide] at e0
  clear e1 e2 e3 lt
  generalize tell r = T at *
  generalize word r 0 = x0 at *
  generalize word r 1 = x1 at *
  generalize word r 2 = x2 at *
  generalize word r 3 = x3 at *
  simp only [wd]
  rw [show (18446744073709551616 : Nat) ^ 0 = 1 by decide, show (18446744073709551616 : Nat) ^ 1 = 18446744073709551616 by decide, show (18446744073709551616 : Nat) ^ 2 = 340282366920938463463374607431768211456 by decide, show (18446744073709551616 : Nat) ^ 3 = 6277101735386680763835789423207666416102355444464034512896 by decide]
  omega
/-- nums.GetLong over a sum's box -/
theorem gl_at (r : List UInt8) (g t : Nat) {w w' : World} {l : List (Nat × Nat)} (hq : r.length = 32) (hz : Bt w' g 23 r) (et : tell r = t) (h : Env w l w') :
    Calls Tryd.prog 50 #[.slice (some ⟨g, 0, none⟩) 32 32] w' fun e w2 => e = .returned (.tuple #[num t, .int .i64 0]) ∧ Env w l w2 := by
  have hr : Rd w' (some ⟨g, 0, none⟩) r := by
    intro hp
    refine ⟨g, 0, rfl, lt_of_block hz, fun j hj => ?_⟩
    rw [cell_of_row _ _ _ _ 23 _ hz]
    simp [bvs, hj]
  have hg := getLong_ok (some ⟨g, 0, none⟩) 32 r w' hr (by omega) (by decide) (by omega)
  rw [hq] at hg
  refine hg.mono ?_
  rintro e w2 ⟨rfl, hb⟩
  obtain ⟨h0, h1, h2, h3⟩ := words32 r hq
  subst et
  refine ⟨?_, h.on hb⟩
  unfold num
  rw [← h0, ← h1, ← h2, ← h3]
  try rfl
theorem lt0 {w w0 : World} {ga g : Nat} (e : w.heap.size = g) (h : ga < g) (hb : Below w.heap.size w w0) : ga < w0.heap.size := Nat.lt_of_lt_of_le (e ▸ h) hb.size
/-- one half of the number -/
def half (s : List UInt8) (n : Nat) (xs : Nat → List UInt8) (x : UInt8) : Nat := tell (sha (spelt s (n + 1) (nx n xs [x]) (n + 1)))
theorem half_lt (s : List UInt8) (n : Nat) (xs : Nat → List UInt8) (x : UInt8) : half s n xs x < 2 ^ 256 := by
  have h := tell_lt (sha (spelt s (n + 1) (nx n xs [x]) (n + 1)))
  rw [sha_length, show (256 : Nat) ^ 32 = 2 ^ 256 by decide] at h
  exact h
set_option maxRecDepth 100000 in
set_option maxHeartbeats 4000000 in
theorem half_any (st : ByteArray) (a0 : Option Addr) (n0 c0 : Nat) (A : Nat → Option Addr) (L C : Nat → Nat) (xs : Nat → List UInt8) (ga gp : Nat) (x : UInt8) (xi : Int) (w : World) (hx : xi = (x.toNat : Int)) (hR : Rws w a0 n0 A L C xs) (hK : Kt w) (hn : n0 + 1 ≤ 1000) (hL : ∀ r, r < n0 → L r ≤ 1048576) (hs : st.size ≤ 1000000) (hc : n0 ≤ c0) (h0 : a0 = none → c0 = 0)
    (hga : w.cell? ⟨ga, 0, none⟩ = some (.string st)) (hgp : w.cell? ⟨gp, 0, none⟩ = some (.slice a0 n0 c0)) :
    Calls Tryd.prog 47 #[.int .u8 xi, .pointer (some ⟨ga, 0, none⟩), .pointer (some ⟨gp, 0, none⟩)] w fun e w' => e = .returned (num (half st.data.toList n0 xs x)) ∧ Below w.heap.size w w' := by
  obtain ⟨r, er⟩ : ∃ z, sha (spelt st.data.toList (n0 + 1) (nx n0 xs [x]) (n0 + 1)) = z := ⟨_, rfl⟩
  obtain ⟨t, et⟩ : ∃ z, tell r = z := ⟨_, rfl⟩
  have hq : r.length = 32 := by rw [← er]; exact sha_length _
  rw [half, er, et]
  have ER := hid er
  have ET := hid et
  have HQ := hid hq
  have HC := hid hc
  have HN := hid (show n0 ≤ 1000 by omega)
  have HN1 := hid hn
  have HZa := hid h0
  have HZ := hid (show a0 = none → n0 = 0 from fun e => by have := h0 e; omega)
  have HL1 := hid (nx_le n0 L hL)
  have HS := hid hs
  have HX := hid hx
  have FK := hid (on_kt hK)
  have FR := hid (on_rws hR)
  have FC := hid ((on_cell (World.block_lt_of_cell? _ _ hga) hga).both (on_cell (World.block_lt_of_cell? _ _ hgp) hgp))
  have HO1 := hid (World.block_lt_of_cell? _ _ hga)
  have HO2 := hid (World.block_lt_of_cell? _ _ hgp)
  clear er et hq hc hn h0 hL hs hx hK hR hga hgp
  have H0 := hid (((Env.refl w).zero).perm (l' := [(w.heap.size, 0)]) (by simp))
  have DZ := hid (show w.heap.size ≤ w.heap.size by omega)
  go_enter Tryd.func47, Tryd.ntmps47
  go_upto_region 1 with fail
  generalize w.alloc (.cells #[.int .u64 0, .int .u64 0, .int .u64 0, .int .u64 0] 26) = w0 at *
  generalize hzg_z : w.heap.size = g_z at *
  have FK := hid (FK.out.on H0.out.1)
  have FR := hid (FR.out.on H0.out.1)
  have FC := hid (FC.out.on H0.out.1)
  have HO1 := hid (lt0 hzg_z HO1.out H0.out.1)
  have HO2 := hid (lt0 hzg_z HO2.out H0.out.1)
  have HCA := hid FC.out.here.1
  have HCP := hid FC.out.here.2
  refine hf1_ok FK FR FC HO1 HO2 HCA HCP HC HN HN HN1 HZa HZ HL1 HS HX ER HQ _ _ _ _ _ _ _ _ _ _ _ _ _ _ _ _ _ _ _ (hid ?_)
  intro d8 d9 d10 d11 d12 d13 d14 d15 gz u FZ
  have H1 := hid (H0.out.on FZ.out.here.2)
  have HB := hid FZ.out.here.1
  clear FK FR FC HO1 HO2 HCA HCP HC HN HN1 HZa HZ HL1 HS HX ER FZ H0
  go_wp2_with fail
  refine (gl_at r gz t HQ.out HB.out ET.out H1.out).mono ?_
  rintro e w2 ⟨rfl, h⟩
  have H2 := hid h
  clear h H1
  clear HB HQ ET
  go_upto_region 3 with fail
  have H2b := hid (H2.out.new t)
  clear H2
  generalize w2.alloc (.cells (cls t) 26) = w2b at *
  generalize w2.heap.size = g6 at *
  obtain ⟨c0x2a, c0x2b, c0x2c, c0x2d⟩ := H2b.out.cell (g6) (t) (by simp)
  have c0x2l := H2b.out.lt (g6) (t) (by simp)
  have c0x2m := Nat.le_of_lt c0x2l
  obtain ⟨z0, z1, z2, z3⟩ := H2b.out.cell g_z 0 (by simp)
  have zl := H2b.out.lt g_z 0 (by simp)
  have zf := H2b.out.frozen g_z 0 (by simp)
  have HZ := hid (H2b.out.set g_z 0 (t) [] (by simp) (by rw [hzg_z]; exact DZ.out) (by simp))
  go_wp2
  clear z0 z1 z2 z3 zl zf
  try rw [Exit.noGoto_ret]
  change bodyPost _ _ _ _ _ (fil w2b g_z (t))
  generalize fil w2b g_z (t) = wz at *
  obtain ⟨k0, k1, k2, k3⟩ := HZ.out.cell g_z (t) (by simp)
  exact bodyPost_ret (v := num (t)) (by simp [results, Tryd.results47, go_sem, k0, k1, k2, k3]) rfl ⟨rfl, HZ.out.1⟩
end Go.Proofs.YtcijnoapjicliaaDoor
namespace Go.Proofs.YtcijnoapjicliaaDoor
open Go.RowKit
set_option linter.unusedVariables false
set_option linter.unusedSimpArgs false

/-- the parts' number below m -/
def nof (s : List UInt8) (n : Nat) (xs : Nat → List UInt8) (m : Nat) : Nat := wid (half s n xs 1) (half s n xs 0) m
theorem wide_both (lo hi m s : Nat) {w w' : World} {l : List (Nat × Nat)} (hlo : lo < 2 ^ 256) (hhi : hi < 2 ^ 256) (hm : m < 2 ^ 256) (hs : (if m = 0 then 0 else wid lo hi m) = s) (e : Int) (he : (if m = 0 then 1 else 0 : Int) = e) (h : Env w l w') :
    Calls Tryd.prog 51 #[num lo, num hi, num m] w' fun r w2 => r = .returned (.tuple #[num s, .int .i64 e]) ∧ Env w l w2 := by
  by_cases h0 : m = 0
  · subst h0
    rw [if_pos rfl] at hs he
    subst hs; subst he
    exact wide_none_at lo hi h
  · rw [if_neg h0] at hs he
    subst he
    exact wide_at lo hi m s h hlo hhi hm h0 hs
/-- the closure, with what it rests on -/
theorem half_k (st : ByteArray) (a0 : Option Addr) (n0 c0 : Nat) (A : Nat → Option Addr) (L C : Nat → Nat) (xs : Nat → List UInt8) (ga gp : Nat) (x : UInt8) (xi : Int) (t : Nat) {w0 w' : World} {l : List (Nat × Nat)} (hx : xi = (x.toNat : Int)) (ht : half st.data.toList n0 xs x = t) (hR : Rws w0 a0 n0 A L C xs) (hK : Kt w0) (hn : n0 + 1 ≤ 1000) (hL : ∀ r, r < n0 → L r ≤ 1048576) (hs : st.size ≤ 1000000) (hc : n0 ≤ c0) (h0 : a0 = none → c0 = 0)
    (hga : w0.cell? ⟨ga, 0, none⟩ = some (.string st)) (hgp : w0.cell? ⟨gp, 0, none⟩ = some (.slice a0 n0 c0)) (h : Env w0 l w') :
    Calls Tryd.prog 47 #[.int .u8 xi, .pointer (some ⟨ga, 0, none⟩), .pointer (some ⟨gp, 0, none⟩)] w' fun e w2 => e = .returned (num t) ∧ Env w0 l w2 := by
  subst ht
  exact env_of (half_any st a0 n0 c0 A L C xs ga gp x xi w' hx ((on_rws hR) _ h.1) ((on_kt hK) _ h.1) hn hL hs hc h0 ((on_cell (World.block_lt_of_cell? _ _ hga) hga) _ h.1) ((on_cell (World.block_lt_of_cell? _ _ hgp) hgp) _ h.1)) h
theorem num_boxes (w : World) (m : Nat) (v1 v2 : Value) :
    Env w [(w.heap.size, m), (w.heap.size + 1 + 1 + 1, 0)] ((((w.alloc (.cells (cls m) 26)).alloc (.cells #[v1] 9)).alloc (.cells #[v2] 69)).alloc (.cells #[.int .u64 0, .int .u64 0, .int .u64 0, .int .u64 0] 26)) ∧
    ((((w.alloc (.cells (cls m) 26)).alloc (.cells #[v1] 9)).alloc (.cells #[v2] 69)).alloc (.cells #[.int .u64 0, .int .u64 0, .int .u64 0, .int .u64 0] 26)).cell? ⟨w.heap.size + 1, 0, none⟩ = some v1 ∧
    ((((w.alloc (.cells (cls m) 26)).alloc (.cells #[v1] 9)).alloc (.cells #[v2] 69)).alloc (.cells #[.int .u64 0, .int .u64 0, .int .u64 0, .int .u64 0] 26)).cell? ⟨w.heap.size + 1 + 1, 0, none⟩ = some v2 := by
  have sz : ∀ (u : World) (o : Obj), (u.alloc o).heap.size = u.heap.size + 1 := fun u o => Array.size_push _
  have e1 := (Env.refl w).new m
  have e2 := e1.on ((Below.refl _ _).alloc (Nat.le_refl _) (.cells #[v1] 9))
  have e3 := e2.on ((Below.refl _ _).alloc (Nat.le_refl _) (.cells #[v2] 69))
  have e4 := e3.zero
  have k1 : ((w.alloc (.cells (cls m) 26)).alloc (.cells #[v1] 9)).cell? ⟨w.heap.size + 1, 0, none⟩ = some v1 := by
    have := cell_of_row _ _ 0 _ 9 (0, 0) (heap_alloc_new (w.alloc (.cells (cls m) 26)) (.cells #[v1] 9))
    rw [sz] at this
    exact this
  have k2 : (((w.alloc (.cells (cls m) 26)).alloc (.cells #[v1] 9)).alloc (.cells #[v2] 69)).cell? ⟨w.heap.size + 1 + 1, 0, none⟩ = some v2 := by
    have := cell_of_row _ _ 0 _ 69 (0, 0) (heap_alloc_new ((w.alloc (.cells (cls m) 26)).alloc (.cells #[v1] 9)) (.cells #[v2] 69))
    rw [sz, sz] at this
    exact this
  refine ⟨?_, ?_, ?_⟩
  · have := e4.perm (l' := [(w.heap.size, m), ((((w.alloc (.cells (cls m) 26)).alloc (.cells #[v1] 9)).alloc (.cells #[v2] 69)).heap.size, 0)]) (by simp)
    rw [sz, sz, sz] at this
    exact this
  · rw [World.cell?_alloc_past _ _ _ (by simp only [sz]; omega), World.cell?_alloc_past _ _ _ (by simp only [sz]; omega)]
    exact k1
  · rw [World.cell?_alloc_past _ _ _ (by simp only [sz]; omega)]
    exact k2
set_option maxRecDepth 100000 in
set_option maxHeartbeats 4000000 in
theorem number_any (st : ByteArray) (a0 : Option Addr) (n0 c0 : Nat) (A : Nat → Option Addr) (L C : Nat → Nat) (xs : Nat → List UInt8) (m s : Nat) (e : Int) (w : World) (hm : m < 2 ^ 256) (hR : Rws w a0 n0 A L C xs) (hK : Kt w) (hn : n0 + 1 ≤ 1000) (hL : ∀ r, r < n0 → L r ≤ 1048576) (hs : st.size ≤ 1000000) (hc : n0 ≤ c0) (h0 : a0 = none → c0 = 0)
    (hv : (if m = 0 then 0 else nof st.data.toList n0 xs m) = s) (he : (if m = 0 then 1 else 0 : Int) = e) :
    Calls Tryd.prog 34 #[num m, .string st, .slice a0 n0 c0] w fun r w' => r = .returned (.tuple #[num s, .int .i64 e]) ∧ Below w.heap.size w w' := by
  obtain ⟨lo, elo⟩ : ∃ z, half st.data.toList n0 xs 1 = z := ⟨_, rfl⟩
  obtain ⟨hi, ehi⟩ : ∃ z, half st.data.toList n0 xs 0 = z := ⟨_, rfl⟩
  unfold nof at hv
  rw [elo, ehi] at hv
  have HLO := hid (elo ▸ half_lt _ _ _ _ : lo < 2 ^ 256)
  have HHI := hid (ehi ▸ half_lt _ _ _ _ : hi < 2 ^ 256)
  have ELO := hid elo
  have EHI := hid ehi
  have HM := hid hm
  have HN := hid hn
  have HL := hid hL
  have HS := hid hs
  have HC := hid hc
  have H0A := hid h0
  have HV := hid hv
  have HE := hid he
  have HR0 := hid hR
  have HK0 := hid hK
  clear elo ehi hm hn hL hs hc h0 hv he hR hK
  obtain ⟨b1, b2, b3⟩ := num_boxes w m (.string st) (.slice a0 n0 c0)
  have H0 := hid b1
  have HCA := hid b2
  have HCP := hid b3
  clear b1 b2 b3
  have DZ := hid (show w.heap.size ≤ w.heap.size + 1 + 1 + 1 by omega)
  have DN := hid (show w.heap.size ≠ w.heap.size + 1 + 1 + 1 by omega)
  go_enter Tryd.func34, Tryd.ntmps34
  go_upto_region 2 with fail
  generalize (((w.alloc (.cells (cls m) 26)).alloc (.cells #[.string st] 9)).alloc (.cells #[.slice a0 n0 c0] 69)).alloc (.cells #[.int .u64 0, .int .u64 0, .int .u64 0, .int .u64 0] 26) = w0 at *
  generalize w.heap.size + 1 + 1 + 1 = g_z at *
  generalize w.heap.size + 1 + 1 = g_p at *
  generalize w.heap.size + 1 = g_s at *
  generalize hzg_a : w.heap.size = g_a at *
  have HR := hid ((on_rws HR0.out) _ H0.out.1)
  have HK := hid ((on_kt HK0.out) _ H0.out.1)
  clear HR0 HK0
  have hs := (show Env w0 [(g_a, m), (g_z, 0)] w0 from ⟨Below.refl _ _, H0.out.2⟩).drew
  refine wp_region_noPanic ?_
  refine Goes.region (fun (_ : Array Bool) (w' : World) => (w'.cell? ⟨g_a, 0, none⟩ = some (.int .u64 (wd (m) 0 : Int)) ∧ w'.cell? ⟨g_a, 1, none⟩ = some (.int .u64 (wd (m) 1 : Int)) ∧ w'.cell? ⟨g_a, 2, none⟩ = some (.int .u64 (wd (m) 2 : Int)) ∧ w'.cell? ⟨g_a, 3, none⟩ = some (.int .u64 (wd (m) 3 : Int)))) (by kernel_rfl) ?_
  generalize w0.drew = wd at *
  refine Goes.take (i := 0) (o := ⟨some 10, _, _, _, _, _⟩) (v := ?_) [] rfl (by kernel_rfl) (by kernel_rfl) (by kernel_rfl) (fun _ _ _ h => h) (by kernel_rfl) (fun L u h => h) (Or.inl ⟨by rfl, ?_⟩) (Env.cell hs g_a m (by simp)) ?_
  rotate_left
  · intro u hY; go_simp; try with_reducible rfl
  try simp only [putz]
  refine Goes.take (i := 2) (o := ⟨some 12, _, _, _, _, _⟩) (v := ?_) [] rfl (by kernel_rfl) (by kernel_rfl) (by kernel_rfl) (fun _ _ _ h => h) (by kernel_rfl) (fun L u h => h) (Or.inl ⟨by rfl, ?_⟩) (Env.cell hs g_a m (by simp)) ?_
  rotate_left
  · intro u hY; go_simp; try with_reducible rfl
  try simp only [putz]
  refine Goes.take (i := 4) (o := ⟨some 14, _, _, _, _, _⟩) (v := ?_) [] rfl (by kernel_rfl) (by kernel_rfl) (by kernel_rfl) (fun _ _ _ h => h) (by kernel_rfl) (fun L u h => h) (Or.inl ⟨by rfl, ?_⟩) (Env.cell hs g_a m (by simp)) ?_
  rotate_left
  · rintro u ⟨up, -, hX⟩; (try dsimp only at hX); obtain ⟨x0, x1, x2, x3⟩ := hX; go_simp; try with_reducible rfl
  try simp only [putz]
  refine Goes.one (i := 1) (o := ⟨some 11, _, _, _, _, _⟩) (by kernel_rfl) rfl (fun K hK => ?_)
  go_simp
  with_reducible refine (half_k st a0 n0 c0 A L C xs g_s g_p 1 1 lo rfl ELO.out HR.out HK.out HN.out HL.out HS.out HC.out H0A.out HCA.out HCP.out hs).mono ?_
  rintro e1 wn1 ⟨rfl, hs1⟩
  clear hs
  have hs := hs1
  clear hs1
  go_wp2_with fail
  refine hK.out _ _ (Env.cell hs g_a m (by simp)) ?_
  clear hK K
  try simp only [putz]
  refine Goes.one (i := 3) (o := ⟨some 13, _, _, _, _, _⟩) (by kernel_rfl) rfl (fun K hK => ?_)
  go_simp
  with_reducible refine (half_k st a0 n0 c0 A L C xs g_s g_p 0 0 hi rfl EHI.out HR.out HK.out HN.out HL.out HS.out HC.out H0A.out HCA.out HCP.out hs).mono ?_
  rintro e1 wn2 ⟨rfl, hs1⟩
  clear hs
  have hs := hs1
  clear hs1
  go_wp2_with fail
  refine hK.out _ _ (Env.cell hs g_a m (by simp)) ?_
  clear hK K
  try simp only [putz]
  refine Goes.one (i := 5) (o := ⟨some 15, _, _, _, _, _⟩) (by kernel_rfl) rfl (fun K hK => ?_)
  go_simp
  with_reducible refine (wide_both lo hi m s HLO.out HHI.out HM.out HV.out e HE.out hs).mono ?_
  rintro e1 wn3 ⟨rfl, hs1⟩
  clear hs
  have hs := hs1
  clear hs1
  go_wp2_with fail
  refine hK.out _ _ (Env.cell hs g_a m (by simp)) ?_
  clear hK K
  try simp only [putz]
  refine Goes.take (i := 6) (o := ⟨some 16, _, _, _, _, _⟩) (v := ?_) [] rfl (by kernel_rfl) (by kernel_rfl) (by kernel_rfl) (fun _ _ _ h => h) (by kernel_rfl) (fun L u h => h) (Or.inl ⟨by rfl, ?_⟩) (Env.cell hs g_a m (by simp)) ?_
  rotate_left
  · intro u hY; go_simp; try with_reducible rfl
  try simp only [putz]
  refine Goes.take (i := 7) (o := ⟨some 17, _, _, _, _, _⟩) (v := ?_) [] rfl (by kernel_rfl) (by kernel_rfl) (by kernel_rfl) (fun _ _ _ h => h) (by kernel_rfl) (fun L u h => h) (Or.inl ⟨by rfl, ?_⟩) (Env.cell hs g_a m (by simp)) ?_
  rotate_left
  · intro u hY; go_simp; try with_reducible rfl
  try simp only [putz]
  refine Goes.one (i := 8) (o := ⟨none, _, _, _, _, _⟩) (by kernel_rfl) rfl (fun K hK => ?_)
  have HW := hid (H0.out.on hs.1)
  obtain ⟨z0, z1, z2, z3⟩ := HW.out.cell g_z 0 (by simp)
  have zl := HW.out.lt g_z 0 (by simp)
  have zf := HW.out.frozen g_z 0 (by simp)
  have HZ := hid (HW.out.set g_z 0 s [(g_a, m)] (by simp) (by rw [hzg_a]; exact DZ.out) (by simp; exact DN.out))
  go_simp
  refine hK.out _ _ (Env.cell HZ.out g_a m (by simp)) ?_
  clear hK K z0 z1 z2 z3 zl zf
  have hs := HZ.out
  try simp only [putz]
  refine Goes.take (i := 9) (o := ⟨some 7, _, _, _, _, _⟩) (v := ?_) [] rfl (by kernel_rfl) (by kernel_rfl) (by kernel_rfl) (fun _ _ _ h => h) (by kernel_rfl) (fun L u h => h) (Or.inl ⟨by rfl, ?_⟩) (Env.cell hs g_a m (by simp)) ?_
  rotate_left
  · intro u hY; go_simp; try with_reducible rfl
  try simp only [putz]
  refine Goes.done (by kernel_rfl) ?_ _
  refine NoPanic.normal ?_
  go_wp2
  try rw [Exit.noGoto_ret]
  obtain ⟨k0, k1, k2, k3⟩ := HZ.out.cell g_z s (by simp)
  exact bodyPost_ret (v := .tuple #[num s, .int .i64 e]) (by simp [results, Tryd.results34, go_sem, k0, k1, k2, k3]) rfl ⟨rfl, HZ.out.1⟩
end Go.Proofs.YtcijnoapjicliaaDoor

/-
  burrowlaw03.DividesHalved, walked: it answers true at any two long numbers and any byte. Conditions: the library's table holds what its text lays.
-/
import Derived.Test.YtmeofgnmmbcklaaDoorAlive
import Derived.Test.YtmeofgnmmbcklaaDoorHdb
import Derived.Test.YtmeofgnmmbcklaaDoorOrd
namespace Go.Proofs.YtmeofgnmmbcklaaDoor
open Go.RowKit
set_option linter.unusedVariables false

set_option maxRecDepth 100000 in
set_option maxHeartbeats 16000000 in
theorem halved_zero (a b n : Nat) (w : World) (ha : a < 2 ^ 256) (hb : b < 2 ^ 256) (hn : n < 256) (hy : b / 2 ^ (64 - n % 64) = 0) (hT : Tab w) : Calls Tryd.prog 5 #[num a, num b, .int .u8 (n : Int)] w fun e w' => e = .returned (.bool true) ∧ Below w.heap.size w w' := by
  have HT := hid hT
  have HA := hid ha
  have HB := hid hb
  have hk : n % 64 < 64 := Nat.mod_lt _ (by decide)
  have w1 : IntKind.i64.wrap (n : Int) = (n : Int) := IntWalk.i64_in _ (by omega)
  have wr : Int.tmod (n : Int) 64 = ((n % 64 : Nat) : Int) := by rw [Int.tmod_eq_emod_of_nonneg (by omega)]; omega
  have wr2 : (n : Int) % 64 = ((n % 64 : Nat) : Int) := by omega
  obtain ⟨k, ek⟩ : ∃ k, n % 64 = k := ⟨_, rfl⟩
  rw [ek] at hk wr wr2 hy
  have w1k : IntKind.i64.wrap (k : Int) = (k : Int) := IntWalk.i64_in _ (by omega)
  have w6 : IntKind.i64.wrap (64 - (k : Int)) = 64 - (k : Int) := IntWalk.i64_in _ (by omega)
  have w7 : IntKind.i64.wrap ((k : Int) - 64) = (k : Int) - 64 := IntWalk.i64_in _ (by omega)
  have HK := hid hk
  have hx : shf a ((k : Int) - 64) = a / 2 ^ (64 - k) := by rw [show ((k : Int) - 64) = -((64 - k : Nat) : Int) by omega, shf_down _ _ ha]
  have hyy : shf b ((k : Int) - 64) = b / 2 ^ (64 - k) := by rw [show ((k : Int) - 64) = -((64 - k : Nat) : Int) by omega, shf_down _ _ hb]
  have hxl : a / 2 ^ (64 - k) < 2 ^ 256 := Nat.lt_of_le_of_lt (Nat.div_le_self _ _) ha
  have hyl : b / 2 ^ (64 - k) < 2 ^ 256 := Nat.lt_of_le_of_lt (Nat.div_le_self _ _) hb
  obtain ⟨x, ex⟩ : ∃ x, a / 2 ^ (64 - k) = x := ⟨_, rfl⟩
  rw [ex] at hx
  rw [hy] at hyy
  have EX := hid hx
  have EY := hid hyy
  have q0 := eq_yes 0 0 rfl
  clear hT ha hb hk ek hx hyy hxl hyl ex hy hn
  have H0 := hid (((Env.refl w).new2 a b))
  go_enter Tryd.func5, Tryd.ntmps5
  go_wp2_with fail
  generalize (w.alloc (.cells (cls a) 24)).alloc (.cells (cls b) 24) = w0 at *
  generalize w.heap.size + 1 = g_b at *
  generalize w.heap.size = g_a at *
  refine (shift_at a x ((k : Int) - 64) H0.out HA.out (by have := HK.out; omega) (by have := HK.out; omega) EX.out).mono ?_
  rintro e w1 ⟨rfl, h⟩
  have H1 := hid h
  clear h H0
  obtain ⟨c0x1a, c0x1b, c0x1c, c0x1d⟩ := H1.out.cell (g_b) (b) (by simp)
  have c0x1l := H1.out.lt (g_b) (b) (by simp)
  have c0x1m := Nat.le_of_lt c0x1l
  go_wp2_with fail
  clear c0x1a c0x1b c0x1c c0x1d c0x1l c0x1m
  have H1b := hid (H1.out.new x)
  clear H1
  generalize w1.alloc (.cells (cls x) 24) = w1b at *
  generalize w1.heap.size = g8 at *
  refine (shift_at b 0 ((k : Int) - 64) H1b.out HB.out (by have := HK.out; omega) (by have := HK.out; omega) EY.out).mono ?_
  rintro e w2 ⟨rfl, h⟩
  have H2 := hid h
  clear h H1b
  go_upto_region 4 with fail
  have H2b := hid (H2.out.new 0)
  clear H2
  generalize w2.alloc (.cells (cls 0) 24) = w2b at *
  generalize w2.heap.size = g9 at *
  obtain ⟨c0x2a, c0x2b, c0x2c, c0x2d⟩ := H2b.out.cell (g9) (0) (by simp)
  have c0x2l := H2b.out.lt (g9) (0) (by simp)
  have c0x2m := Nat.le_of_lt c0x2l
  have hs := H2b.out.drew
  go_region_held3 (fun w' => (w'.cell? ⟨g9, 0, none⟩ = some (.int .u64 (wd (0) 0 : Int)) ∧ w'.cell? ⟨g9, 1, none⟩ = some (.int .u64 (wd (0) 1 : Int)) ∧ w'.cell? ⟨g9, 2, none⟩ = some (.int .u64 (wd (0) 2 : Int)) ∧ w'.cell? ⟨g9, 3, none⟩ = some (.int .u64 (wd (0) 3 : Int)))) (exact Env.cell (by assumption) _ _ (by simp)) (first | ((go_at_call 21); (with_reducible refine (none_at (by assumption)).mono ?_); rintro e wn ⟨rfl, hs⟩))
  have H3 := hid hs
  clear hs H2b
  clear c0x2a c0x2b c0x2c c0x2d c0x2l c0x2m
  go_wp2_with fail
  refine (alive_at H3.out HT.out).mono ?_
  rintro e w4 ⟨rfl, h⟩
  have H4 := hid h
  clear h H3
  go_wp2
  go_ret
  exact ⟨rfl, H4.out.1⟩

set_option maxRecDepth 100000 in
set_option maxHeartbeats 16000000 in
theorem halved_some (a b n : Nat) (w : World) (ha : a < 2 ^ 256) (hb : b < 2 ^ 256) (hn : n < 256) (h0 : b / 2 ^ (64 - n % 64) ≠ 0) (hT : Tab w) : Calls Tryd.prog 5 #[num a, num b, .int .u8 (n : Int)] w fun e w' => e = .returned (.bool true) ∧ Below w.heap.size w w' := by
  have HT := hid hT
  have HA := hid ha
  have HB := hid hb
  have hk : n % 64 < 64 := Nat.mod_lt _ (by decide)
  have w1 : IntKind.i64.wrap (n : Int) = (n : Int) := IntWalk.i64_in _ (by omega)
  have wr : Int.tmod (n : Int) 64 = ((n % 64 : Nat) : Int) := by rw [Int.tmod_eq_emod_of_nonneg (by omega)]; omega
  have wr2 : (n : Int) % 64 = ((n % 64 : Nat) : Int) := by omega
  obtain ⟨k, ek⟩ : ∃ k, n % 64 = k := ⟨_, rfl⟩
  rw [ek] at hk wr wr2 h0
  have w1k : IntKind.i64.wrap (k : Int) = (k : Int) := IntWalk.i64_in _ (by omega)
  have w6 : IntKind.i64.wrap (64 - (k : Int)) = 64 - (k : Int) := IntWalk.i64_in _ (by omega)
  have w7 : IntKind.i64.wrap ((k : Int) - 64) = (k : Int) - 64 := IntWalk.i64_in _ (by omega)
  have HK := hid hk
  have hx : shf a ((k : Int) - 64) = a / 2 ^ (64 - k) := by rw [show ((k : Int) - 64) = -((64 - k : Nat) : Int) by omega, shf_down _ _ ha]
  have hyy : shf b ((k : Int) - 64) = b / 2 ^ (64 - k) := by rw [show ((k : Int) - 64) = -((64 - k : Nat) : Int) by omega, shf_down _ _ hb]
  have hxl : a / 2 ^ (64 - k) < 2 ^ 256 := Nat.lt_of_le_of_lt (Nat.div_le_self _ _) ha
  have hyl : b / 2 ^ (64 - k) < 2 ^ 256 := Nat.lt_of_le_of_lt (Nat.div_le_self _ _) hb
  have qy := eq_no (b / 2 ^ (64 - k)) 0 hyl (by decide) h0
  have back : ∀ z, z < 2 ^ 256 → shf (z / 2 ^ (64 - k)) (64 - (k : Int)) = z / 2 ^ (64 - k) * 2 ^ (64 - k) ∧ z / 2 ^ (64 - k) * 2 ^ (64 - k) < 2 ^ 256 := fun z hz => by
    have hl : z / 2 ^ (64 - k) * 2 ^ (64 - k) < 2 ^ 256 := Nat.lt_of_le_of_lt (Nat.div_mul_le_self _ _) hz
    exact ⟨by rw [show (64 - (k : Int)) = ((64 - k : Nat) : Int) by omega, shf_up]; exact Nat.mod_eq_of_lt hl, hl⟩
  obtain ⟨bx1, bx2⟩ := back a ha
  obtain ⟨by1, by2⟩ := back b hb
  obtain ⟨u1, u2⟩ := div_up (a / 2 ^ (64 - k)) (b / 2 ^ (64 - k)) (64 - k)
  have hrl : a / 2 ^ (64 - k) % (b / 2 ^ (64 - k)) ≤ a / 2 ^ (64 - k) := Nat.mod_le _ _
  have hs : shf (a / 2 ^ (64 - k) % (b / 2 ^ (64 - k))) (64 - (k : Int)) = a / 2 ^ (64 - k) % (b / 2 ^ (64 - k)) * 2 ^ (64 - k) := by
    rw [show (64 - (k : Int)) = ((64 - k : Nat) : Int) by omega, shf_up]
    exact Nat.mod_eq_of_lt (Nat.lt_of_le_of_lt (Nat.mul_le_mul_right _ hrl) bx2)
  have y20 : b / 2 ^ (64 - k) * 2 ^ (64 - k) ≠ 0 := by have := Nat.mul_pos (Nat.pos_of_ne_zero h0) (Nat.two_pow_pos (64 - k)); omega
  clear back
  obtain ⟨x, ex⟩ : ∃ z, a / 2 ^ (64 - k) = z := ⟨_, rfl⟩
  simp only [ex] at hx hyy hxl hyl h0 qy bx1 bx2 by1 by2 u1 u2 hrl hs y20
  have Ex := hid ex
  obtain ⟨y, ey⟩ : ∃ z, b / 2 ^ (64 - k) = z := ⟨_, rfl⟩
  simp only [ey] at hx hyy hxl hyl h0 qy bx1 bx2 by1 by2 u1 u2 hrl hs y20
  have Ey := hid ey
  obtain ⟨x2, ex2⟩ : ∃ z, x * 2 ^ (64 - k) = z := ⟨_, rfl⟩
  simp only [ex2] at hx hyy hxl hyl h0 qy bx1 bx2 by1 by2 u1 u2 hrl hs y20
  have Ex2 := hid ex2
  obtain ⟨y2, ey2⟩ : ∃ z, y * 2 ^ (64 - k) = z := ⟨_, rfl⟩
  simp only [ey2] at hx hyy hxl hyl h0 qy bx1 bx2 by1 by2 u1 u2 hrl hs y20
  have Ey2 := hid ey2
  obtain ⟨q, eq⟩ : ∃ z, x / y = z := ⟨_, rfl⟩
  simp only [eq] at hx hyy hxl hyl h0 qy bx1 bx2 by1 by2 u1 u2 hrl hs y20
  have Eq := hid eq
  obtain ⟨r, er⟩ : ∃ z, x % y = z := ⟨_, rfl⟩
  simp only [er] at hx hyy hxl hyl h0 qy bx1 bx2 by1 by2 u1 u2 hrl hs y20
  have Er := hid er
  obtain ⟨t, et⟩ : ∃ z, r * 2 ^ (64 - k) = z := ⟨_, rfl⟩
  simp only [et] at hx hyy hxl hyl h0 qy bx1 bx2 by1 by2 u1 u2 hrl hs y20
  have Et := hid et
  have EX := hid hx
  have EY := hid hyy
  have XL := hid hxl
  have YL := hid hyl
  have Y0 := hid h0
  have X2 := hid bx1
  have X2L := hid bx2
  have Y2 := hid by1
  have Y2L := hid by2
  have U1 := hid u1
  have U2 := hid u2
  have ES := hid hs
  have Y20 := hid y20
  have RL : Hid (r < 2 ^ 256) := hid (Nat.lt_of_le_of_lt hrl hxl)
  have qq := eq_yes q q rfl
  have qt := eq_yes t t rfl
  clear hT ha hb hk ek hx hyy hxl hyl h0 bx1 bx2 by1 by2 u1 u2 hrl hs y20 ex ey ex2 ey2 eq er et hn
  have H0 := hid (((Env.refl w).new2 a b))
  go_enter Tryd.func5, Tryd.ntmps5
  go_wp2_with fail
  generalize (w.alloc (.cells (cls a) 24)).alloc (.cells (cls b) 24) = w0 at *
  generalize w.heap.size + 1 = g_b at *
  generalize w.heap.size = g_a at *
  refine (shift_at a x ((k : Int) - 64) H0.out HA.out (by have := HK.out; omega) (by have := HK.out; omega) EX.out).mono ?_
  rintro e w1 ⟨rfl, h⟩
  have H1 := hid h
  clear h H0
  obtain ⟨c0x1a, c0x1b, c0x1c, c0x1d⟩ := H1.out.cell (g_b) (b) (by simp)
  have c0x1l := H1.out.lt (g_b) (b) (by simp)
  have c0x1m := Nat.le_of_lt c0x1l
  go_wp2_with fail
  clear c0x1a c0x1b c0x1c c0x1d c0x1l c0x1m
  have H1b := hid (H1.out.new x)
  clear H1
  generalize w1.alloc (.cells (cls x) 24) = w1b at *
  generalize w1.heap.size = g8 at *
  refine (shift_at b y ((k : Int) - 64) H1b.out HB.out (by have := HK.out; omega) (by have := HK.out; omega) EY.out).mono ?_
  rintro e w2 ⟨rfl, h⟩
  have H2 := hid h
  clear h H1b
  go_upto_region 4 with fail
  have H2b := hid (H2.out.new y)
  clear H2
  generalize w2.alloc (.cells (cls y) 24) = w2b at *
  generalize w2.heap.size = g9 at *
  obtain ⟨c0x2a, c0x2b, c0x2c, c0x2d⟩ := H2b.out.cell (g9) (y) (by simp)
  have c0x2l := H2b.out.lt (g9) (y) (by simp)
  have c0x2m := Nat.le_of_lt c0x2l
  have hs := H2b.out.drew
  go_region_held3 (fun w' => (w'.cell? ⟨g9, 0, none⟩ = some (.int .u64 (wd (y) 0 : Int)) ∧ w'.cell? ⟨g9, 1, none⟩ = some (.int .u64 (wd (y) 1 : Int)) ∧ w'.cell? ⟨g9, 2, none⟩ = some (.int .u64 (wd (y) 2 : Int)) ∧ w'.cell? ⟨g9, 3, none⟩ = some (.int .u64 (wd (y) 3 : Int)))) (exact Env.cell (by assumption) _ _ (by simp)) (first | ((go_at_call 21); (with_reducible refine (none_at (by assumption)).mono ?_); rintro e wn ⟨rfl, hs⟩))
  have H3 := hid hs
  clear hs H2b
  clear c0x2a c0x2b c0x2c c0x2d c0x2l c0x2m
  obtain ⟨c0x3a, c0x3b, c0x3c, c0x3d⟩ := H3.out.cell (g8) (x) (by simp)
  have c0x3l := H3.out.lt (g8) (x) (by simp)
  have c0x3m := Nat.le_of_lt c0x3l
  obtain ⟨c6x3a, c6x3b, c6x3c, c6x3d⟩ := H3.out.cell (g9) (y) (by simp)
  have c6x3l := H3.out.lt (g9) (y) (by simp)
  have c6x3m := Nat.le_of_lt c6x3l
  go_wp2_with fail
  clear c0x3a c0x3b c0x3c c0x3d c0x3l c0x3m c6x3a c6x3b c6x3c c6x3d c6x3l c6x3m
  refine (div_at x y q r H3.out XL.out YL.out Y0.out Eq.out Er.out).mono ?_
  rintro e w4 ⟨rfl, h⟩
  have H4 := hid h
  clear h H3
  go_upto_region 7 with fail
  have H4b := hid (H4.out.new2 q r)
  clear H4
  generalize (w4.alloc (.cells (cls q) 24)).alloc (.cells (cls r) 24) = w4b at *
  generalize w4.heap.size + 1 = g10s at *
  generalize w4.heap.size = g10 at *
  go_upto_region 7 with fail
  go_cut [13, 14, 15] (fun s13 s14 s15 wx => ∃ g13 g14 : Nat, s13 = .pointer (some ⟨g13, 0, none⟩) ∧ s14 = .pointer (some ⟨g14, 0, none⟩) ∧ s15 = .int .i64 0 ∧ Hid (Env w [(g13, q), (g14, t), (g10s, r), (g10, q), (g9, y), (g8, x), (g_b, b), (g_a, a)] wx))
  case first =>
    have hs := H4b.out.drew
    refine wp_region_noPanic ?_
    refine Goes.region (fun (L : Array Bool) (w' : World) => (w'.cell? ⟨g8, 0, none⟩ = some (.int .u64 (wd (x) 0 : Int)) ∧ w'.cell? ⟨g8, 1, none⟩ = some (.int .u64 (wd (x) 1 : Int)) ∧ w'.cell? ⟨g8, 2, none⟩ = some (.int .u64 (wd (x) 2 : Int)) ∧ w'.cell? ⟨g8, 3, none⟩ = some (.int .u64 (wd (x) 3 : Int))) ∧ (w'.cell? ⟨g9, 0, none⟩ = some (.int .u64 (wd (y) 0 : Int)) ∧ w'.cell? ⟨g9, 1, none⟩ = some (.int .u64 (wd (y) 1 : Int)) ∧ w'.cell? ⟨g9, 2, none⟩ = some (.int .u64 (wd (y) 2 : Int)) ∧ w'.cell? ⟨g9, 3, none⟩ = some (.int .u64 (wd (y) 3 : Int)))) (by kernel_rfl) ?_
    generalize w4b.drew = wd at *
    refine Goes.take (i := 0) (o := { dst := some 39, op := _, type := _, pos := _, after := _, guard := _ }) (v := ?_) [] rfl (by kernel_rfl) (by kernel_rfl) (by kernel_rfl) (fun _ _ _ h => h) (by kernel_rfl) (fun L u h => h) (Or.inl ⟨by rfl, ?_⟩) (⟨Env.cell (hs) g8 (x) (by simp), Env.cell (hs) g9 (y) (by simp)⟩) ?_
    rotate_left
    · intro w hY; obtain ⟨up, hL⟩ := hY; have hX := hL.2.1; clear hL; (try dsimp only at hX); go_simp; try with_reducible rfl
    try simp only [Act.put, List.setIfInBounds_toArray, List.set_cons_zero, List.set_cons_succ]
    refine Goes.take (i := 1) (o := { dst := some 40, op := _, type := _, pos := _, after := _, guard := _ }) (v := ?_) [] rfl (by kernel_rfl) (by kernel_rfl) (by kernel_rfl) (fun _ _ _ h => h) (by kernel_rfl) (fun L u h => h) (Or.inl ⟨by rfl, ?_⟩) (⟨Env.cell (hs) g8 (x) (by simp), Env.cell (hs) g9 (y) (by simp)⟩) ?_
    rotate_left
    · intro w hY; go_simp; try with_reducible rfl
    try simp only [Act.put, List.setIfInBounds_toArray, List.set_cons_zero, List.set_cons_succ]
    refine Goes.take (i := 2) (o := { dst := some 41, op := _, type := _, pos := _, after := _, guard := _ }) (v := ?_) [] rfl (by kernel_rfl) (by kernel_rfl) (by kernel_rfl) (fun _ _ _ h => h) (by kernel_rfl) (fun L u h => h) (Or.inl ⟨by rfl, ?_⟩) (⟨Env.cell (hs) g8 (x) (by simp), Env.cell (hs) g9 (y) (by simp)⟩) ?_
    rotate_left
    · intro w hY; go_simp; try with_reducible rfl
    try simp only [Act.put, List.setIfInBounds_toArray, List.set_cons_zero, List.set_cons_succ]
    refine Goes.take (i := 4) (o := { dst := some 43, op := _, type := _, pos := _, after := _, guard := _ }) (v := ?_) [] rfl (by kernel_rfl) (by kernel_rfl) (by kernel_rfl) (fun _ _ _ h => h) (by kernel_rfl) (fun L u h => h) (Or.inl ⟨by rfl, ?_⟩) (⟨Env.cell (hs) g8 (x) (by simp), Env.cell (hs) g9 (y) (by simp)⟩) ?_
    rotate_left
    · intro w hY; obtain ⟨up, hL⟩ := hY; have hX := hL.2.2; clear hL; (try dsimp only at hX); go_simp; try with_reducible rfl
    try simp only [Act.put, List.setIfInBounds_toArray, List.set_cons_zero, List.set_cons_succ]
    refine Goes.take (i := 5) (o := { dst := some 44, op := _, type := _, pos := _, after := _, guard := _ }) (v := ?_) [] rfl (by kernel_rfl) (by kernel_rfl) (by kernel_rfl) (fun _ _ _ h => h) (by kernel_rfl) (fun L u h => h) (Or.inl ⟨by rfl, ?_⟩) (⟨Env.cell (hs) g8 (x) (by simp), Env.cell (hs) g9 (y) (by simp)⟩) ?_
    rotate_left
    · intro w hY; go_simp; try with_reducible rfl
    try simp only [Act.put, List.setIfInBounds_toArray, List.set_cons_zero, List.set_cons_succ]
    refine Goes.take (i := 6) (o := { dst := some 45, op := _, type := _, pos := _, after := _, guard := _ }) (v := ?_) [] rfl (by kernel_rfl) (by kernel_rfl) (by kernel_rfl) (fun _ _ _ h => h) (by kernel_rfl) (fun L u h => h) (Or.inl ⟨by rfl, ?_⟩) (⟨Env.cell (hs) g8 (x) (by simp), Env.cell (hs) g9 (y) (by simp)⟩) ?_
    rotate_left
    · intro w hY; go_simp; try with_reducible rfl
    try simp only [Act.put, List.setIfInBounds_toArray, List.set_cons_zero, List.set_cons_succ]
    refine Goes.three (i := 3) (j := 13) (k := 14) (o := { dst := some 42, op := _, type := _, pos := _, after := _, guard := _ }) (p := { dst := some 13, op := _, type := _, pos := _, after := _, guard := _ }) (q := { dst := some 14, op := _, type := _, pos := _, after := _, guard := _ }) (by kernel_rfl) rfl rfl rfl (fun K hK => ?_) (fun K hK => ?_) (fun K hK => ?_)
    · skip
      go_simp
      with_reducible refine (shift_at x x2 (64 - (k : Int)) hs XL.out (by have := HK.out; omega) (by have := HK.out; omega) X2.out).mono ?_
      rintro e wn1 ⟨rfl, hs1⟩
      go_wp2_with fail
      refine hK.out _ _ (⟨Env.cell (hs1) g8 (x) (by simp), Env.cell (hs1) g9 (y) (by simp)⟩) ?_
      clear hK K
      try simp only [Act.put, List.setIfInBounds_toArray, List.set_cons_zero, List.set_cons_succ]
      clear hs
      have hs := hs1
      clear hs1
      refine Goes.three (i := 7) (j := 13) (k := 14) (o := { dst := some 46, op := _, type := _, pos := _, after := _, guard := _ }) (p := { dst := some 13, op := _, type := _, pos := _, after := _, guard := _ }) (q := { dst := some 14, op := _, type := _, pos := _, after := _, guard := _ }) (by kernel_rfl) rfl rfl rfl (fun K hK => ?_) (fun K hK => ?_) (fun K hK => ?_)
      · skip
        go_simp
        with_reducible refine (shift_at y y2 (64 - (k : Int)) hs YL.out (by have := HK.out; omega) (by have := HK.out; omega) Y2.out).mono ?_
        rintro e wn2 ⟨rfl, hs2⟩
        go_wp2_with fail
        refine hK.out _ _ (⟨Env.cell (hs2) g8 (x) (by simp), Env.cell (hs2) g9 (y) (by simp)⟩) ?_
        clear hK K
        try simp only [Act.put, List.setIfInBounds_toArray, List.set_cons_zero, List.set_cons_succ]
        clear hs
        have hs := hs2
        clear hs2
        refine Goes.three (i := 8) (j := 13) (k := 14) (o := { dst := some 47, op := _, type := _, pos := _, after := _, guard := _ }) (p := { dst := some 13, op := _, type := _, pos := _, after := _, guard := _ }) (q := { dst := some 14, op := _, type := _, pos := _, after := _, guard := _ }) (by kernel_rfl) rfl rfl rfl (fun K hK => ?_) (fun K hK => ?_) (fun K hK => ?_)
        · skip
          go_simp
          with_reducible refine (div_at x2 y2 q t hs X2L.out Y2L.out Y20.out U1.out U2.out).mono ?_
          rintro e wn3 ⟨rfl, hs3⟩
          go_wp2_with fail
          refine hK.out _ _ (⟨Env.cell (hs3) g8 (x) (by simp), Env.cell (hs3) g9 (y) (by simp)⟩) ?_
          clear hK K
          try simp only [Act.put, List.setIfInBounds_toArray, List.set_cons_zero, List.set_cons_succ]
          clear hs
          have hs := hs3
          clear hs3
          refine Goes.take (i := 9) (o := { dst := some 38, op := _, type := _, pos := _, after := _, guard := _ }) (v := ?_) [] rfl (by kernel_rfl) (by kernel_rfl) (by kernel_rfl) (fun _ _ _ h => h) (by kernel_rfl) (fun L u h => h) (Or.inl ⟨by rfl, ?_⟩) (⟨Env.cell (hs) g8 (x) (by simp), Env.cell (hs) g9 (y) (by simp)⟩) ?_
          rotate_left
          · intro w hY; go_simp; try with_reducible rfl
          try simp only [Act.put, List.setIfInBounds_toArray, List.set_cons_zero, List.set_cons_succ]
          refine Goes.take (i := 10) (o := { dst := some 48, op := _, type := _, pos := _, after := _, guard := _ }) (v := ?_) [] rfl (by kernel_rfl) (by kernel_rfl) (by kernel_rfl) (fun _ _ _ h => h) (by kernel_rfl) (fun L u h => h) (Or.inl ⟨by rfl, ?_⟩) (⟨Env.cell (hs) g8 (x) (by simp), Env.cell (hs) g9 (y) (by simp)⟩) ?_
          rotate_left
          · intro w hY; go_simp; try with_reducible rfl
          try simp only [Act.put, List.setIfInBounds_toArray, List.set_cons_zero, List.set_cons_succ]
          refine Goes.take (i := 11) (o := { dst := some 49, op := _, type := _, pos := _, after := _, guard := _ }) (v := ?_) [] rfl (by kernel_rfl) (by kernel_rfl) (by kernel_rfl) (fun _ _ _ h => h) (by kernel_rfl) (fun L u h => h) (Or.inl ⟨by rfl, ?_⟩) (⟨Env.cell (hs) g8 (x) (by simp), Env.cell (hs) g9 (y) (by simp)⟩) ?_
          rotate_left
          · intro w hY; go_simp; try with_reducible rfl
          try simp only [Act.put, List.setIfInBounds_toArray, List.set_cons_zero, List.set_cons_succ]
          refine Goes.take (i := 12) (o := { dst := some 50, op := _, type := _, pos := _, after := _, guard := _ }) (v := ?_) [] rfl (by kernel_rfl) (by kernel_rfl) (by kernel_rfl) (fun _ _ _ h => h) (by kernel_rfl) (fun L u h => h) (Or.inl ⟨by rfl, ?_⟩) (⟨Env.cell (hs) g8 (x) (by simp), Env.cell (hs) g9 (y) (by simp)⟩) ?_
          rotate_left
          · intro w hY; go_simp; try with_reducible rfl
          try simp only [Act.put, List.setIfInBounds_toArray, List.set_cons_zero, List.set_cons_succ]
          refine Goes.two (i := 13) (j := 14) (o := { dst := some 13, op := _, type := _, pos := _, after := _, guard := _ }) (p := { dst := some 14, op := _, type := _, pos := _, after := _, guard := _ }) (by kernel_rfl) rfl rfl (fun K hK => ?_) (fun K hK => ?_)
          · skip
            go_simp
            refine hK.out _ _ (⟨Env.cell (hs.zero) g8 (x) (by simp), Env.cell (hs.zero) g9 (y) (by simp)⟩) ?_
            clear hK K
            try simp only [Act.put, List.setIfInBounds_toArray, List.set_cons_zero, List.set_cons_succ]
            have Fg13 := hid hs.fresh
            have hs4 := hs.zero
            clear hs
            generalize wn3.alloc (.cells #[.int .u64 0, .int .u64 0, .int .u64 0, .int .u64 0] 24) = wn4 at *
            generalize wn3.heap.size = g13 at *
            have hs := hs4
            clear hs4
            refine Goes.one (i := 14) (o := { dst := some 14, op := _, type := _, pos := _, after := _, guard := _ }) (by kernel_rfl) rfl (fun K hK => ?_)
            go_simp
            refine hK.out _ _ (⟨Env.cell (hs.zero) g8 (x) (by simp), Env.cell (hs.zero) g9 (y) (by simp)⟩) ?_
            clear hK K
            try simp only [Act.put, List.setIfInBounds_toArray, List.set_cons_zero, List.set_cons_succ]
            have Fg14 := hid hs.fresh
            have hs5 := hs.zero
            clear hs
            generalize wn4.alloc (.cells #[.int .u64 0, .int .u64 0, .int .u64 0, .int .u64 0] 24) = wn5 at *
            generalize wn4.heap.size = g14 at *
            have hs := hs5
            clear hs5
            refine Goes.one (i := 15) (o := { dst := none, op := _, type := _, pos := _, after := _, guard := _ }) (by kernel_rfl) rfl (fun K hK => ?_)
            obtain ⟨z0, z1, z2, z3⟩ := hs.cell g13 0 (by simp)
            have zl := hs.lt g13 0 (by simp)
            have zf := hs.frozen g13 0 (by simp)
            have hs6 := hs.set g13 0 (q) [(g14, 0), (g10s, r), (g10, q), (g9, y), (g8, x), (g_b, b), (g_a, a)] (by simp) Fg13.out.1 (fun p hp => by simp only [List.mem_cons, List.not_mem_nil, or_false] at hp; rcases hp with rfl | rfl | rfl | rfl | rfl | rfl | rfl <;> first | exact ⟨by simp, (Ne.symm (Fg14.out.2 (g13, 0) (by simp)))⟩ | exact ⟨by simp, (Fg13.out.2 (g10s, r) (by simp))⟩ | exact ⟨by simp, (Fg13.out.2 (g10, q) (by simp))⟩ | exact ⟨by simp, (Fg13.out.2 (g9, y) (by simp))⟩ | exact ⟨by simp, (Fg13.out.2 (g8, x) (by simp))⟩ | exact ⟨by simp, (Fg13.out.2 (g_b, b) (by simp))⟩ | exact ⟨by simp, (Fg13.out.2 (g_a, a) (by simp))⟩)
            go_simp
            refine hK.out _ _ (⟨Env.cell (hs6) g8 (x) (by simp), Env.cell (hs6) g9 (y) (by simp)⟩) ?_
            clear hK K
            try simp only [Act.put, List.setIfInBounds_toArray, List.set_cons_zero, List.set_cons_succ]
            clear hs z0 z1 z2 z3 zl zf
            change Goes _ _ _ _ _ _ _ _ (fil wn5 g13 (q))
            generalize fil wn5 g13 (q) = wn6 at *
            have hs := hs6
            clear hs6
            refine Goes.one (i := 16) (o := { dst := none, op := _, type := _, pos := _, after := _, guard := _ }) (by kernel_rfl) rfl (fun K hK => ?_)
            obtain ⟨z0, z1, z2, z3⟩ := hs.cell g14 0 (by simp)
            have zl := hs.lt g14 0 (by simp)
            have zf := hs.frozen g14 0 (by simp)
            have hs7 := hs.set g14 0 (t) [(g13, q), (g10s, r), (g10, q), (g9, y), (g8, x), (g_b, b), (g_a, a)] (by simp) Fg14.out.1 (fun p hp => by simp only [List.mem_cons, List.not_mem_nil, or_false] at hp; rcases hp with rfl | rfl | rfl | rfl | rfl | rfl | rfl <;> first | exact ⟨by simp, (Fg14.out.2 (g13, 0) (by simp))⟩ | exact ⟨by simp, (Fg14.out.2 (g10s, r) (by simp))⟩ | exact ⟨by simp, (Fg14.out.2 (g10, q) (by simp))⟩ | exact ⟨by simp, (Fg14.out.2 (g9, y) (by simp))⟩ | exact ⟨by simp, (Fg14.out.2 (g8, x) (by simp))⟩ | exact ⟨by simp, (Fg14.out.2 (g_b, b) (by simp))⟩ | exact ⟨by simp, (Fg14.out.2 (g_a, a) (by simp))⟩)
            go_simp
            refine hK.out _ _ (⟨Env.cell (hs7) g8 (x) (by simp), Env.cell (hs7) g9 (y) (by simp)⟩) ?_
            clear hK K
            try simp only [Act.put, List.setIfInBounds_toArray, List.set_cons_zero, List.set_cons_succ]
            clear hs z0 z1 z2 z3 zl zf
            change Goes _ _ _ _ _ _ _ _ (fil wn6 g14 (t))
            generalize fil wn6 g14 (t) = wn7 at *
            have hs := hs7
            clear hs7
            refine Goes.take (i := 17) (o := { dst := some 15, op := _, type := _, pos := _, after := _, guard := _ }) (v := ?_) [] rfl (by kernel_rfl) (by kernel_rfl) (by kernel_rfl) (fun _ _ _ h => h) (by kernel_rfl) (fun L u h => h) (Or.inl ⟨by rfl, ?_⟩) (⟨Env.cell (hs) g8 (x) (by simp), Env.cell (hs) g9 (y) (by simp)⟩) ?_
            rotate_left
            · intro w hY; go_simp; try with_reducible rfl
            try simp only [Act.put, List.setIfInBounds_toArray, List.set_cons_zero, List.set_cons_succ]
            refine Goes.done (by kernel_rfl) ?_ _
            refine NoPanic.normal ?_
            go_wp2_with fail
            go_meet
            exact ⟨_, _, rfl, rfl, rfl, hid (hs.perm (by simp))⟩
          · skip
            go_simp
            refine hK.out _ _ (⟨Env.cell (hs.zero) g8 (x) (by simp), Env.cell (hs.zero) g9 (y) (by simp)⟩) ?_
            clear hK K
            try simp only [Act.put, List.setIfInBounds_toArray, List.set_cons_zero, List.set_cons_succ]
            have Fg14 := hid hs.fresh
            have hs8 := hs.zero
            clear hs
            generalize wn3.alloc (.cells #[.int .u64 0, .int .u64 0, .int .u64 0, .int .u64 0] 24) = wn8 at *
            generalize wn3.heap.size = g14 at *
            have hs := hs8
            clear hs8
            refine Goes.one (i := 13) (o := { dst := some 13, op := _, type := _, pos := _, after := _, guard := _ }) (by kernel_rfl) rfl (fun K hK => ?_)
            go_simp
            refine hK.out _ _ (⟨Env.cell (hs.zero) g8 (x) (by simp), Env.cell (hs.zero) g9 (y) (by simp)⟩) ?_
            clear hK K
            try simp only [Act.put, List.setIfInBounds_toArray, List.set_cons_zero, List.set_cons_succ]
            have Fg13 := hid hs.fresh
            have hs9 := hs.zero
            clear hs
            generalize wn8.alloc (.cells #[.int .u64 0, .int .u64 0, .int .u64 0, .int .u64 0] 24) = wn9 at *
            generalize wn8.heap.size = g13 at *
            have hs := hs9
            clear hs9
            refine Goes.one (i := 15) (o := { dst := none, op := _, type := _, pos := _, after := _, guard := _ }) (by kernel_rfl) rfl (fun K hK => ?_)
            obtain ⟨z0, z1, z2, z3⟩ := hs.cell g13 0 (by simp)
            have zl := hs.lt g13 0 (by simp)
            have zf := hs.frozen g13 0 (by simp)
            have hs10 := hs.set g13 0 (q) [(g14, 0), (g10s, r), (g10, q), (g9, y), (g8, x), (g_b, b), (g_a, a)] (by simp) Fg13.out.1 (fun p hp => by simp only [List.mem_cons, List.not_mem_nil, or_false] at hp; rcases hp with rfl | rfl | rfl | rfl | rfl | rfl | rfl <;> first | exact ⟨by simp, (Fg13.out.2 (g14, 0) (by simp))⟩ | exact ⟨by simp, (Fg13.out.2 (g10s, r) (by simp))⟩ | exact ⟨by simp, (Fg13.out.2 (g10, q) (by simp))⟩ | exact ⟨by simp, (Fg13.out.2 (g9, y) (by simp))⟩ | exact ⟨by simp, (Fg13.out.2 (g8, x) (by simp))⟩ | exact ⟨by simp, (Fg13.out.2 (g_b, b) (by simp))⟩ | exact ⟨by simp, (Fg13.out.2 (g_a, a) (by simp))⟩)
            go_simp
            refine hK.out _ _ (⟨Env.cell (hs10) g8 (x) (by simp), Env.cell (hs10) g9 (y) (by simp)⟩) ?_
            clear hK K
            try simp only [Act.put, List.setIfInBounds_toArray, List.set_cons_zero, List.set_cons_succ]
            clear hs z0 z1 z2 z3 zl zf
            change Goes _ _ _ _ _ _ _ _ (fil wn9 g13 (q))
            generalize fil wn9 g13 (q) = wn10 at *
            have hs := hs10
            clear hs10
            refine Goes.one (i := 16) (o := { dst := none, op := _, type := _, pos := _, after := _, guard := _ }) (by kernel_rfl) rfl (fun K hK => ?_)
            obtain ⟨z0, z1, z2, z3⟩ := hs.cell g14 0 (by simp)
            have zl := hs.lt g14 0 (by simp)
            have zf := hs.frozen g14 0 (by simp)
            have hs11 := hs.set g14 0 (t) [(g13, q), (g10s, r), (g10, q), (g9, y), (g8, x), (g_b, b), (g_a, a)] (by simp) Fg14.out.1 (fun p hp => by simp only [List.mem_cons, List.not_mem_nil, or_false] at hp; rcases hp with rfl | rfl | rfl | rfl | rfl | rfl | rfl <;> first | exact ⟨by simp, (Ne.symm (Fg13.out.2 (g14, 0) (by simp)))⟩ | exact ⟨by simp, (Fg14.out.2 (g10s, r) (by simp))⟩ | exact ⟨by simp, (Fg14.out.2 (g10, q) (by simp))⟩ | exact ⟨by simp, (Fg14.out.2 (g9, y) (by simp))⟩ | exact ⟨by simp, (Fg14.out.2 (g8, x) (by simp))⟩ | exact ⟨by simp, (Fg14.out.2 (g_b, b) (by simp))⟩ | exact ⟨by simp, (Fg14.out.2 (g_a, a) (by simp))⟩)
            go_simp
            refine hK.out _ _ (⟨Env.cell (hs11) g8 (x) (by simp), Env.cell (hs11) g9 (y) (by simp)⟩) ?_
            clear hK K
            try simp only [Act.put, List.setIfInBounds_toArray, List.set_cons_zero, List.set_cons_succ]
            clear hs z0 z1 z2 z3 zl zf
            change Goes _ _ _ _ _ _ _ _ (fil wn10 g14 (t))
            generalize fil wn10 g14 (t) = wn11 at *
            have hs := hs11
            clear hs11
            refine Goes.take (i := 17) (o := { dst := some 15, op := _, type := _, pos := _, after := _, guard := _ }) (v := ?_) [] rfl (by kernel_rfl) (by kernel_rfl) (by kernel_rfl) (fun _ _ _ h => h) (by kernel_rfl) (fun L u h => h) (Or.inl ⟨by rfl, ?_⟩) (⟨Env.cell (hs) g8 (x) (by simp), Env.cell (hs) g9 (y) (by simp)⟩) ?_
            rotate_left
            · intro w hY; go_simp; try with_reducible rfl
            try simp only [Act.put, List.setIfInBounds_toArray, List.set_cons_zero, List.set_cons_succ]
            refine Goes.done (by kernel_rfl) ?_ _
            refine NoPanic.normal ?_
            go_wp2_with fail
            go_meet
            exact ⟨_, _, rfl, rfl, rfl, hid (hs.perm (by simp))⟩
        · skip
          go_simp
          refine hK.out _ _ (⟨Env.cell (hs.zero) g8 (x) (by simp), Env.cell (hs.zero) g9 (y) (by simp)⟩) ?_
          clear hK K
          try simp only [Act.put, List.setIfInBounds_toArray, List.set_cons_zero, List.set_cons_succ]
          have Fg13 := hid hs.fresh
          have hs12 := hs.zero
          clear hs
          generalize wn2.alloc (.cells #[.int .u64 0, .int .u64 0, .int .u64 0, .int .u64 0] 24) = wn12 at *
          generalize wn2.heap.size = g13 at *
          have hs := hs12
          clear hs12
          refine Goes.two (i := 8) (j := 14) (o := { dst := some 47, op := _, type := _, pos := _, after := _, guard := _ }) (p := { dst := some 14, op := _, type := _, pos := _, after := _, guard := _ }) (by kernel_rfl) rfl rfl (fun K hK => ?_) (fun K hK => ?_)
          · skip
            go_simp
            with_reducible refine (div_at x2 y2 q t hs X2L.out Y2L.out Y20.out U1.out U2.out).mono ?_
            rintro e wn13 ⟨rfl, hs13⟩
            go_wp2_with fail
            refine hK.out _ _ (⟨Env.cell (hs13) g8 (x) (by simp), Env.cell (hs13) g9 (y) (by simp)⟩) ?_
            clear hK K
            try simp only [Act.put, List.setIfInBounds_toArray, List.set_cons_zero, List.set_cons_succ]
            clear hs
            have hs := hs13
            clear hs13
            refine Goes.take (i := 9) (o := { dst := some 38, op := _, type := _, pos := _, after := _, guard := _ }) (v := ?_) [] rfl (by kernel_rfl) (by kernel_rfl) (by kernel_rfl) (fun _ _ _ h => h) (by kernel_rfl) (fun L u h => h) (Or.inl ⟨by rfl, ?_⟩) (⟨Env.cell (hs) g8 (x) (by simp), Env.cell (hs) g9 (y) (by simp)⟩) ?_
            rotate_left
            · intro w hY; go_simp; try with_reducible rfl
            try simp only [Act.put, List.setIfInBounds_toArray, List.set_cons_zero, List.set_cons_succ]
            refine Goes.take (i := 10) (o := { dst := some 48, op := _, type := _, pos := _, after := _, guard := _ }) (v := ?_) [] rfl (by kernel_rfl) (by kernel_rfl) (by kernel_rfl) (fun _ _ _ h => h) (by kernel_rfl) (fun L u h => h) (Or.inl ⟨by rfl, ?_⟩) (⟨Env.cell (hs) g8 (x) (by simp), Env.cell (hs) g9 (y) (by simp)⟩) ?_
            rotate_left
            · intro w hY; go_simp; try with_reducible rfl
            try simp only [Act.put, List.setIfInBounds_toArray, List.set_cons_zero, List.set_cons_succ]
            refine Goes.take (i := 11) (o := { dst := some 49, op := _, type := _, pos := _, after := _, guard := _ }) (v := ?_) [] rfl (by kernel_rfl) (by kernel_rfl) (by kernel_rfl) (fun _ _ _ h => h) (by kernel_rfl) (fun L u h => h) (Or.inl ⟨by rfl, ?_⟩) (⟨Env.cell (hs) g8 (x) (by simp), Env.cell (hs) g9 (y) (by simp)⟩) ?_
            rotate_left
            · intro w hY; go_simp; try with_reducible rfl
            try simp only [Act.put, List.setIfInBounds_toArray, List.set_cons_zero, List.set_cons_succ]
            refine Goes.take (i := 12) (o := { dst := some 50, op := _, type := _, pos := _, after := _, guard := _ }) (v := ?_) [] rfl (by kernel_rfl) (by kernel_rfl) (by kernel_rfl) (fun _ _ _ h => h) (by kernel_rfl) (fun L u h => h) (Or.inl ⟨by rfl, ?_⟩) (⟨Env.cell (hs) g8 (x) (by simp), Env.cell (hs) g9 (y) (by simp)⟩) ?_
            rotate_left
            · intro w hY; go_simp; try with_reducible rfl
            try simp only [Act.put, List.setIfInBounds_toArray, List.set_cons_zero, List.set_cons_succ]
            refine Goes.one (i := 14) (o := { dst := some 14, op := _, type := _, pos := _, after := _, guard := _ }) (by kernel_rfl) rfl (fun K hK => ?_)
            go_simp
            refine hK.out _ _ (⟨Env.cell (hs.zero) g8 (x) (by simp), Env.cell (hs.zero) g9 (y) (by simp)⟩) ?_
            clear hK K
            try simp only [Act.put, List.setIfInBounds_toArray, List.set_cons_zero, List.set_cons_succ]
            have Fg14 := hid hs.fresh
            have hs14 := hs.zero
            clear hs
            generalize wn13.alloc (.cells #[.int .u64 0, .int .u64 0, .int .u64 0, .int .u64 0] 24) = wn14 at *
            generalize wn13.heap.size = g14 at *
            have hs := hs14
            clear hs14
            refine Goes.one (i := 15) (o := { dst := none, op := _, type := _, pos := _, after := _, guard := _ }) (by kernel_rfl) rfl (fun K hK => ?_)
            obtain ⟨z0, z1, z2, z3⟩ := hs.cell g13 0 (by simp)
            have zl := hs.lt g13 0 (by simp)
            have zf := hs.frozen g13 0 (by simp)
            have hs15 := hs.set g13 0 (q) [(g14, 0), (g10s, r), (g10, q), (g9, y), (g8, x), (g_b, b), (g_a, a)] (by simp) Fg13.out.1 (fun p hp => by simp only [List.mem_cons, List.not_mem_nil, or_false] at hp; rcases hp with rfl | rfl | rfl | rfl | rfl | rfl | rfl <;> first | exact ⟨by simp, (Ne.symm (Fg14.out.2 (g13, 0) (by simp)))⟩ | exact ⟨by simp, (Fg13.out.2 (g10s, r) (by simp))⟩ | exact ⟨by simp, (Fg13.out.2 (g10, q) (by simp))⟩ | exact ⟨by simp, (Fg13.out.2 (g9, y) (by simp))⟩ | exact ⟨by simp, (Fg13.out.2 (g8, x) (by simp))⟩ | exact ⟨by simp, (Fg13.out.2 (g_b, b) (by simp))⟩ | exact ⟨by simp, (Fg13.out.2 (g_a, a) (by simp))⟩)
            go_simp
            refine hK.out _ _ (⟨Env.cell (hs15) g8 (x) (by simp), Env.cell (hs15) g9 (y) (by simp)⟩) ?_
            clear hK K
            try simp only [Act.put, List.setIfInBounds_toArray, List.set_cons_zero, List.set_cons_succ]
            clear hs z0 z1 z2 z3 zl zf
            change Goes _ _ _ _ _ _ _ _ (fil wn14 g13 (q))
            generalize fil wn14 g13 (q) = wn15 at *
            have hs := hs15
            clear hs15
            refine Goes.one (i := 16) (o := { dst := none, op := _, type := _, pos := _, after := _, guard := _ }) (by kernel_rfl) rfl (fun K hK => ?_)
            obtain ⟨z0, z1, z2, z3⟩ := hs.cell g14 0 (by simp)
            have zl := hs.lt g14 0 (by simp)
            have zf := hs.frozen g14 0 (by simp)
            have hs16 := hs.set g14 0 (t) [(g13, q), (g10s, r), (g10, q), (g9, y), (g8, x), (g_b, b), (g_a, a)] (by simp) Fg14.out.1 (fun p hp => by simp only [List.mem_cons, List.not_mem_nil, or_false] at hp; rcases hp with rfl | rfl | rfl | rfl | rfl | rfl | rfl <;> first | exact ⟨by simp, (Fg14.out.2 (g13, 0) (by simp))⟩ | exact ⟨by simp, (Fg14.out.2 (g10s, r) (by simp))⟩ | exact ⟨by simp, (Fg14.out.2 (g10, q) (by simp))⟩ | exact ⟨by simp, (Fg14.out.2 (g9, y) (by simp))⟩ | exact ⟨by simp, (Fg14.out.2 (g8, x) (by simp))⟩ | exact ⟨by simp, (Fg14.out.2 (g_b, b) (by simp))⟩ | exact ⟨by simp, (Fg14.out.2 (g_a, a) (by simp))⟩)
            go_simp
            refine hK.out _ _ (⟨Env.cell (hs16) g8 (x) (by simp), Env.cell (hs16) g9 (y) (by simp)⟩) ?_
            clear hK K
            try simp only [Act.put, List.setIfInBounds_toArray, List.set_cons_zero, List.set_cons_succ]
            clear hs z0 z1 z2 z3 zl zf
            change Goes _ _ _ _ _ _ _ _ (fil wn15 g14 (t))
            generalize fil wn15 g14 (t) = wn16 at *
            have hs := hs16
            clear hs16
            refine Goes.take (i := 17) (o := { dst := some 15, op := _, type := _, pos := _, after := _, guard := _ }) (v := ?_) [] rfl (by kernel_rfl) (by kernel_rfl) (by kernel_rfl) (fun _ _ _ h => h) (by kernel_rfl) (fun L u h => h) (Or.inl ⟨by rfl, ?_⟩) (⟨Env.cell (hs) g8 (x) (by simp), Env.cell (hs) g9 (y) (by simp)⟩) ?_
            rotate_left
            · intro w hY; go_simp; try with_reducible rfl
            try simp only [Act.put, List.setIfInBounds_toArray, List.set_cons_zero, List.set_cons_succ]
            refine Goes.done (by kernel_rfl) ?_ _
            refine NoPanic.normal ?_
            go_wp2_with fail
            go_meet
            exact ⟨_, _, rfl, rfl, rfl, hid (hs.perm (by simp))⟩
          · skip
            go_simp
            refine hK.out _ _ (⟨Env.cell (hs.zero) g8 (x) (by simp), Env.cell (hs.zero) g9 (y) (by simp)⟩) ?_
            clear hK K
            try simp only [Act.put, List.setIfInBounds_toArray, List.set_cons_zero, List.set_cons_succ]
            have Fg14 := hid hs.fresh
            have hs17 := hs.zero
            clear hs
            generalize wn12.alloc (.cells #[.int .u64 0, .int .u64 0, .int .u64 0, .int .u64 0] 24) = wn17 at *
            generalize wn12.heap.size = g14 at *
            have hs := hs17
            clear hs17
            refine Goes.one (i := 8) (o := { dst := some 47, op := _, type := _, pos := _, after := _, guard := _ }) (by kernel_rfl) rfl (fun K hK => ?_)
            go_simp
            with_reducible refine (div_at x2 y2 q t hs X2L.out Y2L.out Y20.out U1.out U2.out).mono ?_
            rintro e wn18 ⟨rfl, hs18⟩
            go_wp2_with fail
            refine hK.out _ _ (⟨Env.cell (hs18) g8 (x) (by simp), Env.cell (hs18) g9 (y) (by simp)⟩) ?_
            clear hK K
            try simp only [Act.put, List.setIfInBounds_toArray, List.set_cons_zero, List.set_cons_succ]
            clear hs
            have hs := hs18
            clear hs18
            refine Goes.take (i := 9) (o := { dst := some 38, op := _, type := _, pos := _, after := _, guard := _ }) (v := ?_) [] rfl (by kernel_rfl) (by kernel_rfl) (by kernel_rfl) (fun _ _ _ h => h) (by kernel_rfl) (fun L u h => h) (Or.inl ⟨by rfl, ?_⟩) (⟨Env.cell (hs) g8 (x) (by simp), Env.cell (hs) g9 (y) (by simp)⟩) ?_
            rotate_left
            · intro w hY; go_simp; try with_reducible rfl
            try simp only [Act.put, List.setIfInBounds_toArray, List.set_cons_zero, List.set_cons_succ]
            refine Goes.take (i := 10) (o := { dst := some 48, op := _, type := _, pos := _, after := _, guard := _ }) (v := ?_) [] rfl (by kernel_rfl) (by kernel_rfl) (by kernel_rfl) (fun _ _ _ h => h) (by kernel_rfl) (fun L u h => h) (Or.inl ⟨by rfl, ?_⟩) (⟨Env.cell (hs) g8 (x) (by simp), Env.cell (hs) g9 (y) (by simp)⟩) ?_
            rotate_left
            · intro w hY; go_simp; try with_reducible rfl
            try simp only [Act.put, List.setIfInBounds_toArray, List.set_cons_zero, List.set_cons_succ]
            refine Goes.take (i := 11) (o := { dst := some 49, op := _, type := _, pos := _, after := _, guard := _ }) (v := ?_) [] rfl (by kernel_rfl) (by kernel_rfl) (by kernel_rfl) (fun _ _ _ h => h) (by kernel_rfl) (fun L u h => h) (Or.inl ⟨by rfl, ?_⟩) (⟨Env.cell (hs) g8 (x) (by simp), Env.cell (hs) g9 (y) (by simp)⟩) ?_
            rotate_left
            · intro w hY; go_simp; try with_reducible rfl
            try simp only [Act.put, List.setIfInBounds_toArray, List.set_cons_zero, List.set_cons_succ]
            refine Goes.take (i := 12) (o := { dst := some 50, op := _, type := _, pos := _, after := _, guard := _ }) (v := ?_) [] rfl (by kernel_rfl) (by kernel_rfl) (by kernel_rfl) (fun _ _ _ h => h) (by kernel_rfl) (fun L u h => h) (Or.inl ⟨by rfl, ?_⟩) (⟨Env.cell (hs) g8 (x) (by simp), Env.cell (hs) g9 (y) (by simp)⟩) ?_
            rotate_left
            · intro w hY; go_simp; try with_reducible rfl
            try simp only [Act.put, List.setIfInBounds_toArray, List.set_cons_zero, List.set_cons_succ]
            refine Goes.one (i := 15) (o := { dst := none, op := _, type := _, pos := _, after := _, guard := _ }) (by kernel_rfl) rfl (fun K hK => ?_)
            obtain ⟨z0, z1, z2, z3⟩ := hs.cell g13 0 (by simp)
            have zl := hs.lt g13 0 (by simp)
            have zf := hs.frozen g13 0 (by simp)
            have hs19 := hs.set g13 0 (q) [(g14, 0), (g10s, r), (g10, q), (g9, y), (g8, x), (g_b, b), (g_a, a)] (by simp) Fg13.out.1 (fun p hp => by simp only [List.mem_cons, List.not_mem_nil, or_false] at hp; rcases hp with rfl | rfl | rfl | rfl | rfl | rfl | rfl <;> first | exact ⟨by simp, (Ne.symm (Fg14.out.2 (g13, 0) (by simp)))⟩ | exact ⟨by simp, (Fg13.out.2 (g10s, r) (by simp))⟩ | exact ⟨by simp, (Fg13.out.2 (g10, q) (by simp))⟩ | exact ⟨by simp, (Fg13.out.2 (g9, y) (by simp))⟩ | exact ⟨by simp, (Fg13.out.2 (g8, x) (by simp))⟩ | exact ⟨by simp, (Fg13.out.2 (g_b, b) (by simp))⟩ | exact ⟨by simp, (Fg13.out.2 (g_a, a) (by simp))⟩)
            go_simp
            refine hK.out _ _ (⟨Env.cell (hs19) g8 (x) (by simp), Env.cell (hs19) g9 (y) (by simp)⟩) ?_
            clear hK K
            try simp only [Act.put, List.setIfInBounds_toArray, List.set_cons_zero, List.set_cons_succ]
            clear hs z0 z1 z2 z3 zl zf
            change Goes _ _ _ _ _ _ _ _ (fil wn18 g13 (q))
            generalize fil wn18 g13 (q) = wn19 at *
            have hs := hs19
            clear hs19
            refine Goes.one (i := 16) (o := { dst := none, op := _, type := _, pos := _, after := _, guard := _ }) (by kernel_rfl) rfl (fun K hK => ?_)
            obtain ⟨z0, z1, z2, z3⟩ := hs.cell g14 0 (by simp)
            have zl := hs.lt g14 0 (by simp)
            have zf := hs.frozen g14 0 (by simp)
            have hs20 := hs.set g14 0 (t) [(g13, q), (g10s, r), (g10, q), (g9, y), (g8, x), (g_b, b), (g_a, a)] (by simp) Fg14.out.1 (fun p hp => by simp only [List.mem_cons, List.not_mem_nil, or_false] at hp; rcases hp with rfl | rfl | rfl | rfl | rfl | rfl | rfl <;> first | exact ⟨by simp, (Fg14.out.2 (g13, 0) (by simp))⟩ | exact ⟨by simp, (Fg14.out.2 (g10s, r) (by simp))⟩ | exact ⟨by simp, (Fg14.out.2 (g10, q) (by simp))⟩ | exact ⟨by simp, (Fg14.out.2 (g9, y) (by simp))⟩ | exact ⟨by simp, (Fg14.out.2 (g8, x) (by simp))⟩ | exact ⟨by simp, (Fg14.out.2 (g_b, b) (by simp))⟩ | exact ⟨by simp, (Fg14.out.2 (g_a, a) (by simp))⟩)
            go_simp
            refine hK.out _ _ (⟨Env.cell (hs20) g8 (x) (by simp), Env.cell (hs20) g9 (y) (by simp)⟩) ?_
            clear hK K
            try simp only [Act.put, List.setIfInBounds_toArray, List.set_cons_zero, List.set_cons_succ]
            clear hs z0 z1 z2 z3 zl zf
            change Goes _ _ _ _ _ _ _ _ (fil wn19 g14 (t))
            generalize fil wn19 g14 (t) = wn20 at *
            have hs := hs20
            clear hs20
            refine Goes.take (i := 17) (o := { dst := some 15, op := _, type := _, pos := _, after := _, guard := _ }) (v := ?_) [] rfl (by kernel_rfl) (by kernel_rfl) (by kernel_rfl) (fun _ _ _ h => h) (by kernel_rfl) (fun L u h => h) (Or.inl ⟨by rfl, ?_⟩) (⟨Env.cell (hs) g8 (x) (by simp), Env.cell (hs) g9 (y) (by simp)⟩) ?_
            rotate_left
            · intro w hY; go_simp; try with_reducible rfl
            try simp only [Act.put, List.setIfInBounds_toArray, List.set_cons_zero, List.set_cons_succ]
            refine Goes.done (by kernel_rfl) ?_ _
            refine NoPanic.normal ?_
            go_wp2_with fail
            go_meet
            exact ⟨_, _, rfl, rfl, rfl, hid (hs.perm (by simp))⟩
        · skip
          go_simp
          refine hK.out _ _ (⟨Env.cell (hs.zero) g8 (x) (by simp), Env.cell (hs.zero) g9 (y) (by simp)⟩) ?_
          clear hK K
          try simp only [Act.put, List.setIfInBounds_toArray, List.set_cons_zero, List.set_cons_succ]
          have Fg14 := hid hs.fresh
          have hs21 := hs.zero
          clear hs
          generalize wn2.alloc (.cells #[.int .u64 0, .int .u64 0, .int .u64 0, .int .u64 0] 24) = wn21 at *
          generalize wn2.heap.size = g14 at *
          have hs := hs21
          clear hs21
          refine Goes.two (i := 8) (j := 13) (o := { dst := some 47, op := _, type := _, pos := _, after := _, guard := _ }) (p := { dst := some 13, op := _, type := _, pos := _, after := _, guard := _ }) (by kernel_rfl) rfl rfl (fun K hK => ?_) (fun K hK => ?_)
          · skip
            go_simp
            with_reducible refine (div_at x2 y2 q t hs X2L.out Y2L.out Y20.out U1.out U2.out).mono ?_
            rintro e wn22 ⟨rfl, hs22⟩
            go_wp2_with fail
            refine hK.out _ _ (⟨Env.cell (hs22) g8 (x) (by simp), Env.cell (hs22) g9 (y) (by simp)⟩) ?_
            clear hK K
            try simp only [Act.put, List.setIfInBounds_toArray, List.set_cons_zero, List.set_cons_succ]
            clear hs
            have hs := hs22
            clear hs22
            refine Goes.take (i := 9) (o := { dst := some 38, op := _, type := _, pos := _, after := _, guard := _ }) (v := ?_) [] rfl (by kernel_rfl) (by kernel_rfl) (by kernel_rfl) (fun _ _ _ h => h) (by kernel_rfl) (fun L u h => h) (Or.inl ⟨by rfl, ?_⟩) (⟨Env.cell (hs) g8 (x) (by simp), Env.cell (hs) g9 (y) (by simp)⟩) ?_
            rotate_left
            · intro w hY; go_simp; try with_reducible rfl
            try simp only [Act.put, List.setIfInBounds_toArray, List.set_cons_zero, List.set_cons_succ]
            refine Goes.take (i := 10) (o := { dst := some 48, op := _, type := _, pos := _, after := _, guard := _ }) (v := ?_) [] rfl (by kernel_rfl) (by kernel_rfl) (by kernel_rfl) (fun _ _ _ h => h) (by kernel_rfl) (fun L u h => h) (Or.inl ⟨by rfl, ?_⟩) (⟨Env.cell (hs) g8 (x) (by simp), Env.cell (hs) g9 (y) (by simp)⟩) ?_
            rotate_left
            · intro w hY; go_simp; try with_reducible rfl
            try simp only [Act.put, List.setIfInBounds_toArray, List.set_cons_zero, List.set_cons_succ]
            refine Goes.take (i := 11) (o := { dst := some 49, op := _, type := _, pos := _, after := _, guard := _ }) (v := ?_) [] rfl (by kernel_rfl) (by kernel_rfl) (by kernel_rfl) (fun _ _ _ h => h) (by kernel_rfl) (fun L u h => h) (Or.inl ⟨by rfl, ?_⟩) (⟨Env.cell (hs) g8 (x) (by simp), Env.cell (hs) g9 (y) (by simp)⟩) ?_
            rotate_left
            · intro w hY; go_simp; try with_reducible rfl
            try simp only [Act.put, List.setIfInBounds_toArray, List.set_cons_zero, List.set_cons_succ]
            refine Goes.take (i := 12) (o := { dst := some 50, op := _, type := _, pos := _, after := _, guard := _ }) (v := ?_) [] rfl (by kernel_rfl) (by kernel_rfl) (by kernel_rfl) (fun _ _ _ h => h) (by kernel_rfl) (fun L u h => h) (Or.inl ⟨by rfl, ?_⟩) (⟨Env.cell (hs) g8 (x) (by simp), Env.cell (hs) g9 (y) (by simp)⟩) ?_
            rotate_left
            · intro w hY; go_simp; try with_reducible rfl
            try simp only [Act.put, List.setIfInBounds_toArray, List.set_cons_zero, List.set_cons_succ]
            refine Goes.one (i := 13) (o := { dst := some 13, op := _, type := _, pos := _, after := _, guard := _ }) (by kernel_rfl) rfl (fun K hK => ?_)
            go_simp
            refine hK.out _ _ (⟨Env.cell (hs.zero) g8 (x) (by simp), Env.cell (hs.zero) g9 (y) (by simp)⟩) ?_
            clear hK K
            try simp only [Act.put, List.setIfInBounds_toArray, List.set_cons_zero, List.set_cons_succ]
            have Fg13 := hid hs.fresh
            have hs23 := hs.zero
            clear hs
            generalize wn22.alloc (.cells #[.int .u64 0, .int .u64 0, .int .u64 0, .int .u64 0] 24) = wn23 at *
            generalize wn22.heap.size = g13 at *
            have hs := hs23
            clear hs23
            refine Goes.one (i := 15) (o := { dst := none, op := _, type := _, pos := _, after := _, guard := _ }) (by kernel_rfl) rfl (fun K hK => ?_)
            obtain ⟨z0, z1, z2, z3⟩ := hs.cell g13 0 (by simp)
            have zl := hs.lt g13 0 (by simp)
            have zf := hs.frozen g13 0 (by simp)
            have hs24 := hs.set g13 0 (q) [(g14, 0), (g10s, r), (g10, q), (g9, y), (g8, x), (g_b, b), (g_a, a)] (by simp) Fg13.out.1 (fun p hp => by simp only [List.mem_cons, List.not_mem_nil, or_false] at hp; rcases hp with rfl | rfl | rfl | rfl | rfl | rfl | rfl <;> first | exact ⟨by simp, (Fg13.out.2 (g14, 0) (by simp))⟩ | exact ⟨by simp, (Fg13.out.2 (g10s, r) (by simp))⟩ | exact ⟨by simp, (Fg13.out.2 (g10, q) (by simp))⟩ | exact ⟨by simp, (Fg13.out.2 (g9, y) (by simp))⟩ | exact ⟨by simp, (Fg13.out.2 (g8, x) (by simp))⟩ | exact ⟨by simp, (Fg13.out.2 (g_b, b) (by simp))⟩ | exact ⟨by simp, (Fg13.out.2 (g_a, a) (by simp))⟩)
            go_simp
            refine hK.out _ _ (⟨Env.cell (hs24) g8 (x) (by simp), Env.cell (hs24) g9 (y) (by simp)⟩) ?_
            clear hK K
            try simp only [Act.put, List.setIfInBounds_toArray, List.set_cons_zero, List.set_cons_succ]
            clear hs z0 z1 z2 z3 zl zf
            change Goes _ _ _ _ _ _ _ _ (fil wn23 g13 (q))
            generalize fil wn23 g13 (q) = wn24 at *
            have hs := hs24
            clear hs24
            refine Goes.one (i := 16) (o := { dst := none, op := _, type := _, pos := _, after := _, guard := _ }) (by kernel_rfl) rfl (fun K hK => ?_)
            obtain ⟨z0, z1, z2, z3⟩ := hs.cell g14 0 (by simp)
            have zl := hs.lt g14 0 (by simp)
            have zf := hs.frozen g14 0 (by simp)
            have hs25 := hs.set g14 0 (t) [(g13, q), (g10s, r), (g10, q), (g9, y), (g8, x), (g_b, b), (g_a, a)] (by simp) Fg14.out.1 (fun p hp => by simp only [List.mem_cons, List.not_mem_nil, or_false] at hp; rcases hp with rfl | rfl | rfl | rfl | rfl | rfl | rfl <;> first | exact ⟨by simp, (Ne.symm (Fg13.out.2 (g14, 0) (by simp)))⟩ | exact ⟨by simp, (Fg14.out.2 (g10s, r) (by simp))⟩ | exact ⟨by simp, (Fg14.out.2 (g10, q) (by simp))⟩ | exact ⟨by simp, (Fg14.out.2 (g9, y) (by simp))⟩ | exact ⟨by simp, (Fg14.out.2 (g8, x) (by simp))⟩ | exact ⟨by simp, (Fg14.out.2 (g_b, b) (by simp))⟩ | exact ⟨by simp, (Fg14.out.2 (g_a, a) (by simp))⟩)
            go_simp
            refine hK.out _ _ (⟨Env.cell (hs25) g8 (x) (by simp), Env.cell (hs25) g9 (y) (by simp)⟩) ?_
            clear hK K
            try simp only [Act.put, List.setIfInBounds_toArray, List.set_cons_zero, List.set_cons_succ]
            clear hs z0 z1 z2 z3 zl zf
            change Goes _ _ _ _ _ _ _ _ (fil wn24 g14 (t))
            generalize fil wn24 g14 (t) = wn25 at *
            have hs := hs25
            clear hs25
            refine Goes.take (i := 17) (o := { dst := some 15, op := _, type := _, pos := _, after := _, guard := _ }) (v := ?_) [] rfl (by kernel_rfl) (by kernel_rfl) (by kernel_rfl) (fun _ _ _ h => h) (by kernel_rfl) (fun L u h => h) (Or.inl ⟨by rfl, ?_⟩) (⟨Env.cell (hs) g8 (x) (by simp), Env.cell (hs) g9 (y) (by simp)⟩) ?_
            rotate_left
            · intro w hY; go_simp; try with_reducible rfl
            try simp only [Act.put, List.setIfInBounds_toArray, List.set_cons_zero, List.set_cons_succ]
            refine Goes.done (by kernel_rfl) ?_ _
            refine NoPanic.normal ?_
            go_wp2_with fail
            go_meet
            exact ⟨_, _, rfl, rfl, rfl, hid (hs.perm (by simp))⟩
          · skip
            go_simp
            refine hK.out _ _ (⟨Env.cell (hs.zero) g8 (x) (by simp), Env.cell (hs.zero) g9 (y) (by simp)⟩) ?_
            clear hK K
            try simp only [Act.put, List.setIfInBounds_toArray, List.set_cons_zero, List.set_cons_succ]
            have Fg13 := hid hs.fresh
            have hs26 := hs.zero
            clear hs
            generalize wn21.alloc (.cells #[.int .u64 0, .int .u64 0, .int .u64 0, .int .u64 0] 24) = wn26 at *
            generalize wn21.heap.size = g13 at *
            have hs := hs26
            clear hs26
            refine Goes.one (i := 8) (o := { dst := some 47, op := _, type := _, pos := _, after := _, guard := _ }) (by kernel_rfl) rfl (fun K hK => ?_)
            go_simp
            with_reducible refine (div_at x2 y2 q t hs X2L.out Y2L.out Y20.out U1.out U2.out).mono ?_
            rintro e wn27 ⟨rfl, hs27⟩
            go_wp2_with fail
            refine hK.out _ _ (⟨Env.cell (hs27) g8 (x) (by simp), Env.cell (hs27) g9 (y) (by simp)⟩) ?_
            clear hK K
            try simp only [Act.put, List.setIfInBounds_toArray, List.set_cons_zero, List.set_cons_succ]
            clear hs
            have hs := hs27
            clear hs27
            refine Goes.take (i := 9) (o := { dst := some 38, op := _, type := _, pos := _, after := _, guard := _ }) (v := ?_) [] rfl (by kernel_rfl) (by kernel_rfl) (by kernel_rfl) (fun _ _ _ h => h) (by kernel_rfl) (fun L u h => h) (Or.inl ⟨by rfl, ?_⟩) (⟨Env.cell (hs) g8 (x) (by simp), Env.cell (hs) g9 (y) (by simp)⟩) ?_
            rotate_left
            · intro w hY; go_simp; try with_reducible rfl
            try simp only [Act.put, List.setIfInBounds_toArray, List.set_cons_zero, List.set_cons_succ]
            refine Goes.take (i := 10) (o := { dst := some 48, op := _, type := _, pos := _, after := _, guard := _ }) (v := ?_) [] rfl (by kernel_rfl) (by kernel_rfl) (by kernel_rfl) (fun _ _ _ h => h) (by kernel_rfl) (fun L u h => h) (Or.inl ⟨by rfl, ?_⟩) (⟨Env.cell (hs) g8 (x) (by simp), Env.cell (hs) g9 (y) (by simp)⟩) ?_
            rotate_left
            · intro w hY; go_simp; try with_reducible rfl
            try simp only [Act.put, List.setIfInBounds_toArray, List.set_cons_zero, List.set_cons_succ]
            refine Goes.take (i := 11) (o := { dst := some 49, op := _, type := _, pos := _, after := _, guard := _ }) (v := ?_) [] rfl (by kernel_rfl) (by kernel_rfl) (by kernel_rfl) (fun _ _ _ h => h) (by kernel_rfl) (fun L u h => h) (Or.inl ⟨by rfl, ?_⟩) (⟨Env.cell (hs) g8 (x) (by simp), Env.cell (hs) g9 (y) (by simp)⟩) ?_
            rotate_left
            · intro w hY; go_simp; try with_reducible rfl
            try simp only [Act.put, List.setIfInBounds_toArray, List.set_cons_zero, List.set_cons_succ]
            refine Goes.take (i := 12) (o := { dst := some 50, op := _, type := _, pos := _, after := _, guard := _ }) (v := ?_) [] rfl (by kernel_rfl) (by kernel_rfl) (by kernel_rfl) (fun _ _ _ h => h) (by kernel_rfl) (fun L u h => h) (Or.inl ⟨by rfl, ?_⟩) (⟨Env.cell (hs) g8 (x) (by simp), Env.cell (hs) g9 (y) (by simp)⟩) ?_
            rotate_left
            · intro w hY; go_simp; try with_reducible rfl
            try simp only [Act.put, List.setIfInBounds_toArray, List.set_cons_zero, List.set_cons_succ]
            refine Goes.one (i := 15) (o := { dst := none, op := _, type := _, pos := _, after := _, guard := _ }) (by kernel_rfl) rfl (fun K hK => ?_)
            obtain ⟨z0, z1, z2, z3⟩ := hs.cell g13 0 (by simp)
            have zl := hs.lt g13 0 (by simp)
            have zf := hs.frozen g13 0 (by simp)
            have hs28 := hs.set g13 0 (q) [(g14, 0), (g10s, r), (g10, q), (g9, y), (g8, x), (g_b, b), (g_a, a)] (by simp) Fg13.out.1 (fun p hp => by simp only [List.mem_cons, List.not_mem_nil, or_false] at hp; rcases hp with rfl | rfl | rfl | rfl | rfl | rfl | rfl <;> first | exact ⟨by simp, (Fg13.out.2 (g14, 0) (by simp))⟩ | exact ⟨by simp, (Fg13.out.2 (g10s, r) (by simp))⟩ | exact ⟨by simp, (Fg13.out.2 (g10, q) (by simp))⟩ | exact ⟨by simp, (Fg13.out.2 (g9, y) (by simp))⟩ | exact ⟨by simp, (Fg13.out.2 (g8, x) (by simp))⟩ | exact ⟨by simp, (Fg13.out.2 (g_b, b) (by simp))⟩ | exact ⟨by simp, (Fg13.out.2 (g_a, a) (by simp))⟩)
            go_simp
            refine hK.out _ _ (⟨Env.cell (hs28) g8 (x) (by simp), Env.cell (hs28) g9 (y) (by simp)⟩) ?_
            clear hK K
            try simp only [Act.put, List.setIfInBounds_toArray, List.set_cons_zero, List.set_cons_succ]
            clear hs z0 z1 z2 z3 zl zf
            change Goes _ _ _ _ _ _ _ _ (fil wn27 g13 (q))
            generalize fil wn27 g13 (q) = wn28 at *
            have hs := hs28
            clear hs28
            refine Goes.one (i := 16) (o := { dst := none, op := _, type := _, pos := _, after := _, guard := _ }) (by kernel_rfl) rfl (fun K hK => ?_)
            obtain ⟨z0, z1, z2, z3⟩ := hs.cell g14 0 (by simp)
            have zl := hs.lt g14 0 (by simp)
            have zf := hs.frozen g14 0 (by simp)
            have hs29 := hs.set g14 0 (t) [(g13, q), (g10s, r), (g10, q), (g9, y), (g8, x), (g_b, b), (g_a, a)] (by simp) Fg14.out.1 (fun p hp => by simp only [List.mem_cons, List.not_mem_nil, or_false] at hp; rcases hp with rfl | rfl | rfl | rfl | rfl | rfl | rfl <;> first | exact ⟨by simp, (Ne.symm (Fg13.out.2 (g14, 0) (by simp)))⟩ | exact ⟨by simp, (Fg14.out.2 (g10s, r) (by simp))⟩ | exact ⟨by simp, (Fg14.out.2 (g10, q) (by simp))⟩ | exact ⟨by simp, (Fg14.out.2 (g9, y) (by simp))⟩ | exact ⟨by simp, (Fg14.out.2 (g8, x) (by simp))⟩ | exact ⟨by simp, (Fg14.out.2 (g_b, b) (by simp))⟩ | exact ⟨by simp, (Fg14.out.2 (g_a, a) (by simp))⟩)
            go_simp
            refine hK.out _ _ (⟨Env.cell (hs29) g8 (x) (by simp), Env.cell (hs29) g9 (y) (by simp)⟩) ?_
            clear hK K
            try simp only [Act.put, List.setIfInBounds_toArray, List.set_cons_zero, List.set_cons_succ]
            clear hs z0 z1 z2 z3 zl zf
            change Goes _ _ _ _ _ _ _ _ (fil wn28 g14 (t))
            generalize fil wn28 g14 (t) = wn29 at *
            have hs := hs29
            clear hs29
            refine Goes.take (i := 17) (o := { dst := some 15, op := _, type := _, pos := _, after := _, guard := _ }) (v := ?_) [] rfl (by kernel_rfl) (by kernel_rfl) (by kernel_rfl) (fun _ _ _ h => h) (by kernel_rfl) (fun L u h => h) (Or.inl ⟨by rfl, ?_⟩) (⟨Env.cell (hs) g8 (x) (by simp), Env.cell (hs) g9 (y) (by simp)⟩) ?_
            rotate_left
            · intro w hY; go_simp; try with_reducible rfl
            try simp only [Act.put, List.setIfInBounds_toArray, List.set_cons_zero, List.set_cons_succ]
            refine Goes.done (by kernel_rfl) ?_ _
            refine NoPanic.normal ?_
            go_wp2_with fail
            go_meet
            exact ⟨_, _, rfl, rfl, rfl, hid (hs.perm (by simp))⟩
      · skip
        go_simp
        refine hK.out _ _ (⟨Env.cell (hs.zero) g8 (x) (by simp), Env.cell (hs.zero) g9 (y) (by simp)⟩) ?_
        clear hK K
        try simp only [Act.put, List.setIfInBounds_toArray, List.set_cons_zero, List.set_cons_succ]
        have Fg13 := hid hs.fresh
        have hs30 := hs.zero
        clear hs
        generalize wn1.alloc (.cells #[.int .u64 0, .int .u64 0, .int .u64 0, .int .u64 0] 24) = wn30 at *
        generalize wn1.heap.size = g13 at *
        have hs := hs30
        clear hs30
        refine Goes.two (i := 7) (j := 14) (o := { dst := some 46, op := _, type := _, pos := _, after := _, guard := _ }) (p := { dst := some 14, op := _, type := _, pos := _, after := _, guard := _ }) (by kernel_rfl) rfl rfl (fun K hK => ?_) (fun K hK => ?_)
        · skip
          go_simp
          with_reducible refine (shift_at y y2 (64 - (k : Int)) hs YL.out (by have := HK.out; omega) (by have := HK.out; omega) Y2.out).mono ?_
          rintro e wn31 ⟨rfl, hs31⟩
          go_wp2_with fail
          refine hK.out _ _ (⟨Env.cell (hs31) g8 (x) (by simp), Env.cell (hs31) g9 (y) (by simp)⟩) ?_
          clear hK K
          try simp only [Act.put, List.setIfInBounds_toArray, List.set_cons_zero, List.set_cons_succ]
          clear hs
          have hs := hs31
          clear hs31
          refine Goes.two (i := 8) (j := 14) (o := { dst := some 47, op := _, type := _, pos := _, after := _, guard := _ }) (p := { dst := some 14, op := _, type := _, pos := _, after := _, guard := _ }) (by kernel_rfl) rfl rfl (fun K hK => ?_) (fun K hK => ?_)
          · skip
            go_simp
            with_reducible refine (div_at x2 y2 q t hs X2L.out Y2L.out Y20.out U1.out U2.out).mono ?_
            rintro e wn32 ⟨rfl, hs32⟩
            go_wp2_with fail
            refine hK.out _ _ (⟨Env.cell (hs32) g8 (x) (by simp), Env.cell (hs32) g9 (y) (by simp)⟩) ?_
            clear hK K
            try simp only [Act.put, List.setIfInBounds_toArray, List.set_cons_zero, List.set_cons_succ]
            clear hs
            have hs := hs32
            clear hs32
            refine Goes.take (i := 9) (o := { dst := some 38, op := _, type := _, pos := _, after := _, guard := _ }) (v := ?_) [] rfl (by kernel_rfl) (by kernel_rfl) (by kernel_rfl) (fun _ _ _ h => h) (by kernel_rfl) (fun L u h => h) (Or.inl ⟨by rfl, ?_⟩) (⟨Env.cell (hs) g8 (x) (by simp), Env.cell (hs) g9 (y) (by simp)⟩) ?_
            rotate_left
            · intro w hY; go_simp; try with_reducible rfl
            try simp only [Act.put, List.setIfInBounds_toArray, List.set_cons_zero, List.set_cons_succ]
            refine Goes.take (i := 10) (o := { dst := some 48, op := _, type := _, pos := _, after := _, guard := _ }) (v := ?_) [] rfl (by kernel_rfl) (by kernel_rfl) (by kernel_rfl) (fun _ _ _ h => h) (by kernel_rfl) (fun L u h => h) (Or.inl ⟨by rfl, ?_⟩) (⟨Env.cell (hs) g8 (x) (by simp), Env.cell (hs) g9 (y) (by simp)⟩) ?_
            rotate_left
            · intro w hY; go_simp; try with_reducible rfl
            try simp only [Act.put, List.setIfInBounds_toArray, List.set_cons_zero, List.set_cons_succ]
            refine Goes.take (i := 11) (o := { dst := some 49, op := _, type := _, pos := _, after := _, guard := _ }) (v := ?_) [] rfl (by kernel_rfl) (by kernel_rfl) (by kernel_rfl) (fun _ _ _ h => h) (by kernel_rfl) (fun L u h => h) (Or.inl ⟨by rfl, ?_⟩) (⟨Env.cell (hs) g8 (x) (by simp), Env.cell (hs) g9 (y) (by simp)⟩) ?_
            rotate_left
            · intro w hY; go_simp; try with_reducible rfl
            try simp only [Act.put, List.setIfInBounds_toArray, List.set_cons_zero, List.set_cons_succ]
            refine Goes.take (i := 12) (o := { dst := some 50, op := _, type := _, pos := _, after := _, guard := _ }) (v := ?_) [] rfl (by kernel_rfl) (by kernel_rfl) (by kernel_rfl) (fun _ _ _ h => h) (by kernel_rfl) (fun L u h => h) (Or.inl ⟨by rfl, ?_⟩) (⟨Env.cell (hs) g8 (x) (by simp), Env.cell (hs) g9 (y) (by simp)⟩) ?_
            rotate_left
            · intro w hY; go_simp; try with_reducible rfl
            try simp only [Act.put, List.setIfInBounds_toArray, List.set_cons_zero, List.set_cons_succ]
            refine Goes.one (i := 14) (o := { dst := some 14, op := _, type := _, pos := _, after := _, guard := _ }) (by kernel_rfl) rfl (fun K hK => ?_)
            go_simp
            refine hK.out _ _ (⟨Env.cell (hs.zero) g8 (x) (by simp), Env.cell (hs.zero) g9 (y) (by simp)⟩) ?_
            clear hK K
            try simp only [Act.put, List.setIfInBounds_toArray, List.set_cons_zero, List.set_cons_succ]
            have Fg14 := hid hs.fresh
            have hs33 := hs.zero
            clear hs
            generalize wn32.alloc (.cells #[.int .u64 0, .int .u64 0, .int .u64 0, .int .u64 0] 24) = wn33 at *
            generalize wn32.heap.size = g14 at *
            have hs := hs33
            clear hs33
            refine Goes.one (i := 15) (o := { dst := none, op := _, type := _, pos := _, after := _, guard := _ }) (by kernel_rfl) rfl (fun K hK => ?_)
            obtain ⟨z0, z1, z2, z3⟩ := hs.cell g13 0 (by simp)
            have zl := hs.lt g13 0 (by simp)
            have zf := hs.frozen g13 0 (by simp)
            have hs34 := hs.set g13 0 (q) [(g14, 0), (g10s, r), (g10, q), (g9, y), (g8, x), (g_b, b), (g_a, a)] (by simp) Fg13.out.1 (fun p hp => by simp only [List.mem_cons, List.not_mem_nil, or_false] at hp; rcases hp with rfl | rfl | rfl | rfl | rfl | rfl | rfl <;> first | exact ⟨by simp, (Ne.symm (Fg14.out.2 (g13, 0) (by simp)))⟩ | exact ⟨by simp, (Fg13.out.2 (g10s, r) (by simp))⟩ | exact ⟨by simp, (Fg13.out.2 (g10, q) (by simp))⟩ | exact ⟨by simp, (Fg13.out.2 (g9, y) (by simp))⟩ | exact ⟨by simp, (Fg13.out.2 (g8, x) (by simp))⟩ | exact ⟨by simp, (Fg13.out.2 (g_b, b) (by simp))⟩ | exact ⟨by simp, (Fg13.out.2 (g_a, a) (by simp))⟩)
            go_simp
            refine hK.out _ _ (⟨Env.cell (hs34) g8 (x) (by simp), Env.cell (hs34) g9 (y) (by simp)⟩) ?_
            clear hK K
            try simp only [Act.put, List.setIfInBounds_toArray, List.set_cons_zero, List.set_cons_succ]
            clear hs z0 z1 z2 z3 zl zf
            change Goes _ _ _ _ _ _ _ _ (fil wn33 g13 (q))
            generalize fil wn33 g13 (q) = wn34 at *
            have hs := hs34
            clear hs34
            refine Goes.one (i := 16) (o := { dst := none, op := _, type := _, pos := _, after := _, guard := _ }) (by kernel_rfl) rfl (fun K hK => ?_)
            obtain ⟨z0, z1, z2, z3⟩ := hs.cell g14 0 (by simp)
            have zl := hs.lt g14 0 (by simp)
            have zf := hs.frozen g14 0 (by simp)
            have hs35 := hs.set g14 0 (t) [(g13, q), (g10s, r), (g10, q), (g9, y), (g8, x), (g_b, b), (g_a, a)] (by simp) Fg14.out.1 (fun p hp => by simp only [List.mem_cons, List.not_mem_nil, or_false] at hp; rcases hp with rfl | rfl | rfl | rfl | rfl | rfl | rfl <;> first | exact ⟨by simp, (Fg14.out.2 (g13, 0) (by simp))⟩ | exact ⟨by simp, (Fg14.out.2 (g10s, r) (by simp))⟩ | exact ⟨by simp, (Fg14.out.2 (g10, q) (by simp))⟩ | exact ⟨by simp, (Fg14.out.2 (g9, y) (by simp))⟩ | exact ⟨by simp, (Fg14.out.2 (g8, x) (by simp))⟩ | exact ⟨by simp, (Fg14.out.2 (g_b, b) (by simp))⟩ | exact ⟨by simp, (Fg14.out.2 (g_a, a) (by simp))⟩)
            go_simp
            refine hK.out _ _ (⟨Env.cell (hs35) g8 (x) (by simp), Env.cell (hs35) g9 (y) (by simp)⟩) ?_
            clear hK K
            try simp only [Act.put, List.setIfInBounds_toArray, List.set_cons_zero, List.set_cons_succ]
            clear hs z0 z1 z2 z3 zl zf
            change Goes _ _ _ _ _ _ _ _ (fil wn34 g14 (t))
            generalize fil wn34 g14 (t) = wn35 at *
            have hs := hs35
            clear hs35
            refine Goes.take (i := 17) (o := { dst := some 15, op := _, type := _, pos := _, after := _, guard := _ }) (v := ?_) [] rfl (by kernel_rfl) (by kernel_rfl) (by kernel_rfl) (fun _ _ _ h => h) (by kernel_rfl) (fun L u h => h) (Or.inl ⟨by rfl, ?_⟩) (⟨Env.cell (hs) g8 (x) (by simp), Env.cell (hs) g9 (y) (by simp)⟩) ?_
            rotate_left
            · intro w hY; go_simp; try with_reducible rfl
            try simp only [Act.put, List.setIfInBounds_toArray, List.set_cons_zero, List.set_cons_succ]
            refine Goes.done (by kernel_rfl) ?_ _
            refine NoPanic.normal ?_
            go_wp2_with fail
            go_meet
            exact ⟨_, _, rfl, rfl, rfl, hid (hs.perm (by simp))⟩
          · skip
            go_simp
            refine hK.out _ _ (⟨Env.cell (hs.zero) g8 (x) (by simp), Env.cell (hs.zero) g9 (y) (by simp)⟩) ?_
            clear hK K
            try simp only [Act.put, List.setIfInBounds_toArray, List.set_cons_zero, List.set_cons_succ]
            have Fg14 := hid hs.fresh
            have hs36 := hs.zero
            clear hs
            generalize wn31.alloc (.cells #[.int .u64 0, .int .u64 0, .int .u64 0, .int .u64 0] 24) = wn36 at *
            generalize wn31.heap.size = g14 at *
            have hs := hs36
            clear hs36
            refine Goes.one (i := 8) (o := { dst := some 47, op := _, type := _, pos := _, after := _, guard := _ }) (by kernel_rfl) rfl (fun K hK => ?_)
            go_simp
            with_reducible refine (div_at x2 y2 q t hs X2L.out Y2L.out Y20.out U1.out U2.out).mono ?_
            rintro e wn37 ⟨rfl, hs37⟩
            go_wp2_with fail
            refine hK.out _ _ (⟨Env.cell (hs37) g8 (x) (by simp), Env.cell (hs37) g9 (y) (by simp)⟩) ?_
            clear hK K
            try simp only [Act.put, List.setIfInBounds_toArray, List.set_cons_zero, List.set_cons_succ]
            clear hs
            have hs := hs37
            clear hs37
            refine Goes.take (i := 9) (o := { dst := some 38, op := _, type := _, pos := _, after := _, guard := _ }) (v := ?_) [] rfl (by kernel_rfl) (by kernel_rfl) (by kernel_rfl) (fun _ _ _ h => h) (by kernel_rfl) (fun L u h => h) (Or.inl ⟨by rfl, ?_⟩) (⟨Env.cell (hs) g8 (x) (by simp), Env.cell (hs) g9 (y) (by simp)⟩) ?_
            rotate_left
            · intro w hY; go_simp; try with_reducible rfl
            try simp only [Act.put, List.setIfInBounds_toArray, List.set_cons_zero, List.set_cons_succ]
            refine Goes.take (i := 10) (o := { dst := some 48, op := _, type := _, pos := _, after := _, guard := _ }) (v := ?_) [] rfl (by kernel_rfl) (by kernel_rfl) (by kernel_rfl) (fun _ _ _ h => h) (by kernel_rfl) (fun L u h => h) (Or.inl ⟨by rfl, ?_⟩) (⟨Env.cell (hs) g8 (x) (by simp), Env.cell (hs) g9 (y) (by simp)⟩) ?_
            rotate_left
            · intro w hY; go_simp; try with_reducible rfl
            try simp only [Act.put, List.setIfInBounds_toArray, List.set_cons_zero, List.set_cons_succ]
            refine Goes.take (i := 11) (o := { dst := some 49, op := _, type := _, pos := _, after := _, guard := _ }) (v := ?_) [] rfl (by kernel_rfl) (by kernel_rfl) (by kernel_rfl) (fun _ _ _ h => h) (by kernel_rfl) (fun L u h => h) (Or.inl ⟨by rfl, ?_⟩) (⟨Env.cell (hs) g8 (x) (by simp), Env.cell (hs) g9 (y) (by simp)⟩) ?_
            rotate_left
            · intro w hY; go_simp; try with_reducible rfl
            try simp only [Act.put, List.setIfInBounds_toArray, List.set_cons_zero, List.set_cons_succ]
            refine Goes.take (i := 12) (o := { dst := some 50, op := _, type := _, pos := _, after := _, guard := _ }) (v := ?_) [] rfl (by kernel_rfl) (by kernel_rfl) (by kernel_rfl) (fun _ _ _ h => h) (by kernel_rfl) (fun L u h => h) (Or.inl ⟨by rfl, ?_⟩) (⟨Env.cell (hs) g8 (x) (by simp), Env.cell (hs) g9 (y) (by simp)⟩) ?_
            rotate_left
            · intro w hY; go_simp; try with_reducible rfl
            try simp only [Act.put, List.setIfInBounds_toArray, List.set_cons_zero, List.set_cons_succ]
            refine Goes.one (i := 15) (o := { dst := none, op := _, type := _, pos := _, after := _, guard := _ }) (by kernel_rfl) rfl (fun K hK => ?_)
            obtain ⟨z0, z1, z2, z3⟩ := hs.cell g13 0 (by simp)
            have zl := hs.lt g13 0 (by simp)
            have zf := hs.frozen g13 0 (by simp)
            have hs38 := hs.set g13 0 (q) [(g14, 0), (g10s, r), (g10, q), (g9, y), (g8, x), (g_b, b), (g_a, a)] (by simp) Fg13.out.1 (fun p hp => by simp only [List.mem_cons, List.not_mem_nil, or_false] at hp; rcases hp with rfl | rfl | rfl | rfl | rfl | rfl | rfl <;> first | exact ⟨by simp, (Ne.symm (Fg14.out.2 (g13, 0) (by simp)))⟩ | exact ⟨by simp, (Fg13.out.2 (g10s, r) (by simp))⟩ | exact ⟨by simp, (Fg13.out.2 (g10, q) (by simp))⟩ | exact ⟨by simp, (Fg13.out.2 (g9, y) (by simp))⟩ | exact ⟨by simp, (Fg13.out.2 (g8, x) (by simp))⟩ | exact ⟨by simp, (Fg13.out.2 (g_b, b) (by simp))⟩ | exact ⟨by simp, (Fg13.out.2 (g_a, a) (by simp))⟩)
            go_simp
            refine hK.out _ _ (⟨Env.cell (hs38) g8 (x) (by simp), Env.cell (hs38) g9 (y) (by simp)⟩) ?_
            clear hK K
            try simp only [Act.put, List.setIfInBounds_toArray, List.set_cons_zero, List.set_cons_succ]
            clear hs z0 z1 z2 z3 zl zf
            change Goes _ _ _ _ _ _ _ _ (fil wn37 g13 (q))
            generalize fil wn37 g13 (q) = wn38 at *
            have hs := hs38
            clear hs38
            refine Goes.one (i := 16) (o := { dst := none, op := _, type := _, pos := _, after := _, guard := _ }) (by kernel_rfl) rfl (fun K hK => ?_)
            obtain ⟨z0, z1, z2, z3⟩ := hs.cell g14 0 (by simp)
            have zl := hs.lt g14 0 (by simp)
            have zf := hs.frozen g14 0 (by simp)
            have hs39 := hs.set g14 0 (t) [(g13, q), (g10s, r), (g10, q), (g9, y), (g8, x), (g_b, b), (g_a, a)] (by simp) Fg14.out.1 (fun p hp => by simp only [List.mem_cons, List.not_mem_nil, or_false] at hp; rcases hp with rfl | rfl | rfl | rfl | rfl | rfl | rfl <;> first | exact ⟨by simp, (Fg14.out.2 (g13, 0) (by simp))⟩ | exact ⟨by simp, (Fg14.out.2 (g10s, r) (by simp))⟩ | exact ⟨by simp, (Fg14.out.2 (g10, q) (by simp))⟩ | exact ⟨by simp, (Fg14.out.2 (g9, y) (by simp))⟩ | exact ⟨by simp, (Fg14.out.2 (g8, x) (by simp))⟩ | exact ⟨by simp, (Fg14.out.2 (g_b, b) (by simp))⟩ | exact ⟨by simp, (Fg14.out.2 (g_a, a) (by simp))⟩)
            go_simp
            refine hK.out _ _ (⟨Env.cell (hs39) g8 (x) (by simp), Env.cell (hs39) g9 (y) (by simp)⟩) ?_
            clear hK K
            try simp only [Act.put, List.setIfInBounds_toArray, List.set_cons_zero, List.set_cons_succ]
            clear hs z0 z1 z2 z3 zl zf
            change Goes _ _ _ _ _ _ _ _ (fil wn38 g14 (t))
            generalize fil wn38 g14 (t) = wn39 at *
            have hs := hs39
            clear hs39
            refine Goes.take (i := 17) (o := { dst := some 15, op := _, type := _, pos := _, after := _, guard := _ }) (v := ?_) [] rfl (by kernel_rfl) (by kernel_rfl) (by kernel_rfl) (fun _ _ _ h => h) (by kernel_rfl) (fun L u h => h) (Or.inl ⟨by rfl, ?_⟩) (⟨Env.cell (hs) g8 (x) (by simp), Env.cell (hs) g9 (y) (by simp)⟩) ?_
            rotate_left
            · intro w hY; go_simp; try with_reducible rfl
            try simp only [Act.put, List.setIfInBounds_toArray, List.set_cons_zero, List.set_cons_succ]
            refine Goes.done (by kernel_rfl) ?_ _
            refine NoPanic.normal ?_
            go_wp2_with fail
            go_meet
            exact ⟨_, _, rfl, rfl, rfl, hid (hs.perm (by simp))⟩
        · skip
          go_simp
          refine hK.out _ _ (⟨Env.cell (hs.zero) g8 (x) (by simp), Env.cell (hs.zero) g9 (y) (by simp)⟩) ?_
          clear hK K
          try simp only [Act.put, List.setIfInBounds_toArray, List.set_cons_zero, List.set_cons_succ]
          have Fg14 := hid hs.fresh
          have hs40 := hs.zero
          clear hs
          generalize wn30.alloc (.cells #[.int .u64 0, .int .u64 0, .int .u64 0, .int .u64 0] 24) = wn40 at *
          generalize wn30.heap.size = g14 at *
          have hs := hs40
          clear hs40
          refine Goes.one (i := 7) (o := { dst := some 46, op := _, type := _, pos := _, after := _, guard := _ }) (by kernel_rfl) rfl (fun K hK => ?_)
          go_simp
          with_reducible refine (shift_at y y2 (64 - (k : Int)) hs YL.out (by have := HK.out; omega) (by have := HK.out; omega) Y2.out).mono ?_
          rintro e wn41 ⟨rfl, hs41⟩
          go_wp2_with fail
          refine hK.out _ _ (⟨Env.cell (hs41) g8 (x) (by simp), Env.cell (hs41) g9 (y) (by simp)⟩) ?_
          clear hK K
          try simp only [Act.put, List.setIfInBounds_toArray, List.set_cons_zero, List.set_cons_succ]
          clear hs
          have hs := hs41
          clear hs41
          refine Goes.one (i := 8) (o := { dst := some 47, op := _, type := _, pos := _, after := _, guard := _ }) (by kernel_rfl) rfl (fun K hK => ?_)
          go_simp
          with_reducible refine (div_at x2 y2 q t hs X2L.out Y2L.out Y20.out U1.out U2.out).mono ?_
          rintro e wn42 ⟨rfl, hs42⟩
          go_wp2_with fail
          refine hK.out _ _ (⟨Env.cell (hs42) g8 (x) (by simp), Env.cell (hs42) g9 (y) (by simp)⟩) ?_
          clear hK K
          try simp only [Act.put, List.setIfInBounds_toArray, List.set_cons_zero, List.set_cons_succ]
          clear hs
          have hs := hs42
          clear hs42
          refine Goes.take (i := 9) (o := { dst := some 38, op := _, type := _, pos := _, after := _, guard := _ }) (v := ?_) [] rfl (by kernel_rfl) (by kernel_rfl) (by kernel_rfl) (fun _ _ _ h => h) (by kernel_rfl) (fun L u h => h) (Or.inl ⟨by rfl, ?_⟩) (⟨Env.cell (hs) g8 (x) (by simp), Env.cell (hs) g9 (y) (by simp)⟩) ?_
          rotate_left
          · intro w hY; go_simp; try with_reducible rfl
          try simp only [Act.put, List.setIfInBounds_toArray, List.set_cons_zero, List.set_cons_succ]
          refine Goes.take (i := 10) (o := { dst := some 48, op := _, type := _, pos := _, after := _, guard := _ }) (v := ?_) [] rfl (by kernel_rfl) (by kernel_rfl) (by kernel_rfl) (fun _ _ _ h => h) (by kernel_rfl) (fun L u h => h) (Or.inl ⟨by rfl, ?_⟩) (⟨Env.cell (hs) g8 (x) (by simp), Env.cell (hs) g9 (y) (by simp)⟩) ?_
          rotate_left
          · intro w hY; go_simp; try with_reducible rfl
          try simp only [Act.put, List.setIfInBounds_toArray, List.set_cons_zero, List.set_cons_succ]
          refine Goes.take (i := 11) (o := { dst := some 49, op := _, type := _, pos := _, after := _, guard := _ }) (v := ?_) [] rfl (by kernel_rfl) (by kernel_rfl) (by kernel_rfl) (fun _ _ _ h => h) (by kernel_rfl) (fun L u h => h) (Or.inl ⟨by rfl, ?_⟩) (⟨Env.cell (hs) g8 (x) (by simp), Env.cell (hs) g9 (y) (by simp)⟩) ?_
          rotate_left
          · intro w hY; go_simp; try with_reducible rfl
          try simp only [Act.put, List.setIfInBounds_toArray, List.set_cons_zero, List.set_cons_succ]
          refine Goes.take (i := 12) (o := { dst := some 50, op := _, type := _, pos := _, after := _, guard := _ }) (v := ?_) [] rfl (by kernel_rfl) (by kernel_rfl) (by kernel_rfl) (fun _ _ _ h => h) (by kernel_rfl) (fun L u h => h) (Or.inl ⟨by rfl, ?_⟩) (⟨Env.cell (hs) g8 (x) (by simp), Env.cell (hs) g9 (y) (by simp)⟩) ?_
          rotate_left
          · intro w hY; go_simp; try with_reducible rfl
          try simp only [Act.put, List.setIfInBounds_toArray, List.set_cons_zero, List.set_cons_succ]
          refine Goes.one (i := 15) (o := { dst := none, op := _, type := _, pos := _, after := _, guard := _ }) (by kernel_rfl) rfl (fun K hK => ?_)
          obtain ⟨z0, z1, z2, z3⟩ := hs.cell g13 0 (by simp)
          have zl := hs.lt g13 0 (by simp)
          have zf := hs.frozen g13 0 (by simp)
          have hs43 := hs.set g13 0 (q) [(g14, 0), (g10s, r), (g10, q), (g9, y), (g8, x), (g_b, b), (g_a, a)] (by simp) Fg13.out.1 (fun p hp => by simp only [List.mem_cons, List.not_mem_nil, or_false] at hp; rcases hp with rfl | rfl | rfl | rfl | rfl | rfl | rfl <;> first | exact ⟨by simp, (Ne.symm (Fg14.out.2 (g13, 0) (by simp)))⟩ | exact ⟨by simp, (Fg13.out.2 (g10s, r) (by simp))⟩ | exact ⟨by simp, (Fg13.out.2 (g10, q) (by simp))⟩ | exact ⟨by simp, (Fg13.out.2 (g9, y) (by simp))⟩ | exact ⟨by simp, (Fg13.out.2 (g8, x) (by simp))⟩ | exact ⟨by simp, (Fg13.out.2 (g_b, b) (by simp))⟩ | exact ⟨by simp, (Fg13.out.2 (g_a, a) (by simp))⟩)
          go_simp
          refine hK.out _ _ (⟨Env.cell (hs43) g8 (x) (by simp), Env.cell (hs43) g9 (y) (by simp)⟩) ?_
          clear hK K
          try simp only [Act.put, List.setIfInBounds_toArray, List.set_cons_zero, List.set_cons_succ]
          clear hs z0 z1 z2 z3 zl zf
          change Goes _ _ _ _ _ _ _ _ (fil wn42 g13 (q))
          generalize fil wn42 g13 (q) = wn43 at *
          have hs := hs43
          clear hs43
          refine Goes.one (i := 16) (o := { dst := none, op := _, type := _, pos := _, after := _, guard := _ }) (by kernel_rfl) rfl (fun K hK => ?_)
          obtain ⟨z0, z1, z2, z3⟩ := hs.cell g14 0 (by simp)
          have zl := hs.lt g14 0 (by simp)
          have zf := hs.frozen g14 0 (by simp)
          have hs44 := hs.set g14 0 (t) [(g13, q), (g10s, r), (g10, q), (g9, y), (g8, x), (g_b, b), (g_a, a)] (by simp) Fg14.out.1 (fun p hp => by simp only [List.mem_cons, List.not_mem_nil, or_false] at hp; rcases hp with rfl | rfl | rfl | rfl | rfl | rfl | rfl <;> first | exact ⟨by simp, (Fg14.out.2 (g13, 0) (by simp))⟩ | exact ⟨by simp, (Fg14.out.2 (g10s, r) (by simp))⟩ | exact ⟨by simp, (Fg14.out.2 (g10, q) (by simp))⟩ | exact ⟨by simp, (Fg14.out.2 (g9, y) (by simp))⟩ | exact ⟨by simp, (Fg14.out.2 (g8, x) (by simp))⟩ | exact ⟨by simp, (Fg14.out.2 (g_b, b) (by simp))⟩ | exact ⟨by simp, (Fg14.out.2 (g_a, a) (by simp))⟩)
          go_simp
          refine hK.out _ _ (⟨Env.cell (hs44) g8 (x) (by simp), Env.cell (hs44) g9 (y) (by simp)⟩) ?_
          clear hK K
          try simp only [Act.put, List.setIfInBounds_toArray, List.set_cons_zero, List.set_cons_succ]
          clear hs z0 z1 z2 z3 zl zf
          change Goes _ _ _ _ _ _ _ _ (fil wn43 g14 (t))
          generalize fil wn43 g14 (t) = wn44 at *
          have hs := hs44
          clear hs44
          refine Goes.take (i := 17) (o := { dst := some 15, op := _, type := _, pos := _, after := _, guard := _ }) (v := ?_) [] rfl (by kernel_rfl) (by kernel_rfl) (by kernel_rfl) (fun _ _ _ h => h) (by kernel_rfl) (fun L u h => h) (Or.inl ⟨by rfl, ?_⟩) (⟨Env.cell (hs) g8 (x) (by simp), Env.cell (hs) g9 (y) (by simp)⟩) ?_
          rotate_left
          · intro w hY; go_simp; try with_reducible rfl
          try simp only [Act.put, List.setIfInBounds_toArray, List.set_cons_zero, List.set_cons_succ]
          refine Goes.done (by kernel_rfl) ?_ _
          refine NoPanic.normal ?_
          go_wp2_with fail
          go_meet
          exact ⟨_, _, rfl, rfl, rfl, hid (hs.perm (by simp))⟩
      · skip
        go_simp
        refine hK.out _ _ (⟨Env.cell (hs.zero) g8 (x) (by simp), Env.cell (hs.zero) g9 (y) (by simp)⟩) ?_
        clear hK K
        try simp only [Act.put, List.setIfInBounds_toArray, List.set_cons_zero, List.set_cons_succ]
        have Fg14 := hid hs.fresh
        have hs45 := hs.zero
        clear hs
        generalize wn1.alloc (.cells #[.int .u64 0, .int .u64 0, .int .u64 0, .int .u64 0] 24) = wn45 at *
        generalize wn1.heap.size = g14 at *
        have hs := hs45
        clear hs45
        refine Goes.two (i := 7) (j := 13) (o := { dst := some 46, op := _, type := _, pos := _, after := _, guard := _ }) (p := { dst := some 13, op := _, type := _, pos := _, after := _, guard := _ }) (by kernel_rfl) rfl rfl (fun K hK => ?_) (fun K hK => ?_)
        · skip
          go_simp
          with_reducible refine (shift_at y y2 (64 - (k : Int)) hs YL.out (by have := HK.out; omega) (by have := HK.out; omega) Y2.out).mono ?_
          rintro e wn46 ⟨rfl, hs46⟩
          go_wp2_with fail
          refine hK.out _ _ (⟨Env.cell (hs46) g8 (x) (by simp), Env.cell (hs46) g9 (y) (by simp)⟩) ?_
          clear hK K
          try simp only [Act.put, List.setIfInBounds_toArray, List.set_cons_zero, List.set_cons_succ]
          clear hs
          have hs := hs46
          clear hs46
          refine Goes.two (i := 8) (j := 13) (o := { dst := some 47, op := _, type := _, pos := _, after := _, guard := _ }) (p := { dst := some 13, op := _, type := _, pos := _, after := _, guard := _ }) (by kernel_rfl) rfl rfl (fun K hK => ?_) (fun K hK => ?_)
          · skip
            go_simp
            with_reducible refine (div_at x2 y2 q t hs X2L.out Y2L.out Y20.out U1.out U2.out).mono ?_
            rintro e wn47 ⟨rfl, hs47⟩
            go_wp2_with fail
            refine hK.out _ _ (⟨Env.cell (hs47) g8 (x) (by simp), Env.cell (hs47) g9 (y) (by simp)⟩) ?_
            clear hK K
            try simp only [Act.put, List.setIfInBounds_toArray, List.set_cons_zero, List.set_cons_succ]
            clear hs
            have hs := hs47
            clear hs47
            refine Goes.take (i := 9) (o := { dst := some 38, op := _, type := _, pos := _, after := _, guard := _ }) (v := ?_) [] rfl (by kernel_rfl) (by kernel_rfl) (by kernel_rfl) (fun _ _ _ h => h) (by kernel_rfl) (fun L u h => h) (Or.inl ⟨by rfl, ?_⟩) (⟨Env.cell (hs) g8 (x) (by simp), Env.cell (hs) g9 (y) (by simp)⟩) ?_
            rotate_left
            · intro w hY; go_simp; try with_reducible rfl
            try simp only [Act.put, List.setIfInBounds_toArray, List.set_cons_zero, List.set_cons_succ]
            refine Goes.take (i := 10) (o := { dst := some 48, op := _, type := _, pos := _, after := _, guard := _ }) (v := ?_) [] rfl (by kernel_rfl) (by kernel_rfl) (by kernel_rfl) (fun _ _ _ h => h) (by kernel_rfl) (fun L u h => h) (Or.inl ⟨by rfl, ?_⟩) (⟨Env.cell (hs) g8 (x) (by simp), Env.cell (hs) g9 (y) (by simp)⟩) ?_
            rotate_left
            · intro w hY; go_simp; try with_reducible rfl
            try simp only [Act.put, List.setIfInBounds_toArray, List.set_cons_zero, List.set_cons_succ]
            refine Goes.take (i := 11) (o := { dst := some 49, op := _, type := _, pos := _, after := _, guard := _ }) (v := ?_) [] rfl (by kernel_rfl) (by kernel_rfl) (by kernel_rfl) (fun _ _ _ h => h) (by kernel_rfl) (fun L u h => h) (Or.inl ⟨by rfl, ?_⟩) (⟨Env.cell (hs) g8 (x) (by simp), Env.cell (hs) g9 (y) (by simp)⟩) ?_
            rotate_left
            · intro w hY; go_simp; try with_reducible rfl
            try simp only [Act.put, List.setIfInBounds_toArray, List.set_cons_zero, List.set_cons_succ]
            refine Goes.take (i := 12) (o := { dst := some 50, op := _, type := _, pos := _, after := _, guard := _ }) (v := ?_) [] rfl (by kernel_rfl) (by kernel_rfl) (by kernel_rfl) (fun _ _ _ h => h) (by kernel_rfl) (fun L u h => h) (Or.inl ⟨by rfl, ?_⟩) (⟨Env.cell (hs) g8 (x) (by simp), Env.cell (hs) g9 (y) (by simp)⟩) ?_
            rotate_left
            · intro w hY; go_simp; try with_reducible rfl
            try simp only [Act.put, List.setIfInBounds_toArray, List.set_cons_zero, List.set_cons_succ]
            refine Goes.one (i := 13) (o := { dst := some 13, op := _, type := _, pos := _, after := _, guard := _ }) (by kernel_rfl) rfl (fun K hK => ?_)
            go_simp
            refine hK.out _ _ (⟨Env.cell (hs.zero) g8 (x) (by simp), Env.cell (hs.zero) g9 (y) (by simp)⟩) ?_
            clear hK K
            try simp only [Act.put, List.setIfInBounds_toArray, List.set_cons_zero, List.set_cons_succ]
            have Fg13 := hid hs.fresh
            have hs48 := hs.zero
            clear hs
            generalize wn47.alloc (.cells #[.int .u64 0, .int .u64 0, .int .u64 0, .int .u64 0] 24) = wn48 at *
            generalize wn47.heap.size = g13 at *
            have hs := hs48
            clear hs48
            refine Goes.one (i := 15) (o := { dst := none, op := _, type := _, pos := _, after := _, guard := _ }) (by kernel_rfl) rfl (fun K hK => ?_)
            obtain ⟨z0, z1, z2, z3⟩ := hs.cell g13 0 (by simp)
            have zl := hs.lt g13 0 (by simp)
            have zf := hs.frozen g13 0 (by simp)
            have hs49 := hs.set g13 0 (q) [(g14, 0), (g10s, r), (g10, q), (g9, y), (g8, x), (g_b, b), (g_a, a)] (by simp) Fg13.out.1 (fun p hp => by simp only [List.mem_cons, List.not_mem_nil, or_false] at hp; rcases hp with rfl | rfl | rfl | rfl | rfl | rfl | rfl <;> first | exact ⟨by simp, (Fg13.out.2 (g14, 0) (by simp))⟩ | exact ⟨by simp, (Fg13.out.2 (g10s, r) (by simp))⟩ | exact ⟨by simp, (Fg13.out.2 (g10, q) (by simp))⟩ | exact ⟨by simp, (Fg13.out.2 (g9, y) (by simp))⟩ | exact ⟨by simp, (Fg13.out.2 (g8, x) (by simp))⟩ | exact ⟨by simp, (Fg13.out.2 (g_b, b) (by simp))⟩ | exact ⟨by simp, (Fg13.out.2 (g_a, a) (by simp))⟩)
            go_simp
            refine hK.out _ _ (⟨Env.cell (hs49) g8 (x) (by simp), Env.cell (hs49) g9 (y) (by simp)⟩) ?_
            clear hK K
            try simp only [Act.put, List.setIfInBounds_toArray, List.set_cons_zero, List.set_cons_succ]
            clear hs z0 z1 z2 z3 zl zf
            change Goes _ _ _ _ _ _ _ _ (fil wn48 g13 (q))
            generalize fil wn48 g13 (q) = wn49 at *
            have hs := hs49
            clear hs49
            refine Goes.one (i := 16) (o := { dst := none, op := _, type := _, pos := _, after := _, guard := _ }) (by kernel_rfl) rfl (fun K hK => ?_)
            obtain ⟨z0, z1, z2, z3⟩ := hs.cell g14 0 (by simp)
            have zl := hs.lt g14 0 (by simp)
            have zf := hs.frozen g14 0 (by simp)
            have hs50 := hs.set g14 0 (t) [(g13, q), (g10s, r), (g10, q), (g9, y), (g8, x), (g_b, b), (g_a, a)] (by simp) Fg14.out.1 (fun p hp => by simp only [List.mem_cons, List.not_mem_nil, or_false] at hp; rcases hp with rfl | rfl | rfl | rfl | rfl | rfl | rfl <;> first | exact ⟨by simp, (Ne.symm (Fg13.out.2 (g14, 0) (by simp)))⟩ | exact ⟨by simp, (Fg14.out.2 (g10s, r) (by simp))⟩ | exact ⟨by simp, (Fg14.out.2 (g10, q) (by simp))⟩ | exact ⟨by simp, (Fg14.out.2 (g9, y) (by simp))⟩ | exact ⟨by simp, (Fg14.out.2 (g8, x) (by simp))⟩ | exact ⟨by simp, (Fg14.out.2 (g_b, b) (by simp))⟩ | exact ⟨by simp, (Fg14.out.2 (g_a, a) (by simp))⟩)
            go_simp
            refine hK.out _ _ (⟨Env.cell (hs50) g8 (x) (by simp), Env.cell (hs50) g9 (y) (by simp)⟩) ?_
            clear hK K
            try simp only [Act.put, List.setIfInBounds_toArray, List.set_cons_zero, List.set_cons_succ]
            clear hs z0 z1 z2 z3 zl zf
            change Goes _ _ _ _ _ _ _ _ (fil wn49 g14 (t))
            generalize fil wn49 g14 (t) = wn50 at *
            have hs := hs50
            clear hs50
            refine Goes.take (i := 17) (o := { dst := some 15, op := _, type := _, pos := _, after := _, guard := _ }) (v := ?_) [] rfl (by kernel_rfl) (by kernel_rfl) (by kernel_rfl) (fun _ _ _ h => h) (by kernel_rfl) (fun L u h => h) (Or.inl ⟨by rfl, ?_⟩) (⟨Env.cell (hs) g8 (x) (by simp), Env.cell (hs) g9 (y) (by simp)⟩) ?_
            rotate_left
            · intro w hY; go_simp; try with_reducible rfl
            try simp only [Act.put, List.setIfInBounds_toArray, List.set_cons_zero, List.set_cons_succ]
            refine Goes.done (by kernel_rfl) ?_ _
            refine NoPanic.normal ?_
            go_wp2_with fail
            go_meet
            exact ⟨_, _, rfl, rfl, rfl, hid (hs.perm (by simp))⟩
          · skip
            go_simp
            refine hK.out _ _ (⟨Env.cell (hs.zero) g8 (x) (by simp), Env.cell (hs.zero) g9 (y) (by simp)⟩) ?_
            clear hK K
            try simp only [Act.put, List.setIfInBounds_toArray, List.set_cons_zero, List.set_cons_succ]
            have Fg13 := hid hs.fresh
            have hs51 := hs.zero
            clear hs
            generalize wn46.alloc (.cells #[.int .u64 0, .int .u64 0, .int .u64 0, .int .u64 0] 24) = wn51 at *
            generalize wn46.heap.size = g13 at *
            have hs := hs51
            clear hs51
            refine Goes.one (i := 8) (o := { dst := some 47, op := _, type := _, pos := _, after := _, guard := _ }) (by kernel_rfl) rfl (fun K hK => ?_)
            go_simp
            with_reducible refine (div_at x2 y2 q t hs X2L.out Y2L.out Y20.out U1.out U2.out).mono ?_
            rintro e wn52 ⟨rfl, hs52⟩
            go_wp2_with fail
            refine hK.out _ _ (⟨Env.cell (hs52) g8 (x) (by simp), Env.cell (hs52) g9 (y) (by simp)⟩) ?_
            clear hK K
            try simp only [Act.put, List.setIfInBounds_toArray, List.set_cons_zero, List.set_cons_succ]
            clear hs
            have hs := hs52
            clear hs52
            refine Goes.take (i := 9) (o := { dst := some 38, op := _, type := _, pos := _, after := _, guard := _ }) (v := ?_) [] rfl (by kernel_rfl) (by kernel_rfl) (by kernel_rfl) (fun _ _ _ h => h) (by kernel_rfl) (fun L u h => h) (Or.inl ⟨by rfl, ?_⟩) (⟨Env.cell (hs) g8 (x) (by simp), Env.cell (hs) g9 (y) (by simp)⟩) ?_
            rotate_left
            · intro w hY; go_simp; try with_reducible rfl
            try simp only [Act.put, List.setIfInBounds_toArray, List.set_cons_zero, List.set_cons_succ]
            refine Goes.take (i := 10) (o := { dst := some 48, op := _, type := _, pos := _, after := _, guard := _ }) (v := ?_) [] rfl (by kernel_rfl) (by kernel_rfl) (by kernel_rfl) (fun _ _ _ h => h) (by kernel_rfl) (fun L u h => h) (Or.inl ⟨by rfl, ?_⟩) (⟨Env.cell (hs) g8 (x) (by simp), Env.cell (hs) g9 (y) (by simp)⟩) ?_
            rotate_left
            · intro w hY; go_simp; try with_reducible rfl
            try simp only [Act.put, List.setIfInBounds_toArray, List.set_cons_zero, List.set_cons_succ]
            refine Goes.take (i := 11) (o := { dst := some 49, op := _, type := _, pos := _, after := _, guard := _ }) (v := ?_) [] rfl (by kernel_rfl) (by kernel_rfl) (by kernel_rfl) (fun _ _ _ h => h) (by kernel_rfl) (fun L u h => h) (Or.inl ⟨by rfl, ?_⟩) (⟨Env.cell (hs) g8 (x) (by simp), Env.cell (hs) g9 (y) (by simp)⟩) ?_
            rotate_left
            · intro w hY; go_simp; try with_reducible rfl
            try simp only [Act.put, List.setIfInBounds_toArray, List.set_cons_zero, List.set_cons_succ]
            refine Goes.take (i := 12) (o := { dst := some 50, op := _, type := _, pos := _, after := _, guard := _ }) (v := ?_) [] rfl (by kernel_rfl) (by kernel_rfl) (by kernel_rfl) (fun _ _ _ h => h) (by kernel_rfl) (fun L u h => h) (Or.inl ⟨by rfl, ?_⟩) (⟨Env.cell (hs) g8 (x) (by simp), Env.cell (hs) g9 (y) (by simp)⟩) ?_
            rotate_left
            · intro w hY; go_simp; try with_reducible rfl
            try simp only [Act.put, List.setIfInBounds_toArray, List.set_cons_zero, List.set_cons_succ]
            refine Goes.one (i := 15) (o := { dst := none, op := _, type := _, pos := _, after := _, guard := _ }) (by kernel_rfl) rfl (fun K hK => ?_)
            obtain ⟨z0, z1, z2, z3⟩ := hs.cell g13 0 (by simp)
            have zl := hs.lt g13 0 (by simp)
            have zf := hs.frozen g13 0 (by simp)
            have hs53 := hs.set g13 0 (q) [(g14, 0), (g10s, r), (g10, q), (g9, y), (g8, x), (g_b, b), (g_a, a)] (by simp) Fg13.out.1 (fun p hp => by simp only [List.mem_cons, List.not_mem_nil, or_false] at hp; rcases hp with rfl | rfl | rfl | rfl | rfl | rfl | rfl <;> first | exact ⟨by simp, (Fg13.out.2 (g14, 0) (by simp))⟩ | exact ⟨by simp, (Fg13.out.2 (g10s, r) (by simp))⟩ | exact ⟨by simp, (Fg13.out.2 (g10, q) (by simp))⟩ | exact ⟨by simp, (Fg13.out.2 (g9, y) (by simp))⟩ | exact ⟨by simp, (Fg13.out.2 (g8, x) (by simp))⟩ | exact ⟨by simp, (Fg13.out.2 (g_b, b) (by simp))⟩ | exact ⟨by simp, (Fg13.out.2 (g_a, a) (by simp))⟩)
            go_simp
            refine hK.out _ _ (⟨Env.cell (hs53) g8 (x) (by simp), Env.cell (hs53) g9 (y) (by simp)⟩) ?_
            clear hK K
            try simp only [Act.put, List.setIfInBounds_toArray, List.set_cons_zero, List.set_cons_succ]
            clear hs z0 z1 z2 z3 zl zf
            change Goes _ _ _ _ _ _ _ _ (fil wn52 g13 (q))
            generalize fil wn52 g13 (q) = wn53 at *
            have hs := hs53
            clear hs53
            refine Goes.one (i := 16) (o := { dst := none, op := _, type := _, pos := _, after := _, guard := _ }) (by kernel_rfl) rfl (fun K hK => ?_)
            obtain ⟨z0, z1, z2, z3⟩ := hs.cell g14 0 (by simp)
            have zl := hs.lt g14 0 (by simp)
            have zf := hs.frozen g14 0 (by simp)
            have hs54 := hs.set g14 0 (t) [(g13, q), (g10s, r), (g10, q), (g9, y), (g8, x), (g_b, b), (g_a, a)] (by simp) Fg14.out.1 (fun p hp => by simp only [List.mem_cons, List.not_mem_nil, or_false] at hp; rcases hp with rfl | rfl | rfl | rfl | rfl | rfl | rfl <;> first | exact ⟨by simp, (Ne.symm (Fg13.out.2 (g14, 0) (by simp)))⟩ | exact ⟨by simp, (Fg14.out.2 (g10s, r) (by simp))⟩ | exact ⟨by simp, (Fg14.out.2 (g10, q) (by simp))⟩ | exact ⟨by simp, (Fg14.out.2 (g9, y) (by simp))⟩ | exact ⟨by simp, (Fg14.out.2 (g8, x) (by simp))⟩ | exact ⟨by simp, (Fg14.out.2 (g_b, b) (by simp))⟩ | exact ⟨by simp, (Fg14.out.2 (g_a, a) (by simp))⟩)
            go_simp
            refine hK.out _ _ (⟨Env.cell (hs54) g8 (x) (by simp), Env.cell (hs54) g9 (y) (by simp)⟩) ?_
            clear hK K
            try simp only [Act.put, List.setIfInBounds_toArray, List.set_cons_zero, List.set_cons_succ]
            clear hs z0 z1 z2 z3 zl zf
            change Goes _ _ _ _ _ _ _ _ (fil wn53 g14 (t))
            generalize fil wn53 g14 (t) = wn54 at *
            have hs := hs54
            clear hs54
            refine Goes.take (i := 17) (o := { dst := some 15, op := _, type := _, pos := _, after := _, guard := _ }) (v := ?_) [] rfl (by kernel_rfl) (by kernel_rfl) (by kernel_rfl) (fun _ _ _ h => h) (by kernel_rfl) (fun L u h => h) (Or.inl ⟨by rfl, ?_⟩) (⟨Env.cell (hs) g8 (x) (by simp), Env.cell (hs) g9 (y) (by simp)⟩) ?_
            rotate_left
            · intro w hY; go_simp; try with_reducible rfl
            try simp only [Act.put, List.setIfInBounds_toArray, List.set_cons_zero, List.set_cons_succ]
            refine Goes.done (by kernel_rfl) ?_ _
            refine NoPanic.normal ?_
            go_wp2_with fail
            go_meet
            exact ⟨_, _, rfl, rfl, rfl, hid (hs.perm (by simp))⟩
        · skip
          go_simp
          refine hK.out _ _ (⟨Env.cell (hs.zero) g8 (x) (by simp), Env.cell (hs.zero) g9 (y) (by simp)⟩) ?_
          clear hK K
          try simp only [Act.put, List.setIfInBounds_toArray, List.set_cons_zero, List.set_cons_succ]
          have Fg13 := hid hs.fresh
          have hs55 := hs.zero
          clear hs
          generalize wn45.alloc (.cells #[.int .u64 0, .int .u64 0, .int .u64 0, .int .u64 0] 24) = wn55 at *
          generalize wn45.heap.size = g13 at *
          have hs := hs55
          clear hs55
          refine Goes.one (i := 7) (o := { dst := some 46, op := _, type := _, pos := _, after := _, guard := _ }) (by kernel_rfl) rfl (fun K hK => ?_)
          go_simp
          with_reducible refine (shift_at y y2 (64 - (k : Int)) hs YL.out (by have := HK.out; omega) (by have := HK.out; omega) Y2.out).mono ?_
          rintro e wn56 ⟨rfl, hs56⟩
          go_wp2_with fail
          refine hK.out _ _ (⟨Env.cell (hs56) g8 (x) (by simp), Env.cell (hs56) g9 (y) (by simp)⟩) ?_
          clear hK K
          try simp only [Act.put, List.setIfInBounds_toArray, List.set_cons_zero, List.set_cons_succ]
          clear hs
          have hs := hs56
          clear hs56
          refine Goes.one (i := 8) (o := { dst := some 47, op := _, type := _, pos := _, after := _, guard := _ }) (by kernel_rfl) rfl (fun K hK => ?_)
          go_simp
          with_reducible refine (div_at x2 y2 q t hs X2L.out Y2L.out Y20.out U1.out U2.out).mono ?_
          rintro e wn57 ⟨rfl, hs57⟩
          go_wp2_with fail
          refine hK.out _ _ (⟨Env.cell (hs57) g8 (x) (by simp), Env.cell (hs57) g9 (y) (by simp)⟩) ?_
          clear hK K
          try simp only [Act.put, List.setIfInBounds_toArray, List.set_cons_zero, List.set_cons_succ]
          clear hs
          have hs := hs57
          clear hs57
          refine Goes.take (i := 9) (o := { dst := some 38, op := _, type := _, pos := _, after := _, guard := _ }) (v := ?_) [] rfl (by kernel_rfl) (by kernel_rfl) (by kernel_rfl) (fun _ _ _ h => h) (by kernel_rfl) (fun L u h => h) (Or.inl ⟨by rfl, ?_⟩) (⟨Env.cell (hs) g8 (x) (by simp), Env.cell (hs) g9 (y) (by simp)⟩) ?_
          rotate_left
          · intro w hY; go_simp; try with_reducible rfl
          try simp only [Act.put, List.setIfInBounds_toArray, List.set_cons_zero, List.set_cons_succ]
          refine Goes.take (i := 10) (o := { dst := some 48, op := _, type := _, pos := _, after := _, guard := _ }) (v := ?_) [] rfl (by kernel_rfl) (by kernel_rfl) (by kernel_rfl) (fun _ _ _ h => h) (by kernel_rfl) (fun L u h => h) (Or.inl ⟨by rfl, ?_⟩) (⟨Env.cell (hs) g8 (x) (by simp), Env.cell (hs) g9 (y) (by simp)⟩) ?_
          rotate_left
          · intro w hY; go_simp; try with_reducible rfl
          try simp only [Act.put, List.setIfInBounds_toArray, List.set_cons_zero, List.set_cons_succ]
          refine Goes.take (i := 11) (o := { dst := some 49, op := _, type := _, pos := _, after := _, guard := _ }) (v := ?_) [] rfl (by kernel_rfl) (by kernel_rfl) (by kernel_rfl) (fun _ _ _ h => h) (by kernel_rfl) (fun L u h => h) (Or.inl ⟨by rfl, ?_⟩) (⟨Env.cell (hs) g8 (x) (by simp), Env.cell (hs) g9 (y) (by simp)⟩) ?_
          rotate_left
          · intro w hY; go_simp; try with_reducible rfl
          try simp only [Act.put, List.setIfInBounds_toArray, List.set_cons_zero, List.set_cons_succ]
          refine Goes.take (i := 12) (o := { dst := some 50, op := _, type := _, pos := _, after := _, guard := _ }) (v := ?_) [] rfl (by kernel_rfl) (by kernel_rfl) (by kernel_rfl) (fun _ _ _ h => h) (by kernel_rfl) (fun L u h => h) (Or.inl ⟨by rfl, ?_⟩) (⟨Env.cell (hs) g8 (x) (by simp), Env.cell (hs) g9 (y) (by simp)⟩) ?_
          rotate_left
          · intro w hY; go_simp; try with_reducible rfl
          try simp only [Act.put, List.setIfInBounds_toArray, List.set_cons_zero, List.set_cons_succ]
          refine Goes.one (i := 15) (o := { dst := none, op := _, type := _, pos := _, after := _, guard := _ }) (by kernel_rfl) rfl (fun K hK => ?_)
          obtain ⟨z0, z1, z2, z3⟩ := hs.cell g13 0 (by simp)
          have zl := hs.lt g13 0 (by simp)
          have zf := hs.frozen g13 0 (by simp)
          have hs58 := hs.set g13 0 (q) [(g14, 0), (g10s, r), (g10, q), (g9, y), (g8, x), (g_b, b), (g_a, a)] (by simp) Fg13.out.1 (fun p hp => by simp only [List.mem_cons, List.not_mem_nil, or_false] at hp; rcases hp with rfl | rfl | rfl | rfl | rfl | rfl | rfl <;> first | exact ⟨by simp, (Fg13.out.2 (g14, 0) (by simp))⟩ | exact ⟨by simp, (Fg13.out.2 (g10s, r) (by simp))⟩ | exact ⟨by simp, (Fg13.out.2 (g10, q) (by simp))⟩ | exact ⟨by simp, (Fg13.out.2 (g9, y) (by simp))⟩ | exact ⟨by simp, (Fg13.out.2 (g8, x) (by simp))⟩ | exact ⟨by simp, (Fg13.out.2 (g_b, b) (by simp))⟩ | exact ⟨by simp, (Fg13.out.2 (g_a, a) (by simp))⟩)
          go_simp
          refine hK.out _ _ (⟨Env.cell (hs58) g8 (x) (by simp), Env.cell (hs58) g9 (y) (by simp)⟩) ?_
          clear hK K
          try simp only [Act.put, List.setIfInBounds_toArray, List.set_cons_zero, List.set_cons_succ]
          clear hs z0 z1 z2 z3 zl zf
          change Goes _ _ _ _ _ _ _ _ (fil wn57 g13 (q))
          generalize fil wn57 g13 (q) = wn58 at *
          have hs := hs58
          clear hs58
          refine Goes.one (i := 16) (o := { dst := none, op := _, type := _, pos := _, after := _, guard := _ }) (by kernel_rfl) rfl (fun K hK => ?_)
          obtain ⟨z0, z1, z2, z3⟩ := hs.cell g14 0 (by simp)
          have zl := hs.lt g14 0 (by simp)
          have zf := hs.frozen g14 0 (by simp)
          have hs59 := hs.set g14 0 (t) [(g13, q), (g10s, r), (g10, q), (g9, y), (g8, x), (g_b, b), (g_a, a)] (by simp) Fg14.out.1 (fun p hp => by simp only [List.mem_cons, List.not_mem_nil, or_false] at hp; rcases hp with rfl | rfl | rfl | rfl | rfl | rfl | rfl <;> first | exact ⟨by simp, (Ne.symm (Fg13.out.2 (g14, 0) (by simp)))⟩ | exact ⟨by simp, (Fg14.out.2 (g10s, r) (by simp))⟩ | exact ⟨by simp, (Fg14.out.2 (g10, q) (by simp))⟩ | exact ⟨by simp, (Fg14.out.2 (g9, y) (by simp))⟩ | exact ⟨by simp, (Fg14.out.2 (g8, x) (by simp))⟩ | exact ⟨by simp, (Fg14.out.2 (g_b, b) (by simp))⟩ | exact ⟨by simp, (Fg14.out.2 (g_a, a) (by simp))⟩)
          go_simp
          refine hK.out _ _ (⟨Env.cell (hs59) g8 (x) (by simp), Env.cell (hs59) g9 (y) (by simp)⟩) ?_
          clear hK K
          try simp only [Act.put, List.setIfInBounds_toArray, List.set_cons_zero, List.set_cons_succ]
          clear hs z0 z1 z2 z3 zl zf
          change Goes _ _ _ _ _ _ _ _ (fil wn58 g14 (t))
          generalize fil wn58 g14 (t) = wn59 at *
          have hs := hs59
          clear hs59
          refine Goes.take (i := 17) (o := { dst := some 15, op := _, type := _, pos := _, after := _, guard := _ }) (v := ?_) [] rfl (by kernel_rfl) (by kernel_rfl) (by kernel_rfl) (fun _ _ _ h => h) (by kernel_rfl) (fun L u h => h) (Or.inl ⟨by rfl, ?_⟩) (⟨Env.cell (hs) g8 (x) (by simp), Env.cell (hs) g9 (y) (by simp)⟩) ?_
          rotate_left
          · intro w hY; go_simp; try with_reducible rfl
          try simp only [Act.put, List.setIfInBounds_toArray, List.set_cons_zero, List.set_cons_succ]
          refine Goes.done (by kernel_rfl) ?_ _
          refine NoPanic.normal ?_
          go_wp2_with fail
          go_meet
          exact ⟨_, _, rfl, rfl, rfl, hid (hs.perm (by simp))⟩
    · skip
      go_simp
      refine hK.out _ _ (⟨Env.cell (hs.zero) g8 (x) (by simp), Env.cell (hs.zero) g9 (y) (by simp)⟩) ?_
      clear hK K
      try simp only [Act.put, List.setIfInBounds_toArray, List.set_cons_zero, List.set_cons_succ]
      have Fg13 := hid hs.fresh
      have hs60 := hs.zero
      clear hs
      generalize wd.alloc (.cells #[.int .u64 0, .int .u64 0, .int .u64 0, .int .u64 0] 24) = wn60 at *
      generalize wd.heap.size = g13 at *
      have hs := hs60
      clear hs60
      refine Goes.two (i := 3) (j := 14) (o := { dst := some 42, op := _, type := _, pos := _, after := _, guard := _ }) (p := { dst := some 14, op := _, type := _, pos := _, after := _, guard := _ }) (by kernel_rfl) rfl rfl (fun K hK => ?_) (fun K hK => ?_)
      · skip
        go_simp
        with_reducible refine (shift_at x x2 (64 - (k : Int)) hs XL.out (by have := HK.out; omega) (by have := HK.out; omega) X2.out).mono ?_
        rintro e wn61 ⟨rfl, hs61⟩
        go_wp2_with fail
        refine hK.out _ _ (⟨Env.cell (hs61) g8 (x) (by simp), Env.cell (hs61) g9 (y) (by simp)⟩) ?_
        clear hK K
        try simp only [Act.put, List.setIfInBounds_toArray, List.set_cons_zero, List.set_cons_succ]
        clear hs
        have hs := hs61
        clear hs61
        refine Goes.two (i := 7) (j := 14) (o := { dst := some 46, op := _, type := _, pos := _, after := _, guard := _ }) (p := { dst := some 14, op := _, type := _, pos := _, after := _, guard := _ }) (by kernel_rfl) rfl rfl (fun K hK => ?_) (fun K hK => ?_)
        · skip
          go_simp
          with_reducible refine (shift_at y y2 (64 - (k : Int)) hs YL.out (by have := HK.out; omega) (by have := HK.out; omega) Y2.out).mono ?_
          rintro e wn62 ⟨rfl, hs62⟩
          go_wp2_with fail
          refine hK.out _ _ (⟨Env.cell (hs62) g8 (x) (by simp), Env.cell (hs62) g9 (y) (by simp)⟩) ?_
          clear hK K
          try simp only [Act.put, List.setIfInBounds_toArray, List.set_cons_zero, List.set_cons_succ]
          clear hs
          have hs := hs62
          clear hs62
          refine Goes.two (i := 8) (j := 14) (o := { dst := some 47, op := _, type := _, pos := _, after := _, guard := _ }) (p := { dst := some 14, op := _, type := _, pos := _, after := _, guard := _ }) (by kernel_rfl) rfl rfl (fun K hK => ?_) (fun K hK => ?_)
          · skip
            go_simp
            with_reducible refine (div_at x2 y2 q t hs X2L.out Y2L.out Y20.out U1.out U2.out).mono ?_
            rintro e wn63 ⟨rfl, hs63⟩
            go_wp2_with fail
            refine hK.out _ _ (⟨Env.cell (hs63) g8 (x) (by simp), Env.cell (hs63) g9 (y) (by simp)⟩) ?_
            clear hK K
            try simp only [Act.put, List.setIfInBounds_toArray, List.set_cons_zero, List.set_cons_succ]
            clear hs
            have hs := hs63
            clear hs63
            refine Goes.take (i := 9) (o := { dst := some 38, op := _, type := _, pos := _, after := _, guard := _ }) (v := ?_) [] rfl (by kernel_rfl) (by kernel_rfl) (by kernel_rfl) (fun _ _ _ h => h) (by kernel_rfl) (fun L u h => h) (Or.inl ⟨by rfl, ?_⟩) (⟨Env.cell (hs) g8 (x) (by simp), Env.cell (hs) g9 (y) (by simp)⟩) ?_
            rotate_left
            · intro w hY; go_simp; try with_reducible rfl
            try simp only [Act.put, List.setIfInBounds_toArray, List.set_cons_zero, List.set_cons_succ]
            refine Goes.take (i := 10) (o := { dst := some 48, op := _, type := _, pos := _, after := _, guard := _ }) (v := ?_) [] rfl (by kernel_rfl) (by kernel_rfl) (by kernel_rfl) (fun _ _ _ h => h) (by kernel_rfl) (fun L u h => h) (Or.inl ⟨by rfl, ?_⟩) (⟨Env.cell (hs) g8 (x) (by simp), Env.cell (hs) g9 (y) (by simp)⟩) ?_
            rotate_left
            · intro w hY; go_simp; try with_reducible rfl
            try simp only [Act.put, List.setIfInBounds_toArray, List.set_cons_zero, List.set_cons_succ]
            refine Goes.take (i := 11) (o := { dst := some 49, op := _, type := _, pos := _, after := _, guard := _ }) (v := ?_) [] rfl (by kernel_rfl) (by kernel_rfl) (by kernel_rfl) (fun _ _ _ h => h) (by kernel_rfl) (fun L u h => h) (Or.inl ⟨by rfl, ?_⟩) (⟨Env.cell (hs) g8 (x) (by simp), Env.cell (hs) g9 (y) (by simp)⟩) ?_
            rotate_left
            · intro w hY; go_simp; try with_reducible rfl
            try simp only [Act.put, List.setIfInBounds_toArray, List.set_cons_zero, List.set_cons_succ]
            refine Goes.take (i := 12) (o := { dst := some 50, op := _, type := _, pos := _, after := _, guard := _ }) (v := ?_) [] rfl (by kernel_rfl) (by kernel_rfl) (by kernel_rfl) (fun _ _ _ h => h) (by kernel_rfl) (fun L u h => h) (Or.inl ⟨by rfl, ?_⟩) (⟨Env.cell (hs) g8 (x) (by simp), Env.cell (hs) g9 (y) (by simp)⟩) ?_
            rotate_left
            · intro w hY; go_simp; try with_reducible rfl
            try simp only [Act.put, List.setIfInBounds_toArray, List.set_cons_zero, List.set_cons_succ]
            refine Goes.one (i := 14) (o := { dst := some 14, op := _, type := _, pos := _, after := _, guard := _ }) (by kernel_rfl) rfl (fun K hK => ?_)
            go_simp
            refine hK.out _ _ (⟨Env.cell (hs.zero) g8 (x) (by simp), Env.cell (hs.zero) g9 (y) (by simp)⟩) ?_
            clear hK K
            try simp only [Act.put, List.setIfInBounds_toArray, List.set_cons_zero, List.set_cons_succ]
            have Fg14 := hid hs.fresh
            have hs64 := hs.zero
            clear hs
            generalize wn63.alloc (.cells #[.int .u64 0, .int .u64 0, .int .u64 0, .int .u64 0] 24) = wn64 at *
            generalize wn63.heap.size = g14 at *
            have hs := hs64
            clear hs64
            refine Goes.one (i := 15) (o := { dst := none, op := _, type := _, pos := _, after := _, guard := _ }) (by kernel_rfl) rfl (fun K hK => ?_)
            obtain ⟨z0, z1, z2, z3⟩ := hs.cell g13 0 (by simp)
            have zl := hs.lt g13 0 (by simp)
            have zf := hs.frozen g13 0 (by simp)
            have hs65 := hs.set g13 0 (q) [(g14, 0), (g10s, r), (g10, q), (g9, y), (g8, x), (g_b, b), (g_a, a)] (by simp) Fg13.out.1 (fun p hp => by simp only [List.mem_cons, List.not_mem_nil, or_false] at hp; rcases hp with rfl | rfl | rfl | rfl | rfl | rfl | rfl <;> first | exact ⟨by simp, (Ne.symm (Fg14.out.2 (g13, 0) (by simp)))⟩ | exact ⟨by simp, (Fg13.out.2 (g10s, r) (by simp))⟩ | exact ⟨by simp, (Fg13.out.2 (g10, q) (by simp))⟩ | exact ⟨by simp, (Fg13.out.2 (g9, y) (by simp))⟩ | exact ⟨by simp, (Fg13.out.2 (g8, x) (by simp))⟩ | exact ⟨by simp, (Fg13.out.2 (g_b, b) (by simp))⟩ | exact ⟨by simp, (Fg13.out.2 (g_a, a) (by simp))⟩)
            go_simp
            refine hK.out _ _ (⟨Env.cell (hs65) g8 (x) (by simp), Env.cell (hs65) g9 (y) (by simp)⟩) ?_
            clear hK K
            try simp only [Act.put, List.setIfInBounds_toArray, List.set_cons_zero, List.set_cons_succ]
            clear hs z0 z1 z2 z3 zl zf
            change Goes _ _ _ _ _ _ _ _ (fil wn64 g13 (q))
            generalize fil wn64 g13 (q) = wn65 at *
            have hs := hs65
            clear hs65
            refine Goes.one (i := 16) (o := { dst := none, op := _, type := _, pos := _, after := _, guard := _ }) (by kernel_rfl) rfl (fun K hK => ?_)
            obtain ⟨z0, z1, z2, z3⟩ := hs.cell g14 0 (by simp)
            have zl := hs.lt g14 0 (by simp)
            have zf := hs.frozen g14 0 (by simp)
            have hs66 := hs.set g14 0 (t) [(g13, q), (g10s, r), (g10, q), (g9, y), (g8, x), (g_b, b), (g_a, a)] (by simp) Fg14.out.1 (fun p hp => by simp only [List.mem_cons, List.not_mem_nil, or_false] at hp; rcases hp with rfl | rfl | rfl | rfl | rfl | rfl | rfl <;> first | exact ⟨by simp, (Fg14.out.2 (g13, 0) (by simp))⟩ | exact ⟨by simp, (Fg14.out.2 (g10s, r) (by simp))⟩ | exact ⟨by simp, (Fg14.out.2 (g10, q) (by simp))⟩ | exact ⟨by simp, (Fg14.out.2 (g9, y) (by simp))⟩ | exact ⟨by simp, (Fg14.out.2 (g8, x) (by simp))⟩ | exact ⟨by simp, (Fg14.out.2 (g_b, b) (by simp))⟩ | exact ⟨by simp, (Fg14.out.2 (g_a, a) (by simp))⟩)
            go_simp
            refine hK.out _ _ (⟨Env.cell (hs66) g8 (x) (by simp), Env.cell (hs66) g9 (y) (by simp)⟩) ?_
            clear hK K
            try simp only [Act.put, List.setIfInBounds_toArray, List.set_cons_zero, List.set_cons_succ]
            clear hs z0 z1 z2 z3 zl zf
            change Goes _ _ _ _ _ _ _ _ (fil wn65 g14 (t))
            generalize fil wn65 g14 (t) = wn66 at *
            have hs := hs66
            clear hs66
            refine Goes.take (i := 17) (o := { dst := some 15, op := _, type := _, pos := _, after := _, guard := _ }) (v := ?_) [] rfl (by kernel_rfl) (by kernel_rfl) (by kernel_rfl) (fun _ _ _ h => h) (by kernel_rfl) (fun L u h => h) (Or.inl ⟨by rfl, ?_⟩) (⟨Env.cell (hs) g8 (x) (by simp), Env.cell (hs) g9 (y) (by simp)⟩) ?_
            rotate_left
            · intro w hY; go_simp; try with_reducible rfl
            try simp only [Act.put, List.setIfInBounds_toArray, List.set_cons_zero, List.set_cons_succ]
            refine Goes.done (by kernel_rfl) ?_ _
            refine NoPanic.normal ?_
            go_wp2_with fail
            go_meet
            exact ⟨_, _, rfl, rfl, rfl, hid (hs.perm (by simp))⟩
          · skip
            go_simp
            refine hK.out _ _ (⟨Env.cell (hs.zero) g8 (x) (by simp), Env.cell (hs.zero) g9 (y) (by simp)⟩) ?_
            clear hK K
            try simp only [Act.put, List.setIfInBounds_toArray, List.set_cons_zero, List.set_cons_succ]
            have Fg14 := hid hs.fresh
            have hs67 := hs.zero
            clear hs
            generalize wn62.alloc (.cells #[.int .u64 0, .int .u64 0, .int .u64 0, .int .u64 0] 24) = wn67 at *
            generalize wn62.heap.size = g14 at *
            have hs := hs67
            clear hs67
            refine Goes.one (i := 8) (o := { dst := some 47, op := _, type := _, pos := _, after := _, guard := _ }) (by kernel_rfl) rfl (fun K hK => ?_)
            go_simp
            with_reducible refine (div_at x2 y2 q t hs X2L.out Y2L.out Y20.out U1.out U2.out).mono ?_
            rintro e wn68 ⟨rfl, hs68⟩
            go_wp2_with fail
            refine hK.out _ _ (⟨Env.cell (hs68) g8 (x) (by simp), Env.cell (hs68) g9 (y) (by simp)⟩) ?_
            clear hK K
            try simp only [Act.put, List.setIfInBounds_toArray, List.set_cons_zero, List.set_cons_succ]
            clear hs
            have hs := hs68
            clear hs68
            refine Goes.take (i := 9) (o := { dst := some 38, op := _, type := _, pos := _, after := _, guard := _ }) (v := ?_) [] rfl (by kernel_rfl) (by kernel_rfl) (by kernel_rfl) (fun _ _ _ h => h) (by kernel_rfl) (fun L u h => h) (Or.inl ⟨by rfl, ?_⟩) (⟨Env.cell (hs) g8 (x) (by simp), Env.cell (hs) g9 (y) (by simp)⟩) ?_
            rotate_left
            · intro w hY; go_simp; try with_reducible rfl
            try simp only [Act.put, List.setIfInBounds_toArray, List.set_cons_zero, List.set_cons_succ]
            refine Goes.take (i := 10) (o := { dst := some 48, op := _, type := _, pos := _, after := _, guard := _ }) (v := ?_) [] rfl (by kernel_rfl) (by kernel_rfl) (by kernel_rfl) (fun _ _ _ h => h) (by kernel_rfl) (fun L u h => h) (Or.inl ⟨by rfl, ?_⟩) (⟨Env.cell (hs) g8 (x) (by simp), Env.cell (hs) g9 (y) (by simp)⟩) ?_
            rotate_left
            · intro w hY; go_simp; try with_reducible rfl
            try simp only [Act.put, List.setIfInBounds_toArray, List.set_cons_zero, List.set_cons_succ]
            refine Goes.take (i := 11) (o := { dst := some 49, op := _, type := _, pos := _, after := _, guard := _ }) (v := ?_) [] rfl (by kernel_rfl) (by kernel_rfl) (by kernel_rfl) (fun _ _ _ h => h) (by kernel_rfl) (fun L u h => h) (Or.inl ⟨by rfl, ?_⟩) (⟨Env.cell (hs) g8 (x) (by simp), Env.cell (hs) g9 (y) (by simp)⟩) ?_
            rotate_left
            · intro w hY; go_simp; try with_reducible rfl
            try simp only [Act.put, List.setIfInBounds_toArray, List.set_cons_zero, List.set_cons_succ]
            refine Goes.take (i := 12) (o := { dst := some 50, op := _, type := _, pos := _, after := _, guard := _ }) (v := ?_) [] rfl (by kernel_rfl) (by kernel_rfl) (by kernel_rfl) (fun _ _ _ h => h) (by kernel_rfl) (fun L u h => h) (Or.inl ⟨by rfl, ?_⟩) (⟨Env.cell (hs) g8 (x) (by simp), Env.cell (hs) g9 (y) (by simp)⟩) ?_
            rotate_left
            · intro w hY; go_simp; try with_reducible rfl
            try simp only [Act.put, List.setIfInBounds_toArray, List.set_cons_zero, List.set_cons_succ]
            refine Goes.one (i := 15) (o := { dst := none, op := _, type := _, pos := _, after := _, guard := _ }) (by kernel_rfl) rfl (fun K hK => ?_)
            obtain ⟨z0, z1, z2, z3⟩ := hs.cell g13 0 (by simp)
            have zl := hs.lt g13 0 (by simp)
            have zf := hs.frozen g13 0 (by simp)
            have hs69 := hs.set g13 0 (q) [(g14, 0), (g10s, r), (g10, q), (g9, y), (g8, x), (g_b, b), (g_a, a)] (by simp) Fg13.out.1 (fun p hp => by simp only [List.mem_cons, List.not_mem_nil, or_false] at hp; rcases hp with rfl | rfl | rfl | rfl | rfl | rfl | rfl <;> first | exact ⟨by simp, (Ne.symm (Fg14.out.2 (g13, 0) (by simp)))⟩ | exact ⟨by simp, (Fg13.out.2 (g10s, r) (by simp))⟩ | exact ⟨by simp, (Fg13.out.2 (g10, q) (by simp))⟩ | exact ⟨by simp, (Fg13.out.2 (g9, y) (by simp))⟩ | exact ⟨by simp, (Fg13.out.2 (g8, x) (by simp))⟩ | exact ⟨by simp, (Fg13.out.2 (g_b, b) (by simp))⟩ | exact ⟨by simp, (Fg13.out.2 (g_a, a) (by simp))⟩)
            go_simp
            refine hK.out _ _ (⟨Env.cell (hs69) g8 (x) (by simp), Env.cell (hs69) g9 (y) (by simp)⟩) ?_
            clear hK K
            try simp only [Act.put, List.setIfInBounds_toArray, List.set_cons_zero, List.set_cons_succ]
            clear hs z0 z1 z2 z3 zl zf
            change Goes _ _ _ _ _ _ _ _ (fil wn68 g13 (q))
            generalize fil wn68 g13 (q) = wn69 at *
            have hs := hs69
            clear hs69
            refine Goes.one (i := 16) (o := { dst := none, op := _, type := _, pos := _, after := _, guard := _ }) (by kernel_rfl) rfl (fun K hK => ?_)
            obtain ⟨z0, z1, z2, z3⟩ := hs.cell g14 0 (by simp)
            have zl := hs.lt g14 0 (by simp)
            have zf := hs.frozen g14 0 (by simp)
            have hs70 := hs.set g14 0 (t) [(g13, q), (g10s, r), (g10, q), (g9, y), (g8, x), (g_b, b), (g_a, a)] (by simp) Fg14.out.1 (fun p hp => by simp only [List.mem_cons, List.not_mem_nil, or_false] at hp; rcases hp with rfl | rfl | rfl | rfl | rfl | rfl | rfl <;> first | exact ⟨by simp, (Fg14.out.2 (g13, 0) (by simp))⟩ | exact ⟨by simp, (Fg14.out.2 (g10s, r) (by simp))⟩ | exact ⟨by simp, (Fg14.out.2 (g10, q) (by simp))⟩ | exact ⟨by simp, (Fg14.out.2 (g9, y) (by simp))⟩ | exact ⟨by simp, (Fg14.out.2 (g8, x) (by simp))⟩ | exact ⟨by simp, (Fg14.out.2 (g_b, b) (by simp))⟩ | exact ⟨by simp, (Fg14.out.2 (g_a, a) (by simp))⟩)
            go_simp
            refine hK.out _ _ (⟨Env.cell (hs70) g8 (x) (by simp), Env.cell (hs70) g9 (y) (by simp)⟩) ?_
            clear hK K
            try simp only [Act.put, List.setIfInBounds_toArray, List.set_cons_zero, List.set_cons_succ]
            clear hs z0 z1 z2 z3 zl zf
            change Goes _ _ _ _ _ _ _ _ (fil wn69 g14 (t))
            generalize fil wn69 g14 (t) = wn70 at *
            have hs := hs70
            clear hs70
            refine Goes.take (i := 17) (o := { dst := some 15, op := _, type := _, pos := _, after := _, guard := _ }) (v := ?_) [] rfl (by kernel_rfl) (by kernel_rfl) (by kernel_rfl) (fun _ _ _ h => h) (by kernel_rfl) (fun L u h => h) (Or.inl ⟨by rfl, ?_⟩) (⟨Env.cell (hs) g8 (x) (by simp), Env.cell (hs) g9 (y) (by simp)⟩) ?_
            rotate_left
            · intro w hY; go_simp; try with_reducible rfl
            try simp only [Act.put, List.setIfInBounds_toArray, List.set_cons_zero, List.set_cons_succ]
            refine Goes.done (by kernel_rfl) ?_ _
            refine NoPanic.normal ?_
            go_wp2_with fail
            go_meet
            exact ⟨_, _, rfl, rfl, rfl, hid (hs.perm (by simp))⟩
        · skip
          go_simp
          refine hK.out _ _ (⟨Env.cell (hs.zero) g8 (x) (by simp), Env.cell (hs.zero) g9 (y) (by simp)⟩) ?_
          clear hK K
          try simp only [Act.put, List.setIfInBounds_toArray, List.set_cons_zero, List.set_cons_succ]
          have Fg14 := hid hs.fresh
          have hs71 := hs.zero
          clear hs
          generalize wn61.alloc (.cells #[.int .u64 0, .int .u64 0, .int .u64 0, .int .u64 0] 24) = wn71 at *
          generalize wn61.heap.size = g14 at *
          have hs := hs71
          clear hs71
          refine Goes.one (i := 7) (o := { dst := some 46, op := _, type := _, pos := _, after := _, guard := _ }) (by kernel_rfl) rfl (fun K hK => ?_)
          go_simp
          with_reducible refine (shift_at y y2 (64 - (k : Int)) hs YL.out (by have := HK.out; omega) (by have := HK.out; omega) Y2.out).mono ?_
          rintro e wn72 ⟨rfl, hs72⟩
          go_wp2_with fail
          refine hK.out _ _ (⟨Env.cell (hs72) g8 (x) (by simp), Env.cell (hs72) g9 (y) (by simp)⟩) ?_
          clear hK K
          try simp only [Act.put, List.setIfInBounds_toArray, List.set_cons_zero, List.set_cons_succ]
          clear hs
          have hs := hs72
          clear hs72
          refine Goes.one (i := 8) (o := { dst := some 47, op := _, type := _, pos := _, after := _, guard := _ }) (by kernel_rfl) rfl (fun K hK => ?_)
          go_simp
          with_reducible refine (div_at x2 y2 q t hs X2L.out Y2L.out Y20.out U1.out U2.out).mono ?_
          rintro e wn73 ⟨rfl, hs73⟩
          go_wp2_with fail
          refine hK.out _ _ (⟨Env.cell (hs73) g8 (x) (by simp), Env.cell (hs73) g9 (y) (by simp)⟩) ?_
          clear hK K
          try simp only [Act.put, List.setIfInBounds_toArray, List.set_cons_zero, List.set_cons_succ]
          clear hs
          have hs := hs73
          clear hs73
          refine Goes.take (i := 9) (o := { dst := some 38, op := _, type := _, pos := _, after := _, guard := _ }) (v := ?_) [] rfl (by kernel_rfl) (by kernel_rfl) (by kernel_rfl) (fun _ _ _ h => h) (by kernel_rfl) (fun L u h => h) (Or.inl ⟨by rfl, ?_⟩) (⟨Env.cell (hs) g8 (x) (by simp), Env.cell (hs) g9 (y) (by simp)⟩) ?_
          rotate_left
          · intro w hY; go_simp; try with_reducible rfl
          try simp only [Act.put, List.setIfInBounds_toArray, List.set_cons_zero, List.set_cons_succ]
          refine Goes.take (i := 10) (o := { dst := some 48, op := _, type := _, pos := _, after := _, guard := _ }) (v := ?_) [] rfl (by kernel_rfl) (by kernel_rfl) (by kernel_rfl) (fun _ _ _ h => h) (by kernel_rfl) (fun L u h => h) (Or.inl ⟨by rfl, ?_⟩) (⟨Env.cell (hs) g8 (x) (by simp), Env.cell (hs) g9 (y) (by simp)⟩) ?_
          rotate_left
          · intro w hY; go_simp; try with_reducible rfl
          try simp only [Act.put, List.setIfInBounds_toArray, List.set_cons_zero, List.set_cons_succ]
          refine Goes.take (i := 11) (o := { dst := some 49, op := _, type := _, pos := _, after := _, guard := _ }) (v := ?_) [] rfl (by kernel_rfl) (by kernel_rfl) (by kernel_rfl) (fun _ _ _ h => h) (by kernel_rfl) (fun L u h => h) (Or.inl ⟨by rfl, ?_⟩) (⟨Env.cell (hs) g8 (x) (by simp), Env.cell (hs) g9 (y) (by simp)⟩) ?_
          rotate_left
          · intro w hY; go_simp; try with_reducible rfl
          try simp only [Act.put, List.setIfInBounds_toArray, List.set_cons_zero, List.set_cons_succ]
          refine Goes.take (i := 12) (o := { dst := some 50, op := _, type := _, pos := _, after := _, guard := _ }) (v := ?_) [] rfl (by kernel_rfl) (by kernel_rfl) (by kernel_rfl) (fun _ _ _ h => h) (by kernel_rfl) (fun L u h => h) (Or.inl ⟨by rfl, ?_⟩) (⟨Env.cell (hs) g8 (x) (by simp), Env.cell (hs) g9 (y) (by simp)⟩) ?_
          rotate_left
          · intro w hY; go_simp; try with_reducible rfl
          try simp only [Act.put, List.setIfInBounds_toArray, List.set_cons_zero, List.set_cons_succ]
          refine Goes.one (i := 15) (o := { dst := none, op := _, type := _, pos := _, after := _, guard := _ }) (by kernel_rfl) rfl (fun K hK => ?_)
          obtain ⟨z0, z1, z2, z3⟩ := hs.cell g13 0 (by simp)
          have zl := hs.lt g13 0 (by simp)
          have zf := hs.frozen g13 0 (by simp)
          have hs74 := hs.set g13 0 (q) [(g14, 0), (g10s, r), (g10, q), (g9, y), (g8, x), (g_b, b), (g_a, a)] (by simp) Fg13.out.1 (fun p hp => by simp only [List.mem_cons, List.not_mem_nil, or_false] at hp; rcases hp with rfl | rfl | rfl | rfl | rfl | rfl | rfl <;> first | exact ⟨by simp, (Ne.symm (Fg14.out.2 (g13, 0) (by simp)))⟩ | exact ⟨by simp, (Fg13.out.2 (g10s, r) (by simp))⟩ | exact ⟨by simp, (Fg13.out.2 (g10, q) (by simp))⟩ | exact ⟨by simp, (Fg13.out.2 (g9, y) (by simp))⟩ | exact ⟨by simp, (Fg13.out.2 (g8, x) (by simp))⟩ | exact ⟨by simp, (Fg13.out.2 (g_b, b) (by simp))⟩ | exact ⟨by simp, (Fg13.out.2 (g_a, a) (by simp))⟩)
          go_simp
          refine hK.out _ _ (⟨Env.cell (hs74) g8 (x) (by simp), Env.cell (hs74) g9 (y) (by simp)⟩) ?_
          clear hK K
          try simp only [Act.put, List.setIfInBounds_toArray, List.set_cons_zero, List.set_cons_succ]
          clear hs z0 z1 z2 z3 zl zf
          change Goes _ _ _ _ _ _ _ _ (fil wn73 g13 (q))
          generalize fil wn73 g13 (q) = wn74 at *
          have hs := hs74
          clear hs74
          refine Goes.one (i := 16) (o := { dst := none, op := _, type := _, pos := _, after := _, guard := _ }) (by kernel_rfl) rfl (fun K hK => ?_)
          obtain ⟨z0, z1, z2, z3⟩ := hs.cell g14 0 (by simp)
          have zl := hs.lt g14 0 (by simp)
          have zf := hs.frozen g14 0 (by simp)
          have hs75 := hs.set g14 0 (t) [(g13, q), (g10s, r), (g10, q), (g9, y), (g8, x), (g_b, b), (g_a, a)] (by simp) Fg14.out.1 (fun p hp => by simp only [List.mem_cons, List.not_mem_nil, or_false] at hp; rcases hp with rfl | rfl | rfl | rfl | rfl | rfl | rfl <;> first | exact ⟨by simp, (Fg14.out.2 (g13, 0) (by simp))⟩ | exact ⟨by simp, (Fg14.out.2 (g10s, r) (by simp))⟩ | exact ⟨by simp, (Fg14.out.2 (g10, q) (by simp))⟩ | exact ⟨by simp, (Fg14.out.2 (g9, y) (by simp))⟩ | exact ⟨by simp, (Fg14.out.2 (g8, x) (by simp))⟩ | exact ⟨by simp, (Fg14.out.2 (g_b, b) (by simp))⟩ | exact ⟨by simp, (Fg14.out.2 (g_a, a) (by simp))⟩)
          go_simp
          refine hK.out _ _ (⟨Env.cell (hs75) g8 (x) (by simp), Env.cell (hs75) g9 (y) (by simp)⟩) ?_
          clear hK K
          try simp only [Act.put, List.setIfInBounds_toArray, List.set_cons_zero, List.set_cons_succ]
          clear hs z0 z1 z2 z3 zl zf
          change Goes _ _ _ _ _ _ _ _ (fil wn74 g14 (t))
          generalize fil wn74 g14 (t) = wn75 at *
          have hs := hs75
          clear hs75
          refine Goes.take (i := 17) (o := { dst := some 15, op := _, type := _, pos := _, after := _, guard := _ }) (v := ?_) [] rfl (by kernel_rfl) (by kernel_rfl) (by kernel_rfl) (fun _ _ _ h => h) (by kernel_rfl) (fun L u h => h) (Or.inl ⟨by rfl, ?_⟩) (⟨Env.cell (hs) g8 (x) (by simp), Env.cell (hs) g9 (y) (by simp)⟩) ?_
          rotate_left
          · intro w hY; go_simp; try with_reducible rfl
          try simp only [Act.put, List.setIfInBounds_toArray, List.set_cons_zero, List.set_cons_succ]
          refine Goes.done (by kernel_rfl) ?_ _
          refine NoPanic.normal ?_
          go_wp2_with fail
          go_meet
          exact ⟨_, _, rfl, rfl, rfl, hid (hs.perm (by simp))⟩
      · skip
        go_simp
        refine hK.out _ _ (⟨Env.cell (hs.zero) g8 (x) (by simp), Env.cell (hs.zero) g9 (y) (by simp)⟩) ?_
        clear hK K
        try simp only [Act.put, List.setIfInBounds_toArray, List.set_cons_zero, List.set_cons_succ]
        have Fg14 := hid hs.fresh
        have hs76 := hs.zero
        clear hs
        generalize wn60.alloc (.cells #[.int .u64 0, .int .u64 0, .int .u64 0, .int .u64 0] 24) = wn76 at *
        generalize wn60.heap.size = g14 at *
        have hs := hs76
        clear hs76
        refine Goes.one (i := 3) (o := { dst := some 42, op := _, type := _, pos := _, after := _, guard := _ }) (by kernel_rfl) rfl (fun K hK => ?_)
        go_simp
        with_reducible refine (shift_at x x2 (64 - (k : Int)) hs XL.out (by have := HK.out; omega) (by have := HK.out; omega) X2.out).mono ?_
        rintro e wn77 ⟨rfl, hs77⟩
        go_wp2_with fail
        refine hK.out _ _ (⟨Env.cell (hs77) g8 (x) (by simp), Env.cell (hs77) g9 (y) (by simp)⟩) ?_
        clear hK K
        try simp only [Act.put, List.setIfInBounds_toArray, List.set_cons_zero, List.set_cons_succ]
        clear hs
        have hs := hs77
        clear hs77
        refine Goes.one (i := 7) (o := { dst := some 46, op := _, type := _, pos := _, after := _, guard := _ }) (by kernel_rfl) rfl (fun K hK => ?_)
        go_simp
        with_reducible refine (shift_at y y2 (64 - (k : Int)) hs YL.out (by have := HK.out; omega) (by have := HK.out; omega) Y2.out).mono ?_
        rintro e wn78 ⟨rfl, hs78⟩
        go_wp2_with fail
        refine hK.out _ _ (⟨Env.cell (hs78) g8 (x) (by simp), Env.cell (hs78) g9 (y) (by simp)⟩) ?_
        clear hK K
        try simp only [Act.put, List.setIfInBounds_toArray, List.set_cons_zero, List.set_cons_succ]
        clear hs
        have hs := hs78
        clear hs78
        refine Goes.one (i := 8) (o := { dst := some 47, op := _, type := _, pos := _, after := _, guard := _ }) (by kernel_rfl) rfl (fun K hK => ?_)
        go_simp
        with_reducible refine (div_at x2 y2 q t hs X2L.out Y2L.out Y20.out U1.out U2.out).mono ?_
        rintro e wn79 ⟨rfl, hs79⟩
        go_wp2_with fail
        refine hK.out _ _ (⟨Env.cell (hs79) g8 (x) (by simp), Env.cell (hs79) g9 (y) (by simp)⟩) ?_
        clear hK K
        try simp only [Act.put, List.setIfInBounds_toArray, List.set_cons_zero, List.set_cons_succ]
        clear hs
        have hs := hs79
        clear hs79
        refine Goes.take (i := 9) (o := { dst := some 38, op := _, type := _, pos := _, after := _, guard := _ }) (v := ?_) [] rfl (by kernel_rfl) (by kernel_rfl) (by kernel_rfl) (fun _ _ _ h => h) (by kernel_rfl) (fun L u h => h) (Or.inl ⟨by rfl, ?_⟩) (⟨Env.cell (hs) g8 (x) (by simp), Env.cell (hs) g9 (y) (by simp)⟩) ?_
        rotate_left
        · intro w hY; go_simp; try with_reducible rfl
        try simp only [Act.put, List.setIfInBounds_toArray, List.set_cons_zero, List.set_cons_succ]
        refine Goes.take (i := 10) (o := { dst := some 48, op := _, type := _, pos := _, after := _, guard := _ }) (v := ?_) [] rfl (by kernel_rfl) (by kernel_rfl) (by kernel_rfl) (fun _ _ _ h => h) (by kernel_rfl) (fun L u h => h) (Or.inl ⟨by rfl, ?_⟩) (⟨Env.cell (hs) g8 (x) (by simp), Env.cell (hs) g9 (y) (by simp)⟩) ?_
        rotate_left
        · intro w hY; go_simp; try with_reducible rfl
        try simp only [Act.put, List.setIfInBounds_toArray, List.set_cons_zero, List.set_cons_succ]
        refine Goes.take (i := 11) (o := { dst := some 49, op := _, type := _, pos := _, after := _, guard := _ }) (v := ?_) [] rfl (by kernel_rfl) (by kernel_rfl) (by kernel_rfl) (fun _ _ _ h => h) (by kernel_rfl) (fun L u h => h) (Or.inl ⟨by rfl, ?_⟩) (⟨Env.cell (hs) g8 (x) (by simp), Env.cell (hs) g9 (y) (by simp)⟩) ?_
        rotate_left
        · intro w hY; go_simp; try with_reducible rfl
        try simp only [Act.put, List.setIfInBounds_toArray, List.set_cons_zero, List.set_cons_succ]
        refine Goes.take (i := 12) (o := { dst := some 50, op := _, type := _, pos := _, after := _, guard := _ }) (v := ?_) [] rfl (by kernel_rfl) (by kernel_rfl) (by kernel_rfl) (fun _ _ _ h => h) (by kernel_rfl) (fun L u h => h) (Or.inl ⟨by rfl, ?_⟩) (⟨Env.cell (hs) g8 (x) (by simp), Env.cell (hs) g9 (y) (by simp)⟩) ?_
        rotate_left
        · intro w hY; go_simp; try with_reducible rfl
        try simp only [Act.put, List.setIfInBounds_toArray, List.set_cons_zero, List.set_cons_succ]
        refine Goes.one (i := 15) (o := { dst := none, op := _, type := _, pos := _, after := _, guard := _ }) (by kernel_rfl) rfl (fun K hK => ?_)
        obtain ⟨z0, z1, z2, z3⟩ := hs.cell g13 0 (by simp)
        have zl := hs.lt g13 0 (by simp)
        have zf := hs.frozen g13 0 (by simp)
        have hs80 := hs.set g13 0 (q) [(g14, 0), (g10s, r), (g10, q), (g9, y), (g8, x), (g_b, b), (g_a, a)] (by simp) Fg13.out.1 (fun p hp => by simp only [List.mem_cons, List.not_mem_nil, or_false] at hp; rcases hp with rfl | rfl | rfl | rfl | rfl | rfl | rfl <;> first | exact ⟨by simp, (Ne.symm (Fg14.out.2 (g13, 0) (by simp)))⟩ | exact ⟨by simp, (Fg13.out.2 (g10s, r) (by simp))⟩ | exact ⟨by simp, (Fg13.out.2 (g10, q) (by simp))⟩ | exact ⟨by simp, (Fg13.out.2 (g9, y) (by simp))⟩ | exact ⟨by simp, (Fg13.out.2 (g8, x) (by simp))⟩ | exact ⟨by simp, (Fg13.out.2 (g_b, b) (by simp))⟩ | exact ⟨by simp, (Fg13.out.2 (g_a, a) (by simp))⟩)
        go_simp
        refine hK.out _ _ (⟨Env.cell (hs80) g8 (x) (by simp), Env.cell (hs80) g9 (y) (by simp)⟩) ?_
        clear hK K
        try simp only [Act.put, List.setIfInBounds_toArray, List.set_cons_zero, List.set_cons_succ]
        clear hs z0 z1 z2 z3 zl zf
        change Goes _ _ _ _ _ _ _ _ (fil wn79 g13 (q))
        generalize fil wn79 g13 (q) = wn80 at *
        have hs := hs80
        clear hs80
        refine Goes.one (i := 16) (o := { dst := none, op := _, type := _, pos := _, after := _, guard := _ }) (by kernel_rfl) rfl (fun K hK => ?_)
        obtain ⟨z0, z1, z2, z3⟩ := hs.cell g14 0 (by simp)
        have zl := hs.lt g14 0 (by simp)
        have zf := hs.frozen g14 0 (by simp)
        have hs81 := hs.set g14 0 (t) [(g13, q), (g10s, r), (g10, q), (g9, y), (g8, x), (g_b, b), (g_a, a)] (by simp) Fg14.out.1 (fun p hp => by simp only [List.mem_cons, List.not_mem_nil, or_false] at hp; rcases hp with rfl | rfl | rfl | rfl | rfl | rfl | rfl <;> first | exact ⟨by simp, (Fg14.out.2 (g13, 0) (by simp))⟩ | exact ⟨by simp, (Fg14.out.2 (g10s, r) (by simp))⟩ | exact ⟨by simp, (Fg14.out.2 (g10, q) (by simp))⟩ | exact ⟨by simp, (Fg14.out.2 (g9, y) (by simp))⟩ | exact ⟨by simp, (Fg14.out.2 (g8, x) (by simp))⟩ | exact ⟨by simp, (Fg14.out.2 (g_b, b) (by simp))⟩ | exact ⟨by simp, (Fg14.out.2 (g_a, a) (by simp))⟩)
        go_simp
        refine hK.out _ _ (⟨Env.cell (hs81) g8 (x) (by simp), Env.cell (hs81) g9 (y) (by simp)⟩) ?_
        clear hK K
        try simp only [Act.put, List.setIfInBounds_toArray, List.set_cons_zero, List.set_cons_succ]
        clear hs z0 z1 z2 z3 zl zf
        change Goes _ _ _ _ _ _ _ _ (fil wn80 g14 (t))
        generalize fil wn80 g14 (t) = wn81 at *
        have hs := hs81
        clear hs81
        refine Goes.take (i := 17) (o := { dst := some 15, op := _, type := _, pos := _, after := _, guard := _ }) (v := ?_) [] rfl (by kernel_rfl) (by kernel_rfl) (by kernel_rfl) (fun _ _ _ h => h) (by kernel_rfl) (fun L u h => h) (Or.inl ⟨by rfl, ?_⟩) (⟨Env.cell (hs) g8 (x) (by simp), Env.cell (hs) g9 (y) (by simp)⟩) ?_
        rotate_left
        · intro w hY; go_simp; try with_reducible rfl
        try simp only [Act.put, List.setIfInBounds_toArray, List.set_cons_zero, List.set_cons_succ]
        refine Goes.done (by kernel_rfl) ?_ _
        refine NoPanic.normal ?_
        go_wp2_with fail
        go_meet
        exact ⟨_, _, rfl, rfl, rfl, hid (hs.perm (by simp))⟩
    · skip
      go_simp
      refine hK.out _ _ (⟨Env.cell (hs.zero) g8 (x) (by simp), Env.cell (hs.zero) g9 (y) (by simp)⟩) ?_
      clear hK K
      try simp only [Act.put, List.setIfInBounds_toArray, List.set_cons_zero, List.set_cons_succ]
      have Fg14 := hid hs.fresh
      have hs82 := hs.zero
      clear hs
      generalize wd.alloc (.cells #[.int .u64 0, .int .u64 0, .int .u64 0, .int .u64 0] 24) = wn82 at *
      generalize wd.heap.size = g14 at *
      have hs := hs82
      clear hs82
      refine Goes.two (i := 3) (j := 13) (o := { dst := some 42, op := _, type := _, pos := _, after := _, guard := _ }) (p := { dst := some 13, op := _, type := _, pos := _, after := _, guard := _ }) (by kernel_rfl) rfl rfl (fun K hK => ?_) (fun K hK => ?_)
      · skip
        go_simp
        with_reducible refine (shift_at x x2 (64 - (k : Int)) hs XL.out (by have := HK.out; omega) (by have := HK.out; omega) X2.out).mono ?_
        rintro e wn83 ⟨rfl, hs83⟩
        go_wp2_with fail
        refine hK.out _ _ (⟨Env.cell (hs83) g8 (x) (by simp), Env.cell (hs83) g9 (y) (by simp)⟩) ?_
        clear hK K
        try simp only [Act.put, List.setIfInBounds_toArray, List.set_cons_zero, List.set_cons_succ]
        clear hs
        have hs := hs83
        clear hs83
        refine Goes.two (i := 7) (j := 13) (o := { dst := some 46, op := _, type := _, pos := _, after := _, guard := _ }) (p := { dst := some 13, op := _, type := _, pos := _, after := _, guard := _ }) (by kernel_rfl) rfl rfl (fun K hK => ?_) (fun K hK => ?_)
        · skip
          go_simp
          with_reducible refine (shift_at y y2 (64 - (k : Int)) hs YL.out (by have := HK.out; omega) (by have := HK.out; omega) Y2.out).mono ?_
          rintro e wn84 ⟨rfl, hs84⟩
          go_wp2_with fail
          refine hK.out _ _ (⟨Env.cell (hs84) g8 (x) (by simp), Env.cell (hs84) g9 (y) (by simp)⟩) ?_
          clear hK K
          try simp only [Act.put, List.setIfInBounds_toArray, List.set_cons_zero, List.set_cons_succ]
          clear hs
          have hs := hs84
          clear hs84
          refine Goes.two (i := 8) (j := 13) (o := { dst := some 47, op := _, type := _, pos := _, after := _, guard := _ }) (p := { dst := some 13, op := _, type := _, pos := _, after := _, guard := _ }) (by kernel_rfl) rfl rfl (fun K hK => ?_) (fun K hK => ?_)
          · skip
            go_simp
            with_reducible refine (div_at x2 y2 q t hs X2L.out Y2L.out Y20.out U1.out U2.out).mono ?_
            rintro e wn85 ⟨rfl, hs85⟩
            go_wp2_with fail
            refine hK.out _ _ (⟨Env.cell (hs85) g8 (x) (by simp), Env.cell (hs85) g9 (y) (by simp)⟩) ?_
            clear hK K
            try simp only [Act.put, List.setIfInBounds_toArray, List.set_cons_zero, List.set_cons_succ]
            clear hs
            have hs := hs85
            clear hs85
            refine Goes.take (i := 9) (o := { dst := some 38, op := _, type := _, pos := _, after := _, guard := _ }) (v := ?_) [] rfl (by kernel_rfl) (by kernel_rfl) (by kernel_rfl) (fun _ _ _ h => h) (by kernel_rfl) (fun L u h => h) (Or.inl ⟨by rfl, ?_⟩) (⟨Env.cell (hs) g8 (x) (by simp), Env.cell (hs) g9 (y) (by simp)⟩) ?_
            rotate_left
            · intro w hY; go_simp; try with_reducible rfl
            try simp only [Act.put, List.setIfInBounds_toArray, List.set_cons_zero, List.set_cons_succ]
            refine Goes.take (i := 10) (o := { dst := some 48, op := _, type := _, pos := _, after := _, guard := _ }) (v := ?_) [] rfl (by kernel_rfl) (by kernel_rfl) (by kernel_rfl) (fun _ _ _ h => h) (by kernel_rfl) (fun L u h => h) (Or.inl ⟨by rfl, ?_⟩) (⟨Env.cell (hs) g8 (x) (by simp), Env.cell (hs) g9 (y) (by simp)⟩) ?_
            rotate_left
            · intro w hY; go_simp; try with_reducible rfl
            try simp only [Act.put, List.setIfInBounds_toArray, List.set_cons_zero, List.set_cons_succ]
            refine Goes.take (i := 11) (o := { dst := some 49, op := _, type := _, pos := _, after := _, guard := _ }) (v := ?_) [] rfl (by kernel_rfl) (by kernel_rfl) (by kernel_rfl) (fun _ _ _ h => h) (by kernel_rfl) (fun L u h => h) (Or.inl ⟨by rfl, ?_⟩) (⟨Env.cell (hs) g8 (x) (by simp), Env.cell (hs) g9 (y) (by simp)⟩) ?_
            rotate_left
            · intro w hY; go_simp; try with_reducible rfl
            try simp only [Act.put, List.setIfInBounds_toArray, List.set_cons_zero, List.set_cons_succ]
            refine Goes.take (i := 12) (o := { dst := some 50, op := _, type := _, pos := _, after := _, guard := _ }) (v := ?_) [] rfl (by kernel_rfl) (by kernel_rfl) (by kernel_rfl) (fun _ _ _ h => h) (by kernel_rfl) (fun L u h => h) (Or.inl ⟨by rfl, ?_⟩) (⟨Env.cell (hs) g8 (x) (by simp), Env.cell (hs) g9 (y) (by simp)⟩) ?_
            rotate_left
            · intro w hY; go_simp; try with_reducible rfl
            try simp only [Act.put, List.setIfInBounds_toArray, List.set_cons_zero, List.set_cons_succ]
            refine Goes.one (i := 13) (o := { dst := some 13, op := _, type := _, pos := _, after := _, guard := _ }) (by kernel_rfl) rfl (fun K hK => ?_)
            go_simp
            refine hK.out _ _ (⟨Env.cell (hs.zero) g8 (x) (by simp), Env.cell (hs.zero) g9 (y) (by simp)⟩) ?_
            clear hK K
            try simp only [Act.put, List.setIfInBounds_toArray, List.set_cons_zero, List.set_cons_succ]
            have Fg13 := hid hs.fresh
            have hs86 := hs.zero
            clear hs
            generalize wn85.alloc (.cells #[.int .u64 0, .int .u64 0, .int .u64 0, .int .u64 0] 24) = wn86 at *
            generalize wn85.heap.size = g13 at *
            have hs := hs86
            clear hs86
            refine Goes.one (i := 15) (o := { dst := none, op := _, type := _, pos := _, after := _, guard := _ }) (by kernel_rfl) rfl (fun K hK => ?_)
            obtain ⟨z0, z1, z2, z3⟩ := hs.cell g13 0 (by simp)
            have zl := hs.lt g13 0 (by simp)
            have zf := hs.frozen g13 0 (by simp)
            have hs87 := hs.set g13 0 (q) [(g14, 0), (g10s, r), (g10, q), (g9, y), (g8, x), (g_b, b), (g_a, a)] (by simp) Fg13.out.1 (fun p hp => by simp only [List.mem_cons, List.not_mem_nil, or_false] at hp; rcases hp with rfl | rfl | rfl | rfl | rfl | rfl | rfl <;> first | exact ⟨by simp, (Fg13.out.2 (g14, 0) (by simp))⟩ | exact ⟨by simp, (Fg13.out.2 (g10s, r) (by simp))⟩ | exact ⟨by simp, (Fg13.out.2 (g10, q) (by simp))⟩ | exact ⟨by simp, (Fg13.out.2 (g9, y) (by simp))⟩ | exact ⟨by simp, (Fg13.out.2 (g8, x) (by simp))⟩ | exact ⟨by simp, (Fg13.out.2 (g_b, b) (by simp))⟩ | exact ⟨by simp, (Fg13.out.2 (g_a, a) (by simp))⟩)
            go_simp
            refine hK.out _ _ (⟨Env.cell (hs87) g8 (x) (by simp), Env.cell (hs87) g9 (y) (by simp)⟩) ?_
            clear hK K
            try simp only [Act.put, List.setIfInBounds_toArray, List.set_cons_zero, List.set_cons_succ]
            clear hs z0 z1 z2 z3 zl zf
            change Goes _ _ _ _ _ _ _ _ (fil wn86 g13 (q))
            generalize fil wn86 g13 (q) = wn87 at *
            have hs := hs87
            clear hs87
            refine Goes.one (i := 16) (o := { dst := none, op := _, type := _, pos := _, after := _, guard := _ }) (by kernel_rfl) rfl (fun K hK => ?_)
            obtain ⟨z0, z1, z2, z3⟩ := hs.cell g14 0 (by simp)
            have zl := hs.lt g14 0 (by simp)
            have zf := hs.frozen g14 0 (by simp)
            have hs88 := hs.set g14 0 (t) [(g13, q), (g10s, r), (g10, q), (g9, y), (g8, x), (g_b, b), (g_a, a)] (by simp) Fg14.out.1 (fun p hp => by simp only [List.mem_cons, List.not_mem_nil, or_false] at hp; rcases hp with rfl | rfl | rfl | rfl | rfl | rfl | rfl <;> first | exact ⟨by simp, (Ne.symm (Fg13.out.2 (g14, 0) (by simp)))⟩ | exact ⟨by simp, (Fg14.out.2 (g10s, r) (by simp))⟩ | exact ⟨by simp, (Fg14.out.2 (g10, q) (by simp))⟩ | exact ⟨by simp, (Fg14.out.2 (g9, y) (by simp))⟩ | exact ⟨by simp, (Fg14.out.2 (g8, x) (by simp))⟩ | exact ⟨by simp, (Fg14.out.2 (g_b, b) (by simp))⟩ | exact ⟨by simp, (Fg14.out.2 (g_a, a) (by simp))⟩)
            go_simp
            refine hK.out _ _ (⟨Env.cell (hs88) g8 (x) (by simp), Env.cell (hs88) g9 (y) (by simp)⟩) ?_
            clear hK K
            try simp only [Act.put, List.setIfInBounds_toArray, List.set_cons_zero, List.set_cons_succ]
            clear hs z0 z1 z2 z3 zl zf
            change Goes _ _ _ _ _ _ _ _ (fil wn87 g14 (t))
            generalize fil wn87 g14 (t) = wn88 at *
            have hs := hs88
            clear hs88
            refine Goes.take (i := 17) (o := { dst := some 15, op := _, type := _, pos := _, after := _, guard := _ }) (v := ?_) [] rfl (by kernel_rfl) (by kernel_rfl) (by kernel_rfl) (fun _ _ _ h => h) (by kernel_rfl) (fun L u h => h) (Or.inl ⟨by rfl, ?_⟩) (⟨Env.cell (hs) g8 (x) (by simp), Env.cell (hs) g9 (y) (by simp)⟩) ?_
            rotate_left
            · intro w hY; go_simp; try with_reducible rfl
            try simp only [Act.put, List.setIfInBounds_toArray, List.set_cons_zero, List.set_cons_succ]
            refine Goes.done (by kernel_rfl) ?_ _
            refine NoPanic.normal ?_
            go_wp2_with fail
            go_meet
            exact ⟨_, _, rfl, rfl, rfl, hid (hs.perm (by simp))⟩
          · skip
            go_simp
            refine hK.out _ _ (⟨Env.cell (hs.zero) g8 (x) (by simp), Env.cell (hs.zero) g9 (y) (by simp)⟩) ?_
            clear hK K
            try simp only [Act.put, List.setIfInBounds_toArray, List.set_cons_zero, List.set_cons_succ]
            have Fg13 := hid hs.fresh
            have hs89 := hs.zero
            clear hs
            generalize wn84.alloc (.cells #[.int .u64 0, .int .u64 0, .int .u64 0, .int .u64 0] 24) = wn89 at *
            generalize wn84.heap.size = g13 at *
            have hs := hs89
            clear hs89
            refine Goes.one (i := 8) (o := { dst := some 47, op := _, type := _, pos := _, after := _, guard := _ }) (by kernel_rfl) rfl (fun K hK => ?_)
            go_simp
            with_reducible refine (div_at x2 y2 q t hs X2L.out Y2L.out Y20.out U1.out U2.out).mono ?_
            rintro e wn90 ⟨rfl, hs90⟩
            go_wp2_with fail
            refine hK.out _ _ (⟨Env.cell (hs90) g8 (x) (by simp), Env.cell (hs90) g9 (y) (by simp)⟩) ?_
            clear hK K
            try simp only [Act.put, List.setIfInBounds_toArray, List.set_cons_zero, List.set_cons_succ]
            clear hs
            have hs := hs90
            clear hs90
            refine Goes.take (i := 9) (o := { dst := some 38, op := _, type := _, pos := _, after := _, guard := _ }) (v := ?_) [] rfl (by kernel_rfl) (by kernel_rfl) (by kernel_rfl) (fun _ _ _ h => h) (by kernel_rfl) (fun L u h => h) (Or.inl ⟨by rfl, ?_⟩) (⟨Env.cell (hs) g8 (x) (by simp), Env.cell (hs) g9 (y) (by simp)⟩) ?_
            rotate_left
            · intro w hY; go_simp; try with_reducible rfl
            try simp only [Act.put, List.setIfInBounds_toArray, List.set_cons_zero, List.set_cons_succ]
            refine Goes.take (i := 10) (o := { dst := some 48, op := _, type := _, pos := _, after := _, guard := _ }) (v := ?_) [] rfl (by kernel_rfl) (by kernel_rfl) (by kernel_rfl) (fun _ _ _ h => h) (by kernel_rfl) (fun L u h => h) (Or.inl ⟨by rfl, ?_⟩) (⟨Env.cell (hs) g8 (x) (by simp), Env.cell (hs) g9 (y) (by simp)⟩) ?_
            rotate_left
            · intro w hY; go_simp; try with_reducible rfl
            try simp only [Act.put, List.setIfInBounds_toArray, List.set_cons_zero, List.set_cons_succ]
            refine Goes.take (i := 11) (o := { dst := some 49, op := _, type := _, pos := _, after := _, guard := _ }) (v := ?_) [] rfl (by kernel_rfl) (by kernel_rfl) (by kernel_rfl) (fun _ _ _ h => h) (by kernel_rfl) (fun L u h => h) (Or.inl ⟨by rfl, ?_⟩) (⟨Env.cell (hs) g8 (x) (by simp), Env.cell (hs) g9 (y) (by simp)⟩) ?_
            rotate_left
            · intro w hY; go_simp; try with_reducible rfl
            try simp only [Act.put, List.setIfInBounds_toArray, List.set_cons_zero, List.set_cons_succ]
            refine Goes.take (i := 12) (o := { dst := some 50, op := _, type := _, pos := _, after := _, guard := _ }) (v := ?_) [] rfl (by kernel_rfl) (by kernel_rfl) (by kernel_rfl) (fun _ _ _ h => h) (by kernel_rfl) (fun L u h => h) (Or.inl ⟨by rfl, ?_⟩) (⟨Env.cell (hs) g8 (x) (by simp), Env.cell (hs) g9 (y) (by simp)⟩) ?_
            rotate_left
            · intro w hY; go_simp; try with_reducible rfl
            try simp only [Act.put, List.setIfInBounds_toArray, List.set_cons_zero, List.set_cons_succ]
            refine Goes.one (i := 15) (o := { dst := none, op := _, type := _, pos := _, after := _, guard := _ }) (by kernel_rfl) rfl (fun K hK => ?_)
            obtain ⟨z0, z1, z2, z3⟩ := hs.cell g13 0 (by simp)
            have zl := hs.lt g13 0 (by simp)
            have zf := hs.frozen g13 0 (by simp)
            have hs91 := hs.set g13 0 (q) [(g14, 0), (g10s, r), (g10, q), (g9, y), (g8, x), (g_b, b), (g_a, a)] (by simp) Fg13.out.1 (fun p hp => by simp only [List.mem_cons, List.not_mem_nil, or_false] at hp; rcases hp with rfl | rfl | rfl | rfl | rfl | rfl | rfl <;> first | exact ⟨by simp, (Fg13.out.2 (g14, 0) (by simp))⟩ | exact ⟨by simp, (Fg13.out.2 (g10s, r) (by simp))⟩ | exact ⟨by simp, (Fg13.out.2 (g10, q) (by simp))⟩ | exact ⟨by simp, (Fg13.out.2 (g9, y) (by simp))⟩ | exact ⟨by simp, (Fg13.out.2 (g8, x) (by simp))⟩ | exact ⟨by simp, (Fg13.out.2 (g_b, b) (by simp))⟩ | exact ⟨by simp, (Fg13.out.2 (g_a, a) (by simp))⟩)
            go_simp
            refine hK.out _ _ (⟨Env.cell (hs91) g8 (x) (by simp), Env.cell (hs91) g9 (y) (by simp)⟩) ?_
            clear hK K
            try simp only [Act.put, List.setIfInBounds_toArray, List.set_cons_zero, List.set_cons_succ]
            clear hs z0 z1 z2 z3 zl zf
            change Goes _ _ _ _ _ _ _ _ (fil wn90 g13 (q))
            generalize fil wn90 g13 (q) = wn91 at *
            have hs := hs91
            clear hs91
            refine Goes.one (i := 16) (o := { dst := none, op := _, type := _, pos := _, after := _, guard := _ }) (by kernel_rfl) rfl (fun K hK => ?_)
            obtain ⟨z0, z1, z2, z3⟩ := hs.cell g14 0 (by simp)
            have zl := hs.lt g14 0 (by simp)
            have zf := hs.frozen g14 0 (by simp)
            have hs92 := hs.set g14 0 (t) [(g13, q), (g10s, r), (g10, q), (g9, y), (g8, x), (g_b, b), (g_a, a)] (by simp) Fg14.out.1 (fun p hp => by simp only [List.mem_cons, List.not_mem_nil, or_false] at hp; rcases hp with rfl | rfl | rfl | rfl | rfl | rfl | rfl <;> first | exact ⟨by simp, (Ne.symm (Fg13.out.2 (g14, 0) (by simp)))⟩ | exact ⟨by simp, (Fg14.out.2 (g10s, r) (by simp))⟩ | exact ⟨by simp, (Fg14.out.2 (g10, q) (by simp))⟩ | exact ⟨by simp, (Fg14.out.2 (g9, y) (by simp))⟩ | exact ⟨by simp, (Fg14.out.2 (g8, x) (by simp))⟩ | exact ⟨by simp, (Fg14.out.2 (g_b, b) (by simp))⟩ | exact ⟨by simp, (Fg14.out.2 (g_a, a) (by simp))⟩)
            go_simp
            refine hK.out _ _ (⟨Env.cell (hs92) g8 (x) (by simp), Env.cell (hs92) g9 (y) (by simp)⟩) ?_
            clear hK K
            try simp only [Act.put, List.setIfInBounds_toArray, List.set_cons_zero, List.set_cons_succ]
            clear hs z0 z1 z2 z3 zl zf
            change Goes _ _ _ _ _ _ _ _ (fil wn91 g14 (t))
            generalize fil wn91 g14 (t) = wn92 at *
            have hs := hs92
            clear hs92
            refine Goes.take (i := 17) (o := { dst := some 15, op := _, type := _, pos := _, after := _, guard := _ }) (v := ?_) [] rfl (by kernel_rfl) (by kernel_rfl) (by kernel_rfl) (fun _ _ _ h => h) (by kernel_rfl) (fun L u h => h) (Or.inl ⟨by rfl, ?_⟩) (⟨Env.cell (hs) g8 (x) (by simp), Env.cell (hs) g9 (y) (by simp)⟩) ?_
            rotate_left
            · intro w hY; go_simp; try with_reducible rfl
            try simp only [Act.put, List.setIfInBounds_toArray, List.set_cons_zero, List.set_cons_succ]
            refine Goes.done (by kernel_rfl) ?_ _
            refine NoPanic.normal ?_
            go_wp2_with fail
            go_meet
            exact ⟨_, _, rfl, rfl, rfl, hid (hs.perm (by simp))⟩
        · skip
          go_simp
          refine hK.out _ _ (⟨Env.cell (hs.zero) g8 (x) (by simp), Env.cell (hs.zero) g9 (y) (by simp)⟩) ?_
          clear hK K
          try simp only [Act.put, List.setIfInBounds_toArray, List.set_cons_zero, List.set_cons_succ]
          have Fg13 := hid hs.fresh
          have hs93 := hs.zero
          clear hs
          generalize wn83.alloc (.cells #[.int .u64 0, .int .u64 0, .int .u64 0, .int .u64 0] 24) = wn93 at *
          generalize wn83.heap.size = g13 at *
          have hs := hs93
          clear hs93
          refine Goes.one (i := 7) (o := { dst := some 46, op := _, type := _, pos := _, after := _, guard := _ }) (by kernel_rfl) rfl (fun K hK => ?_)
          go_simp
          with_reducible refine (shift_at y y2 (64 - (k : Int)) hs YL.out (by have := HK.out; omega) (by have := HK.out; omega) Y2.out).mono ?_
          rintro e wn94 ⟨rfl, hs94⟩
          go_wp2_with fail
          refine hK.out _ _ (⟨Env.cell (hs94) g8 (x) (by simp), Env.cell (hs94) g9 (y) (by simp)⟩) ?_
          clear hK K
          try simp only [Act.put, List.setIfInBounds_toArray, List.set_cons_zero, List.set_cons_succ]
          clear hs
          have hs := hs94
          clear hs94
          refine Goes.one (i := 8) (o := { dst := some 47, op := _, type := _, pos := _, after := _, guard := _ }) (by kernel_rfl) rfl (fun K hK => ?_)
          go_simp
          with_reducible refine (div_at x2 y2 q t hs X2L.out Y2L.out Y20.out U1.out U2.out).mono ?_
          rintro e wn95 ⟨rfl, hs95⟩
          go_wp2_with fail
          refine hK.out _ _ (⟨Env.cell (hs95) g8 (x) (by simp), Env.cell (hs95) g9 (y) (by simp)⟩) ?_
          clear hK K
          try simp only [Act.put, List.setIfInBounds_toArray, List.set_cons_zero, List.set_cons_succ]
          clear hs
          have hs := hs95
          clear hs95
          refine Goes.take (i := 9) (o := { dst := some 38, op := _, type := _, pos := _, after := _, guard := _ }) (v := ?_) [] rfl (by kernel_rfl) (by kernel_rfl) (by kernel_rfl) (fun _ _ _ h => h) (by kernel_rfl) (fun L u h => h) (Or.inl ⟨by rfl, ?_⟩) (⟨Env.cell (hs) g8 (x) (by simp), Env.cell (hs) g9 (y) (by simp)⟩) ?_
          rotate_left
          · intro w hY; go_simp; try with_reducible rfl
          try simp only [Act.put, List.setIfInBounds_toArray, List.set_cons_zero, List.set_cons_succ]
          refine Goes.take (i := 10) (o := { dst := some 48, op := _, type := _, pos := _, after := _, guard := _ }) (v := ?_) [] rfl (by kernel_rfl) (by kernel_rfl) (by kernel_rfl) (fun _ _ _ h => h) (by kernel_rfl) (fun L u h => h) (Or.inl ⟨by rfl, ?_⟩) (⟨Env.cell (hs) g8 (x) (by simp), Env.cell (hs) g9 (y) (by simp)⟩) ?_
          rotate_left
          · intro w hY; go_simp; try with_reducible rfl
          try simp only [Act.put, List.setIfInBounds_toArray, List.set_cons_zero, List.set_cons_succ]
          refine Goes.take (i := 11) (o := { dst := some 49, op := _, type := _, pos := _, after := _, guard := _ }) (v := ?_) [] rfl (by kernel_rfl) (by kernel_rfl) (by kernel_rfl) (fun _ _ _ h => h) (by kernel_rfl) (fun L u h => h) (Or.inl ⟨by rfl, ?_⟩) (⟨Env.cell (hs) g8 (x) (by simp), Env.cell (hs) g9 (y) (by simp)⟩) ?_
          rotate_left
          · intro w hY; go_simp; try with_reducible rfl
          try simp only [Act.put, List.setIfInBounds_toArray, List.set_cons_zero, List.set_cons_succ]
          refine Goes.take (i := 12) (o := { dst := some 50, op := _, type := _, pos := _, after := _, guard := _ }) (v := ?_) [] rfl (by kernel_rfl) (by kernel_rfl) (by kernel_rfl) (fun _ _ _ h => h) (by kernel_rfl) (fun L u h => h) (Or.inl ⟨by rfl, ?_⟩) (⟨Env.cell (hs) g8 (x) (by simp), Env.cell (hs) g9 (y) (by simp)⟩) ?_
          rotate_left
          · intro w hY; go_simp; try with_reducible rfl
          try simp only [Act.put, List.setIfInBounds_toArray, List.set_cons_zero, List.set_cons_succ]
          refine Goes.one (i := 15) (o := { dst := none, op := _, type := _, pos := _, after := _, guard := _ }) (by kernel_rfl) rfl (fun K hK => ?_)
          obtain ⟨z0, z1, z2, z3⟩ := hs.cell g13 0 (by simp)
          have zl := hs.lt g13 0 (by simp)
          have zf := hs.frozen g13 0 (by simp)
          have hs96 := hs.set g13 0 (q) [(g14, 0), (g10s, r), (g10, q), (g9, y), (g8, x), (g_b, b), (g_a, a)] (by simp) Fg13.out.1 (fun p hp => by simp only [List.mem_cons, List.not_mem_nil, or_false] at hp; rcases hp with rfl | rfl | rfl | rfl | rfl | rfl | rfl <;> first | exact ⟨by simp, (Fg13.out.2 (g14, 0) (by simp))⟩ | exact ⟨by simp, (Fg13.out.2 (g10s, r) (by simp))⟩ | exact ⟨by simp, (Fg13.out.2 (g10, q) (by simp))⟩ | exact ⟨by simp, (Fg13.out.2 (g9, y) (by simp))⟩ | exact ⟨by simp, (Fg13.out.2 (g8, x) (by simp))⟩ | exact ⟨by simp, (Fg13.out.2 (g_b, b) (by simp))⟩ | exact ⟨by simp, (Fg13.out.2 (g_a, a) (by simp))⟩)
          go_simp
          refine hK.out _ _ (⟨Env.cell (hs96) g8 (x) (by simp), Env.cell (hs96) g9 (y) (by simp)⟩) ?_
          clear hK K
          try simp only [Act.put, List.setIfInBounds_toArray, List.set_cons_zero, List.set_cons_succ]
          clear hs z0 z1 z2 z3 zl zf
          change Goes _ _ _ _ _ _ _ _ (fil wn95 g13 (q))
          generalize fil wn95 g13 (q) = wn96 at *
          have hs := hs96
          clear hs96
          refine Goes.one (i := 16) (o := { dst := none, op := _, type := _, pos := _, after := _, guard := _ }) (by kernel_rfl) rfl (fun K hK => ?_)
          obtain ⟨z0, z1, z2, z3⟩ := hs.cell g14 0 (by simp)
          have zl := hs.lt g14 0 (by simp)
          have zf := hs.frozen g14 0 (by simp)
          have hs97 := hs.set g14 0 (t) [(g13, q), (g10s, r), (g10, q), (g9, y), (g8, x), (g_b, b), (g_a, a)] (by simp) Fg14.out.1 (fun p hp => by simp only [List.mem_cons, List.not_mem_nil, or_false] at hp; rcases hp with rfl | rfl | rfl | rfl | rfl | rfl | rfl <;> first | exact ⟨by simp, (Ne.symm (Fg13.out.2 (g14, 0) (by simp)))⟩ | exact ⟨by simp, (Fg14.out.2 (g10s, r) (by simp))⟩ | exact ⟨by simp, (Fg14.out.2 (g10, q) (by simp))⟩ | exact ⟨by simp, (Fg14.out.2 (g9, y) (by simp))⟩ | exact ⟨by simp, (Fg14.out.2 (g8, x) (by simp))⟩ | exact ⟨by simp, (Fg14.out.2 (g_b, b) (by simp))⟩ | exact ⟨by simp, (Fg14.out.2 (g_a, a) (by simp))⟩)
          go_simp
          refine hK.out _ _ (⟨Env.cell (hs97) g8 (x) (by simp), Env.cell (hs97) g9 (y) (by simp)⟩) ?_
          clear hK K
          try simp only [Act.put, List.setIfInBounds_toArray, List.set_cons_zero, List.set_cons_succ]
          clear hs z0 z1 z2 z3 zl zf
          change Goes _ _ _ _ _ _ _ _ (fil wn96 g14 (t))
          generalize fil wn96 g14 (t) = wn97 at *
          have hs := hs97
          clear hs97
          refine Goes.take (i := 17) (o := { dst := some 15, op := _, type := _, pos := _, after := _, guard := _ }) (v := ?_) [] rfl (by kernel_rfl) (by kernel_rfl) (by kernel_rfl) (fun _ _ _ h => h) (by kernel_rfl) (fun L u h => h) (Or.inl ⟨by rfl, ?_⟩) (⟨Env.cell (hs) g8 (x) (by simp), Env.cell (hs) g9 (y) (by simp)⟩) ?_
          rotate_left
          · intro w hY; go_simp; try with_reducible rfl
          try simp only [Act.put, List.setIfInBounds_toArray, List.set_cons_zero, List.set_cons_succ]
          refine Goes.done (by kernel_rfl) ?_ _
          refine NoPanic.normal ?_
          go_wp2_with fail
          go_meet
          exact ⟨_, _, rfl, rfl, rfl, hid (hs.perm (by simp))⟩
      · skip
        go_simp
        refine hK.out _ _ (⟨Env.cell (hs.zero) g8 (x) (by simp), Env.cell (hs.zero) g9 (y) (by simp)⟩) ?_
        clear hK K
        try simp only [Act.put, List.setIfInBounds_toArray, List.set_cons_zero, List.set_cons_succ]
        have Fg13 := hid hs.fresh
        have hs98 := hs.zero
        clear hs
        generalize wn82.alloc (.cells #[.int .u64 0, .int .u64 0, .int .u64 0, .int .u64 0] 24) = wn98 at *
        generalize wn82.heap.size = g13 at *
        have hs := hs98
        clear hs98
        refine Goes.one (i := 3) (o := { dst := some 42, op := _, type := _, pos := _, after := _, guard := _ }) (by kernel_rfl) rfl (fun K hK => ?_)
        go_simp
        with_reducible refine (shift_at x x2 (64 - (k : Int)) hs XL.out (by have := HK.out; omega) (by have := HK.out; omega) X2.out).mono ?_
        rintro e wn99 ⟨rfl, hs99⟩
        go_wp2_with fail
        refine hK.out _ _ (⟨Env.cell (hs99) g8 (x) (by simp), Env.cell (hs99) g9 (y) (by simp)⟩) ?_
        clear hK K
        try simp only [Act.put, List.setIfInBounds_toArray, List.set_cons_zero, List.set_cons_succ]
        clear hs
        have hs := hs99
        clear hs99
        refine Goes.one (i := 7) (o := { dst := some 46, op := _, type := _, pos := _, after := _, guard := _ }) (by kernel_rfl) rfl (fun K hK => ?_)
        go_simp
        with_reducible refine (shift_at y y2 (64 - (k : Int)) hs YL.out (by have := HK.out; omega) (by have := HK.out; omega) Y2.out).mono ?_
        rintro e wn100 ⟨rfl, hs100⟩
        go_wp2_with fail
        refine hK.out _ _ (⟨Env.cell (hs100) g8 (x) (by simp), Env.cell (hs100) g9 (y) (by simp)⟩) ?_
        clear hK K
        try simp only [Act.put, List.setIfInBounds_toArray, List.set_cons_zero, List.set_cons_succ]
        clear hs
        have hs := hs100
        clear hs100
        refine Goes.one (i := 8) (o := { dst := some 47, op := _, type := _, pos := _, after := _, guard := _ }) (by kernel_rfl) rfl (fun K hK => ?_)
        go_simp
        with_reducible refine (div_at x2 y2 q t hs X2L.out Y2L.out Y20.out U1.out U2.out).mono ?_
        rintro e wn101 ⟨rfl, hs101⟩
        go_wp2_with fail
        refine hK.out _ _ (⟨Env.cell (hs101) g8 (x) (by simp), Env.cell (hs101) g9 (y) (by simp)⟩) ?_
        clear hK K
        try simp only [Act.put, List.setIfInBounds_toArray, List.set_cons_zero, List.set_cons_succ]
        clear hs
        have hs := hs101
        clear hs101
        refine Goes.take (i := 9) (o := { dst := some 38, op := _, type := _, pos := _, after := _, guard := _ }) (v := ?_) [] rfl (by kernel_rfl) (by kernel_rfl) (by kernel_rfl) (fun _ _ _ h => h) (by kernel_rfl) (fun L u h => h) (Or.inl ⟨by rfl, ?_⟩) (⟨Env.cell (hs) g8 (x) (by simp), Env.cell (hs) g9 (y) (by simp)⟩) ?_
        rotate_left
        · intro w hY; go_simp; try with_reducible rfl
        try simp only [Act.put, List.setIfInBounds_toArray, List.set_cons_zero, List.set_cons_succ]
        refine Goes.take (i := 10) (o := { dst := some 48, op := _, type := _, pos := _, after := _, guard := _ }) (v := ?_) [] rfl (by kernel_rfl) (by kernel_rfl) (by kernel_rfl) (fun _ _ _ h => h) (by kernel_rfl) (fun L u h => h) (Or.inl ⟨by rfl, ?_⟩) (⟨Env.cell (hs) g8 (x) (by simp), Env.cell (hs) g9 (y) (by simp)⟩) ?_
        rotate_left
        · intro w hY; go_simp; try with_reducible rfl
        try simp only [Act.put, List.setIfInBounds_toArray, List.set_cons_zero, List.set_cons_succ]
        refine Goes.take (i := 11) (o := { dst := some 49, op := _, type := _, pos := _, after := _, guard := _ }) (v := ?_) [] rfl (by kernel_rfl) (by kernel_rfl) (by kernel_rfl) (fun _ _ _ h => h) (by kernel_rfl) (fun L u h => h) (Or.inl ⟨by rfl, ?_⟩) (⟨Env.cell (hs) g8 (x) (by simp), Env.cell (hs) g9 (y) (by simp)⟩) ?_
        rotate_left
        · intro w hY; go_simp; try with_reducible rfl
        try simp only [Act.put, List.setIfInBounds_toArray, List.set_cons_zero, List.set_cons_succ]
        refine Goes.take (i := 12) (o := { dst := some 50, op := _, type := _, pos := _, after := _, guard := _ }) (v := ?_) [] rfl (by kernel_rfl) (by kernel_rfl) (by kernel_rfl) (fun _ _ _ h => h) (by kernel_rfl) (fun L u h => h) (Or.inl ⟨by rfl, ?_⟩) (⟨Env.cell (hs) g8 (x) (by simp), Env.cell (hs) g9 (y) (by simp)⟩) ?_
        rotate_left
        · intro w hY; go_simp; try with_reducible rfl
        try simp only [Act.put, List.setIfInBounds_toArray, List.set_cons_zero, List.set_cons_succ]
        refine Goes.one (i := 15) (o := { dst := none, op := _, type := _, pos := _, after := _, guard := _ }) (by kernel_rfl) rfl (fun K hK => ?_)
        obtain ⟨z0, z1, z2, z3⟩ := hs.cell g13 0 (by simp)
        have zl := hs.lt g13 0 (by simp)
        have zf := hs.frozen g13 0 (by simp)
        have hs102 := hs.set g13 0 (q) [(g14, 0), (g10s, r), (g10, q), (g9, y), (g8, x), (g_b, b), (g_a, a)] (by simp) Fg13.out.1 (fun p hp => by simp only [List.mem_cons, List.not_mem_nil, or_false] at hp; rcases hp with rfl | rfl | rfl | rfl | rfl | rfl | rfl <;> first | exact ⟨by simp, (Fg13.out.2 (g14, 0) (by simp))⟩ | exact ⟨by simp, (Fg13.out.2 (g10s, r) (by simp))⟩ | exact ⟨by simp, (Fg13.out.2 (g10, q) (by simp))⟩ | exact ⟨by simp, (Fg13.out.2 (g9, y) (by simp))⟩ | exact ⟨by simp, (Fg13.out.2 (g8, x) (by simp))⟩ | exact ⟨by simp, (Fg13.out.2 (g_b, b) (by simp))⟩ | exact ⟨by simp, (Fg13.out.2 (g_a, a) (by simp))⟩)
        go_simp
        refine hK.out _ _ (⟨Env.cell (hs102) g8 (x) (by simp), Env.cell (hs102) g9 (y) (by simp)⟩) ?_
        clear hK K
        try simp only [Act.put, List.setIfInBounds_toArray, List.set_cons_zero, List.set_cons_succ]
        clear hs z0 z1 z2 z3 zl zf
        change Goes _ _ _ _ _ _ _ _ (fil wn101 g13 (q))
        generalize fil wn101 g13 (q) = wn102 at *
        have hs := hs102
        clear hs102
        refine Goes.one (i := 16) (o := { dst := none, op := _, type := _, pos := _, after := _, guard := _ }) (by kernel_rfl) rfl (fun K hK => ?_)
        obtain ⟨z0, z1, z2, z3⟩ := hs.cell g14 0 (by simp)
        have zl := hs.lt g14 0 (by simp)
        have zf := hs.frozen g14 0 (by simp)
        have hs103 := hs.set g14 0 (t) [(g13, q), (g10s, r), (g10, q), (g9, y), (g8, x), (g_b, b), (g_a, a)] (by simp) Fg14.out.1 (fun p hp => by simp only [List.mem_cons, List.not_mem_nil, or_false] at hp; rcases hp with rfl | rfl | rfl | rfl | rfl | rfl | rfl <;> first | exact ⟨by simp, (Ne.symm (Fg13.out.2 (g14, 0) (by simp)))⟩ | exact ⟨by simp, (Fg14.out.2 (g10s, r) (by simp))⟩ | exact ⟨by simp, (Fg14.out.2 (g10, q) (by simp))⟩ | exact ⟨by simp, (Fg14.out.2 (g9, y) (by simp))⟩ | exact ⟨by simp, (Fg14.out.2 (g8, x) (by simp))⟩ | exact ⟨by simp, (Fg14.out.2 (g_b, b) (by simp))⟩ | exact ⟨by simp, (Fg14.out.2 (g_a, a) (by simp))⟩)
        go_simp
        refine hK.out _ _ (⟨Env.cell (hs103) g8 (x) (by simp), Env.cell (hs103) g9 (y) (by simp)⟩) ?_
        clear hK K
        try simp only [Act.put, List.setIfInBounds_toArray, List.set_cons_zero, List.set_cons_succ]
        clear hs z0 z1 z2 z3 zl zf
        change Goes _ _ _ _ _ _ _ _ (fil wn102 g14 (t))
        generalize fil wn102 g14 (t) = wn103 at *
        have hs := hs103
        clear hs103
        refine Goes.take (i := 17) (o := { dst := some 15, op := _, type := _, pos := _, after := _, guard := _ }) (v := ?_) [] rfl (by kernel_rfl) (by kernel_rfl) (by kernel_rfl) (fun _ _ _ h => h) (by kernel_rfl) (fun L u h => h) (Or.inl ⟨by rfl, ?_⟩) (⟨Env.cell (hs) g8 (x) (by simp), Env.cell (hs) g9 (y) (by simp)⟩) ?_
        rotate_left
        · intro w hY; go_simp; try with_reducible rfl
        try simp only [Act.put, List.setIfInBounds_toArray, List.set_cons_zero, List.set_cons_succ]
        refine Goes.done (by kernel_rfl) ?_ _
        refine NoPanic.normal ?_
        go_wp2_with fail
        go_meet
        exact ⟨_, _, rfl, rfl, rfl, hid (hs.perm (by simp))⟩
  case rest =>
    obtain ⟨g13, g14, rfl, rfl, rfl, H5c⟩ := hcut
    clear H4b
    go_wp2_with fail
    have hs := H5c.out.drew
    go_region_held3 (fun w' => (w'.cell? ⟨g10, 0, none⟩ = some (.int .u64 (wd (q) 0 : Int)) ∧ w'.cell? ⟨g10, 1, none⟩ = some (.int .u64 (wd (q) 1 : Int)) ∧ w'.cell? ⟨g10, 2, none⟩ = some (.int .u64 (wd (q) 2 : Int)) ∧ w'.cell? ⟨g10, 3, none⟩ = some (.int .u64 (wd (q) 3 : Int))) ∧ (w'.cell? ⟨g13, 0, none⟩ = some (.int .u64 (wd (q) 0 : Int)) ∧ w'.cell? ⟨g13, 1, none⟩ = some (.int .u64 (wd (q) 1 : Int)) ∧ w'.cell? ⟨g13, 2, none⟩ = some (.int .u64 (wd (q) 2 : Int)) ∧ w'.cell? ⟨g13, 3, none⟩ = some (.int .u64 (wd (q) 3 : Int))) ∧ (w'.cell? ⟨g14, 0, none⟩ = some (.int .u64 (wd (t) 0 : Int)) ∧ w'.cell? ⟨g14, 1, none⟩ = some (.int .u64 (wd (t) 1 : Int)) ∧ w'.cell? ⟨g14, 2, none⟩ = some (.int .u64 (wd (t) 2 : Int)) ∧ w'.cell? ⟨g14, 3, none⟩ = some (.int .u64 (wd (t) 3 : Int))) ∧ (w'.cell? ⟨g10s, 0, none⟩ = some (.int .u64 (wd (r) 0 : Int)) ∧ w'.cell? ⟨g10s, 1, none⟩ = some (.int .u64 (wd (r) 1 : Int)) ∧ w'.cell? ⟨g10s, 2, none⟩ = some (.int .u64 (wd (r) 2 : Int)) ∧ w'.cell? ⟨g10s, 3, none⟩ = some (.int .u64 (wd (r) 3 : Int)))) (exact ⟨Env.cell (by assumption) _ _ (by simp), Env.cell (by assumption) _ _ (by simp), Env.cell (by assumption) _ _ (by simp), Env.cell (by assumption) _ _ (by simp)⟩) (first | ((go_at_call 22); (with_reducible refine (alive_at (by assumption) HT.out).mono ?_); rintro e wn ⟨rfl, hs⟩) | ((go_at_call 20); (with_reducible refine (shift_at r t (64 - (k : Int)) (by assumption) RL.out (by have := HK.out; omega) (by have := HK.out; omega) ES.out).mono ?_); rintro e wn ⟨rfl, hs⟩))
    go_wp2
    go_ret
    exact ⟨rfl, hs.1⟩

theorem halvedLaw_any (a b n : Nat) (w : World) (ha : a < 2 ^ 256) (hb : b < 2 ^ 256) (hn : n < 256) (hT : Tab w) : Calls Tryd.prog 5 #[num a, num b, .int .u8 (n : Int)] w fun e w' => e = .returned (.bool true) ∧ Below w.heap.size w w' := by
  by_cases h0 : b / 2 ^ (64 - n % 64) = 0
  · exact halved_zero a b n w ha hb hn h0 hT
  · exact halved_some a b n w ha hb hn h0 hT
end Go.Proofs.YtmeofgnmmbcklaaDoor

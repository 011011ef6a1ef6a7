/-
  burrowlaw04.prime, ModsPrime, walked: it answers true at any small number, any long one. Conditions: none.
-/
import Derived.Test.YtmeofgnmmbcklaaAlf
namespace Go.Proofs.Ytmeofgnmmbcklaa
open Go.RowKit
set_option linter.unusedVariables false

/-- what prime answers -/
def PrmE (p : Nat) (e : Ending) : Prop := ∃ v : Bool, e = .returned (.bool v) ∧ (v = true ↔ Prm p)
set_option maxRecDepth 100000 in
set_option maxHeartbeats 4000000 in
theorem prime_any (p : Nat) (w : World) (hp : p < 65536) : Calls Try.prog 27 #[.int .u64 (p : Int)] w fun e w' => PrmE p e ∧ w' = w := by
  go_enter Try.func27, Try.ntmps27
  go_wp2
  go_loopw [3] (fun s wr => ∃ i : Nat, 2 ≤ i ∧ i ≤ 65536 ∧ s = .int .u64 (i : Int) ∧ Hid (∀ j, 2 ≤ j → j < i → j * j ≤ p → p % j ≠ 0) ∧ wr = w) (fun s _ => 65537 - (intOf s).toNat)
  case atStart => exact ⟨2, by omega, by omega, rfl, hid (fun j h1 h2 => by omega), rfl⟩
  case round =>
    obtain ⟨i, h2, h3, rfl, P, rfl⟩ := hrel
    have hs : i * i ≤ 65536 * 65536 := Nat.mul_le_mul h3 h3
    have W1 : IntKind.u64.wrap ((i : Int) * (i : Int)) = ((i * i : Nat) : Int) := by rw [← Int.natCast_mul]; exact IntWalk.u64_in _ (by omega)
    obtain ⟨s, es⟩ : ∃ s, i * i = s := ⟨_, rfl⟩
    rw [es] at W1 hs
    by_cases hle : s ≤ p
    · have c1 : (s : Int) ≤ (p : Int) := by omega
      have W2 : Int.tmod (p : Int) (i : Int) = ((p % i : Nat) : Int) := by rw [Int.tmod_eq_emod_of_nonneg (by omega)]; omega
      have W3 : IntKind.u64.wrap ((p % i : Nat) : Int) = ((p % i : Nat) : Int) := IntWalk.u64_in _ (by have := Nat.mod_le p i; omega)
      have n0 : ¬ ((i : Int) = 0) := by omega
      obtain ⟨r, er⟩ : ∃ r, p % i = r := ⟨_, rfl⟩
      rw [er] at W2 W3
      have ile : i ≤ 256 := by
        rcases Nat.lt_or_ge 256 i with h | h
        · have : 257 * 257 ≤ i * i := Nat.mul_le_mul h h
          omega
        · exact h
      by_cases hr : r = 0
      · subst hr
        have ES := hid es
        have ER := hid er
        clear es er
        go_wp2
        exact bodyPost_ret (v := .bool false) (by simp [results, Try.results27, go_sem]) rfl ⟨⟨false, rfl, by simp; exact fun h => h.no h2 (by rw [ES.out]; exact hle) ER.out⟩, rfl⟩
      · have hr2 : ((r : Int) == 0) = false := by simp; omega
        have hr3 : ¬ ((r : Int) = 0) := by omega
        have ES := hid es
        have ER := hid er
        clear es er
        go_wp2
        go_roundw
        case measure => simp [intOf]; omega
        case rel => exact ⟨i + 1, by omega, by omega, by simp, hid (fun j h1 h4 h5 => by
          rcases Nat.lt_or_ge j i with h | h
          · exact P.out j h1 h h5
          · have : j = i := by omega
            subst this; rw [ER.out]; exact hr), by first | rfl | trivial⟩
    · have c1 : ¬ ((s : Int) ≤ (p : Int)) := by omega
      have ES := hid es
      clear es
      go_wp2
      exact bodyPost_ret (v := .bool (decide ((p : Int) > 1))) (by simp [results, Try.results27, go_sem]) rfl ⟨⟨_, rfl, by
        simp only [decide_eq_true_eq]
        constructor
        · intro h
          refine prm_of (by omega) (fun j h4 h5 => ?_)
          rcases Nat.lt_or_ge j i with h | h
          · exact P.out j h4 h h5
          · exfalso
            have : i * i ≤ j * j := Nat.mul_le_mul h h
            have := ES.out
            omega
        · intro h; have := h.1; omega⟩, rfl⟩
theorem prime_at (p : Nat) (v : Bool) {w w' : World} {l : List (Nat × Nat)} (h : Env w l w') (hp : p < 65536) (hv : (v = true) ↔ Prm p) : Calls Try.prog 27 #[.int .u64 (p : Int)] w' fun e w2 => e = .returned (.bool v) ∧ Env w l w2 :=
  (prime_any p w' hp).mono fun e w2 ⟨⟨u, he, hu⟩, hw⟩ => ⟨by
    rw [he, show u = v from Bool.eq_iff_iff.2 (hu.trans hv.symm)], by rw [hw]; exact h⟩
set_option maxRecDepth 100000 in
set_option maxHeartbeats 4000000 in
theorem prime_no (p x : Nat) (w : World) (hp : p < 65536) (hx : x < 2 ^ 256) (hpr : ¬ Prm p) : Calls Try.prog 7 #[.int .u16 (p : Int), num x] w fun e w' => e = .returned (.bool true) ∧ Below w.heap.size w w' := by
  have PL := hid hp
  have XL := hid hx
  have W1 : IntKind.u64.wrap (p : Int) = (p : Int) := IntWalk.u64_in _ (by omega)
  have HPR := hid hpr
  clear hp hx hpr
  have H0 := hid (((Env.refl w).new x).perm (l' := [(w.heap.size, x)]) (by simp))
  go_enter Try.func7, Try.ntmps7
  go_wp2_with fail
  generalize w.alloc (.cells (cls x) 24) = w0 at *
  generalize hzg_a : w.heap.size = g_a at *
  refine (prime_at p false H0.out PL.out (iff_of_false (by simp) HPR.out)).mono ?_
  rintro e w1 ⟨rfl, h⟩
  have H1 := hid h
  clear h H0
  go_wp2_with fail
  refine (alive_at H1.out).mono ?_
  rintro e w2 ⟨rfl, h⟩
  have H2 := hid h
  clear h H1
  go_wp2
  go_ret
  exact ⟨rfl, H2.out.1⟩
set_option maxRecDepth 100000 in
set_option maxHeartbeats 4000000 in
theorem prime_nought (p x : Nat) (w : World) (hp : p < 65536) (hx : x < 2 ^ 256) (hpr : Prm p) (h0 : x % p = 0) : Calls Try.prog 7 #[.int .u16 (p : Int), num x] w fun e w' => e = .returned (.bool true) ∧ Below w.heap.size w w' := by
  have PL := hid hp
  have XL := hid hx
  have W1 : IntKind.u64.wrap (p : Int) = (p : Int) := IntWalk.u64_in _ (by omega)
  have HPR := hid hpr
  have hpb : p < 2 ^ 256 := Nat.lt_trans hp (by decide)
  have PB := hid hpb
  have P1 := hid hpr.1
  have P0 := hid (show p ≠ 0 by have := hpr.1; omega)
  have P64 := hid (show p < 18446744073709551616 by omega)
  have NB := hid (nbits_up p 16 (by simpa using hp))
  obtain ⟨a, ea⟩ : ∃ z, x % p = z := ⟨_, rfl⟩
  have ha : a < p := by rw [← ea]; exact Nat.mod_lt _ (by have := hpr.1; omega)
  have OW := hid (show a ^ p % p = a by rw [hpr.pow, Nat.mod_eq_of_lt ha])
  rw [ea] at h0
  have AM := hid ha
  have EA := hid ea
  subst h0
  have q0 := eq_yes 0 0 rfl
  have GC := hid (show Nat.gcd 0 p ≠ 1 by rw [Nat.gcd_zero_left]; have := hpr.1; omega)
  clear hp hx hpr hpb ha ea
  have H0 := hid (((Env.refl w).new x).perm (l' := [(w.heap.size, x)]) (by simp))
  go_enter Try.func7, Try.ntmps7
  go_wp2_with fail
  generalize w.alloc (.cells (cls x) 24) = w0 at *
  generalize hzg_a : w.heap.size = g_a at *
  refine (prime_at p true H0.out PL.out (iff_of_true rfl HPR.out)).mono ?_
  rintro e w1 ⟨rfl, h⟩
  have H1 := hid h
  clear h H0
  go_wp2_with fail
  refine (ofl_at p (p : Int) H1.out P64.out rfl).mono ?_
  rintro e w2 ⟨rfl, h⟩
  have H2 := hid h
  clear h H1
  obtain ⟨c0x2a, c0x2b, c0x2c, c0x2d⟩ := H2.out.cell (g_a) (x) (by simp)
  have c0x2l := H2.out.lt (g_a) (x) (by simp)
  have c0x2m := Nat.le_of_lt c0x2l
  go_wp2_with fail
  clear c0x2a c0x2b c0x2c c0x2d c0x2l c0x2m
  have H2b := hid (H2.out.new p)
  clear H2
  generalize w2.alloc (.cells (cls p) 24) = w2b at *
  generalize w2.heap.size = g5 at *
  refine (rest_at x p 0 H2b.out XL.out PB.out P0.out EA.out).mono ?_
  rintro e w3 ⟨rfl, h⟩
  have H3 := hid h
  clear h H2b
  obtain ⟨c0x3a, c0x3b, c0x3c, c0x3d⟩ := H3.out.cell (g5) (p) (by simp)
  have c0x3l := H3.out.lt (g5) (p) (by simp)
  have c0x3m := Nat.le_of_lt c0x3l
  go_wp2_with fail
  clear c0x3a c0x3b c0x3c c0x3d c0x3l c0x3m
  have H3b := hid (H3.out.new 0)
  clear H3
  generalize w3.alloc (.cells (cls 0) 24) = w3b at *
  generalize w3.heap.size = g6 at *
  refine (mexp_at 0 p p 0 H3b.out PB.out PB.out P1.out AM.out NB.out OW.out).mono ?_
  rintro e w4 ⟨rfl, h⟩
  have H4 := hid h
  clear h H3b
  obtain ⟨c0x4a, c0x4b, c0x4c, c0x4d⟩ := H4.out.cell (g5) (p) (by simp)
  have c0x4l := H4.out.lt (g5) (p) (by simp)
  have c0x4m := Nat.le_of_lt c0x4l
  obtain ⟨c6x4a, c6x4b, c6x4c, c6x4d⟩ := H4.out.cell (g6) (0) (by simp)
  have c6x4l := H4.out.lt (g6) (0) (by simp)
  have c6x4m := Nat.le_of_lt c6x4l
  go_wp2_with fail
  clear c0x4a c0x4b c0x4c c0x4d c0x4l c0x4m c6x4a c6x4b c6x4c c6x4d c6x4l c6x4m
  have H4b := hid (H4.out.new 0)
  clear H4
  generalize w4.alloc (.cells (cls 0) 24) = w4b at *
  generalize w4.heap.size = g7 at *
  refine (minv_no_at 0 p H4b.out PB.out P1.out AM.out GC.out).mono ?_
  rintro e w5 ⟨rfl, h⟩
  have H5 := hid h
  clear h H4b
  go_upto_region 7 with fail
  have H5b := hid (H5.out.new 0)
  clear H5
  generalize w5.alloc (.cells (cls 0) 24) = w5b at *
  generalize w5.heap.size = g9 at *
  have hs := H5b.out.drew
  go_region_held3 (fun w' => (w'.cell? ⟨g6, 0, none⟩ = some (.int .u64 (wd (0) 0 : Int)) ∧ w'.cell? ⟨g6, 1, none⟩ = some (.int .u64 (wd (0) 1 : Int)) ∧ w'.cell? ⟨g6, 2, none⟩ = some (.int .u64 (wd (0) 2 : Int)) ∧ w'.cell? ⟨g6, 3, none⟩ = some (.int .u64 (wd (0) 3 : Int)))) (exact Env.cell (by assumption) _ _ (by simp)) (first | ((go_at_call 22); (with_reducible refine (none_at (by assumption)).mono ?_); rintro e wn ⟨rfl, hs⟩))
  have H6 := hid hs
  clear hs H5b
  go_upto_region 8 with fail
  have hs := H6.out.drew
  go_region_held3 (fun w' => (w'.cell? ⟨g7, 0, none⟩ = some (.int .u64 (wd (0) 0 : Int)) ∧ w'.cell? ⟨g7, 1, none⟩ = some (.int .u64 (wd (0) 1 : Int)) ∧ w'.cell? ⟨g7, 2, none⟩ = some (.int .u64 (wd (0) 2 : Int)) ∧ w'.cell? ⟨g7, 3, none⟩ = some (.int .u64 (wd (0) 3 : Int))) ∧ (w'.cell? ⟨g9, 0, none⟩ = some (.int .u64 (wd (0) 0 : Int)) ∧ w'.cell? ⟨g9, 1, none⟩ = some (.int .u64 (wd (0) 1 : Int)) ∧ w'.cell? ⟨g9, 2, none⟩ = some (.int .u64 (wd (0) 2 : Int)) ∧ w'.cell? ⟨g9, 3, none⟩ = some (.int .u64 (wd (0) 3 : Int)))) (exact ⟨Env.cell (by assumption) _ _ (by simp), Env.cell (by assumption) _ _ (by simp)⟩) (first | ((go_at_call 20); (with_reducible refine (alive_at (by assumption)).mono ?_); rintro e wn ⟨rfl, hs⟩) | ((go_at_call 22); (with_reducible refine (none_at (by assumption)).mono ?_); rintro e wn ⟨rfl, hs⟩))
  go_wp2
  go_ret
  exact ⟨rfl, hs.1⟩
set_option maxRecDepth 100000 in
set_option maxHeartbeats 4000000 in
theorem prime_some (p x : Nat) (w : World) (hp : p < 65536) (hx : x < 2 ^ 256) (hpr : Prm p) (h0 : ¬ x % p = 0) : Calls Try.prog 7 #[.int .u16 (p : Int), num x] w fun e w' => e = .returned (.bool true) ∧ Below w.heap.size w w' := by
  have PL := hid hp
  have XL := hid hx
  have W1 : IntKind.u64.wrap (p : Int) = (p : Int) := IntWalk.u64_in _ (by omega)
  have HPR := hid hpr
  have hpb : p < 2 ^ 256 := Nat.lt_trans hp (by decide)
  have PB := hid hpb
  have P1 := hid hpr.1
  have P0 := hid (show p ≠ 0 by have := hpr.1; omega)
  have P64 := hid (show p < 18446744073709551616 by omega)
  have NB := hid (nbits_up p 16 (by simpa using hp))
  obtain ⟨a, ea⟩ : ∃ z, x % p = z := ⟨_, rfl⟩
  have ha : a < p := by rw [← ea]; exact Nat.mod_lt _ (by have := hpr.1; omega)
  have OW := hid (show a ^ p % p = a by rw [hpr.pow, Nat.mod_eq_of_lt ha])
  rw [ea] at h0
  have AM := hid ha
  have EA := hid ea
  have W2 : IntKind.u64.wrap ((p : Int) - 2) = ((p - 2 : Nat) : Int) := by have := hpr.1; rw [IntWalk.u64_in _ (by omega)]; omega
  have hiv := law_prime hpr h0 ha
  obtain ⟨iv, eiv⟩ : ∃ z, a ^ (p - 2) % p = z := ⟨_, rfl⟩
  rw [eiv] at hiv
  have IV := hid hiv
  have EI := hid eiv
  obtain ⟨q, eq⟩ : ∃ z, p - 2 = z := ⟨_, rfl⟩
  rw [eq] at W2 eiv
  have EQ := hid (show a ^ q % p = iv from eiv)
  have Q64 := hid (show q < 18446744073709551616 by omega)
  have QB := hid (show q < 2 ^ 256 from Nat.lt_of_le_of_lt (by omega) hpb)
  have NQ := hid (show nbits q ≤ 16 from nbits_up q 16 (by simp; omega))
  have qa := eq_no a 0 (Nat.lt_trans ha hpb) (by decide) h0
  have qi := eq_yes iv iv rfl
  have qq := eq_yes a a rfl
  clear hp hx hpr hpb ha ea h0 hiv eiv eq EI
  have H0 := hid (((Env.refl w).new x).perm (l' := [(w.heap.size, x)]) (by simp))
  go_enter Try.func7, Try.ntmps7
  go_wp2_with fail
  generalize w.alloc (.cells (cls x) 24) = w0 at *
  generalize hzg_a : w.heap.size = g_a at *
  refine (prime_at p true H0.out PL.out (iff_of_true rfl HPR.out)).mono ?_
  rintro e w1 ⟨rfl, h⟩
  have H1 := hid h
  clear h H0
  go_wp2_with fail
  refine (ofl_at p (p : Int) H1.out P64.out rfl).mono ?_
  rintro e w2 ⟨rfl, h⟩
  have H2 := hid h
  clear h H1
  obtain ⟨c0x2a, c0x2b, c0x2c, c0x2d⟩ := H2.out.cell (g_a) (x) (by simp)
  have c0x2l := H2.out.lt (g_a) (x) (by simp)
  have c0x2m := Nat.le_of_lt c0x2l
  go_wp2_with fail
  clear c0x2a c0x2b c0x2c c0x2d c0x2l c0x2m
  have H2b := hid (H2.out.new p)
  clear H2
  generalize w2.alloc (.cells (cls p) 24) = w2b at *
  generalize w2.heap.size = g5 at *
  refine (rest_at x p a H2b.out XL.out PB.out P0.out EA.out).mono ?_
  rintro e w3 ⟨rfl, h⟩
  have H3 := hid h
  clear h H2b
  obtain ⟨c0x3a, c0x3b, c0x3c, c0x3d⟩ := H3.out.cell (g5) (p) (by simp)
  have c0x3l := H3.out.lt (g5) (p) (by simp)
  have c0x3m := Nat.le_of_lt c0x3l
  go_wp2_with fail
  clear c0x3a c0x3b c0x3c c0x3d c0x3l c0x3m
  have H3b := hid (H3.out.new a)
  clear H3
  generalize w3.alloc (.cells (cls a) 24) = w3b at *
  generalize w3.heap.size = g6 at *
  refine (mexp_at a p p a H3b.out PB.out PB.out P1.out AM.out NB.out OW.out).mono ?_
  rintro e w4 ⟨rfl, h⟩
  have H4 := hid h
  clear h H3b
  obtain ⟨c0x4a, c0x4b, c0x4c, c0x4d⟩ := H4.out.cell (g5) (p) (by simp)
  have c0x4l := H4.out.lt (g5) (p) (by simp)
  have c0x4m := Nat.le_of_lt c0x4l
  obtain ⟨c6x4a, c6x4b, c6x4c, c6x4d⟩ := H4.out.cell (g6) (a) (by simp)
  have c6x4l := H4.out.lt (g6) (a) (by simp)
  have c6x4m := Nat.le_of_lt c6x4l
  go_wp2_with fail
  clear c0x4a c0x4b c0x4c c0x4d c0x4l c0x4m c6x4a c6x4b c6x4c c6x4d c6x4l c6x4m
  have H4b := hid (H4.out.new a)
  clear H4
  generalize w4.alloc (.cells (cls a) 24) = w4b at *
  generalize w4.heap.size = g7 at *
  refine (minv_yes_at a p iv H4b.out PB.out P1.out AM.out IV.out).mono ?_
  rintro e w5 ⟨rfl, h⟩
  have H5 := hid h
  clear h H4b
  go_upto_region 7 with fail
  have H5b := hid (H5.out.new iv)
  clear H5
  generalize w5.alloc (.cells (cls iv) 24) = w5b at *
  generalize w5.heap.size = g9 at *
  have hs := H5b.out.drew
  go_region_held3 (fun w' => (w'.cell? ⟨g6, 0, none⟩ = some (.int .u64 (wd (a) 0 : Int)) ∧ w'.cell? ⟨g6, 1, none⟩ = some (.int .u64 (wd (a) 1 : Int)) ∧ w'.cell? ⟨g6, 2, none⟩ = some (.int .u64 (wd (a) 2 : Int)) ∧ w'.cell? ⟨g6, 3, none⟩ = some (.int .u64 (wd (a) 3 : Int)))) (exact Env.cell (by assumption) _ _ (by simp)) (first | ((go_at_call 22); (with_reducible refine (none_at (by assumption)).mono ?_); rintro e wn ⟨rfl, hs⟩))
  have H6 := hid hs
  clear hs H5b
  go_upto_region 9 with fail
  go_cut [11, 12] (fun s11 s12 wx => ∃ g11 : Nat, s11 = .pointer (some ⟨g11, 0, none⟩) ∧ s12 = .int .i64 0 ∧ Hid (Env w [(g11, iv), (g9, iv), (g7, a), (g6, a), (g5, p), (g_a, x)] wx))
  case first =>
    have hs := H6.out.drew
    refine wp_region_noPanic ?_
    refine Goes.region (fun (L : Array Bool) (w' : World) => (w'.cell? ⟨g6, 0, none⟩ = some (.int .u64 (wd (a) 0 : Int)) ∧ w'.cell? ⟨g6, 1, none⟩ = some (.int .u64 (wd (a) 1 : Int)) ∧ w'.cell? ⟨g6, 2, none⟩ = some (.int .u64 (wd (a) 2 : Int)) ∧ w'.cell? ⟨g6, 3, none⟩ = some (.int .u64 (wd (a) 3 : Int))) ∧ (w'.cell? ⟨g5, 0, none⟩ = some (.int .u64 (wd (p) 0 : Int)) ∧ w'.cell? ⟨g5, 1, none⟩ = some (.int .u64 (wd (p) 1 : Int)) ∧ w'.cell? ⟨g5, 2, none⟩ = some (.int .u64 (wd (p) 2 : Int)) ∧ w'.cell? ⟨g5, 3, none⟩ = some (.int .u64 (wd (p) 3 : Int)))) (by kernel_rfl) ?_
    generalize wn.drew = wd at *
    refine Goes.take (i := 0) (o := { dst := some 60, op := _, type := _, pos := _, after := _, guard := _ }) (v := ?_) [] rfl (by kernel_rfl) (by kernel_rfl) (by kernel_rfl) (fun _ _ _ h => h) (by kernel_rfl) (fun L u h => h) (Or.inl ⟨by rfl, ?_⟩) (⟨Env.cell (hs) g6 (a) (by simp), Env.cell (hs) g5 (p) (by simp)⟩) ?_
    rotate_left
    · intro w hY; obtain ⟨up, hL⟩ := hY; have hX := hL.2.1; clear hL; (try dsimp only at hX); go_simp; try with_reducible rfl
    try simp only [Act.put, List.setIfInBounds_toArray, List.set_cons_zero, List.set_cons_succ]
    refine Goes.take (i := 1) (o := { dst := some 61, op := _, type := _, pos := _, after := _, guard := _ }) (v := ?_) [] rfl (by kernel_rfl) (by kernel_rfl) (by kernel_rfl) (fun _ _ _ h => h) (by kernel_rfl) (fun L u h => h) (Or.inl ⟨by rfl, ?_⟩) (⟨Env.cell (hs) g6 (a) (by simp), Env.cell (hs) g5 (p) (by simp)⟩) ?_
    rotate_left
    · intro w hY; go_simp; try with_reducible rfl
    try simp only [Act.put, List.setIfInBounds_toArray, List.set_cons_zero, List.set_cons_succ]
    refine Goes.take (i := 2) (o := { dst := some 62, op := _, type := _, pos := _, after := _, guard := _ }) (v := ?_) [] rfl (by kernel_rfl) (by kernel_rfl) (by kernel_rfl) (fun _ _ _ h => h) (by kernel_rfl) (fun L u h => h) (Or.inl ⟨by rfl, ?_⟩) (⟨Env.cell (hs) g6 (a) (by simp), Env.cell (hs) g5 (p) (by simp)⟩) ?_
    rotate_left
    · intro w hY; go_simp; try with_reducible rfl
    try simp only [Act.put, List.setIfInBounds_toArray, List.set_cons_zero, List.set_cons_succ]
    refine Goes.take (i := 3) (o := { dst := some 63, op := _, type := _, pos := _, after := _, guard := _ }) (v := ?_) [] rfl (by kernel_rfl) (by kernel_rfl) (by kernel_rfl) (fun _ _ _ h => h) (by kernel_rfl) (fun L u h => h) (Or.inl ⟨by rfl, ?_⟩) (⟨Env.cell (hs) g6 (a) (by simp), Env.cell (hs) g5 (p) (by simp)⟩) ?_
    rotate_left
    · intro w hY; go_simp; try with_reducible rfl
    try simp only [Act.put, List.setIfInBounds_toArray, List.set_cons_zero, List.set_cons_succ]
    refine Goes.take (i := 5) (o := { dst := some 65, op := _, type := _, pos := _, after := _, guard := _ }) (v := ?_) [] rfl (by kernel_rfl) (by kernel_rfl) (by kernel_rfl) (fun _ _ _ h => h) (by kernel_rfl) (fun L u h => h) (Or.inl ⟨by rfl, ?_⟩) (⟨Env.cell (hs) g6 (a) (by simp), Env.cell (hs) g5 (p) (by simp)⟩) ?_
    rotate_left
    · intro w hY; obtain ⟨up, hL⟩ := hY; have hX := hL.2.2; clear hL; (try dsimp only at hX); go_simp; try with_reducible rfl
    try simp only [Act.put, List.setIfInBounds_toArray, List.set_cons_zero, List.set_cons_succ]
    refine Goes.two (i := 4) (j := 10) (o := { dst := some 64, op := _, type := _, pos := _, after := _, guard := _ }) (p := { dst := some 11, op := _, type := _, pos := _, after := _, guard := _ }) (by kernel_rfl) rfl rfl (fun K hK => ?_) (fun K hK => ?_)
    · skip
      go_simp
      with_reducible refine (ofl_at q (q : Int) hs Q64.out rfl).mono ?_
      rintro e wn1 ⟨rfl, hs1⟩
      go_wp2_with fail
      refine hK.out _ _ (⟨Env.cell (hs1) g6 (a) (by simp), Env.cell (hs1) g5 (p) (by simp)⟩) ?_
      clear hK K
      try simp only [Act.put, List.setIfInBounds_toArray, List.set_cons_zero, List.set_cons_succ]
      clear hs
      have hs := hs1
      clear hs1
      refine Goes.two (i := 6) (j := 10) (o := { dst := some 66, op := _, type := _, pos := _, after := _, guard := _ }) (p := { dst := some 11, op := _, type := _, pos := _, after := _, guard := _ }) (by kernel_rfl) rfl rfl (fun K hK => ?_) (fun K hK => ?_)
      · skip
        go_simp
        with_reducible refine (mexp_at a q p iv hs QB.out PB.out P1.out AM.out NQ.out EQ.out).mono ?_
        rintro e wn2 ⟨rfl, hs2⟩
        go_wp2_with fail
        refine hK.out _ _ (⟨Env.cell (hs2) g6 (a) (by simp), Env.cell (hs2) g5 (p) (by simp)⟩) ?_
        clear hK K
        try simp only [Act.put, List.setIfInBounds_toArray, List.set_cons_zero, List.set_cons_succ]
        clear hs
        have hs := hs2
        clear hs2
        refine Goes.take (i := 7) (o := { dst := some 59, op := _, type := _, pos := _, after := _, guard := _ }) (v := ?_) [] rfl (by kernel_rfl) (by kernel_rfl) (by kernel_rfl) (fun _ _ _ h => h) (by kernel_rfl) (fun L u h => h) (Or.inl ⟨by rfl, ?_⟩) (⟨Env.cell (hs) g6 (a) (by simp), Env.cell (hs) g5 (p) (by simp)⟩) ?_
        rotate_left
        · intro w hY; go_simp; try with_reducible rfl
        try simp only [Act.put, List.setIfInBounds_toArray, List.set_cons_zero, List.set_cons_succ]
        refine Goes.take (i := 8) (o := { dst := some 67, op := _, type := _, pos := _, after := _, guard := _ }) (v := ?_) [] rfl (by kernel_rfl) (by kernel_rfl) (by kernel_rfl) (fun _ _ _ h => h) (by kernel_rfl) (fun L u h => h) (Or.inl ⟨by rfl, ?_⟩) (⟨Env.cell (hs) g6 (a) (by simp), Env.cell (hs) g5 (p) (by simp)⟩) ?_
        rotate_left
        · intro w hY; go_simp; try with_reducible rfl
        try simp only [Act.put, List.setIfInBounds_toArray, List.set_cons_zero, List.set_cons_succ]
        refine Goes.take (i := 9) (o := { dst := some 68, op := _, type := _, pos := _, after := _, guard := _ }) (v := ?_) [] rfl (by kernel_rfl) (by kernel_rfl) (by kernel_rfl) (fun _ _ _ h => h) (by kernel_rfl) (fun L u h => h) (Or.inl ⟨by rfl, ?_⟩) (⟨Env.cell (hs) g6 (a) (by simp), Env.cell (hs) g5 (p) (by simp)⟩) ?_
        rotate_left
        · intro w hY; go_simp; try with_reducible rfl
        try simp only [Act.put, List.setIfInBounds_toArray, List.set_cons_zero, List.set_cons_succ]
        refine Goes.one (i := 10) (o := { dst := some 11, op := _, type := _, pos := _, after := _, guard := _ }) (by kernel_rfl) rfl (fun K hK => ?_)
        go_simp
        refine hK.out _ _ (⟨Env.cell (hs.zero) g6 (a) (by simp), Env.cell (hs.zero) g5 (p) (by simp)⟩) ?_
        clear hK K
        try simp only [Act.put, List.setIfInBounds_toArray, List.set_cons_zero, List.set_cons_succ]
        have Fg11 := hid hs.fresh
        have hs3 := hs.zero
        clear hs
        generalize wn2.alloc (.cells #[.int .u64 0, .int .u64 0, .int .u64 0, .int .u64 0] 24) = wn3 at *
        generalize wn2.heap.size = g11 at *
        have hs := hs3
        clear hs3
        refine Goes.one (i := 11) (o := { dst := none, op := _, type := _, pos := _, after := _, guard := _ }) (by kernel_rfl) rfl (fun K hK => ?_)
        obtain ⟨z0, z1, z2, z3⟩ := hs.cell g11 0 (by simp)
        have zl := hs.lt g11 0 (by simp)
        have zf := hs.frozen g11 0 (by simp)
        have hs4 := hs.set g11 0 (iv) [(g9, iv), (g7, a), (g6, a), (g5, p), (g_a, x)] (by simp) Fg11.out.1 (fun p hp => by simp only [List.mem_cons, List.not_mem_nil, or_false] at hp; rcases hp with rfl | rfl | rfl | rfl | rfl <;> first | exact ⟨by simp, (Fg11.out.2 (g9, iv) (by simp))⟩ | exact ⟨by simp, (Fg11.out.2 (g7, a) (by simp))⟩ | exact ⟨by simp, (Fg11.out.2 (g6, a) (by simp))⟩ | exact ⟨by simp, (Fg11.out.2 (g5, p) (by simp))⟩ | exact ⟨by simp, (Fg11.out.2 (g_a, x) (by simp))⟩)
        go_simp
        refine hK.out _ _ (⟨Env.cell (hs4) g6 (a) (by simp), Env.cell (hs4) g5 (p) (by simp)⟩) ?_
        clear hK K
        try simp only [Act.put, List.setIfInBounds_toArray, List.set_cons_zero, List.set_cons_succ]
        clear hs z0 z1 z2 z3 zl zf
        change Goes _ _ _ _ _ _ _ _ (fil wn3 g11 (iv))
        generalize fil wn3 g11 (iv) = wn4 at *
        have hs := hs4
        clear hs4
        refine Goes.take (i := 12) (o := { dst := some 12, op := _, type := _, pos := _, after := _, guard := _ }) (v := ?_) [] rfl (by kernel_rfl) (by kernel_rfl) (by kernel_rfl) (fun _ _ _ h => h) (by kernel_rfl) (fun L u h => h) (Or.inl ⟨by rfl, ?_⟩) (⟨Env.cell (hs) g6 (a) (by simp), Env.cell (hs) g5 (p) (by simp)⟩) ?_
        rotate_left
        · intro w hY; go_simp; try with_reducible rfl
        try simp only [Act.put, List.setIfInBounds_toArray, List.set_cons_zero, List.set_cons_succ]
        refine Goes.done (by kernel_rfl) ?_ _
        refine NoPanic.normal ?_
        go_wp2_with fail
        go_meet
        exact ⟨_, rfl, rfl, hid (hs.perm (by simp))⟩
      · skip
        go_simp
        refine hK.out _ _ (⟨Env.cell (hs.zero) g6 (a) (by simp), Env.cell (hs.zero) g5 (p) (by simp)⟩) ?_
        clear hK K
        try simp only [Act.put, List.setIfInBounds_toArray, List.set_cons_zero, List.set_cons_succ]
        have Fg11 := hid hs.fresh
        have hs5 := hs.zero
        clear hs
        generalize wn1.alloc (.cells #[.int .u64 0, .int .u64 0, .int .u64 0, .int .u64 0] 24) = wn5 at *
        generalize wn1.heap.size = g11 at *
        have hs := hs5
        clear hs5
        refine Goes.one (i := 6) (o := { dst := some 66, op := _, type := _, pos := _, after := _, guard := _ }) (by kernel_rfl) rfl (fun K hK => ?_)
        go_simp
        with_reducible refine (mexp_at a q p iv hs QB.out PB.out P1.out AM.out NQ.out EQ.out).mono ?_
        rintro e wn6 ⟨rfl, hs6⟩
        go_wp2_with fail
        refine hK.out _ _ (⟨Env.cell (hs6) g6 (a) (by simp), Env.cell (hs6) g5 (p) (by simp)⟩) ?_
        clear hK K
        try simp only [Act.put, List.setIfInBounds_toArray, List.set_cons_zero, List.set_cons_succ]
        clear hs
        have hs := hs6
        clear hs6
        refine Goes.take (i := 7) (o := { dst := some 59, op := _, type := _, pos := _, after := _, guard := _ }) (v := ?_) [] rfl (by kernel_rfl) (by kernel_rfl) (by kernel_rfl) (fun _ _ _ h => h) (by kernel_rfl) (fun L u h => h) (Or.inl ⟨by rfl, ?_⟩) (⟨Env.cell (hs) g6 (a) (by simp), Env.cell (hs) g5 (p) (by simp)⟩) ?_
        rotate_left
        · intro w hY; go_simp; try with_reducible rfl
        try simp only [Act.put, List.setIfInBounds_toArray, List.set_cons_zero, List.set_cons_succ]
        refine Goes.take (i := 8) (o := { dst := some 67, op := _, type := _, pos := _, after := _, guard := _ }) (v := ?_) [] rfl (by kernel_rfl) (by kernel_rfl) (by kernel_rfl) (fun _ _ _ h => h) (by kernel_rfl) (fun L u h => h) (Or.inl ⟨by rfl, ?_⟩) (⟨Env.cell (hs) g6 (a) (by simp), Env.cell (hs) g5 (p) (by simp)⟩) ?_
        rotate_left
        · intro w hY; go_simp; try with_reducible rfl
        try simp only [Act.put, List.setIfInBounds_toArray, List.set_cons_zero, List.set_cons_succ]
        refine Goes.take (i := 9) (o := { dst := some 68, op := _, type := _, pos := _, after := _, guard := _ }) (v := ?_) [] rfl (by kernel_rfl) (by kernel_rfl) (by kernel_rfl) (fun _ _ _ h => h) (by kernel_rfl) (fun L u h => h) (Or.inl ⟨by rfl, ?_⟩) (⟨Env.cell (hs) g6 (a) (by simp), Env.cell (hs) g5 (p) (by simp)⟩) ?_
        rotate_left
        · intro w hY; go_simp; try with_reducible rfl
        try simp only [Act.put, List.setIfInBounds_toArray, List.set_cons_zero, List.set_cons_succ]
        refine Goes.one (i := 11) (o := { dst := none, op := _, type := _, pos := _, after := _, guard := _ }) (by kernel_rfl) rfl (fun K hK => ?_)
        obtain ⟨z0, z1, z2, z3⟩ := hs.cell g11 0 (by simp)
        have zl := hs.lt g11 0 (by simp)
        have zf := hs.frozen g11 0 (by simp)
        have hs7 := hs.set g11 0 (iv) [(g9, iv), (g7, a), (g6, a), (g5, p), (g_a, x)] (by simp) Fg11.out.1 (fun p hp => by simp only [List.mem_cons, List.not_mem_nil, or_false] at hp; rcases hp with rfl | rfl | rfl | rfl | rfl <;> first | exact ⟨by simp, (Fg11.out.2 (g9, iv) (by simp))⟩ | exact ⟨by simp, (Fg11.out.2 (g7, a) (by simp))⟩ | exact ⟨by simp, (Fg11.out.2 (g6, a) (by simp))⟩ | exact ⟨by simp, (Fg11.out.2 (g5, p) (by simp))⟩ | exact ⟨by simp, (Fg11.out.2 (g_a, x) (by simp))⟩)
        go_simp
        refine hK.out _ _ (⟨Env.cell (hs7) g6 (a) (by simp), Env.cell (hs7) g5 (p) (by simp)⟩) ?_
        clear hK K
        try simp only [Act.put, List.setIfInBounds_toArray, List.set_cons_zero, List.set_cons_succ]
        clear hs z0 z1 z2 z3 zl zf
        change Goes _ _ _ _ _ _ _ _ (fil wn6 g11 (iv))
        generalize fil wn6 g11 (iv) = wn7 at *
        have hs := hs7
        clear hs7
        refine Goes.take (i := 12) (o := { dst := some 12, op := _, type := _, pos := _, after := _, guard := _ }) (v := ?_) [] rfl (by kernel_rfl) (by kernel_rfl) (by kernel_rfl) (fun _ _ _ h => h) (by kernel_rfl) (fun L u h => h) (Or.inl ⟨by rfl, ?_⟩) (⟨Env.cell (hs) g6 (a) (by simp), Env.cell (hs) g5 (p) (by simp)⟩) ?_
        rotate_left
        · intro w hY; go_simp; try with_reducible rfl
        try simp only [Act.put, List.setIfInBounds_toArray, List.set_cons_zero, List.set_cons_succ]
        refine Goes.done (by kernel_rfl) ?_ _
        refine NoPanic.normal ?_
        go_wp2_with fail
        go_meet
        exact ⟨_, rfl, rfl, hid (hs.perm (by simp))⟩
    · skip
      go_simp
      refine hK.out _ _ (⟨Env.cell (hs.zero) g6 (a) (by simp), Env.cell (hs.zero) g5 (p) (by simp)⟩) ?_
      clear hK K
      try simp only [Act.put, List.setIfInBounds_toArray, List.set_cons_zero, List.set_cons_succ]
      have Fg11 := hid hs.fresh
      have hs8 := hs.zero
      clear hs
      generalize wd.alloc (.cells #[.int .u64 0, .int .u64 0, .int .u64 0, .int .u64 0] 24) = wn8 at *
      generalize wd.heap.size = g11 at *
      have hs := hs8
      clear hs8
      refine Goes.one (i := 4) (o := { dst := some 64, op := _, type := _, pos := _, after := _, guard := _ }) (by kernel_rfl) rfl (fun K hK => ?_)
      go_simp
      with_reducible refine (ofl_at q (q : Int) hs Q64.out rfl).mono ?_
      rintro e wn9 ⟨rfl, hs9⟩
      go_wp2_with fail
      refine hK.out _ _ (⟨Env.cell (hs9) g6 (a) (by simp), Env.cell (hs9) g5 (p) (by simp)⟩) ?_
      clear hK K
      try simp only [Act.put, List.setIfInBounds_toArray, List.set_cons_zero, List.set_cons_succ]
      clear hs
      have hs := hs9
      clear hs9
      refine Goes.one (i := 6) (o := { dst := some 66, op := _, type := _, pos := _, after := _, guard := _ }) (by kernel_rfl) rfl (fun K hK => ?_)
      go_simp
      with_reducible refine (mexp_at a q p iv hs QB.out PB.out P1.out AM.out NQ.out EQ.out).mono ?_
      rintro e wn10 ⟨rfl, hs10⟩
      go_wp2_with fail
      refine hK.out _ _ (⟨Env.cell (hs10) g6 (a) (by simp), Env.cell (hs10) g5 (p) (by simp)⟩) ?_
      clear hK K
      try simp only [Act.put, List.setIfInBounds_toArray, List.set_cons_zero, List.set_cons_succ]
      clear hs
      have hs := hs10
      clear hs10
      refine Goes.take (i := 7) (o := { dst := some 59, op := _, type := _, pos := _, after := _, guard := _ }) (v := ?_) [] rfl (by kernel_rfl) (by kernel_rfl) (by kernel_rfl) (fun _ _ _ h => h) (by kernel_rfl) (fun L u h => h) (Or.inl ⟨by rfl, ?_⟩) (⟨Env.cell (hs) g6 (a) (by simp), Env.cell (hs) g5 (p) (by simp)⟩) ?_
      rotate_left
      · intro w hY; go_simp; try with_reducible rfl
      try simp only [Act.put, List.setIfInBounds_toArray, List.set_cons_zero, List.set_cons_succ]
      refine Goes.take (i := 8) (o := { dst := some 67, op := _, type := _, pos := _, after := _, guard := _ }) (v := ?_) [] rfl (by kernel_rfl) (by kernel_rfl) (by kernel_rfl) (fun _ _ _ h => h) (by kernel_rfl) (fun L u h => h) (Or.inl ⟨by rfl, ?_⟩) (⟨Env.cell (hs) g6 (a) (by simp), Env.cell (hs) g5 (p) (by simp)⟩) ?_
      rotate_left
      · intro w hY; go_simp; try with_reducible rfl
      try simp only [Act.put, List.setIfInBounds_toArray, List.set_cons_zero, List.set_cons_succ]
      refine Goes.take (i := 9) (o := { dst := some 68, op := _, type := _, pos := _, after := _, guard := _ }) (v := ?_) [] rfl (by kernel_rfl) (by kernel_rfl) (by kernel_rfl) (fun _ _ _ h => h) (by kernel_rfl) (fun L u h => h) (Or.inl ⟨by rfl, ?_⟩) (⟨Env.cell (hs) g6 (a) (by simp), Env.cell (hs) g5 (p) (by simp)⟩) ?_
      rotate_left
      · intro w hY; go_simp; try with_reducible rfl
      try simp only [Act.put, List.setIfInBounds_toArray, List.set_cons_zero, List.set_cons_succ]
      refine Goes.one (i := 11) (o := { dst := none, op := _, type := _, pos := _, after := _, guard := _ }) (by kernel_rfl) rfl (fun K hK => ?_)
      obtain ⟨z0, z1, z2, z3⟩ := hs.cell g11 0 (by simp)
      have zl := hs.lt g11 0 (by simp)
      have zf := hs.frozen g11 0 (by simp)
      have hs11 := hs.set g11 0 (iv) [(g9, iv), (g7, a), (g6, a), (g5, p), (g_a, x)] (by simp) Fg11.out.1 (fun p hp => by simp only [List.mem_cons, List.not_mem_nil, or_false] at hp; rcases hp with rfl | rfl | rfl | rfl | rfl <;> first | exact ⟨by simp, (Fg11.out.2 (g9, iv) (by simp))⟩ | exact ⟨by simp, (Fg11.out.2 (g7, a) (by simp))⟩ | exact ⟨by simp, (Fg11.out.2 (g6, a) (by simp))⟩ | exact ⟨by simp, (Fg11.out.2 (g5, p) (by simp))⟩ | exact ⟨by simp, (Fg11.out.2 (g_a, x) (by simp))⟩)
      go_simp
      refine hK.out _ _ (⟨Env.cell (hs11) g6 (a) (by simp), Env.cell (hs11) g5 (p) (by simp)⟩) ?_
      clear hK K
      try simp only [Act.put, List.setIfInBounds_toArray, List.set_cons_zero, List.set_cons_succ]
      clear hs z0 z1 z2 z3 zl zf
      change Goes _ _ _ _ _ _ _ _ (fil wn10 g11 (iv))
      generalize fil wn10 g11 (iv) = wn11 at *
      have hs := hs11
      clear hs11
      refine Goes.take (i := 12) (o := { dst := some 12, op := _, type := _, pos := _, after := _, guard := _ }) (v := ?_) [] rfl (by kernel_rfl) (by kernel_rfl) (by kernel_rfl) (fun _ _ _ h => h) (by kernel_rfl) (fun L u h => h) (Or.inl ⟨by rfl, ?_⟩) (⟨Env.cell (hs) g6 (a) (by simp), Env.cell (hs) g5 (p) (by simp)⟩) ?_
      rotate_left
      · intro w hY; go_simp; try with_reducible rfl
      try simp only [Act.put, List.setIfInBounds_toArray, List.set_cons_zero, List.set_cons_succ]
      refine Goes.done (by kernel_rfl) ?_ _
      refine NoPanic.normal ?_
      go_wp2_with fail
      go_meet
      exact ⟨_, rfl, rfl, hid (hs.perm (by simp))⟩
  case rest =>
    obtain ⟨g11, rfl, rfl, H7c⟩ := hcut
    clear H6
    go_wp2_with fail
    refine (alive_at H7c.out).mono ?_
    rintro e w8 ⟨rfl, h⟩
    have H8 := hid h
    clear h H7c
    obtain ⟨c0x8a, c0x8b, c0x8c, c0x8d⟩ := H8.out.cell (g7) (a) (by simp)
    have c0x8l := H8.out.lt (g7) (a) (by simp)
    have c0x8m := Nat.le_of_lt c0x8l
    obtain ⟨c6x8a, c6x8b, c6x8c, c6x8d⟩ := H8.out.cell (g6) (a) (by simp)
    have c6x8l := H8.out.lt (g6) (a) (by simp)
    have c6x8m := Nat.le_of_lt c6x8l
    obtain ⟨c12x8a, c12x8b, c12x8c, c12x8d⟩ := H8.out.cell (g11) (iv) (by simp)
    have c12x8l := H8.out.lt (g11) (iv) (by simp)
    have c12x8m := Nat.le_of_lt c12x8l
    obtain ⟨c18x8a, c18x8b, c18x8c, c18x8d⟩ := H8.out.cell (g9) (iv) (by simp)
    have c18x8l := H8.out.lt (g9) (iv) (by simp)
    have c18x8m := Nat.le_of_lt c18x8l
    go_wp2
    go_ret
    exact ⟨rfl, H8.out.1⟩
theorem primeLaw_any (p x : Nat) (w : World) (hp : p < 65536) (hx : x < 2 ^ 256) : Calls Try.prog 7 #[.int .u16 (p : Int), num x] w fun e w' => e = .returned (.bool true) ∧ Below w.heap.size w w' := by
  by_cases h : Prm p
  · by_cases h0 : x % p = 0
    · exact prime_nought p x w hp hx h h0
    · exact prime_some p x w hp hx h h0
  · exact prime_no p x w hp hx h
end Go.Proofs.Ytmeofgnmmbcklaa

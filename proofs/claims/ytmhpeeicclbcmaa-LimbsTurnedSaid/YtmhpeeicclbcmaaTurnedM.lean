/-
  burrowlaw02.LimbsTurned, walked at any number but 0. Conditions: none.
-/
import Derived.Test.YtmhpeeicclbcmaaTurnedA
namespace Go.Proofs.Ytmhpeeicclbcmaa
open Go.RowKit
set_option linter.unusedVariables false

set_option maxRecDepth 100000 in
set_option maxHeartbeats 12000000 in
theorem turned_more (a : Nat) (w : World) (ha : a < 2 ^ 256) (hne : a ≠ 0) : Calls Try.prog 4 #[num a] w fun e w' => e = .returned (.bool true) ∧ Below w.heap.size w w' := by
  have HA := hid ha
  obtain ⟨t, e1⟩ : ∃ t, Hid (2 ^ 256 - 1 - a = t) := ⟨_, hid rfl⟩
  have n1 : Hid (t < 2 ^ 256) := hid (by rw [← e1.out]; rw [p256] at *; omega)
  have e2 : Hid ((a + t) % 2 ^ 256 = top) := hid (by rw [← e1.out]; unfold top; rw [p256] at *; omega)
  have e3 : Hid ((((a + t) / 2 ^ 256 : Nat) : Int) = 0) := hid (by rw [← e1.out]; rw [p256] at *; omega)
  have e4 : Hid (dif top a = t) := hid (by rw [← e1.out]; unfold dif top; rw [p256] at *; split <;> omega)
  have e5 : Hid ((lent top a : Int) = 0) := hid (by unfold lent top; rw [p256] at *; split <;> omega)
  obtain ⟨d, e6⟩ : ∃ d, Hid (dif 0 a = d) := ⟨_, hid rfl⟩
  have e7 : Hid ((lent 0 a : Int) = 1) := hid (by unfold lent; rw [if_pos (by omega)]; rfl)
  have e8 : Hid ((t + 1) % 2 ^ 256 = d) := hid (by rw [← e1.out, ← e6.out]; unfold dif; rw [p256] at *; split <;> omega)
  have e9 : Hid ((((t + 1) / 2 ^ 256 : Nat) : Int) = 0) := hid (by rw [← e1.out]; rw [p256] at *; omega)
  have q7 := eq_no a 0 ha (by decide) (by omega)
  clear ha hne
  have H0 := hid ((Env.refl w).new a)
  go_enter Try.func4, Try.ntmps4
  go_wp2_with fail
  generalize w.alloc (.cells (cls a) 24) = w0 at *
  generalize w.heap.size = ga at *
  refine (turned_at a t H0.out HA.out e1.out).mono ?_
  rintro e w1 ⟨rfl, h⟩
  have H1 := hid h
  clear h H0
  obtain ⟨c0x1a, c0x1b, c0x1c, c0x1d⟩ := H1.out.cell (ga) (a) (by simp)
  have c0x1l := H1.out.lt (ga) (a) (by simp)
  have c0x1m := Nat.le_of_lt c0x1l
  go_wp2_with fail
  clear c0x1a c0x1b c0x1c c0x1d c0x1l c0x1m
  have H1b := hid (H1.out.new t)
  clear H1
  generalize w1.alloc (.cells (cls t) 24) = w1b at *
  generalize w1.heap.size = g3 at *
  refine (add_at a t top 0 H1b.out HA.out n1.out e2.out e3.out).mono ?_
  rintro e w2 ⟨rfl, h⟩
  have H2 := hid h
  clear h H1b
  go_upto_region 3 with fail
  have H2b := hid (H2.out.new top)
  clear H2
  generalize w2.alloc (.cells (cls top) 24) = w2b at *
  generalize w2.heap.size = g4 at *
  have HE := H2b
  go_cut [6, 7] (fun s6 s7 wx => ∃ g : Nat, s6 = .pointer (some ⟨g, 0, none⟩) ∧ s7 = .int .u64 0 ∧ Hid (Env w ((g, t) :: [(g4, top), (g3, t), (ga, a)]) wx))
  case first =>
    have hE0 := HE.out
    have hD := HE.out.drew
    have hDA := (HE.out.alloc (.cells #[.int .u64 0, .int .u64 0, .int .u64 0, .int .u64 0] 24)).drew
    go_region_held3 (fun w' => (w'.cell? ⟨ga, 0, none⟩ = some (.int .u64 (wd a 0 : Int)) ∧ w'.cell? ⟨ga, 1, none⟩ = some (.int .u64 (wd a 1 : Int)) ∧ w'.cell? ⟨ga, 2, none⟩ = some (.int .u64 (wd a 2 : Int)) ∧ w'.cell? ⟨ga, 3, none⟩ = some (.int .u64 (wd a 3 : Int)))) (exact Env.cell (w := w) (l := [(g4, top), (g3, t), (ga, a)]) (by first | assumption | exact Env.alloc (by assumption) _ | exact Env.filNew (by assumption) hE0 | exact Env.filNew (by assumption) hs) _ _ (by simp)) (first | ((go_at_call 27); (with_reducible refine (ez_of (all_t _) (by assumption)).mono ?_); rintro e wn ⟨rfl, hs, kp⟩; (first | (have zf := kp _ _ _ _ _ (Fr.new w2b (.int .u64 0) (.int .u64 0) (.int .u64 0) (.int .u64 0)); obtain ⟨z0, z1, z2, z3⟩ := zf.cell; have zz := zf.frozen) | skip)) | ((go_at_call 12); (with_reducible refine (ez_of (sub_b top a t 0 _ top_lt HA.out e4.out e5.out) (by first | assumption | exact Env.alloc (by assumption) _)).mono ?_); rintro e wm ⟨rfl, hs2, kp2⟩; (first | (have zf2 := kp2 _ _ _ _ _ zf; obtain ⟨z0, z1, z2, z3⟩ := zf2.cell; have zz := zf2.frozen) | (have zf2 := kp2 _ _ _ _ _ (Fr.new wn (.int .u64 0) (.int .u64 0) (.int .u64 0) (.int .u64 0)); obtain ⟨z0, z1, z2, z3⟩ := zf2.cell; have zz := zf2.frozen) | skip)))
    all_goals
      go_wp2_with fail
      go_meet
      first | exact ⟨_, rfl, rfl, hid (Env.cons (Env.filNew hs2 hE0) (fil_nm t zf2))⟩ | exact ⟨_, rfl, rfl, hid (Env.cons (Env.filNew hs2 hs) (fil_nm t zf2))⟩ | exact ⟨_, rfl, rfl, hid (hs2.new t)⟩
  case rest =>
    obtain ⟨g6, rfl, rfl, H3⟩ := hcut
    clear HE H2b
    go_upto_region 4 with fail
    have HE := H3
    go_cut [8, 9] (fun s8 s9 wx => ∃ g : Nat, s8 = .pointer (some ⟨g, 0, none⟩) ∧ s9 = .int .u64 1 ∧ Hid (Env w ((g, d) :: [(g6, t), (g4, top), (g3, t), (ga, a)]) wx))
    case first =>
      have hE0 := HE.out
      have hD := HE.out.drew
      have hDA := (HE.out.alloc (.cells #[.int .u64 0, .int .u64 0, .int .u64 0, .int .u64 0] 24)).drew
      go_region_held3 (fun w' => (w'.cell? ⟨ga, 0, none⟩ = some (.int .u64 (wd a 0 : Int)) ∧ w'.cell? ⟨ga, 1, none⟩ = some (.int .u64 (wd a 1 : Int)) ∧ w'.cell? ⟨ga, 2, none⟩ = some (.int .u64 (wd a 2 : Int)) ∧ w'.cell? ⟨ga, 3, none⟩ = some (.int .u64 (wd a 3 : Int)))) (exact Env.cell (w := w) (l := [(g6, t), (g4, top), (g3, t), (ga, a)]) (by first | assumption | exact Env.alloc (by assumption) _ | exact Env.filNew (by assumption) hE0 | exact Env.filNew (by assumption) hs) _ _ (by simp)) (first | ((go_at_call 28); (with_reducible refine (ez_of (none_any _) (by assumption)).mono ?_); rintro e wn ⟨rfl, hs, kp⟩; (first | (have zf := kp _ _ _ _ _ (Fr.new wc (.int .u64 0) (.int .u64 0) (.int .u64 0) (.int .u64 0)); obtain ⟨z0, z1, z2, z3⟩ := zf.cell; have zz := zf.frozen) | skip)) | ((go_at_call 12); (with_reducible refine (ez_of (sub_b 0 a d 1 _ (by decide) HA.out e6.out e7.out) (by first | assumption | exact Env.alloc (by assumption) _)).mono ?_); rintro e wm ⟨rfl, hs2, kp2⟩; (first | (have zf2 := kp2 _ _ _ _ _ zf; obtain ⟨z0, z1, z2, z3⟩ := zf2.cell; have zz := zf2.frozen) | (have zf2 := kp2 _ _ _ _ _ (Fr.new wn (.int .u64 0) (.int .u64 0) (.int .u64 0) (.int .u64 0)); obtain ⟨z0, z1, z2, z3⟩ := zf2.cell; have zz := zf2.frozen) | skip)))
      all_goals
        go_wp2_with fail
        go_meet
        first | exact ⟨_, rfl, rfl, hid (Env.cons (Env.filNew hs2 hE0) (fil_nm d zf2))⟩ | exact ⟨_, rfl, rfl, hid (Env.cons (Env.filNew hs2 hs) (fil_nm d zf2))⟩ | exact ⟨_, rfl, rfl, hid (hs2.new d)⟩
    case rest =>
      obtain ⟨g8, rfl, rfl, H4⟩ := hcut
      clear HE H3
      go_upto_region 5 with fail
      have HE := H4
      go_cut [10, 11] (fun s10 s11 wx => ∃ g : Nat, s10 = .pointer (some ⟨g, 0, none⟩) ∧ s11 = .int .u64 0 ∧ Hid (Env w ((g, d) :: [(g8, d), (g6, t), (g4, top), (g3, t), (ga, a)]) wx))
      case first =>
        have hE0 := HE.out
        have hD := HE.out.drew
        have hDA := (HE.out.alloc (.cells #[.int .u64 0, .int .u64 0, .int .u64 0, .int .u64 0] 24)).drew
        go_region_held3 (fun w' => (w'.cell? ⟨g3, 0, none⟩ = some (.int .u64 (wd t 0 : Int)) ∧ w'.cell? ⟨g3, 1, none⟩ = some (.int .u64 (wd t 1 : Int)) ∧ w'.cell? ⟨g3, 2, none⟩ = some (.int .u64 (wd t 2 : Int)) ∧ w'.cell? ⟨g3, 3, none⟩ = some (.int .u64 (wd t 3 : Int)))) (exact Env.cell (w := w) (l := [(g8, d), (g6, t), (g4, top), (g3, t), (ga, a)]) (by first | assumption | exact Env.alloc (by assumption) _ | exact Env.filNew (by assumption) hE0 | exact Env.filNew (by assumption) hs) _ _ (by simp)) (first | ((go_at_call 24); (with_reducible refine (ez_of (of_b 1 1 _ (by decide) (by decide)) (by assumption)).mono ?_); rintro e wn ⟨rfl, hs, kp⟩; (first | (have zf := kp _ _ _ _ _ (Fr.new wc (.int .u64 0) (.int .u64 0) (.int .u64 0) (.int .u64 0)); obtain ⟨z0, z1, z2, z3⟩ := zf.cell; have zz := zf.frozen) | skip)) | ((go_at_call 10); (with_reducible refine (ez_of (add_b t 1 d 0 _ n1.out (by decide) e8.out e9.out) (by first | assumption | exact Env.alloc (by assumption) _)).mono ?_); rintro e wm ⟨rfl, hs2, kp2⟩; (first | (have zf2 := kp2 _ _ _ _ _ zf; obtain ⟨z0, z1, z2, z3⟩ := zf2.cell; have zz := zf2.frozen) | (have zf2 := kp2 _ _ _ _ _ (Fr.new wn (.int .u64 0) (.int .u64 0) (.int .u64 0) (.int .u64 0)); obtain ⟨z0, z1, z2, z3⟩ := zf2.cell; have zz := zf2.frozen) | skip)))
        all_goals
          go_wp2_with fail
          go_meet
          first | exact ⟨_, rfl, rfl, hid (Env.cons (Env.filNew hs2 hE0) (fil_nm d zf2))⟩ | exact ⟨_, rfl, rfl, hid (Env.cons (Env.filNew hs2 hs) (fil_nm d zf2))⟩ | exact ⟨_, rfl, rfl, hid (hs2.new d)⟩
      case rest =>
        obtain ⟨g10, rfl, rfl, H5⟩ := hcut
        clear HE H4
        go_wp2_with fail
        have hD := H5.out.drew
        go_region_held3 (fun w' => (w'.cell? ⟨ga, 0, none⟩ = some (.int .u64 (wd a 0 : Int)) ∧ w'.cell? ⟨ga, 1, none⟩ = some (.int .u64 (wd a 1 : Int)) ∧ w'.cell? ⟨ga, 2, none⟩ = some (.int .u64 (wd a 2 : Int)) ∧ w'.cell? ⟨ga, 3, none⟩ = some (.int .u64 (wd a 3 : Int)))) (exact Env.cell (by assumption) _ _ (by simp)) (first | ((go_at_call 28); (with_reducible refine (none_at (by assumption)).mono ?_); rintro e wn ⟨rfl, hs⟩))
        have H99 := hid hs
        clear hs hD q7
        go_wp2_with fail
        have hD := H99.out.drew
        have qt := eq_yes top top rfl
        have q1 := eq_yes t t rfl
        have q2 := eq_yes d d rfl
        go_region_held3 (fun w' => (w'.cell? ⟨g4, 0, none⟩ = some (.int .u64 (wd top 0 : Int)) ∧ w'.cell? ⟨g4, 1, none⟩ = some (.int .u64 (wd top 1 : Int)) ∧ w'.cell? ⟨g4, 2, none⟩ = some (.int .u64 (wd top 2 : Int)) ∧ w'.cell? ⟨g4, 3, none⟩ = some (.int .u64 (wd top 3 : Int))) ∧ (w'.cell? ⟨g6, 0, none⟩ = some (.int .u64 (wd t 0 : Int)) ∧ w'.cell? ⟨g6, 1, none⟩ = some (.int .u64 (wd t 1 : Int)) ∧ w'.cell? ⟨g6, 2, none⟩ = some (.int .u64 (wd t 2 : Int)) ∧ w'.cell? ⟨g6, 3, none⟩ = some (.int .u64 (wd t 3 : Int))) ∧ (w'.cell? ⟨g3, 0, none⟩ = some (.int .u64 (wd t 0 : Int)) ∧ w'.cell? ⟨g3, 1, none⟩ = some (.int .u64 (wd t 1 : Int)) ∧ w'.cell? ⟨g3, 2, none⟩ = some (.int .u64 (wd t 2 : Int)) ∧ w'.cell? ⟨g3, 3, none⟩ = some (.int .u64 (wd t 3 : Int))) ∧ (w'.cell? ⟨g8, 0, none⟩ = some (.int .u64 (wd d 0 : Int)) ∧ w'.cell? ⟨g8, 1, none⟩ = some (.int .u64 (wd d 1 : Int)) ∧ w'.cell? ⟨g8, 2, none⟩ = some (.int .u64 (wd d 2 : Int)) ∧ w'.cell? ⟨g8, 3, none⟩ = some (.int .u64 (wd d 3 : Int))) ∧ (w'.cell? ⟨g10, 0, none⟩ = some (.int .u64 (wd d 0 : Int)) ∧ w'.cell? ⟨g10, 1, none⟩ = some (.int .u64 (wd d 1 : Int)) ∧ w'.cell? ⟨g10, 2, none⟩ = some (.int .u64 (wd d 2 : Int)) ∧ w'.cell? ⟨g10, 3, none⟩ = some (.int .u64 (wd d 3 : Int)))) (exact ⟨Env.cell (by assumption) _ _ (by simp), Env.cell (by assumption) _ _ (by simp), Env.cell (by assumption) _ _ (by simp), Env.cell (by assumption) _ _ (by simp), Env.cell (by assumption) _ _ (by simp)⟩) (first | ((go_at_call 29); (with_reducible refine (alive_at (by assumption)).mono ?_); rintro e wn ⟨rfl, hs⟩) | ((go_at_call 27); (with_reducible refine (all_at (by assumption)).mono ?_); rintro e wn ⟨rfl, hs⟩))
        go_wp2
        go_ret
        exact ⟨rfl, hs.1⟩

end Go.Proofs.Ytmhpeeicclbcmaa

/-
  burrowlaw02.LimbsTurned, walked at 0. Conditions: none.
-/
import Derived.Test.YtmhpeeicclbcmaaTurnedA
namespace Go.Proofs.Ytmhpeeicclbcmaa
open Go.RowKit
set_option linter.unusedVariables false

set_option maxRecDepth 100000 in
set_option maxHeartbeats 12000000 in
theorem turned_zero (w : World) : Calls Try.prog 4 #[num 0] w fun e w' => e = .returned (.bool true) ∧ Below w.heap.size w w' := by
  have q7 := eq_yes 0 0 rfl
  have H0 := hid ((Env.refl w).new 0)
  go_enter Try.func4, Try.ntmps4
  go_wp2_with fail
  generalize w.alloc (.cells (cls 0) 24) = w0 at *
  generalize w.heap.size = ga at *
  refine (turned_at 0 top H0.out (by decide) (by decide)).mono ?_
  rintro e w1 ⟨rfl, h⟩
  have H1 := hid h
  clear h H0
  obtain ⟨c0x1a, c0x1b, c0x1c, c0x1d⟩ := H1.out.cell (ga) (0) (by simp)
  have c0x1l := H1.out.lt (ga) (0) (by simp)
  have c0x1m := Nat.le_of_lt c0x1l
  go_wp2_with fail
  clear c0x1a c0x1b c0x1c c0x1d c0x1l c0x1m
  have H1b := hid (H1.out.new top)
  clear H1
  generalize w1.alloc (.cells (cls top) 24) = w1b at *
  generalize w1.heap.size = g3 at *
  refine (add_at 0 top top 0 H1b.out (by decide) top_lt (by decide) (by decide)).mono ?_
  rintro e w2 ⟨rfl, h⟩
  have H2 := hid h
  clear h H1b
  go_upto_region 3 with fail
  have H2b := hid (H2.out.new top)
  clear H2
  generalize w2.alloc (.cells (cls top) 24) = w2b at *
  generalize w2.heap.size = g4 at *
  have HE := H2b
  go_cut [6, 7] (fun s6 s7 wx => ∃ g : Nat, s6 = .pointer (some ⟨g, 0, none⟩) ∧ s7 = .int .u64 0 ∧ Hid (Env w ((g, top) :: [(g4, top), (g3, top), (ga, 0)]) wx))
  case first =>
    have hE0 := HE.out
    have hD := HE.out.drew
    have hDA := (HE.out.alloc (.cells #[.int .u64 0, .int .u64 0, .int .u64 0, .int .u64 0] 24)).drew
    go_region_held3 (fun w' => (w'.cell? ⟨ga, 0, none⟩ = some (.int .u64 (wd 0 0 : Int)) ∧ w'.cell? ⟨ga, 1, none⟩ = some (.int .u64 (wd 0 1 : Int)) ∧ w'.cell? ⟨ga, 2, none⟩ = some (.int .u64 (wd 0 2 : Int)) ∧ w'.cell? ⟨ga, 3, none⟩ = some (.int .u64 (wd 0 3 : Int)))) (exact Env.cell (w := w) (l := [(g4, top), (g3, top), (ga, 0)]) (by first | assumption | exact Env.alloc (by assumption) _ | exact Env.filNew (by assumption) hE0 | exact Env.filNew (by assumption) hs) _ _ (by simp)) (first | ((go_at_call 27); (with_reducible refine (ez_of (all_t _) (by assumption)).mono ?_); rintro e wn ⟨rfl, hs, kp⟩; (first | (have zf := kp _ _ _ _ _ (Fr.new w2b (.int .u64 0) (.int .u64 0) (.int .u64 0) (.int .u64 0)); obtain ⟨z0, z1, z2, z3⟩ := zf.cell; have zz := zf.frozen) | skip)) | ((go_at_call 12); (with_reducible refine (ez_of (sub_b top 0 top 0 _ top_lt (by decide) (by decide) (by decide)) (by first | assumption | exact Env.alloc (by assumption) _)).mono ?_); rintro e wm ⟨rfl, hs2, kp2⟩; (first | (have zf2 := kp2 _ _ _ _ _ zf; obtain ⟨z0, z1, z2, z3⟩ := zf2.cell; have zz := zf2.frozen) | (have zf2 := kp2 _ _ _ _ _ (Fr.new wn (.int .u64 0) (.int .u64 0) (.int .u64 0) (.int .u64 0)); obtain ⟨z0, z1, z2, z3⟩ := zf2.cell; have zz := zf2.frozen) | skip)))
    all_goals
      go_wp2_with fail
      go_meet
      first | exact ⟨_, rfl, rfl, hid (Env.cons (Env.filNew hs2 hE0) (fil_nm top zf2))⟩ | exact ⟨_, rfl, rfl, hid (Env.cons (Env.filNew hs2 hs) (fil_nm top zf2))⟩ | exact ⟨_, rfl, rfl, hid (hs2.new top)⟩
  case rest =>
    obtain ⟨g6, rfl, rfl, H3⟩ := hcut
    clear HE H2b
    go_upto_region 4 with fail
    have HE := H3
    go_cut [8, 9] (fun s8 s9 wx => ∃ g : Nat, s8 = .pointer (some ⟨g, 0, none⟩) ∧ s9 = .int .u64 0 ∧ Hid (Env w ((g, 0) :: [(g6, top), (g4, top), (g3, top), (ga, 0)]) wx))
    case first =>
      have hE0 := HE.out
      have hD := HE.out.drew
      have hDA := (HE.out.alloc (.cells #[.int .u64 0, .int .u64 0, .int .u64 0, .int .u64 0] 24)).drew
      go_region_held3 (fun w' => (w'.cell? ⟨ga, 0, none⟩ = some (.int .u64 (wd 0 0 : Int)) ∧ w'.cell? ⟨ga, 1, none⟩ = some (.int .u64 (wd 0 1 : Int)) ∧ w'.cell? ⟨ga, 2, none⟩ = some (.int .u64 (wd 0 2 : Int)) ∧ w'.cell? ⟨ga, 3, none⟩ = some (.int .u64 (wd 0 3 : Int)))) (exact Env.cell (w := w) (l := [(g6, top), (g4, top), (g3, top), (ga, 0)]) (by first | assumption | exact Env.alloc (by assumption) _ | exact Env.filNew (by assumption) hE0 | exact Env.filNew (by assumption) hs) _ _ (by simp)) (first | ((go_at_call 28); (with_reducible refine (ez_of (none_any _) (by assumption)).mono ?_); rintro e wn ⟨rfl, hs, kp⟩; (first | (have zf := kp _ _ _ _ _ (Fr.new wc (.int .u64 0) (.int .u64 0) (.int .u64 0) (.int .u64 0)); obtain ⟨z0, z1, z2, z3⟩ := zf.cell; have zz := zf.frozen) | skip)) | ((go_at_call 12); (with_reducible refine (ez_of (sub_b 0 0 0 0 _ (by decide) (by decide) (by decide) (by decide)) (by first | assumption | exact Env.alloc (by assumption) _)).mono ?_); rintro e wm ⟨rfl, hs2, kp2⟩; (first | (have zf2 := kp2 _ _ _ _ _ zf; obtain ⟨z0, z1, z2, z3⟩ := zf2.cell; have zz := zf2.frozen) | (have zf2 := kp2 _ _ _ _ _ (Fr.new wn (.int .u64 0) (.int .u64 0) (.int .u64 0) (.int .u64 0)); obtain ⟨z0, z1, z2, z3⟩ := zf2.cell; have zz := zf2.frozen) | skip)))
      all_goals
        go_wp2_with fail
        go_meet
        first | exact ⟨_, rfl, rfl, hid (Env.cons (Env.filNew hs2 hE0) (fil_nm 0 zf2))⟩ | exact ⟨_, rfl, rfl, hid (Env.cons (Env.filNew hs2 hs) (fil_nm 0 zf2))⟩ | exact ⟨_, rfl, rfl, hid (hs2.new 0)⟩
    case rest =>
      obtain ⟨g8, rfl, rfl, H4⟩ := hcut
      clear HE H3
      go_upto_region 5 with fail
      have HE := H4
      go_cut [10, 11] (fun s10 s11 wx => ∃ g : Nat, s10 = .pointer (some ⟨g, 0, none⟩) ∧ s11 = .int .u64 1 ∧ Hid (Env w ((g, 0) :: [(g8, 0), (g6, top), (g4, top), (g3, top), (ga, 0)]) wx))
      case first =>
        have hE0 := HE.out
        have hD := HE.out.drew
        have hDA := (HE.out.alloc (.cells #[.int .u64 0, .int .u64 0, .int .u64 0, .int .u64 0] 24)).drew
        go_region_held3 (fun w' => (w'.cell? ⟨g3, 0, none⟩ = some (.int .u64 (wd top 0 : Int)) ∧ w'.cell? ⟨g3, 1, none⟩ = some (.int .u64 (wd top 1 : Int)) ∧ w'.cell? ⟨g3, 2, none⟩ = some (.int .u64 (wd top 2 : Int)) ∧ w'.cell? ⟨g3, 3, none⟩ = some (.int .u64 (wd top 3 : Int)))) (exact Env.cell (w := w) (l := [(g8, 0), (g6, top), (g4, top), (g3, top), (ga, 0)]) (by first | assumption | exact Env.alloc (by assumption) _ | exact Env.filNew (by assumption) hE0 | exact Env.filNew (by assumption) hs) _ _ (by simp)) (first | ((go_at_call 24); (with_reducible refine (ez_of (of_b 1 1 _ (by decide) (by decide)) (by assumption)).mono ?_); rintro e wn ⟨rfl, hs, kp⟩; (first | (have zf := kp _ _ _ _ _ (Fr.new wc (.int .u64 0) (.int .u64 0) (.int .u64 0) (.int .u64 0)); obtain ⟨z0, z1, z2, z3⟩ := zf.cell; have zz := zf.frozen) | skip)) | ((go_at_call 10); (with_reducible refine (ez_of (add_b top 1 0 1 _ top_lt (by decide) (by decide) (by decide)) (by first | assumption | exact Env.alloc (by assumption) _)).mono ?_); rintro e wm ⟨rfl, hs2, kp2⟩; (first | (have zf2 := kp2 _ _ _ _ _ zf; obtain ⟨z0, z1, z2, z3⟩ := zf2.cell; have zz := zf2.frozen) | (have zf2 := kp2 _ _ _ _ _ (Fr.new wn (.int .u64 0) (.int .u64 0) (.int .u64 0) (.int .u64 0)); obtain ⟨z0, z1, z2, z3⟩ := zf2.cell; have zz := zf2.frozen) | skip)))
        all_goals
          go_wp2_with fail
          go_meet
          first | exact ⟨_, rfl, rfl, hid (Env.cons (Env.filNew hs2 hE0) (fil_nm 0 zf2))⟩ | exact ⟨_, rfl, rfl, hid (Env.cons (Env.filNew hs2 hs) (fil_nm 0 zf2))⟩ | exact ⟨_, rfl, rfl, hid (hs2.new 0)⟩
      case rest =>
        obtain ⟨g10, rfl, rfl, H5⟩ := hcut
        clear HE H4
        go_wp2_with fail
        have hD := H5.out.drew
        go_region_held3 (fun w' => (w'.cell? ⟨ga, 0, none⟩ = some (.int .u64 (wd 0 0 : Int)) ∧ w'.cell? ⟨ga, 1, none⟩ = some (.int .u64 (wd 0 1 : Int)) ∧ w'.cell? ⟨ga, 2, none⟩ = some (.int .u64 (wd 0 2 : Int)) ∧ w'.cell? ⟨ga, 3, none⟩ = some (.int .u64 (wd 0 3 : Int)))) (exact Env.cell (by assumption) _ _ (by simp)) (first | ((go_at_call 28); (with_reducible refine (none_at (by assumption)).mono ?_); rintro e wn ⟨rfl, hs⟩))
        have H99 := hid hs
        clear hs hD q7
        go_wp2_with fail
        have hD := H99.out.drew
        have qt := eq_yes top top rfl
        have q1 := eq_yes top top rfl
        have q2 := eq_yes 0 0 rfl
        go_region_held3 (fun w' => (w'.cell? ⟨g4, 0, none⟩ = some (.int .u64 (wd top 0 : Int)) ∧ w'.cell? ⟨g4, 1, none⟩ = some (.int .u64 (wd top 1 : Int)) ∧ w'.cell? ⟨g4, 2, none⟩ = some (.int .u64 (wd top 2 : Int)) ∧ w'.cell? ⟨g4, 3, none⟩ = some (.int .u64 (wd top 3 : Int))) ∧ (w'.cell? ⟨g6, 0, none⟩ = some (.int .u64 (wd top 0 : Int)) ∧ w'.cell? ⟨g6, 1, none⟩ = some (.int .u64 (wd top 1 : Int)) ∧ w'.cell? ⟨g6, 2, none⟩ = some (.int .u64 (wd top 2 : Int)) ∧ w'.cell? ⟨g6, 3, none⟩ = some (.int .u64 (wd top 3 : Int))) ∧ (w'.cell? ⟨g3, 0, none⟩ = some (.int .u64 (wd top 0 : Int)) ∧ w'.cell? ⟨g3, 1, none⟩ = some (.int .u64 (wd top 1 : Int)) ∧ w'.cell? ⟨g3, 2, none⟩ = some (.int .u64 (wd top 2 : Int)) ∧ w'.cell? ⟨g3, 3, none⟩ = some (.int .u64 (wd top 3 : Int))) ∧ (w'.cell? ⟨g8, 0, none⟩ = some (.int .u64 (wd 0 0 : Int)) ∧ w'.cell? ⟨g8, 1, none⟩ = some (.int .u64 (wd 0 1 : Int)) ∧ w'.cell? ⟨g8, 2, none⟩ = some (.int .u64 (wd 0 2 : Int)) ∧ w'.cell? ⟨g8, 3, none⟩ = some (.int .u64 (wd 0 3 : Int))) ∧ (w'.cell? ⟨g10, 0, none⟩ = some (.int .u64 (wd 0 0 : Int)) ∧ w'.cell? ⟨g10, 1, none⟩ = some (.int .u64 (wd 0 1 : Int)) ∧ w'.cell? ⟨g10, 2, none⟩ = some (.int .u64 (wd 0 2 : Int)) ∧ w'.cell? ⟨g10, 3, none⟩ = some (.int .u64 (wd 0 3 : Int)))) (exact ⟨Env.cell (by assumption) _ _ (by simp), Env.cell (by assumption) _ _ (by simp), Env.cell (by assumption) _ _ (by simp), Env.cell (by assumption) _ _ (by simp), Env.cell (by assumption) _ _ (by simp)⟩) (first | ((go_at_call 29); (with_reducible refine (alive_at (by assumption)).mono ?_); rintro e wn ⟨rfl, hs⟩) | ((go_at_call 27); (with_reducible refine (all_at (by assumption)).mono ?_); rintro e wn ⟨rfl, hs⟩))
        go_wp2
        go_ret
        exact ⟨rfl, hs.1⟩

end Go.Proofs.Ytmhpeeicclbcmaa

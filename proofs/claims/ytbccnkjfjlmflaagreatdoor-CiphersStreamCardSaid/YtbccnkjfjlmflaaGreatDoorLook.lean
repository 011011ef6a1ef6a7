/-
  The Book's lookByte, walked: each list, and what was put behind it, still bears its mark. Conditions: as growByte leaves them.
-/
import Derived.Test.YtbccnkjfjlmflaaGreatDoorGrow
import Derived.Deep.QuietTactic
import Derived.BigQuiet
namespace Go.Proofs.YtbccnkjfjlmflaaGreatDoor
open Go.RowKit
set_option linter.unusedVariables false

theorem Rd.alloc {w : World} {A : Option Addr} {bs : List UInt8} (h : Rd w A bs) (o : Obj) : Rd (w.alloc o) A bs :=
  h.below ((Below.refl w.heap.size w).alloc (Nat.le_refl _) o) (Nat.le_refl _)

theorem isByte_any (i : Nat) (x ii : Int) (w : World) (hi : i ≤ 1048576) (hii : ii = ((i + 1 : Nat) : Int)) (hx : x = (((mk i).toNat : Nat) : Int)) : Calls Tryz.prog 93 #[.int .u8 x, .int .i64 ii] w fun e w' => e = .returned (.bool true) ∧ w' = w := by
  subst hii
  have HB := hid (p := (((i : Int) + 1) % 256) = x) (by rw [hx]; simp only [mk, UInt8.toNat_ofNat']; omega)
  clear hx
  go_enter Tryz.func93, Tryz.ntmps93
  go_wp2
  go_ret
  refine ⟨?_, rfl⟩
  rw [HB.out]
  simp

/-- the list itself, and its mark -/
theorem it_reads {w : World} {base : Nat} {its : List It} {k : Nat} {it : It} (hk : its[k]? = some it) (h : ∃ E, Held w base its E ∧ Fil its E) : ∃ A c, it.val = .slice A it.len c ∧ Rd w A (List.replicate it.len (mk k)) := by
  obtain ⟨E, h1, h2⟩ := h
  obtain ⟨_ | g, n, c⟩ := it
  · exact ⟨none, 0, rfl, Rd.nil _ _⟩
  · refine ⟨some ⟨g, 0, none⟩, c, rfl, ?_⟩
    have := (h1 k g n c hk).1.rd0.take n
    rw [h2 k g n c hk] at this
    exact this

set_option maxRecDepth 100000 in
set_option maxHeartbeats 3200000 in
theorem look_any (base gb gv cv S0 : Nat) (its : List It) (lg : Nat → Option Addr × Nat × Nat) (w : World) (hp : 0 < its.length) (hm : its.length ≤ 1048576)
    (hk : Bk w base gb its.length (.slice (some ⟨gv, 0, none⟩) its.length cv) (flat its lg)) (hh : ∃ E, Held w base its E ∧ Fil its E) (hl : Longs w S0 its lg its.length) :
    Calls Tryz.prog 51 #[.pointer (some ⟨gb, 0, none⟩)] w fun e w' => e = .returned (.bool true) ∧ Below w.heap.size w w' := by
  obtain ⟨m, hmm⟩ : ∃ m, its.length = m := ⟨_, rfl⟩
  have HK := hid hk
  have HH := hid hh
  have HL := hid hl
  rw [hmm] at hp hm HK HL
  have HM := hid hmm
  clear hmm hk hh hl
  go_enter Tryz.func51, Tryz.ntmps51
  go_wp2
  go_loopw [3] (fun i wr => ∃ k : Nat, k ≤ m ∧ i = .int .i64 k ∧ Hid (Below w.heap.size w wr)) (fun i _ => m - (intOf i).toNat)
  case atStart => exact ⟨0, Nat.zero_le _, rfl, Below.refl _ _⟩
  case round =>
    obtain ⟨k, hkm, rfl, HB⟩ := hrel
    have HKr := hid (HK.out.below HB.out)
    have c1 : wr.cell? ⟨gb, 1, none⟩ = some (.slice (some ⟨gv, 0, none⟩) m cv) := HKr.out.cell 1 _ rfl
    by_cases hlt : k < m
    · obtain ⟨gv', cv', hV, hbv, hgv, hcell⟩ := HKr.out.form hp
      have hVe : gv' = gv := by injection hV with h1 h2 h3; injection h1 with h1; injection h1 with h1; exact h1.symm
      rw [hVe] at hcell hgv hbv
      clear hV hVe
      obtain ⟨t0, t1, t2⟩ := flat_get its lg k (by rw [HM.out]; exact hlt)
      have v0 := (hcell (k * 3) (by omega)).trans t0
      have v1 := (hcell (k * 3 + 1) (by omega)).trans t1
      have v2 := (hcell (k * 3 + 2) (by omega)).trans t2
      clear hcell t0 t1 t2
      obtain ⟨it, hit⟩ : ∃ it, its[k]? = some it := ⟨_, List.getElem?_eq_getElem (by rw [HM.out]; exact hlt)⟩
      have hget : its.getD k ⟨none, 0, 0⟩ = it := by simp [List.getD, hit]
      rw [hget] at v0
      have hlen : it.len ≤ 70368744177664 := by
        obtain ⟨E, h1, _⟩ := HH.out
        exact h1.lenOf hit
      obtain ⟨A0, c0, hval, hr0⟩ := it_reads hit HH.out
      rw [hval] at v0
      obtain ⟨b, hb1, hb2, hb3, hb4, hb5⟩ := HL.out k it hlt hit
      rw [hb1, hb2] at v1
      generalize (lg k).2.2 = cb at *
      generalize it.len = n at *
      have R0 := hid (hr0.below HB.out (Nat.le_refl _))
      have R1 := hid (hb5.below HB.out (Nat.le_refl _))
      clear hit hget hval hr0 hb1 hb2 hb4 hb5
      have hne : (((n : Int) + 40) != (n : Int) + 40) = false := by simp
      go_wp2
      clear v0 v1 v2 c1 hne
      have HX1 := hid (heap_alloc_new wr (.cells #[.slice A0 n c0, .slice (some ⟨b, 0, none⟩) (n + 40) cb, .int .i64 ((k : Int) + 1)] 67))
      have HB1 := hid (HB.out.alloc HB.out.size (.cells #[.slice A0 n c0, .slice (some ⟨b, 0, none⟩) (n + 40) cb, .int .i64 ((k : Int) + 1)] 67))
      have R0' := hid (R0.out.alloc (.cells #[.slice A0 n c0, .slice (some ⟨b, 0, none⟩) (n + 40) cb, .int .i64 ((k : Int) + 1)] 67))
      have R1' := hid (R1.out.alloc (.cells #[.slice A0 n c0, .slice (some ⟨b, 0, none⟩) (n + 40) cb, .int .i64 ((k : Int) + 1)] 67))
      generalize wr.alloc (.cells #[.slice A0 n c0, .slice (some ⟨b, 0, none⟩) (n + 40) cb, .int .i64 ((k : Int) + 1)] 67) = w1 at *
      generalize wr.heap.size = gh at *
      clear R0 R1 HB HKr
      go_loopw [5] (fun i wi => ∃ j q : Nat, j ≤ n + 40 ∧ i = .int .i64 j ∧ Hid (wi = w1.drewN q)) (fun i _ => n + 40 - (intOf i).toNat)
      case atStart => exact ⟨0, 0, by omega, rfl, rfl⟩
      case round =>
        obtain ⟨j, q, hj, rfl, HW⟩ := hrel
        have hbx : wr.heap[gh]? = some (.cells #[.slice A0 n c0, .slice (some ⟨b, 0, none⟩) (n + 40) cb, .int .i64 ((k : Int) + 1)] 67 (0, 0)) := by rw [HW.out]; exact HX1.out
        have b0 : wr.cell? ⟨gh, 0, none⟩ = some (.slice A0 n c0) := by rw [cell_of_row _ _ _ _ 67 (0, 0) hbx]; rfl
        have b1 : wr.cell? ⟨gh, 1, none⟩ = some (.slice (some ⟨b, 0, none⟩) (n + 40) cb) := by rw [cell_of_row _ _ _ _ 67 (0, 0) hbx]; rfl
        have b2 : wr.cell? ⟨gh, 2, none⟩ = some (.int .i64 ((k : Int) + 1)) := by rw [cell_of_row _ _ _ _ 67 (0, 0) hbx]; rfl
        clear hbx
        by_cases hjlt : j < n + 40
        · have x1 : wr.cell? ⟨b, j, none⟩ = some (.int .u8 (((mk k).toNat : Nat) : Int)) := by
            rw [HW.out]
            obtain ⟨g1, o1, he, hg1, hc1⟩ := R1'.out (by simp)
            have e : g1 = b ∧ o1 = 0 := by injection he with he; injection he with h1 h2; exact ⟨h1.symm, h2.symm⟩
            obtain ⟨rfl, rfl⟩ := e
            have := hc1 j (by simpa using hjlt)
            rw [Nat.zero_add, List.getElem_replicate] at this
            exact this
          have i1 : (j : Int) < (n : Int) + 40 := by omega
          have i0 : (0 : Int) ≤ (j : Int) := by omega
          by_cases hjn : j < n
          · obtain ⟨g0, o0, rfl, hg0, hcc0⟩ := R0'.out (by simpa using (by omega : 0 < n))
            have x0 : wr.cell? ⟨g0, o0 + j, none⟩ = some (.int .u8 (((mk k).toNat : Nat) : Int)) := by
              rw [HW.out]
              have := hcc0 j (by simpa using hjn)
              rw [List.getElem_replicate] at this
              exact this
            clear hcc0
            have dj : decide ((j : Int) < (n : Int)) = true := by simp; omega
            have i2 : (j : Int) < (n : Int) := by omega
            go_wp2_with fail
            go_quiet ((go_at_call 93; exact Calls.quiet_of_same (isByte_any k _ _ _ (by omega) (by omega) rfl)))
            go_wp2
            go_roundw
            case rel => exact ⟨j + 1, q + nq, by omega, by go_num, by rw [HW.out]; exact hid (World.drewN_drewN ..)⟩
            case measure => simp [intOf]; omega
          · have dj : decide ((j : Int) < (n : Int)) = false := by simp; omega
            go_wp2_with fail
            go_quiet ((go_at_call 93; exact Calls.quiet_of_same (isByte_any k _ _ _ (by omega) (by omega) rfl)))
            go_wp2
            go_roundw
            case rel => exact ⟨j + 1, q + nq, by omega, by go_num, by rw [HW.out]; exact hid (World.drewN_drewN ..)⟩
            case measure => simp [intOf]; omega
        · obtain rfl : j = n + 40 := by omega
          go_wp2
          go_roundw
          case rel => exact ⟨k + 1, by omega, by go_num, by rw [HW.out]; exact hid (below_drewN HB1.out q)⟩
          case measure => simp [intOf]; omega
    · go_wp2
      go_ret
      exact ⟨rfl, HB.out⟩
end Go.Proofs.YtbccnkjfjlmflaaGreatDoor

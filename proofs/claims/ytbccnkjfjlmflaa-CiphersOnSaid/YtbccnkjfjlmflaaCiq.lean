/-
  burrowlaw09.CiphersTwice, walked: it answers true. Condition: the slice is within the form's own reach.
-/
import Derived.Test.YtbccnkjfjlmflaaCip
import Derived.Deep.Strs
namespace Go.Proofs.Ytbccnkjfjlmflaa
open Go.RowKit
set_option linter.unusedVariables false
set_option linter.unusedSimpArgs false

theorem same_at (A B : Option Addr) (c d n m : Nat) (bs : List UInt8) (w : World) (hl : bs.length = n) (hm : bs.length = m) (ha : Rd w A bs) (hb : Rd w B bs) (hn : n ≤ 281474976710656) :
    Calls Try.prog 15 #[.slice A n c, .slice B m d] w fun e w' => e = .returned (.bool true) ∧ ∃ k, w' = w.drewN k := by
  subst hl; subst hm; exact same_true A B c d bs w ha hb hn
theorem bt_rd {w : World} {g t : Nat} {b : List UInt8} (h : Bt w g t b) : Rd w (some ⟨g, 0, none⟩) b := fun hp =>
  ⟨g, 0, rfl, h.lt, fun j hj => by rw [Nat.zero_add]; exact h.cell j hj⟩
/-- the address of a slice's rest -/
def past (A : Option Addr) (k c : Nat) : Option Addr := if c = k then A else A.map (·.add k)
theorem past_zero (A : Option Addr) (c : Nat) : past A 0 c = A := by
  unfold past
  split
  · rfl
  · cases A with
    | none => rfl
    | some a => simp [Addr.add]
theorem slice_head (A : Option Addr) (n c k : Nat) (hk : k ≤ c) (w : World) : (Instr.slice 29 (.slice A n c) none (some (.int .i64 (k : Int))) none).run Try.prog w = .ok (.slice A k c) w := by
  have h5 : Try.prog.elem 29 = 5 := by kernel_rfl
  rw [run_slice_h (P := Try.prog) w 29 A n c (by rw [h5]; exact Try.underlying29) .i64 (k : Int) (by omega) (by omega)]
  have hs : (sizeOf 5).run Try.prog w = .ok 1 w := by kernel_rfl
  rw [h5, hs]
  simp only [Result.andThen, sliced, Int.toNat_natCast, Nat.zero_mul, Nat.sub_zero]
  have := past_zero A c
  unfold past at this
  rw [this]
theorem slice_rest (A : Option Addr) (n c k : Nat) (hk : k ≤ n) (w : World) : (Instr.slice 29 (.slice A n c) (some (.int .i64 (k : Int))) none none).run Try.prog w = .ok (.slice (past A k c) (n - k) (c - k)) w := by
  have h5 : Try.prog.elem 29 = 5 := by kernel_rfl
  rw [run_slice_l (P := Try.prog) w 29 A n c (by rw [h5]; exact Try.underlying29) .i64 (k : Int) (by omega) (by omega)]
  have hs : (sizeOf 5).run Try.prog w = .ok 1 w := by kernel_rfl
  rw [h5, hs]
  simp only [Result.andThen, sliced, Int.toNat_natCast, past, Nat.mul_one]
/-- one more box, made by a call -/
theorem Bx.take {w w' w2 : World} {l : List (Nat × TypeId × List UInt8)} (h : Bx w l w') {g : Nat} {t : TypeId} {b : List UInt8} (hb : Below w'.heap.size w' w2) (hg : w'.heap.size ≤ g) (hbt : Bt w2 g t b) : Bx w ((g, t, b) :: l) w2 := by
  have h2 := h.on hb
  refine ⟨h2.below, List.Pairwise.cons (fun y hy => ?_) h.sep, fun x hx => ?_⟩
  · have := (h.all y hy).2.lt
    show g ≠ y.1
    omega
  · rcases List.mem_cons.1 hx with rfl | hx
    · exact ⟨Nat.le_trans h.below.size hg, hbt⟩
    · exact h2.all x hx
set_option maxRecDepth 100000 in
set_option maxHeartbeats 4000000 in
theorem twice_law (key first : List UInt8) (A : Option Addr) (c : Nat) (b : List UInt8) (n at_ : Nat) (w : World) (hk : key.length = 16) (hf : first.length = 16) (hn : b.length = n) (hr : Rd w A b) (hc : n ≤ c) (hat : at_ < 65536) :
    Calls Try.prog 5 #[.agg (bvs key).toArray, .agg (bvs first).toArray, .agg #[.slice A n c, .int .u16 (at_ : Int)]] w fun e w' => e = .returned (.bool true) ∧ Below w.heap.size w w' := by
  have HK := hid hk
  have HF := hid hf
  have HN := hid hn
  have HC := hid hc
  have HAT := hid hat
  have HW0 := hid (((bx2 w 22 22 key first).below).alloc (by rw [al_size, al_size]; omega) (.cells #[.slice A n c, .int .u16 (at_ : Int)] 32))
  have FK := hid ((bx2 w 22 22 key first).bt 1 rfl |>.alloc (.cells #[.slice A n c, .int .u16 (at_ : Int)] 32))
  have FF := hid ((bx2 w 22 22 key first).bt 0 rfl |>.alloc (.cells #[.slice A n c, .int .u16 (at_ : Int)] 32))
  have FC := hid (heap_alloc_new ((w.alloc (.cells (bvs key).toArray 22)).alloc (.cells (bvs first).toArray 22)) (.cells #[.slice A n c, .int .u16 (at_ : Int)] 32))
  rw [al_size, al_size] at FC
  have HR := hid (hr.below HW0.out (Nat.le_refl _))
  clear hk hf hn hr hc hat
  go_enter Try.func5, Try.ntmps5
  go_upto_region 1 with fail
  generalize ((w.alloc (.cells (bvs key).toArray 22)).alloc (.cells (bvs first).toArray 22)).alloc (.cells #[.slice A n c, .int .u16 (at_ : Int)] 32) = W at *
  have CS := hid (p := W.cell? ⟨w.heap.size + 1 + 1, 0, none⟩ = some (.slice A n c)) (by rw [cell_of_row W _ 0 _ 32 (0, 0) FC.out]; rfl)
  have CA := hid (p := W.cell? ⟨w.heap.size + 1 + 1, 1, none⟩ = some (.int .u16 (at_ : Int))) (by rw [cell_of_row W _ 1 _ 32 (0, 0) FC.out]; rfl)
  have GL := hid (lt_of_block FC.out)
  have hcs := CS.out
  by_cases hbig : (3000 : Int) < (n : Int)
  · go_wp2_with fail
    clear hcs
    refine (lives_any W).mono ?_
    rintro e w1 ⟨rfl, hb1⟩
    have HE := hid (HW0.out.trans (hb1.mono HW0.out.size))
    clear hb1
    go_wp2
    go_ret
    exact ⟨rfl, HE.out⟩
  · have HN3 := hid (show n ≤ 3000 by omega)
    have hk := ld_all FK.out 22 _ Try.underlying22 rfl 16 HK.out row16
    have hf := ld_all FF.out 22 _ Try.underlying22 rfl 16 HF.out row16
    go_wp2_with (first | ((with_reducible refine isD 14 rfl ?_); refine wp_ld (by kernel_rfl) 22 (.tmp 3) rfl _ rfl _ hk ?_) | ((with_reducible refine isD 15 rfl ?_); refine wp_ld (by kernel_rfl) 22 (.tmp 4) rfl _ rfl _ hf ?_))
    clear hcs hbig hk hf
    refine (stream_any key first A c b n W HK.out HF.out HN.out HR.out (by have := HN3.out; omega)).mono ?_
    rintro e w1 ⟨gx, rfl, hs⟩
    have BJ := hid ((Bx.nil W).take hs.out.2.2 hs.out.2.1 hs.out.1)
    clear hs
    have SL := hid (p := (strm key first b).length = n) (by rw [strm_length, HN.out])
    go_upto_region 4 with fail
    refine wp_region_noPanic ?_
    refine Goes.region (fun (_ : Array Bool) (u : World) => Bx W [(gx, 5, strm key first b)] u) (by as_aux_lemma => kernel_rfl) ?_
    have BJ := hid (BJ.out.drew)
    refine Goes.take (i := 0) (o := ⟨some 19, _, _, _, _, _⟩) (v := ?_) [] rfl (by as_aux_lemma => kernel_rfl) (by as_aux_lemma => kernel_rfl) (by as_aux_lemma => kernel_rfl) (fun _ _ _ h => h) (by as_aux_lemma => kernel_rfl) (fun L u h => h) (Or.inl ⟨by rfl, ?_⟩) BJ.out ?_
    rotate_left
    · intro u hY; go_simp; try with_reducible rfl
    try simp only [putz]
    refine Goes.take (i := 1) (o := ⟨some 20, _, _, _, _, _⟩) (v := ?_) [] rfl (by as_aux_lemma => kernel_rfl) (by as_aux_lemma => kernel_rfl) (by as_aux_lemma => kernel_rfl) (fun _ _ _ h => h) (by as_aux_lemma => kernel_rfl) (fun L u h => h) (Or.inl ⟨by rfl, ?_⟩) BJ.out ?_
    rotate_left
    · intro u hY; go_simp; try with_reducible rfl
    try simp only [putz]
    refine Goes.take (i := 2) (o := ⟨some 21, _, _, _, _, _⟩) (v := ?_) [] rfl (by as_aux_lemma => kernel_rfl) (by as_aux_lemma => kernel_rfl) (by as_aux_lemma => kernel_rfl) (fun _ _ _ h => h) (by as_aux_lemma => kernel_rfl) (fun L u h => h) (Or.inl ⟨by rfl, ?_⟩) BJ.out ?_
    rotate_left
    · intro u hY; go_simp; try with_reducible rfl
    try simp only [putz]
    refine Goes.take (i := 3) (o := ⟨some 22, _, _, _, _, _⟩) (v := ?_) [] rfl (by as_aux_lemma => kernel_rfl) (by as_aux_lemma => kernel_rfl) (by as_aux_lemma => kernel_rfl) (fun _ _ _ h => h) (by as_aux_lemma => kernel_rfl) (fun L u h => h) (Or.inl ⟨by rfl, ?_⟩) BJ.out ?_
    rotate_left
    · intro u hY; have hX := SPl.yet hY; have hcs := (hX.below.cell (p := ⟨w.heap.size + 1 + 1, 0, none⟩) GL.out).trans CS.out; clear hY hX; go_simp; try with_reducible rfl
    try simp only [putz]
    refine Goes.take (i := 4) (o := ⟨some 23, _, _, _, _, _⟩) (v := ?_) [] rfl (by as_aux_lemma => kernel_rfl) (by as_aux_lemma => kernel_rfl) (by as_aux_lemma => kernel_rfl) (fun _ _ _ h => h) (by as_aux_lemma => kernel_rfl) (fun L u h => h) (Or.inl ⟨by rfl, ?_⟩) BJ.out ?_
    rotate_left
    · intro u hY; go_simp; try with_reducible rfl
    try simp only [putz]
    refine Goes.take (i := 5) (o := ⟨some 24, _, _, _, _, _⟩) (v := ?_) [] rfl (by as_aux_lemma => kernel_rfl) (by as_aux_lemma => kernel_rfl) (by as_aux_lemma => kernel_rfl) (fun _ _ _ h => h) (by as_aux_lemma => kernel_rfl) (fun L u h => h) (Or.inl ⟨by rfl, ?_⟩) BJ.out ?_
    rotate_left
    · intro u hY; go_simp; try with_reducible rfl
    try simp only [putz]
    refine Goes.take (i := 6) (o := ⟨some 25, _, _, _, _, _⟩) (v := ?_) [] rfl (by as_aux_lemma => kernel_rfl) (by as_aux_lemma => kernel_rfl) (by as_aux_lemma => kernel_rfl) (fun _ _ _ h => h) (by as_aux_lemma => kernel_rfl) (fun L u h => h) (Or.inl ⟨by rfl, ?_⟩) BJ.out ?_
    rotate_left
    · intro u hY; go_simp; try with_reducible rfl
    try simp only [putz]
    refine Goes.take (i := 7) (o := ⟨some 26, _, _, _, _, _⟩) [] rfl (by as_aux_lemma => kernel_rfl) (by as_aux_lemma => kernel_rfl) (by as_aux_lemma => kernel_rfl) (fun _ _ _ h => h) (by as_aux_lemma => kernel_rfl) (fun L u h => h) (Or.inl ⟨by rfl, fun u hY => y_ld _ _ rfl _ _ rfl (have hX := SPl.yet hY; ld_all (FK.out.on hX.below) 22 _ Try.underlying22 rfl 16 HK.out row16)⟩) BJ.out ?_
    try simp only [putz]
    refine Goes.take (i := 8) (o := ⟨some 27, _, _, _, _, _⟩) [] rfl (by as_aux_lemma => kernel_rfl) (by as_aux_lemma => kernel_rfl) (by as_aux_lemma => kernel_rfl) (fun _ _ _ h => h) (by as_aux_lemma => kernel_rfl) (fun L u h => h) (Or.inl ⟨by rfl, fun u hY => y_ld _ _ rfl _ _ rfl (have hX := SPl.yet hY; ld_all (FF.out.on hX.below) 22 _ Try.underlying22 rfl 16 HF.out row16)⟩) BJ.out ?_
    try simp only [putz]
    refine Goes.take (i := 9) (o := ⟨some 28, _, _, _, _, _⟩) (v := ?_) [] rfl (by as_aux_lemma => kernel_rfl) (by as_aux_lemma => kernel_rfl) (by as_aux_lemma => kernel_rfl) (fun _ _ _ h => h) (by as_aux_lemma => kernel_rfl) (fun L u h => h) (Or.inl ⟨by rfl, ?_⟩) BJ.out ?_
    rotate_left
    · intro u hY; go_simp; try with_reducible rfl
    try simp only [putz]
    refine Goes.take (i := 11) (o := ⟨some 30, _, _, _, _, _⟩) (v := ?_) [] rfl (by as_aux_lemma => kernel_rfl) (by as_aux_lemma => kernel_rfl) (by as_aux_lemma => kernel_rfl) (fun _ _ _ h => h) (by as_aux_lemma => kernel_rfl) (fun L u h => h) (Or.inl ⟨by rfl, ?_⟩) BJ.out ?_
    rotate_left
    · intro u hY; go_simp; try with_reducible rfl
    try simp only [putz]
    refine Goes.take (i := 12) (o := ⟨some 31, _, _, _, _, _⟩) (v := ?_) [] rfl (by as_aux_lemma => kernel_rfl) (by as_aux_lemma => kernel_rfl) (by as_aux_lemma => kernel_rfl) (fun _ _ _ h => h) (by as_aux_lemma => kernel_rfl) (fun L u h => h) (Or.inl ⟨by rfl, ?_⟩) BJ.out ?_
    rotate_left
    · intro u hY; have hX := SPl.yet hY; have hcs := (hX.below.cell (p := ⟨w.heap.size + 1 + 1, 0, none⟩) GL.out).trans CS.out; clear hY hX; go_simp; try with_reducible rfl
    try simp only [putz]
    refine Goes.one (i := 10) (o := ⟨some 29, _, _, _, _, _⟩) (by as_aux_lemma => kernel_rfl) rfl (fun K hK => ?_)
    rw [if_pos (by kernel_rfl)]
    go_simp
    with_reducible refine (stream_any key first (some ⟨gx, 0, none⟩) n (strm key first b) n _ HK.out HF.out SL.out (bt_rd (BJ.out.bt 0 rfl)) (by have := HN3.out; omega)).mono ?_
    rintro e wa ⟨gy, rfl, hs⟩
    have HY := hid hs.out.1
    have BJ := hid (BJ.out.on hs.out.2.2)
    clear hs
    rw [strm_strm] at HY
    go_wp2_with fail
    refine hK.out _ _ BJ.out ?_
    clear hK K
    try simp only [putz]
    refine Goes.one (i := 13) (o := ⟨some 32, _, _, _, _, _⟩) (by as_aux_lemma => kernel_rfl) rfl (fun K hK => ?_)
    rw [if_pos (by kernel_rfl)]
    go_simp
    with_reducible refine (same_at _ _ _ _ n n b _ HN.out HN.out (bt_rd HY.out) (HR.out.below BJ.out.below (Nat.le_refl _)) (by have := HN3.out; omega)).mono ?_
    rintro e wb ⟨rfl, kk, rfl⟩
    have BJ := hid (BJ.out.drewN kk)
    generalize wa.drewN kk = wb at *
    clear HY
    go_wp2_with fail
    refine hK.out _ _ BJ.out ?_
    clear hK K
    try simp only [putz]
    refine Goes.take (i := 14) (o := ⟨some 33, _, _, _, _, _⟩) (v := ?_) [] rfl (by as_aux_lemma => kernel_rfl) (by as_aux_lemma => kernel_rfl) (by as_aux_lemma => kernel_rfl) (fun _ _ _ h => h) (by as_aux_lemma => kernel_rfl) (fun L u h => h) (Or.inl ⟨by rfl, ?_⟩) BJ.out ?_
    rotate_left
    · intro u hY; go_simp; try with_reducible rfl
    try simp only [putz]
    refine Goes.take (i := 15) (o := ⟨some 34, _, _, _, _, _⟩) (v := ?_) [] rfl (by as_aux_lemma => kernel_rfl) (by as_aux_lemma => kernel_rfl) (by as_aux_lemma => kernel_rfl) (fun _ _ _ h => h) (by as_aux_lemma => kernel_rfl) (fun L u h => h) (Or.inl ⟨by rfl, ?_⟩) BJ.out ?_
    rotate_left
    · intro u hY; go_simp; try with_reducible rfl
    try simp only [putz]
    refine Goes.done (by as_aux_lemma => kernel_rfl) ?_ _
    refine NoPanic.normal ?_
    obtain ⟨m, hm⟩ : ∃ m, m = at_ % (n + 1) := ⟨_, rfl⟩
    have hmi : (at_ : Int) % ((n : Int) + 1) = (m : Int) := by rw [hm, Int.natCast_emod]; rfl
    have hwat : IntKind.i64.wrap (at_ : Int) = (at_ : Int) := by have := HAT.out; rw [IntKind.wrap_i64]; omega
    have hmt : Int.tmod (at_ : Int) ((n : Int) + 1) = (m : Int) := by rw [Int.tmod_eq_emod_of_nonneg (by omega)]; exact hmi
    have hn1 : IntKind.i64.wrap ((n : Int) + 1) = (n : Int) + 1 := by have := HN3.out; rw [IntKind.wrap_i64]; omega
    have hne : ¬ (n : Int) + 1 = 0 := by omega
    have HM := hid (show m ≤ n by rw [hm]; have := Nat.mod_lt at_ (show 0 < n + 1 by omega); omega)
    have hcs := (BJ.out.below.cell (p := ⟨w.heap.size + 1 + 1, 0, none⟩) GL.out).trans CS.out
    have hca := (BJ.out.below.cell (p := ⟨w.heap.size + 1 + 1, 1, none⟩) GL.out).trans CA.out
    clear hm
    go_upto_region 7 with fail
    clear hmi hmt hn1 hne hcs hca hwat
    have BTL := hid (show (b.take m).length = m by rw [List.length_take, HN.out]; have := HM.out; omega)
    have STL := hid (show ((strm key first b).take m).length = m by rw [List.length_take, SL.out]; have := HM.out; omega)
    have hs1 := slice_head A n c m (by have := HM.out; have := HC.out; omega)
    have hs2 := slice_head (some ⟨gx, 0, none⟩) n n m HM.out
    refine wp_region_noPanic ?_
    refine Goes.region (fun (_ : Array Bool) (u : World) => Bx W [(gx, 5, strm key first b)] u) (by as_aux_lemma => kernel_rfl) ?_
    have BJ := hid (BJ.out.drew)
    refine Goes.take (i := 0) (o := ⟨some 43, _, _, _, _, _⟩) [] rfl (by as_aux_lemma => kernel_rfl) (by as_aux_lemma => kernel_rfl) (by as_aux_lemma => kernel_rfl) (fun _ _ _ h => h) (by as_aux_lemma => kernel_rfl) (fun L u h => h) (Or.inl ⟨by rfl, fun u hY => y_ld _ _ rfl _ _ rfl (have hX := SPl.yet hY; ld_all (FK.out.on hX.below) 22 _ Try.underlying22 rfl 16 HK.out row16)⟩) BJ.out ?_
    try simp only [putz]
    refine Goes.take (i := 1) (o := ⟨some 44, _, _, _, _, _⟩) [] rfl (by as_aux_lemma => kernel_rfl) (by as_aux_lemma => kernel_rfl) (by as_aux_lemma => kernel_rfl) (fun _ _ _ h => h) (by as_aux_lemma => kernel_rfl) (fun L u h => h) (Or.inl ⟨by rfl, fun u hY => y_ld _ _ rfl _ _ rfl (have hX := SPl.yet hY; ld_all (FF.out.on hX.below) 22 _ Try.underlying22 rfl 16 HF.out row16)⟩) BJ.out ?_
    try simp only [putz]
    refine Goes.take (i := 2) (o := ⟨some 45, _, _, _, _, _⟩) (v := ?_) [] rfl (by as_aux_lemma => kernel_rfl) (by as_aux_lemma => kernel_rfl) (by as_aux_lemma => kernel_rfl) (fun _ _ _ h => h) (by as_aux_lemma => kernel_rfl) (fun L u h => h) (Or.inl ⟨by rfl, ?_⟩) BJ.out ?_
    rotate_left
    · intro u hY; go_simp; try with_reducible rfl
    try simp only [putz]
    refine Goes.take (i := 3) (o := ⟨some 46, _, _, _, _, _⟩) (v := ?_) [] rfl (by as_aux_lemma => kernel_rfl) (by as_aux_lemma => kernel_rfl) (by as_aux_lemma => kernel_rfl) (fun _ _ _ h => h) (by as_aux_lemma => kernel_rfl) (fun L u h => h) (Or.inl ⟨by rfl, ?_⟩) BJ.out ?_
    rotate_left
    · intro u hY; have hX := SPl.yet hY; have hcs := (hX.below.cell (p := ⟨w.heap.size + 1 + 1, 0, none⟩) GL.out).trans CS.out; clear hY hX; go_simp; try with_reducible rfl
    try simp only [putz]
    refine Goes.take (i := 4) (o := ⟨some 47, _, _, _, _, _⟩) (v := ?_) [] rfl (by as_aux_lemma => kernel_rfl) (by as_aux_lemma => kernel_rfl) (by as_aux_lemma => kernel_rfl) (fun _ _ _ h => h) (by as_aux_lemma => kernel_rfl) (fun L u h => h) (Or.inl ⟨by rfl, ?_⟩) BJ.out ?_
    rotate_left
    · intro u hY; go_simp; try with_reducible rfl
    try simp only [putz]
    refine Goes.take (i := 5) (o := ⟨some 48, _, _, _, _, _⟩) (v := ?_) [] rfl (by as_aux_lemma => kernel_rfl) (by as_aux_lemma => kernel_rfl) (by as_aux_lemma => kernel_rfl) (fun _ _ _ h => h) (by as_aux_lemma => kernel_rfl) (fun L u h => h) (Or.inl ⟨by rfl, ?_⟩) BJ.out ?_
    rotate_left
    · intro u hY; go_simp; try with_reducible rfl
    try simp only [putz]
    refine Goes.take (i := 7) (o := ⟨some 50, _, _, _, _, _⟩) (v := ?_) [] rfl (by as_aux_lemma => kernel_rfl) (by as_aux_lemma => kernel_rfl) (by as_aux_lemma => kernel_rfl) (fun _ _ _ h => h) (by as_aux_lemma => kernel_rfl) (fun L u h => h) (Or.inl ⟨by rfl, ?_⟩) BJ.out ?_
    rotate_left
    · intro u hY; go_simp; try with_reducible rfl
    try simp only [putz]
    refine Goes.take (i := 8) (o := ⟨some 51, _, _, _, _, _⟩) (v := ?_) [] rfl (by as_aux_lemma => kernel_rfl) (by as_aux_lemma => kernel_rfl) (by as_aux_lemma => kernel_rfl) (fun _ _ _ h => h) (by as_aux_lemma => kernel_rfl) (fun L u h => h) (Or.inl ⟨by rfl, ?_⟩) BJ.out ?_
    rotate_left
    · intro u hY; go_simp; try with_reducible rfl
    try simp only [putz]
    refine Goes.take (i := 9) (o := ⟨some 52, _, _, _, _, _⟩) (v := ?_) [] rfl (by as_aux_lemma => kernel_rfl) (by as_aux_lemma => kernel_rfl) (by as_aux_lemma => kernel_rfl) (fun _ _ _ h => h) (by as_aux_lemma => kernel_rfl) (fun L u h => h) (Or.inl ⟨by rfl, ?_⟩) BJ.out ?_
    rotate_left
    · intro u hY; go_simp; try with_reducible rfl
    try simp only [putz]
    refine Goes.one (i := 6) (o := ⟨some 49, _, _, _, _, _⟩) (by as_aux_lemma => kernel_rfl) rfl (fun K hK => ?_)
    go_simp
    with_reducible refine (stream_any key first A c (b.take m) m _ HK.out HF.out BTL.out ((HR.out.below BJ.out.below (Nat.le_refl _)).take m) (by have := HN3.out; have := HM.out; omega)).mono ?_
    rintro e wa ⟨gy, rfl, hs⟩
    have HY := hid hs.out.1
    have BJ := hid (BJ.out.on hs.out.2.2)
    clear hs
    rw [strm_take] at HY
    go_wp2_with fail
    refine hK.out _ _ BJ.out ?_
    clear hK K
    try simp only [putz]
    refine Goes.one (i := 10) (o := ⟨some 53, _, _, _, _, _⟩) (by as_aux_lemma => kernel_rfl) rfl (fun K hK => ?_)
    go_simp
    with_reducible refine (same_at _ _ _ _ m m ((strm key first b).take m) _ STL.out STL.out (bt_rd HY.out) ((bt_rd (BJ.out.bt 0 rfl)).take m) (by have := HN3.out; have := HM.out; omega)).mono ?_
    rintro e wb ⟨rfl, kk, rfl⟩
    have BJ := hid (BJ.out.drewN kk)
    generalize wa.drewN kk = wb at *
    clear HY
    go_wp2_with fail
    refine hK.out _ _ BJ.out ?_
    clear hK K
    try simp only [putz]
    refine Goes.take (i := 11) (o := ⟨some 54, _, _, _, _, _⟩) (v := ?_) [] rfl (by as_aux_lemma => kernel_rfl) (by as_aux_lemma => kernel_rfl) (by as_aux_lemma => kernel_rfl) (fun _ _ _ h => h) (by as_aux_lemma => kernel_rfl) (fun L u h => h) (Or.inl ⟨by rfl, ?_⟩) BJ.out ?_
    rotate_left
    · intro u hY; go_simp; try with_reducible rfl
    try simp only [putz]
    refine Goes.one (i := 12) (o := ⟨some 55, _, _, _, _, _⟩) (by as_aux_lemma => kernel_rfl) rfl (fun K hK => ?_)
    rw [if_pos (by kernel_rfl)]
    go_simp
    with_reducible refine (lives_any _).mono ?_
    rintro e wc ⟨rfl, hba⟩
    have BJ := hid (BJ.out.on hba)
    clear hba
    go_wp2_with fail
    refine hK.out _ _ BJ.out ?_
    clear hK K
    try simp only [putz]
    refine Goes.take (i := 13) (o := ⟨some 56, _, _, _, _, _⟩) (v := ?_) [] rfl (by as_aux_lemma => kernel_rfl) (by as_aux_lemma => kernel_rfl) (by as_aux_lemma => kernel_rfl) (fun _ _ _ h => h) (by as_aux_lemma => kernel_rfl) (fun L u h => h) (Or.inl ⟨by rfl, ?_⟩) BJ.out ?_
    rotate_left
    · intro u hY; go_simp; try with_reducible rfl
    try simp only [putz]
    refine Goes.take (i := 14) (o := ⟨some 6, _, _, _, _, _⟩) (v := ?_) [] rfl (by as_aux_lemma => kernel_rfl) (by as_aux_lemma => kernel_rfl) (by as_aux_lemma => kernel_rfl) (fun _ _ _ h => h) (by as_aux_lemma => kernel_rfl) (fun L u h => h) (Or.inl ⟨by rfl, ?_⟩) BJ.out ?_
    rotate_left
    · intro u hY; go_simp; try with_reducible rfl
    try simp only [putz]
    refine Goes.done (by as_aux_lemma => kernel_rfl) ?_ _
    refine NoPanic.normal ?_
    have HE := hid (HW0.out.trans (BJ.out.below.mono HW0.out.size))
    clear BJ
    go_wp2
    go_ret
    exact ⟨rfl, HE.out⟩
end Go.Proofs.Ytbccnkjfjlmflaa

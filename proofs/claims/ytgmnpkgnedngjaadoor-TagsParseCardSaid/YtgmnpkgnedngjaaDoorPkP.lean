/-
  tags.Text, walked: the text of a tag. Condition: the library's table holds what its text lays.
  tags.Parse, walked: the tag whose text it is, or none. Condition: the library's table holds what its text lays.
  burrowref12.Text, walked: the text of a tag. Conditions: none.
  burrowref12.Parse, walked: the tag whose text it is, or none. Conditions: none.
  tags.Of and burrowref12.Of, walked: the tag of a key. Condition: the library's table holds what its text lays.
  burrowlaw12.lives, walked. Condition: the library's table holds what its text lays.
  TagsOf, walked. Condition: the library's tables hold what their texts lay.
-/
import Derived.Test.YtgmnpkgnedngjaaDoorPkM
import Derived.Test.YtgmnpkgnedngjaaDoorRefAs
import Derived.Test.YtgmnpkgnedngjaaDoorPkN
namespace Go.Proofs.YtgmnpkgnedngjaaDoor
open Go.RowKit
set_option linter.unusedVariables false
set_option linter.unusedSimpArgs false

theorem Bf.alloc {w wr : World} {X : List UInt8} {v : Value} (h : Bf w X v wr) (o : Obj) : Bf w X v (wr.alloc o) := ⟨h.1.alloc h.1.size _, World.ownsRow.alloc h.2 _⟩
theorem Bf.drew {w wr : World} {X : List UInt8} {v : Value} (h : Bf w X v wr) : Bf w X v wr.drew := ⟨h.1.drew, h.2⟩
theorem Bf.put {w wr : World} {X : List UInt8} {A : Option Addr} {m c : Nat} (H : Bf w X (.slice A m c) wr) (ls : List UInt8) (B : Option Addr) (n d : Nat) (hr : Rd wr B ls) (hl : ls.length = n) (hB : B = none → d = 0) (hsz : X.length + n ≤ 140737488355328) :
    ∃ A2 m2 c2 w2, Hid ((Builtin.append_ #[37, 37] 37 #[.slice A m c, .slice B n d]).run Tryd.prog wr = .ok (.slice A2 m2 c2) w2) ∧ Hid (Bf w (X ++ ls) (.slice A2 m2 c2) w2) := by
  obtain ⟨v2, w2, hrun, how, hg, _⟩ := append_bytes wr w.heap.size (.slice A m c) X ls B n d H.2 hr hl hB hsz H.1.size
  obtain ⟨A2, c2, rfl, _, _, _, _⟩ := how.form
  exact ⟨A2, _, c2, w2, hid hrun, hid ⟨H.1.grown hg H.1.size (fun k hk => (World.ownsRow.lt H.2 k hk).1), how⟩⟩
theorem step_app {ops : Array Oper} {o : Oper} {a : Act} {w : World} {K : Act → World → Prop} {Q : Exit → Act → World → Prop} {E : Prop} (hgd : o.guard = none) (s x : Operand)
    (ho : o.op = .call { callee := .builtin .append, args := #[s, x], argTypes := #[37, 37] }) (hty : o.type = 37) (vs vx : Value) (hs : a.eval s = vs) (hx : a.eval x = vx) (v' : Value) (w' : World)
    (hrun : (Builtin.append_ #[37, 37] 37 #[vs, vx]).run Tryd.prog w = .ok v' w') (h : K (a.put o.dst v') w') :
    if Region.wanted o (yielded ops a.tmps) = true then Oper.wp Tryd.prog o a w K Q else E := by
  have hw : Region.wanted o (yielded ops a.tmps) = true := by simp [Region.wanted, hgd]
  rw [if_pos hw]
  unfold Oper.wp
  simp [execOp, ho, hty, resolve, invoke, builtin, hs, hx, hrun, Result.andThen]
  exact h
theorem rd_row {w : World} (bs : List UInt8) : Rd (w.alloc (.cells (bvs bs).toArray 5)) (some ⟨w.heap.size, 0, none⟩) bs := Row.rd0 (heap_alloc_new w _)
theorem tz_len : ∀ (l : List UInt8) (k : Nat), (tz k l).length ≤ 3 * l.length
  | [], _ => by simp [tz]
  | x :: l, k => by
    have := tz_len l (k + 1)
    have h : (pcs k x).length ≤ 3 := by unfold pcs; split <;> simp
    simp only [tz, List.length_append, List.length_cons]
    omega
theorem tz_some (t : List UInt8) (n : Nat) (h : n < t.length) : tz 0 (t.take (n + 1)) = tz 0 (t.take n) ++ pcs n (gb t n) := by rw [tz_take t n h, gb_lt h]
theorem pcs_two (n : Nat) (h : 0 < n ∧ n % 2 = 0) (x : UInt8) (p q : Nat) (hp : x.toNat / 16 = p) (hq : x.toNat % 16 = q) (X : List UInt8) : (X ++ [58]) ++ [hx p, hx q] = X ++ pcs n x := by subst hp; subst hq; simp [pcs, h]
theorem pcs_one (n : Nat) (h : ¬ (0 < n ∧ n % 2 = 0)) (x : UInt8) (p q : Nat) (hp : x.toNat / 16 = p) (hq : x.toNat % 16 = q) (X : List UInt8) : X ++ [hx p, hx q] = X ++ pcs n x := by subst hp; subst hq; unfold pcs; rw [if_neg h]; rfl
theorem str_own (w : World) (A : Option Addr) (n c : Nat) (bs : List UInt8) (hr : Rd w A bs) (hn : bs.length = n) : (convert 37 9 (.slice A n c)).run Tryd.prog w = .ok (sv bs) w := by
  subst hn
  rcases A with _ | ad
  · have hb : bs = [] := by
      rcases Nat.eq_zero_or_pos bs.length with h | h
      · exact List.eq_nil_of_length_eq_zero h
      · obtain ⟨_, _, e, _⟩ := hr h; cases e
    subst hb
    rw [run_convert_bytes_string w 37 9 5 none _ c Tryd.underlying37 Tryd.underlying5 Tryd.underlying9]
    rfl
  · refine run_convert_bytes_back w 37 9 5 ad c bs Tryd.underlying37 Tryd.underlying5 Tryd.underlying9 (fun j hj => ?_)
    obtain ⟨g, o, e, _, h⟩ := hr (by omega)
    injection e with e
    subst e
    rw [add_plain, h j hj]
set_option maxRecDepth 100000 in
set_option maxHeartbeats 4000000 in
theorem text_ok (t : List UInt8) (w : World) (ht : t.length = 16) (hd : Dg w) :
    Calls Tryd.prog 14 #[.agg (bvs t).toArray] w fun e w' => e = .returned (sv (txt t)) ∧ Below w.heap.size w w' := by
  obtain ⟨HB1, HX, HS⟩ := box1 w 26 t
  have HT := hid ht
  have HD := hid hd
  have hld := ld_tag HX.out ht
  have H0 := hid (p := Bf w (tz 0 (t.take 0)) (.slice none 0 0) (w.alloc (.cells (bvs t).toArray 26))) ⟨HB1.out, Ow.nil _ _⟩
  clear ht hd HS HX
  go_enter Tryd.func14, Tryd.ntmps14
  go_wp2_with (refine wp_ld rfl _ _ rfl _ rfl _ hld ?_)
  generalize w.alloc (.cells (bvs t).toArray 26) = w1 at *
  clear hld HB1
  go_loopw [3, 7] (fun v i wr => ∃ (n : Nat) (A : Option Addr) (m c : Nat), n ≤ 16 ∧ i = .int .i64 n ∧ v = .slice A m c ∧ Hid (Bf w (tz 0 (t.take n)) (.slice A m c) wr)) (fun _ i _ => 16 - (intOf i).toNat)
  case atStart => exact ⟨0, none, 0, 0, by decide, rfl, rfl, H0⟩
  case round =>
    clear H0
    obtain ⟨n, A, m, c, hn, rfl, rfl, HF⟩ := hrel
    by_cases hlt : n < 16
    · have HLT := hid hlt
      have hix := idx_tag t HT.out n hlt
      have HTZ := hid (tz_some t n (by have := HT.out; omega))
      have HL := hid (show (tz 0 (t.take n)).length ≤ 48 by have := tz_len (t.take n) 0; simp at this ⊢; omega)
      generalize tz 0 (t.take n) = X at *
      generalize gb t n = x at *
      obtain ⟨p, hp⟩ : ∃ p, x.toNat / 16 = p := ⟨_, rfl⟩
      obtain ⟨q, hq⟩ : ∃ q, x.toNat % 16 = q := ⟨_, rfl⟩
      have hxl := x.toNat_lt
      have HP := hid (show p < 16 by omega)
      have HQ := hid (show q < 16 by omega)
      have HPI := hid (show (p : Int) < 16 by omega)
      have HQI := hid (show (q : Int) < 16 by omega)
      have HPE := hid hp
      have HQE := hid hq
      have d1 : iv x / 16 = (p : Int) := by unfold iv; omega
      have d2 : iv x % 16 = (q : Int) := by unfold iv; omega
      have xg := iv_ge x
      have t1 : Int.tdiv (iv x) 16 = (p : Int) := by rw [Int.tdiv_eq_ediv_of_nonneg xg]; exact d1
      have t2 : Int.tmod (iv x) 16 = (q : Int) := by rw [Int.tmod_eq_emod_of_nonneg xg]; exact d2
      have w1 : IntKind.u8.wrap (p : Int) = (p : Int) := by rw [IntKind.wrap_u8]; omega
      have w2 : IntKind.u8.wrap (q : Int) = (q : Int) := by rw [IntKind.wrap_u8]; omega
      have m1 : (p : Int) % 256 = (p : Int) := by omega
      have m2 : (q : Int) % 256 = (q : Int) := by omega
      have HD1 := hid (And.intro d1 (And.intro t1 (And.intro w1 m1)))
      have HD2 := hid (And.intro d2 (And.intro t2 (And.intro w2 m2)))
      clear d1 d2 xg t1 t2 w1 w2 m1 m2 hp hq hxl
      by_cases he : 0 < n ∧ n % 2 = 0
      · have HE := hid he
        have g1 : (0 : Int) < (n : Int) := by omega
        have r1 : (n : Int) % 2 = 0 := by omega
        have r2 : Int.tmod (n : Int) 2 = 0 := by rw [Int.tmod_eq_emod_of_nonneg (by omega)]; exact r1
        clear he hn
        go_upto_region 6 with fail
        clear g1 r1 r2 hix hlt
        have hr := rd_row (w := wr) [58]
        have HF2 := hid (HF.out.alloc (.cells #[.int .u8 58] 5))
        obtain ⟨A2, mm, c2, w2, hrun, HG2⟩ := HF2.out.put [58] (some ⟨wr.heap.size, 0, none⟩) 1 1 hr rfl (fun h => by cases h) (by have := HL.out; simp; omega)
        clear hr HF2 HF
        go_upto_region 7 with (at_builtin; refine step_append rfl (.tmp 18) (.tmp 19) rfl rfl _ _ rfl rfl _ w2 hrun.out ?_)
        clear hrun
        have HF := HG2
        clear HG2
        have HL := hid (show (X ++ [58]).length ≤ 49 by have := HL.out; simp; omega)
        refine wp_region_noPanic ?_
        refine Goes.region (fun (_ : Array Bool) (u : World) => Below w.heap.size w u) (by as_aux_lemma => kernel_rfl) ?_
        have HB := hid HF.out.1.drew
        have HF := hid HF.out.drew
        generalize w2.drew = w2d at *
        refine Goes.tk (i := 0) (o := ⟨some 21, _, _, _, _, _⟩) (v := ?_) [] (y := Or.inl ⟨by rfl, ?_⟩) (s := HB.out) (H := ?_)
        rotate_left
        · intro u hY; go_simp; try with_reducible rfl
        try simp only [putz]
        refine Goes.tk (i := 1) (o := ⟨some 22, _, _, _, _, _⟩) (v := ?_) [] (y := Or.inl ⟨by rfl, ?_⟩) (s := HB.out) (H := ?_)
        rotate_left
        · intro u hY; go_simp; try with_reducible rfl
        try simp only [putz]
        refine Goes.tk (i := 2) (o := ⟨some 23, _, _, _, _, _⟩) (v := ?_) [] (y := Or.inl ⟨by rfl, ?_⟩) (s := HB.out) (H := ?_)
        rotate_left
        · intro u hY; have d1 := HD1.out; go_simp; try with_reducible rfl
        try simp only [putz]
        refine Goes.tk (i := 3) (o := ⟨some 24, _, _, _, _, _⟩) (v := ?_) [] (y := Or.inl ⟨by rfl, ?_⟩) (s := HB.out) (H := ?_)
        rotate_left
        · intro u hY; have p1 := HPI.out; go_simp; try with_reducible rfl
        try simp only [putz]
        refine Goes.tk (i := 4) (o := ⟨some 25, _, _, _, _, _⟩) (v := ?_) [] (y := Or.inl ⟨by rfl, ?_⟩) (s := HB.out) (H := ?_)
        rotate_left
        · intro u hY; have hc := (HD.out.on (yet_of hY)) p HP.out; go_simp; try with_reducible rfl
        try simp only [putz]
        refine Goes.tk (i := 5) (o := ⟨some 26, _, _, _, _, _⟩) (v := ?_) [] (y := Or.inl ⟨by rfl, ?_⟩) (s := HB.out) (H := ?_)
        rotate_left
        · intro u hY; go_simp; try with_reducible rfl
        try simp only [putz]
        refine Goes.tk (i := 6) (o := ⟨some 27, _, _, _, _, _⟩) (v := ?_) [] (y := Or.inl ⟨by rfl, ?_⟩) (s := HB.out) (H := ?_)
        rotate_left
        · intro u hY; have d2 := HD2.out; go_simp; try with_reducible rfl
        try simp only [putz]
        refine Goes.tk (i := 7) (o := ⟨some 28, _, _, _, _, _⟩) (v := ?_) [] (y := Or.inl ⟨by rfl, ?_⟩) (s := HB.out) (H := ?_)
        rotate_left
        · intro u hY; have p2 := HQI.out; go_simp; try with_reducible rfl
        try simp only [putz]
        refine Goes.tk (i := 8) (o := ⟨some 29, _, _, _, _, _⟩) (v := ?_) [] (y := Or.inl ⟨by rfl, ?_⟩) (s := HB.out) (H := ?_)
        rotate_left
        · intro u hY; have hc := (HD.out.on (yet_of hY)) q HQ.out; go_simp; try with_reducible rfl
        try simp only [putz]
        refine Goes.one (i := 9) (o := ⟨some 30, _, _, _, _, _⟩) (by as_aux_lemma => kernel_rfl) rfl (fun K hK => ?_)
        go_simp
        have HF := hid (HF.out.alloc (.cells #[bv (hx p), bv (hx q)] 5))
        have HB := hid HF.out.1
        have hr := rd_row (w := w2d) [hx p, hx q]
        obtain ⟨A3, m3, c3, w3, hrun, HG⟩ := HF.out.put [hx p, hx q] (some ⟨w2d.heap.size, 0, none⟩) 2 2 hr rfl (fun h => by cases h) (by have := HL.out; omega)
        refine hK.out _ _ HB.out ?_
        clear hK K hr
        try simp only [putz]
        generalize w2d.alloc (.cells #[bv (hx p), bv (hx q)] 5) = we at *
        generalize w2d.heap.size = ge at *
        refine Goes.one (i := 10) (o := ⟨some 31, _, _, _, _, _⟩) (by as_aux_lemma => kernel_rfl) rfl (fun K hK => ?_)
        refine step_app rfl (.tmp 21) (.tmp 30) rfl rfl _ _ rfl rfl _ w3 hrun.out ?_
        refine hK.out _ _ HG.out.1 ?_
        clear hK K hrun HF HB
        have HB := hid HG.out.1
        try simp only [putz]
        refine Goes.tk (i := 11) (o := ⟨some 3, _, _, _, _, _⟩) (v := ?_) [] (y := Or.inl ⟨by rfl, ?_⟩) (s := HB.out) (H := ?_)
        rotate_left
        · intro u hY; go_simp; try with_reducible rfl
        try simp only [putz]
        refine Goes.done (by as_aux_lemma => kernel_rfl) ?_ _
        refine NoPanic.normal ?_
        go_wp2
        go_roundw
        case rel => exact ⟨n + 1, A3, m3, c3, HLT.out, by go_num, rfl, by rw [HTZ.out]; have h := HG.out; rw [pcs_two n HE.out x p q HPE.out HQE.out] at h; exact hid h⟩
        case measure => have := HLT.out; simp [intOf]; omega
      · have HE := hid he
        by_cases h0 : n = 0
        · have g1 : ¬ (0 : Int) < (n : Int) := by omega
          clear he hn h0
          go_upto_region 7 with fail
          clear g1 hix hlt
          refine wp_region_noPanic ?_
          refine Goes.region (fun (_ : Array Bool) (u : World) => Below w.heap.size w u) (by as_aux_lemma => kernel_rfl) ?_
          have HB := hid HF.out.1.drew
          have HF := hid HF.out.drew
          generalize wr.drew = wrd at *
          refine Goes.tk (i := 0) (o := ⟨some 21, _, _, _, _, _⟩) (v := ?_) [] (y := Or.inl ⟨by rfl, ?_⟩) (s := HB.out) (H := ?_)
          rotate_left
          · intro u hY; go_simp; try with_reducible rfl
          try simp only [putz]
          refine Goes.tk (i := 1) (o := ⟨some 22, _, _, _, _, _⟩) (v := ?_) [] (y := Or.inl ⟨by rfl, ?_⟩) (s := HB.out) (H := ?_)
          rotate_left
          · intro u hY; go_simp; try with_reducible rfl
          try simp only [putz]
          refine Goes.tk (i := 2) (o := ⟨some 23, _, _, _, _, _⟩) (v := ?_) [] (y := Or.inl ⟨by rfl, ?_⟩) (s := HB.out) (H := ?_)
          rotate_left
          · intro u hY; have d1 := HD1.out; go_simp; try with_reducible rfl
          try simp only [putz]
          refine Goes.tk (i := 3) (o := ⟨some 24, _, _, _, _, _⟩) (v := ?_) [] (y := Or.inl ⟨by rfl, ?_⟩) (s := HB.out) (H := ?_)
          rotate_left
          · intro u hY; have p1 := HPI.out; go_simp; try with_reducible rfl
          try simp only [putz]
          refine Goes.tk (i := 4) (o := ⟨some 25, _, _, _, _, _⟩) (v := ?_) [] (y := Or.inl ⟨by rfl, ?_⟩) (s := HB.out) (H := ?_)
          rotate_left
          · intro u hY; have hc := (HD.out.on (yet_of hY)) p HP.out; go_simp; try with_reducible rfl
          try simp only [putz]
          refine Goes.tk (i := 5) (o := ⟨some 26, _, _, _, _, _⟩) (v := ?_) [] (y := Or.inl ⟨by rfl, ?_⟩) (s := HB.out) (H := ?_)
          rotate_left
          · intro u hY; go_simp; try with_reducible rfl
          try simp only [putz]
          refine Goes.tk (i := 6) (o := ⟨some 27, _, _, _, _, _⟩) (v := ?_) [] (y := Or.inl ⟨by rfl, ?_⟩) (s := HB.out) (H := ?_)
          rotate_left
          · intro u hY; have d2 := HD2.out; go_simp; try with_reducible rfl
          try simp only [putz]
          refine Goes.tk (i := 7) (o := ⟨some 28, _, _, _, _, _⟩) (v := ?_) [] (y := Or.inl ⟨by rfl, ?_⟩) (s := HB.out) (H := ?_)
          rotate_left
          · intro u hY; have p2 := HQI.out; go_simp; try with_reducible rfl
          try simp only [putz]
          refine Goes.tk (i := 8) (o := ⟨some 29, _, _, _, _, _⟩) (v := ?_) [] (y := Or.inl ⟨by rfl, ?_⟩) (s := HB.out) (H := ?_)
          rotate_left
          · intro u hY; have hc := (HD.out.on (yet_of hY)) q HQ.out; go_simp; try with_reducible rfl
          try simp only [putz]
          refine Goes.one (i := 9) (o := ⟨some 30, _, _, _, _, _⟩) (by as_aux_lemma => kernel_rfl) rfl (fun K hK => ?_)
          go_simp
          have HF := hid (HF.out.alloc (.cells #[bv (hx p), bv (hx q)] 5))
          have HB := hid HF.out.1
          have hr := rd_row (w := wrd) [hx p, hx q]
          obtain ⟨A3, m3, c3, w3, hrun, HG⟩ := HF.out.put [hx p, hx q] (some ⟨wrd.heap.size, 0, none⟩) 2 2 hr rfl (fun h => by cases h) (by have := HL.out; omega)
          refine hK.out _ _ HB.out ?_
          clear hK K hr
          try simp only [putz]
          generalize wrd.alloc (.cells #[bv (hx p), bv (hx q)] 5) = we at *
          generalize wrd.heap.size = ge at *
          refine Goes.one (i := 10) (o := ⟨some 31, _, _, _, _, _⟩) (by as_aux_lemma => kernel_rfl) rfl (fun K hK => ?_)
          refine step_app rfl (.tmp 21) (.tmp 30) rfl rfl _ _ rfl rfl _ w3 hrun.out ?_
          refine hK.out _ _ HG.out.1 ?_
          clear hK K hrun HF HB
          have HB := hid HG.out.1
          try simp only [putz]
          refine Goes.tk (i := 11) (o := ⟨some 3, _, _, _, _, _⟩) (v := ?_) [] (y := Or.inl ⟨by rfl, ?_⟩) (s := HB.out) (H := ?_)
          rotate_left
          · intro u hY; go_simp; try with_reducible rfl
          try simp only [putz]
          refine Goes.done (by as_aux_lemma => kernel_rfl) ?_ _
          refine NoPanic.normal ?_
          go_wp2
          go_roundw
          case rel => exact ⟨n + 1, A3, m3, c3, HLT.out, by go_num, rfl, by rw [HTZ.out]; have h := HG.out; rw [pcs_one n HE.out x p q HPE.out HQE.out] at h; exact hid h⟩
          case measure => have := HLT.out; simp [intOf]; omega
        · have g1 : (0 : Int) < (n : Int) := by omega
          have r1 : (n : Int) % 2 = 1 := by omega
          have r2 : Int.tmod (n : Int) 2 = 1 := by rw [Int.tmod_eq_emod_of_nonneg (by omega)]; exact r1
          clear he hn h0
          go_upto_region 7 with fail
          clear g1 r1 r2 hix hlt
          refine wp_region_noPanic ?_
          refine Goes.region (fun (_ : Array Bool) (u : World) => Below w.heap.size w u) (by as_aux_lemma => kernel_rfl) ?_
          have HB := hid HF.out.1.drew
          have HF := hid HF.out.drew
          generalize wr.drew = wrd at *
          refine Goes.tk (i := 0) (o := ⟨some 21, _, _, _, _, _⟩) (v := ?_) [] (y := Or.inl ⟨by rfl, ?_⟩) (s := HB.out) (H := ?_)
          rotate_left
          · intro u hY; go_simp; try with_reducible rfl
          try simp only [putz]
          refine Goes.tk (i := 1) (o := ⟨some 22, _, _, _, _, _⟩) (v := ?_) [] (y := Or.inl ⟨by rfl, ?_⟩) (s := HB.out) (H := ?_)
          rotate_left
          · intro u hY; go_simp; try with_reducible rfl
          try simp only [putz]
          refine Goes.tk (i := 2) (o := ⟨some 23, _, _, _, _, _⟩) (v := ?_) [] (y := Or.inl ⟨by rfl, ?_⟩) (s := HB.out) (H := ?_)
          rotate_left
          · intro u hY; have d1 := HD1.out; go_simp; try with_reducible rfl
          try simp only [putz]
          refine Goes.tk (i := 3) (o := ⟨some 24, _, _, _, _, _⟩) (v := ?_) [] (y := Or.inl ⟨by rfl, ?_⟩) (s := HB.out) (H := ?_)
          rotate_left
          · intro u hY; have p1 := HPI.out; go_simp; try with_reducible rfl
          try simp only [putz]
          refine Goes.tk (i := 4) (o := ⟨some 25, _, _, _, _, _⟩) (v := ?_) [] (y := Or.inl ⟨by rfl, ?_⟩) (s := HB.out) (H := ?_)
          rotate_left
          · intro u hY; have hc := (HD.out.on (yet_of hY)) p HP.out; go_simp; try with_reducible rfl
          try simp only [putz]
          refine Goes.tk (i := 5) (o := ⟨some 26, _, _, _, _, _⟩) (v := ?_) [] (y := Or.inl ⟨by rfl, ?_⟩) (s := HB.out) (H := ?_)
          rotate_left
          · intro u hY; go_simp; try with_reducible rfl
          try simp only [putz]
          refine Goes.tk (i := 6) (o := ⟨some 27, _, _, _, _, _⟩) (v := ?_) [] (y := Or.inl ⟨by rfl, ?_⟩) (s := HB.out) (H := ?_)
          rotate_left
          · intro u hY; have d2 := HD2.out; go_simp; try with_reducible rfl
          try simp only [putz]
          refine Goes.tk (i := 7) (o := ⟨some 28, _, _, _, _, _⟩) (v := ?_) [] (y := Or.inl ⟨by rfl, ?_⟩) (s := HB.out) (H := ?_)
          rotate_left
          · intro u hY; have p2 := HQI.out; go_simp; try with_reducible rfl
          try simp only [putz]
          refine Goes.tk (i := 8) (o := ⟨some 29, _, _, _, _, _⟩) (v := ?_) [] (y := Or.inl ⟨by rfl, ?_⟩) (s := HB.out) (H := ?_)
          rotate_left
          · intro u hY; have hc := (HD.out.on (yet_of hY)) q HQ.out; go_simp; try with_reducible rfl
          try simp only [putz]
          refine Goes.one (i := 9) (o := ⟨some 30, _, _, _, _, _⟩) (by as_aux_lemma => kernel_rfl) rfl (fun K hK => ?_)
          go_simp
          have HF := hid (HF.out.alloc (.cells #[bv (hx p), bv (hx q)] 5))
          have HB := hid HF.out.1
          have hr := rd_row (w := wrd) [hx p, hx q]
          obtain ⟨A3, m3, c3, w3, hrun, HG⟩ := HF.out.put [hx p, hx q] (some ⟨wrd.heap.size, 0, none⟩) 2 2 hr rfl (fun h => by cases h) (by have := HL.out; omega)
          refine hK.out _ _ HB.out ?_
          clear hK K hr
          try simp only [putz]
          generalize wrd.alloc (.cells #[bv (hx p), bv (hx q)] 5) = we at *
          generalize wrd.heap.size = ge at *
          refine Goes.one (i := 10) (o := ⟨some 31, _, _, _, _, _⟩) (by as_aux_lemma => kernel_rfl) rfl (fun K hK => ?_)
          refine step_app rfl (.tmp 21) (.tmp 30) rfl rfl _ _ rfl rfl _ w3 hrun.out ?_
          refine hK.out _ _ HG.out.1 ?_
          clear hK K hrun HF HB
          have HB := hid HG.out.1
          try simp only [putz]
          refine Goes.tk (i := 11) (o := ⟨some 3, _, _, _, _, _⟩) (v := ?_) [] (y := Or.inl ⟨by rfl, ?_⟩) (s := HB.out) (H := ?_)
          rotate_left
          · intro u hY; go_simp; try with_reducible rfl
          try simp only [putz]
          refine Goes.done (by as_aux_lemma => kernel_rfl) ?_ _
          refine NoPanic.normal ?_
          go_wp2
          go_roundw
          case rel => exact ⟨n + 1, A3, m3, c3, HLT.out, by go_num, rfl, by rw [HTZ.out]; have h := HG.out; rw [pcs_one n HE.out x p q HPE.out HQE.out] at h; exact hid h⟩
          case measure => have := HLT.out; simp [intOf]; omega
    · obtain rfl : n = 16 := by omega
      have HTT := hid (show tz 0 (t.take 16) = txt t by rw [List.take_of_length_le (by have := HT.out; omega)]; rfl)
      rw [HTT.out] at HF
      obtain ⟨rfl, _, hR, _⟩ := HF.out.form
      have hs := str_own wr A _ c _ hR rfl
      clear hR
      go_wp2
      go_ret
      exact ⟨rfl, HF.out.1⟩

end Go.Proofs.YtgmnpkgnedngjaaDoor
namespace Go.Proofs.YtgmnpkgnedngjaaDoor
open Go.RowKit
set_option linter.unusedVariables false
set_option linter.unusedSimpArgs false

/-- sixteen noughts -/
def z16 : List UInt8 := List.replicate 16 0
theorem z16_length : z16.length = 16 := rfl
theorem z16_at (k : Nat) : gb z16 k = 0 := by
  unfold gb z16; rw [List.getD_eq_getElem?_getD, List.getElem?_replicate]; split <;> rfl
theorem z16_lit : (bvs z16).toArray = #[.int .u8 0, .int .u8 0, .int .u8 0, .int .u8 0, .int .u8 0, .int .u8 0, .int .u8 0, .int .u8 0, .int .u8 0, .int .u8 0, .int .u8 0, .int .u8 0, .int .u8 0, .int .u8 0, .int .u8 0, .int .u8 0] := rfl
theorem res_tag {fn : Func} {p u : Tmp} (h : fn.results = #[.cell p 26, .tmp u]) (tmps : Array Value) (w : World) (g : Nat) (l : List UInt8) (v : Value)
    (hp : tmps.getD p undef = .pointer (some ⟨g, 0, none⟩)) (hg : Bt w g 26 l) (hl : l.length = 16) (hv : tmps.getD u undef = v) : (results fn tmps).run Tryd.prog w = .ok (.tuple #[.agg (bvs l).toArray, v]) w := by
  rw [results_cell_tmp h, hp, hv]
  have hl := run_loadVar_row w g 26 26 (bvs l).toArray (0, 0) _ hg Tryd.underlying26 rfl (by rw [bvs_size, hl]; kernel_rfl)
  simp [asAddr, hl, Result.andThen]
theorem gb_set (l : List UInt8) (k j : Nat) (x : UInt8) (hk : k < l.length) : gb (l.set k x) j = if j = k then x else gb l j := by
  unfold gb
  rw [List.getD_eq_getElem?_getD, List.getD_eq_getElem?_getD, List.getElem?_set]
  by_cases h : k = j
  · subst h; simp [hk]
  · rw [if_neg h, if_neg (fun e => h e.symm)]
/-- what Parse carries from letter to letter -/
structure Pz (w : World) (s : ByteArray) (gR gT gI pos : Nat) (wr : World) : Prop where
  below : Below w.heap.size w wr
  old : w.heap.size ≤ gR ∧ w.heap.size ≤ gT ∧ w.heap.size ≤ gI ∧ gR ≠ gT ∧ gR ≠ gI ∧ gT ≠ gI
  res : Bt wr gR 26 z16
  tag : ∃ t, Bt wr gT 26 t ∧ t.length = 16 ∧ ∀ k, k < 16 → gb t k = pb s.data.toList pos k
  it : wr.heap[gI]? = some (.stringIter s pos)
theorem Pz.next {w wr : World} {s : ByteArray} {gR gT gI pos : Nat} (h : Pz w s gR gT gI pos wr) (p : Nat) :
    Below w.heap.size w (putIt wr gI (.stringIter s p)) ∧ Bt (putIt wr gI (.stringIter s p)) gR 26 z16 ∧ (∃ t, Bt (putIt wr gI (.stringIter s p)) gT 26 t ∧ t.length = 16 ∧ ∀ k, k < 16 → gb t k = pb s.data.toList pos k) ∧ (putIt wr gI (.stringIter s p)).heap[gI]? = some (.stringIter s p) := by
  obtain ⟨o1, o2, o3, o4, o5, o6⟩ := h.old
  obtain ⟨t, t1, t2, t3⟩ := h.tag
  refine ⟨h.below.grown (putIt_grown wr gI _) h.below.size (fun k e => by injection e with e; omega), (putIt_other wr gI gR _ o5).trans h.res, ⟨t, (putIt_other wr gI gT _ o6).trans t1, t2, t3⟩, putIt_self wr gI _ (lt_of_block h.it)⟩
theorem grown_srow {w : World} (g : Nat) (cs : Array Value) : w.grownBy (w.setRow g cs) (some g) := ⟨rfl, rfl, rfl, by simp [World.setRow], fun k hk hn => setRow_other w g k cs (fun e => hn (by rw [e]))⟩
/-- what Parse answers -/
def PIs (L : List UInt8) (v : Value) : Prop := (∃ t, IsT L t ∧ v = .tuple #[.agg (bvs t).toArray, .int .i64 0]) ∨ ((∀ t, ¬ IsT L t) ∧ v = .tuple #[.agg (bvs z16).toArray, .int .i64 4])
set_option maxRecDepth 100000 in
set_option maxHeartbeats 4000000 in
theorem parse_any (s : ByteArray) (w : World) (hd : Dg w) :
    Calls Tryd.prog 8 #[.string s] w fun e w' => ∃ v, e = .returned v ∧ PIs s.data.toList v ∧ Below w.heap.size w w' := by
  have HD := hid hd
  have HSZ := hid (show s.data.toList.length = s.size by rw [Array.length_toList]; rfl)
  obtain ⟨HB1, HX1, HS1⟩ := box1 w 26 z16
  clear hd
  by_cases hlen : s.size = 39
  · have HLEN := hid hlen
    obtain ⟨hB2, hX2, hY2, hS2⟩ := box2 w 26 26 z16 z16
    have HBI := hid ((hB2.out.alloc (by rw [hS2.out]; omega) (.stringIter s 0)))
    have hx := heap_alloc_new ((w.alloc (.cells (bvs z16).toArray 26)).alloc (.cells (bvs z16).toArray 26)) (.stringIter s 0)
    rw [hS2.out] at hx
    have HPZ := hid (p := Pz w s w.heap.size (w.heap.size + 1) (w.heap.size + 2) 0 (((w.alloc (.cells (bvs z16).toArray 26)).alloc (.cells (bvs z16).toArray 26)).iter s 0)) ⟨HBI.out, by omega, Bt.alloc hX2.out _, ⟨z16, Bt.alloc hY2.out _, rfl, fun k hk => by rw [z16_at, pb_none]⟩, hx⟩
    have hsz := hS2.out
    clear HB1 HX1 HS1 hB2 hX2 hY2 hS2 HBI hx
    rw [z16_lit] at HPZ hsz
    have hi : (s.size : Int) = 39 := by omega
    go_enter Tryd.func8, Tryd.ntmps8
    go_wp2
    try rw [hsz]
    generalize (World.iter _ s 0) = w1 at *
    clear hsz hi
    generalize hgI : w.heap.size + 2 = gI at *
    generalize hgT : w.heap.size + 1 = gT at *
    obtain ⟨gR, hgR⟩ : ∃ gR, gR = w.heap.size := ⟨_, rfl⟩
    rw [← hgR] at HPZ ⊢
    have HO := hid HPZ.out.old
    clear hgI hgT hgR
    go_loopw [] (fun wr => ∃ pos : Nat, pos ≤ 39 ∧ Hid (Pz w s gR gT gI pos wr) ∧ Hid (∀ i, i < pos → Gd s.data.toList i)) (fun wr => 39 - itPos wr gI)
    case atStart => exact ⟨0, by decide, HPZ, hid (fun i h => absurd h (Nat.not_lt_zero _))⟩
    case round =>
      clear HPZ
      obtain ⟨pos, hp, HP, HG⟩ := hrel
      have HMW := hid (show itPos wr gI = pos by unfold itPos; rw [HP.out.it])
      by_cases hlt : pos < 39
      · have HLT := hid hlt
        obtain ⟨z, k, hdec, hz0, hcase⟩ := next_letter s pos (by have := HLEN.out; omega)
        have hnx := fun ty => run_next_s (P := Tryd.prog) wr gI s pos k z ty HP.out.it (by have := HLEN.out; omega) hz0 hdec
        obtain ⟨m1, m2, m3, m4⟩ := HP.out.next (pos + k)
        have N1 := hid m1
        have N2 := hid m2
        have N3 := hid m3
        have N4 := hid m4
        clear m1 m2 m3 m4 hdec hp
        generalize putIt wr gI (.stringIter s (pos + k)) = w2 at *
        by_cases h5 : pos % 5 = 4
        · have H5 := hid h5
          have r1 : (pos : Int) % 5 = 4 := by omega
          have r2 : Int.tmod (pos : Int) 5 = 4 := by rw [Int.tmod_eq_emod_of_nonneg (by omega)]; exact r1
          by_cases hz : z = 58
          · have HC := hid (show gb s.data.toList pos = 58 ∧ k = 1 by
              rcases hcase with ⟨h1, h2, _⟩ | ⟨h1, _⟩
              · exact ⟨iv_inj (h1.symm.trans (by rw [hz]; rfl)), h2⟩
              · omega)
            subst hz
            clear hcase h5 hz0
            go_wp2
            go_roundw
            case rel =>
              refine ⟨pos + 1, HLT.out, hid ⟨N1.out, HP.out.old, N2.out, ?_, ?_⟩, hid (fun i hi => ?_)⟩
              · obtain ⟨t, t1, t2, t3⟩ := N3.out
                exact ⟨t, t1, t2, fun k hk => by rw [t3 k hk, pb_colon _ _ _ hk H5.out]⟩
              · have := N4.out; rwa [HC.out.2] at this
              · rcases Nat.lt_or_ge i pos with h | h
                · exact HG.out i h
                · obtain rfl : i = pos := by omega
                  unfold Gd; rw [if_pos H5.out]; exact HC.out.1
            case measure =>
              have e : itPos w2 gI = pos + 1 := by unfold itPos; rw [N4.out, HC.out.2]
              rw [e, HMW.out]; have := HLT.out; omega
          · have HNO := hid (show ∀ t, ¬ IsT s.data.toList t from fun t ht => by
              have hg := isT_good ht pos hlt
              unfold Gd at hg
              rw [if_pos h5] at hg
              rcases hcase with ⟨h1, _, _⟩ | ⟨_, h1⟩
              · exact hz (by rw [h1, hg]; rfl)
              · rw [hg] at h1; exact absurd h1 (by decide))
            have hb : (z == 58) = false := by simpa using hz
            clear hcase h5 hz0
            go_upto_region 9 with fail
            clear r1 r2 hz hb hnx hlt
            have hst := st_tag (m := z16) N2.out z16_length z16_length
            rw [z16_lit] at hst
            have HB4 := hid (N1.out.grown (grown_srow (w := w2) gR (bvs z16).toArray) N1.out.size (fun k e => by injection e with e; have := HO.out.1; omega))
            have HR4 := hid (Bt.row (m := z16) N2.out)
            rw [z16_lit] at HB4 HR4
            go_wp2_with (((with_reducible refine isS 26 (.tmp 2) (.tmp 25) rfl ?_); refine wp_st (by kernel_rfl) 26 (.tmp 2) (.tmp 25) rfl _ _ rfl rfl hst ?_))
            refine bodyPost_ret (v := .tuple #[.agg (bvs z16).toArray, .int .i64 4]) (res_tag (p := 2) (u := 3) Tryd.results8 _ _ gR z16 _ rfl HR4.out z16_length rfl) rfl ⟨_, rfl, .inr ⟨HNO.out, rfl⟩, ?_⟩
            exact HB4.out
        · have H5 := hid h5
          have r1 : ¬ (pos : Int) % 5 = 4 := by omega
          have r2 : ¬ Int.tmod (pos : Int) 5 = 4 := by rw [Int.tmod_eq_emod_of_nonneg (by omega)]; exact r1
          by_cases hd : ∃ d, d < 16 ∧ iv (hx d) = z
          · obtain ⟨d, hd, rfl⟩ := hd
            have HC := hid (show gb s.data.toList pos = hx d ∧ k = 1 by
              rcases hcase with ⟨h1, h2, _⟩ | ⟨h1, _⟩
              · exact ⟨(iv_inj h1).symm, h2⟩
              · have := hx_iv_lt d hd; omega)
            have HDD := hid hd
            obtain ⟨e, he, q1, q2⟩ := pb_digit s.data.toList pos d hlt h5 HG.out hd HC.out.1
            obtain ⟨hpl, _⟩ := plk_of pos hlt h5
            obtain ⟨t, t1, t2, t3⟩ := N3.out
            have HT1 := hid t1
            have HT2 := hid t2
            have HT3 := hid t3
            have HQ2 := hid q2
            have hcl := t1.at_ (plk pos) (by omega)
            rw [t3 (plk pos) hpl, q1] at hcl
            have hie : iv (UInt8.ofNat e) = (e : Int) := iv_of e (by omega)
            replace hcl := hcl.trans (congrArg (fun i => some (Value.int .u8 i)) hie)
            have hfz := t1.frozen (plk pos)
            have HPL := hid hpl
            obtain ⟨q5, hq5⟩ : ∃ q5, q5 = pos / 5 := ⟨_, rfl⟩
            obtain ⟨rr, hrr⟩ : ∃ rr, rr = pos - pos / 5 := ⟨_, rfl⟩
            have hple : plk pos = rr / 2 := by rw [hrr]; rfl
            generalize hpk : plk pos = pl at *
            have HPK := hid hpk
            have f1b : (pos : Int) / 5 = (q5 : Int) := by omega
            have f1 : Int.tdiv (pos : Int) 5 = (q5 : Int) := by rw [Int.tdiv_eq_ediv_of_nonneg (by omega)]; exact f1b
            have f2 : (pos : Int) - (q5 : Int) = (rr : Int) := by omega
            have f3b : (rr : Int) / 2 = (pl : Int) := by omega
            have f3 : Int.tdiv (rr : Int) 2 = (pl : Int) := by rw [Int.tdiv_eq_ediv_of_nonneg (by omega)]; exact f3b
            have v1 : IntKind.i64.wrap (q5 : Int) = (q5 : Int) := by rw [IntKind.wrap_i64]; omega
            have v2 : IntKind.i64.wrap (rr : Int) = (rr : Int) := by rw [IntKind.wrap_i64]; omega
            have v3 : IntKind.i64.wrap (pl : Int) = (pl : Int) := by rw [IntKind.wrap_i64]; omega
            obtain ⟨e16, h16⟩ : ∃ e16, e16 = 16 * e := ⟨_, rfl⟩
            obtain ⟨zz, hzz⟩ : ∃ zz, zz = 16 * e + d := ⟨_, rfl⟩
            have x1 : IntKind.u8.wrap ((e : Int) * 16) = (e16 : Int) := by rw [IntKind.wrap_u8]; omega
            have x1b : ((e : Int) * 16) % 256 = (e16 : Int) := by omega
            have x2 : IntKind.u8.wrap ((e16 : Int) + (d : Int)) = (zz : Int) := by rw [IntKind.wrap_u8]; omega
            have x2b : ((e16 : Int) + (d : Int)) % 256 = (zz : Int) := by omega
            have x3 : ((e : Int) * 16 + (d : Int)) % 256 = (zz : Int) := by omega
            have x3b : IntKind.u8.wrap ((e : Int) * 16 + (d : Int)) = (zz : Int) := by rw [IntKind.wrap_u8]; omega
            have hplI : (pl : Int) < 16 := by omega
            rw [← hzz] at HQ2
            have HZZ := hid (show iv (UInt8.ofNat zz) = (zz : Int) from iv_of zz (by omega))
            have HF1 := hid (And.intro f1 (And.intro f1b (And.intro f2 (And.intro f3 (And.intro f3b (And.intro v1 (And.intro v2 v3)))))))
            have HF2 := hid (And.intro x1 (And.intro x1b (And.intro x2 (And.intro x2b (And.intro x3 (And.intro x3b hplI))))))
            clear hcase h5 hz0 q1 q2 hie t1 t2 t3 hpl hple hpk hq5 hrr f1 f1b f2 f3 f3b v1 v2 v3 h16 hzz x1 x1b x2 x2b x3 x3b he hd hplI
            go_wp2_with fail
            clear hnx
            refine (counted_hit d HDD.out w2 (HD.out.on N1.out)).mono ?_
            rintro er wx ⟨rfl, rfl⟩
            have g1 := HF1.out
            have g2 := HF2.out
            have g3 := g2.2.2.2.2.2.2
            go_wp2
            go_roundw
            case rel =>
              have HTS := Bt.set HT1.out pl (UInt8.ofNat zz)
              have hzv : (Value.int .u8 (((UInt8.ofNat zz).toNat : Nat) : Int)) = .int .u8 (zz : Int) := by have := HZZ.out; unfold iv at this; rw [this]
              rw [hzv] at HTS
              refine ⟨pos + 1, HLT.out, hid ⟨N1.out.grown (grown_cell (i := pl) (grown_of (Below.refl w2.heap.size w2) (some gT)) (.int .u8 (zz : Int))) N1.out.size (fun k (e : some gT = some k) => by injection e with e; have := HP.out.old.2.1; omega), HP.out.old, Bt.other N2.out _ HO.out.2.2.2.1, ⟨t.set pl (UInt8.ofNat zz), HTS, by rw [List.length_set]; exact HT2.out, fun k hk => ?_⟩, ?_⟩, hid (fun i hi => ?_)⟩
              · rw [gb_set _ _ _ _ (by rw [HT2.out]; exact HPL.out)]
                by_cases hkp : k = pl
                · rw [if_pos hkp, hkp]; exact HQ2.out.symm
                · rw [if_neg hkp, HT3.out k hk]; exact (pb_other _ _ _ hk HLT.out H5.out (by rw [HPK.out]; exact hkp)).symm
              · have := N4.out; rw [HC.out.2] at this
                exact (Below.heap_setCell w2 ⟨gT, pl, none⟩ _ gI (fun e => HO.out.2.2.2.2.2 e.symm)).trans this
              · rcases Nat.lt_or_ge i pos with h | h
                · exact HG.out i h
                · obtain rfl : i = pos := by omega
                  unfold Gd; rw [if_neg H5.out]; exact ⟨d, HDD.out, HC.out.1⟩
            case measure =>
              have h1 := (Below.heap_setCell w2 ⟨gT, pl, none⟩ (.int .u8 (zz : Int)) gI (fun e => HO.out.2.2.2.2.2 e.symm)).trans N4.out
              have em : itPos (w2.setCell ⟨gT, pl, none⟩ (.int .u8 (zz : Int))) gI = pos + 1 := by unfold itPos; rw [h1, HC.out.2]
              rw [em, HMW.out]; have := HLT.out; omega
          · have HNO := hid (show ∀ t, ¬ IsT s.data.toList t from fun t ht => by
              have hg := isT_good ht pos hlt
              unfold Gd at hg
              rw [if_neg h5] at hg
              obtain ⟨d, hd1, hd2⟩ := hg
              rcases hcase with ⟨h1, _, _⟩ | ⟨_, h1⟩
              · exact hd ⟨d, hd1, by rw [h1, hd2]⟩
              · rw [hd2] at h1; have := hx_iv_lt d hd1; omega)
            have HMS := hid (show ∀ k, k < 16 → iv (hx k) ≠ z from fun k hk e => hd ⟨k, hk, e⟩)
            clear hcase h5 hz0 hd
            go_wp2_with fail
            clear hnx
            refine (counted_miss z HMS.out w2 (HD.out.on N1.out)).mono ?_
            rintro er wx ⟨rfl, rfl⟩
            go_upto_region 12 with fail
            clear r1 r2 hlt
            have hst := st_tag (m := z16) N2.out z16_length z16_length
            rw [z16_lit] at hst
            have HB4 := hid (N1.out.grown (grown_srow (w := w2) gR (bvs z16).toArray) N1.out.size (fun k e => by injection e with e; have := HO.out.1; omega))
            have HR4 := hid (Bt.row (m := z16) N2.out)
            rw [z16_lit] at HB4 HR4
            go_wp2_with (((with_reducible refine isS 26 (.tmp 2) (.tmp 33) rfl ?_); refine wp_st (by kernel_rfl) 26 (.tmp 2) (.tmp 33) rfl _ _ rfl rfl hst ?_))
            refine bodyPost_ret (v := .tuple #[.agg (bvs z16).toArray, .int .i64 4]) (res_tag (p := 2) (u := 3) Tryd.results8 _ _ gR z16 _ rfl HR4.out z16_length rfl) rfl ⟨_, rfl, .inr ⟨HNO.out, rfl⟩, ?_⟩
            exact HB4.out
      · obtain rfl : pos = 39 := by omega
        obtain ⟨t, t1, t2, t3⟩ := HP.out.tag
        have HIS := hid (isT_of_good (HSZ.out.trans HLEN.out) t2 HG.out (fun k hk => by rw [t3 k hk, pb_all _ _ hk]))
        have HT2 := hid t2
        have hnx := fun ty => run_next_e (P := Tryd.prog) wr gI s 39 ty HP.out.it (by have := HLEN.out; omega)
        have hlt := ld_tag t1 t2
        have hst := st_tag (m := t) HP.out.res z16_length t2
        have HB4 := hid (HP.out.below.grown (grown_srow (w := wr) gR (bvs t).toArray) HP.out.below.size (fun k e => by injection e with e; have := HO.out.1; omega))
        have HR4 := hid (Bt.row (m := t) HP.out.res)
        clear t1 t2 t3 hp
        go_upto_region 15 with fail
        clear hnx
        go_wp2_with (first | ((with_reducible refine isD 47 rfl ?_); refine wp_ld (by kernel_rfl) 26 (.tmp 4) rfl _ rfl _ hlt ?_) | ((with_reducible refine isS 26 (.tmp 2) (.tmp 47) rfl ?_); refine wp_st (by kernel_rfl) 26 (.tmp 2) (.tmp 47) rfl _ _ rfl rfl hst ?_))
        refine bodyPost_ret (v := .tuple #[.agg (bvs t).toArray, .int .i64 0]) (res_tag (p := 2) (u := 3) Tryd.results8 _ _ gR t _ rfl HR4.out HT2.out rfl) rfl ⟨_, rfl, .inl ⟨t, HIS.out, rfl⟩, HB4.out⟩
  · have HNO := hid (show ∀ t, ¬ IsT s.data.toList t from fun t ht => hlen (HSZ.out.symm.trans (isT_len ht)))
    have hi : ¬ (s.size : Int) = 39 := by omega
    have hb : ((s.size : Int) == 39) = false := by simpa using hi
    have HO := hid (show w.heap.size ≤ w.heap.size ∧ True from ⟨Nat.le_refl _, trivial⟩)
    rw [z16_lit] at HB1 HX1
    have N1 := HB1
    have N2 : Hid (Bt (w.alloc (.cells #[.int .u8 0, .int .u8 0, .int .u8 0, .int .u8 0, .int .u8 0, .int .u8 0, .int .u8 0, .int .u8 0, .int .u8 0, .int .u8 0, .int .u8 0, .int .u8 0, .int .u8 0, .int .u8 0, .int .u8 0, .int .u8 0] 26)) w.heap.size 26 z16) := HX1
    clear HB1 HX1 HS1
    go_enter Tryd.func8, Tryd.ntmps8
    go_upto_region 2 with fail
    clear hlen hi hb
    generalize hw1 : (w.alloc (.cells _ 26)) = w1 at *
    obtain ⟨gR, hgR⟩ : ∃ gR, gR = w.heap.size := ⟨_, rfl⟩
    rw [← hgR] at N2 HO ⊢
    rw [hgR] at HO
    have HO : Hid (w.heap.size ≤ gR ∧ True) := hid ⟨by omega, trivial⟩
    clear hgR
    have hst := st_tag (m := z16) N2.out z16_length z16_length
    rw [z16_lit] at hst
    have HB4 := hid (N1.out.grown (grown_srow (w := w1) gR (bvs z16).toArray) N1.out.size (fun k e => by injection e with e; have := HO.out.1; omega))
    have HR4 := hid (Bt.row (m := z16) N2.out)
    rw [z16_lit] at HB4 HR4
    go_wp2_with (((with_reducible refine isS 26 (.tmp 2) (.tmp 13) rfl ?_); refine wp_st (by kernel_rfl) 26 (.tmp 2) (.tmp 13) rfl _ _ rfl rfl hst ?_))
    refine bodyPost_ret (v := .tuple #[.agg (bvs z16).toArray, .int .i64 4]) (res_tag (p := 2) (u := 3) Tryd.results8 _ _ gR z16 _ rfl HR4.out z16_length rfl) rfl ⟨_, rfl, .inr ⟨HNO.out, rfl⟩, ?_⟩
    exact HB4.out

end Go.Proofs.YtgmnpkgnedngjaaDoor
namespace Go.Proofs.YtgmnpkgnedngjaaDoor
open Go.RowKit
set_option linter.unusedVariables false
set_option linter.unusedSimpArgs false

theorem sl_dig (p : Nat) (h : p < 16) (w : World) : (Instr.slice 9 (.string ⟨#[48, 49, 50, 51, 52, 53, 54, 55, 56, 57, 97, 98, 99, 100, 101, 102]⟩) (some (.int .u8 (p : Int))) (some (.int .u8 ((p : Int) + 1))) none).run Tryd.prog w = .ok (sv [hx p]) w := by
  rw [run_slice_string w 9 _ .u8 .u8 _ _ Tryd.underlying9 (by omega) (by omega) (by show (p : Int) + 1 ≤ 16; omega)]
  have e : ∀ p, p < 16 → (⟨#[48, 49, 50, 51, 52, 53, 54, 55, 56, 57, 97, 98, 99, 100, 101, 102]⟩ : ByteArray).extract p (p + 1) = ⟨[hx p].toArray⟩ := by decide
  have e1 : ((p : Int)).toNat = p := by omega
  have e2 : ((p : Int) + 1).toNat = p + 1 := by omega
  rw [e1, e2, e p h]
theorem add_str (X Y : List UInt8) (hX : X.length ≤ 1000) (hY : Y.length ≤ 1000) (w : World) : (Op.stringOp .add ⟨X.toArray⟩ ⟨Y.toArray⟩).run Tryd.prog w = .ok (sv (X ++ Y)) w :=
  run_string_add_lists w X Y (by omega) (by omega)
theorem all_u8 {p : UInt8 → Prop} (h : ∀ n, n < 256 → p (UInt8.ofNat n)) (x : UInt8) : p x := by
  have := h x.toNat x.toNat_lt
  rwa [UInt8.ofNat_toNat] at this
theorem dig_and (x : UInt8) : bits .and .u8 (iv x) 15 = ((x.toNat % 16 : Nat) : Int) := all_u8 (p := fun x => bits .and .u8 (iv x) 15 = ((x.toNat % 16 : Nat) : Int)) (by decide +kernel) x
set_option maxRecDepth 100000 in
set_option maxHeartbeats 4000000 in
theorem rtext_ok (t : List UInt8) (w : World) (ht : t.length = 16) :
    Calls Tryd.prog 15 #[.agg (bvs t).toArray] w fun e w' => e = .returned (sv (txt t)) ∧ Below w.heap.size w w' := by
  obtain ⟨HB1, HX, HS⟩ := box1 w 26 t
  have HT := hid ht
  clear ht HS
  go_enter Tryd.func15, Tryd.ntmps15
  go_wp2
  generalize w.alloc (.cells (bvs t).toArray 26) = w1 at *
  generalize hg : w.heap.size = g at HX ⊢
  go_loopw [3, 4] (fun v i wr => ∃ (n m : Nat) (S : ByteArray), n ≤ 16 ∧ i = .int .i64 n ∧ v = .string S ∧ Hid (S = ⟨(tz 0 (t.take n)).toArray⟩) ∧ Hid (wr = w1.drewN m)) (fun _ i _ => 16 - (intOf i).toNat)
  case atStart => exact ⟨0, 0, _, by decide, rfl, rfl, hid rfl, hid rfl⟩
  case round =>
    obtain ⟨n, m, S, hn, rfl, rfl, HSV, HW⟩ := hrel
    by_cases hlt : n < 16
    · have HLT := hid hlt
      have cx : wr.cell? ⟨g, n, none⟩ = some (bv (gb t n)) := by rw [HW.out]; exact Bt.at_ (show Bt (w1.drewN m) _ _ _ from HX.out) n (by rw [HT.out]; exact hlt)
      have HTZ := hid (tz_some t n (by have := HT.out; omega))
      have HL := hid (show (tz 0 (t.take n)).length ≤ 1000 by have := tz_len (t.take n) 0; simp at this ⊢; omega)
      have HL2 := hid (show (tz 0 (t.take n)).length ≤ 48 by have := tz_len (t.take n) 0; simp at this ⊢; omega)
      generalize tz 0 (t.take n) = X at *
      generalize gb t n = x at *
      obtain ⟨p, hp⟩ : ∃ p, x.toNat / 16 = p := ⟨_, rfl⟩
      obtain ⟨q, hq⟩ : ∃ q, x.toNat % 16 = q := ⟨_, rfl⟩
      have hxl := x.toNat_lt
      have HP := hid (show p < 16 by omega)
      have HQ := hid (show q < 16 by omega)
      have HPI := hid (show (p : Int) < 16 by omega)
      have HQI := hid (show (q : Int) < 16 by omega)
      have HPE := hid hp
      have HQE := hid hq
      have d1 : iv x / 16 = (p : Int) := by unfold iv; omega
      have d2 : bits .and .u8 (iv x) 15 = (q : Int) := by rw [dig_and, hq]
      have w1 : IntKind.u8.wrap ((p : Int) + 1) = (p : Int) + 1 := by rw [IntKind.wrap_u8]; omega
      have w2 : IntKind.u8.wrap ((q : Int) + 1) = (q : Int) + 1 := by rw [IntKind.wrap_u8]; omega
      have m1 : ((p : Int) + 1) % 256 = (p : Int) + 1 := by omega
      have m2 : ((q : Int) + 1) % 256 = (q : Int) + 1 := by omega
      have HD1 := hid (And.intro d1 (And.intro w1 m1))
      have HD2 := hid (And.intro d2 (And.intro w2 m2))
      clear d1 d2 w1 w2 m1 m2 hp hq hxl
      by_cases he : 0 < n ∧ n % 2 = 0
      · have HE := hid he
        have g1 : (0 : Int) < (n : Int) := by omega
        have r1 : (n : Int) % 2 = 0 := by omega
        have r2 : Int.tmod (n : Int) 2 = 0 := by rw [Int.tmod_eq_emod_of_nonneg (by omega)]; exact r1
        clear he hn
        obtain ⟨Sc, HSC⟩ : ∃ Sc : ByteArray, Sc = ⟨(X ++ [58]).toArray⟩ := ⟨_, rfl⟩
        have ac := add_str X [58] HL.out (by simp)
        unfold sv at ac
        rw [← HSC, ← HSV.out] at ac
        have HSV2 := hid HSC
        clear HSC HSV
        go_upto_region 7 with fail
        clear g1 r1 r2 ac
        have HL := hid (show (X ++ [58]).length ≤ 1000 by have := HL2.out; simp; omega)
        have HL2 := hid (show (X ++ [58]).length ≤ 49 by have := HL2.out; simp; omega)
        obtain ⟨P1, HP1⟩ : ∃ P1 : ByteArray, P1 = ⟨[hx p].toArray⟩ := ⟨_, rfl⟩
        obtain ⟨P2, HP2⟩ : ∃ P2 : ByteArray, P2 = ⟨[hx q].toArray⟩ := ⟨_, rfl⟩
        obtain ⟨S1, HS1⟩ : ∃ S1 : ByteArray, S1 = ⟨(X ++ [58] ++ [hx p]).toArray⟩ := ⟨_, rfl⟩
        obtain ⟨S2, HS2⟩ : ∃ S2 : ByteArray, S2 = ⟨((X ++ [58] ++ [hx p]) ++ [hx q]).toArray⟩ := ⟨_, rfl⟩
        have l1 := sl_dig p HP.out
        have l2 := sl_dig q HQ.out
        have a1 := add_str (X ++ [58]) [hx p] HL.out (by simp)
        have a2 := add_str (X ++ [58] ++ [hx p]) [hx q] (by have := HL2.out; simp at this ⊢; omega) (by simp)
        unfold sv at l1 l2 a1 a2
        rw [← HP1] at l1 a1
        rw [← HP2] at l2 a2
        rw [← HS1] at a1 a2
        rw [← HS2] at a2
        rw [← HSV2.out] at a1
        have HSE := hid (show S2 = ⟨(tz 0 (t.take (n + 1))).toArray⟩ by rw [HS2, HTZ.out, ← pcs_two n HE.out x p q HPE.out HQE.out]; simp)
        clear HP1 HP2 HS1 HS2
        have d1 := HD1.out
        have d2 := HD2.out
        have p1 := HPI.out
        have q1 := HQI.out
        go_quiet (fail)
        clear l1 l2 a1 a2 d1 d2
        go_wp2
        go_roundw
        case rel =>
          refine ⟨n + 1, m + nq, S2, HLT.out, by go_num, rfl, HSE, ?_⟩
          rw [HW.out]; exact hid (World.drewN_drewN ..)
        case measure => have := HLT.out; simp [intOf]; omega
      · have HE := hid he
        by_cases h0 : n = 0
        · have g1 : ¬ (0 : Int) < (n : Int) := by omega
          clear he hn h0
          go_upto_region 7 with fail
          clear g1
          obtain ⟨P1, HP1⟩ : ∃ P1 : ByteArray, P1 = ⟨[hx p].toArray⟩ := ⟨_, rfl⟩
          obtain ⟨P2, HP2⟩ : ∃ P2 : ByteArray, P2 = ⟨[hx q].toArray⟩ := ⟨_, rfl⟩
          obtain ⟨S1, HS1⟩ : ∃ S1 : ByteArray, S1 = ⟨(X ++ [hx p]).toArray⟩ := ⟨_, rfl⟩
          obtain ⟨S2, HS2⟩ : ∃ S2 : ByteArray, S2 = ⟨((X ++ [hx p]) ++ [hx q]).toArray⟩ := ⟨_, rfl⟩
          have l1 := sl_dig p HP.out
          have l2 := sl_dig q HQ.out
          have a1 := add_str (X) [hx p] HL.out (by simp)
          have a2 := add_str (X ++ [hx p]) [hx q] (by have := HL2.out; simp at this ⊢; omega) (by simp)
          unfold sv at l1 l2 a1 a2
          rw [← HP1] at l1 a1
          rw [← HP2] at l2 a2
          rw [← HS1] at a1 a2
          rw [← HS2] at a2
          rw [← HSV.out] at a1
          have HSE := hid (show S2 = ⟨(tz 0 (t.take (n + 1))).toArray⟩ by rw [HS2, HTZ.out, ← pcs_one n HE.out x p q HPE.out HQE.out]; simp)
          clear HP1 HP2 HS1 HS2
          have d1 := HD1.out
          have d2 := HD2.out
          have p1 := HPI.out
          have q1 := HQI.out
          go_quiet (fail)
          clear l1 l2 a1 a2 d1 d2
          go_wp2
          go_roundw
          case rel =>
            refine ⟨n + 1, m + nq, S2, HLT.out, by go_num, rfl, HSE, ?_⟩
            rw [HW.out]; exact hid (World.drewN_drewN ..)
          case measure => have := HLT.out; simp [intOf]; omega
        · have g1 : (0 : Int) < (n : Int) := by omega
          have r1 : (n : Int) % 2 = 1 := by omega
          have r2 : Int.tmod (n : Int) 2 = 1 := by rw [Int.tmod_eq_emod_of_nonneg (by omega)]; exact r1
          clear he hn h0
          go_upto_region 7 with fail
          clear g1 r1 r2
          obtain ⟨P1, HP1⟩ : ∃ P1 : ByteArray, P1 = ⟨[hx p].toArray⟩ := ⟨_, rfl⟩
          obtain ⟨P2, HP2⟩ : ∃ P2 : ByteArray, P2 = ⟨[hx q].toArray⟩ := ⟨_, rfl⟩
          obtain ⟨S1, HS1⟩ : ∃ S1 : ByteArray, S1 = ⟨(X ++ [hx p]).toArray⟩ := ⟨_, rfl⟩
          obtain ⟨S2, HS2⟩ : ∃ S2 : ByteArray, S2 = ⟨((X ++ [hx p]) ++ [hx q]).toArray⟩ := ⟨_, rfl⟩
          have l1 := sl_dig p HP.out
          have l2 := sl_dig q HQ.out
          have a1 := add_str (X) [hx p] HL.out (by simp)
          have a2 := add_str (X ++ [hx p]) [hx q] (by have := HL2.out; simp at this ⊢; omega) (by simp)
          unfold sv at l1 l2 a1 a2
          rw [← HP1] at l1 a1
          rw [← HP2] at l2 a2
          rw [← HS1] at a1 a2
          rw [← HS2] at a2
          rw [← HSV.out] at a1
          have HSE := hid (show S2 = ⟨(tz 0 (t.take (n + 1))).toArray⟩ by rw [HS2, HTZ.out, ← pcs_one n HE.out x p q HPE.out HQE.out]; simp)
          clear HP1 HP2 HS1 HS2
          have d1 := HD1.out
          have d2 := HD2.out
          have p1 := HPI.out
          have q1 := HQI.out
          go_quiet (fail)
          clear l1 l2 a1 a2 d1 d2
          go_wp2
          go_roundw
          case rel =>
            refine ⟨n + 1, m + nq, S2, HLT.out, by go_num, rfl, HSE, ?_⟩
            rw [HW.out]; exact hid (World.drewN_drewN ..)
          case measure => have := HLT.out; simp [intOf]; omega
    · obtain rfl : n = 16 := by omega
      have HTT := hid (show tz 0 (t.take 16) = txt t by rw [List.take_of_length_le (by have := HT.out; omega)]; rfl)
      rw [HTT.out] at HSV
      go_wp2
      go_ret
      exact ⟨by rw [HSV.out]; rfl, by rw [HW.out]; exact below_dr HB1.out _⟩

end Go.Proofs.YtgmnpkgnedngjaaDoor
namespace Go.Proofs.YtgmnpkgnedngjaaDoor
open Go.RowKit
set_option linter.unusedVariables false
set_option linter.unusedSimpArgs false

theorem isT_tb {L t : List UInt8} (h : IsT L t) (k : Nat) (hk : k < 16) : gb t k = tb L k := by
  obtain ⟨t1, t2⟩ := txt_at h.1 k hk
  rw [h.2] at t1 t2
  have hb := UInt8.toNat_lt (t.getD k 0)
  unfold tb
  rw [gb_some t1, gb_some t2, dv8_hx (by omega), dv8_hx (by omega), show 16 * ((t.getD k 0).toNat / 16) + (t.getD k 0).toNat % 16 = (t.getD k 0).toNat by omega, UInt8.ofNat_toNat]; rfl
theorem eq_gb {a b : List UInt8} (ha : a.length = 16) (hb : b.length = 16) (h : ∀ k, k < 16 → gb a k = gb b k) : a = b := by
  have := take_eq (ha.trans hb.symm) 16 h
  rwa [List.take_of_length_le (by omega), List.take_of_length_le (by omega)] at this
theorem str_cmp (l : List UInt8) (s : ByteArray) : ((⟨l.toArray⟩ : ByteArray).toList == s.toList) = decide (l = s.data.toList) := by
  rw [ByteArray.toList_mk, ByteArray.toList_eq, Bool.eq_iff_iff]; simp
/-- what the document's Parse carries from byte to byte -/
def Qz (L : List UInt8) (n : Nat) (t : List UInt8) : Prop := t.length = 16 ∧ ∀ k, k < 16 → gb t k = if k < n then tb L k else 0
set_option maxRecDepth 100000 in
set_option maxHeartbeats 4000000 in
theorem rparse_any (s : ByteArray) (w : World) :
    Calls Tryd.prog 9 #[.string s] w fun e w' => ∃ v, e = .returned v ∧ PIs s.data.toList v ∧ Below w.heap.size w w' := by
  have HSZ := hid (show s.data.toList.length = s.size by rw [Array.length_toList]; rfl)
  obtain ⟨HB1, HX1, HS1⟩ := box1 w 26 z16
  by_cases hlen : s.size = 39
  · have HLEN := hid hlen
    obtain ⟨HB, HR, HT0, hS2⟩ := box2 w 26 26 z16 z16
    have HQ0 := hid (p := Qz s.data.toList 0 z16) ⟨rfl, fun k hk => by rw [z16_at, if_neg (by omega)]⟩
    have hsz := HS1.out
    clear HB1 HX1 HS1 hS2
    rw [z16_lit] at HB hsz
    have HR : Hid (Bt ((w.alloc (.cells #[.int .u8 0, .int .u8 0, .int .u8 0, .int .u8 0, .int .u8 0, .int .u8 0, .int .u8 0, .int .u8 0, .int .u8 0, .int .u8 0, .int .u8 0, .int .u8 0, .int .u8 0, .int .u8 0, .int .u8 0, .int .u8 0] 26)).alloc (.cells #[.int .u8 0, .int .u8 0, .int .u8 0, .int .u8 0, .int .u8 0, .int .u8 0, .int .u8 0, .int .u8 0, .int .u8 0, .int .u8 0, .int .u8 0, .int .u8 0, .int .u8 0, .int .u8 0, .int .u8 0, .int .u8 0] 26)) w.heap.size 26 z16) := HR
    have HT0 : Hid (Bt ((w.alloc (.cells #[.int .u8 0, .int .u8 0, .int .u8 0, .int .u8 0, .int .u8 0, .int .u8 0, .int .u8 0, .int .u8 0, .int .u8 0, .int .u8 0, .int .u8 0, .int .u8 0, .int .u8 0, .int .u8 0, .int .u8 0, .int .u8 0] 26)).alloc (.cells #[.int .u8 0, .int .u8 0, .int .u8 0, .int .u8 0, .int .u8 0, .int .u8 0, .int .u8 0, .int .u8 0, .int .u8 0, .int .u8 0, .int .u8 0, .int .u8 0, .int .u8 0, .int .u8 0, .int .u8 0, .int .u8 0] 26)) (w.heap.size + 1) 26 z16) := HT0
    have hi : (s.size : Int) = 39 := by omega
    go_enter Tryd.func9, Tryd.ntmps9
    go_upto_region 4 with fail
    try rw [hsz]
    generalize hw1 : ((w.alloc (.cells _ 26)).alloc (.cells _ 26)) = w1 at *
    clear hsz hi hw1
    generalize hgT : w.heap.size + 1 = gT at *
    obtain ⟨gR, hgR⟩ : ∃ gR, gR = w.heap.size := ⟨_, rfl⟩
    rw [← hgR] at HR ⊢
    have HO := hid (show w.heap.size ≤ gR ∧ w.heap.size ≤ gT ∧ gR ≠ gT by omega)
    clear hgT hgR
    go_wp2_with fail
    go_loopw [5] (fun i wr => ∃ (n : Nat) (t : List UInt8), n ≤ 16 ∧ i = .int .i64 n ∧ Hid (Below w.heap.size w wr) ∧ Hid (Bt wr gR 26 z16) ∧ Hid (Bt wr gT 26 t) ∧ Hid (Qz s.data.toList n t)) (fun i _ => 16 - (intOf i).toNat)
    case atStart => exact ⟨0, z16, by decide, rfl, HB, HR, HT0, HQ0⟩
    case round =>
      clear HB HR HT0 HQ0
      obtain ⟨n, t, hn, rfl, HB, HR, HT, HQ⟩ := hrel
      by_cases hlt : n < 16
      · have HLT := hid hlt
        obtain ⟨n2, hn2⟩ : ∃ n2, n2 = n / 2 := ⟨_, rfl⟩
        obtain ⟨r, hr⟩ : ∃ r, r = n % 2 := ⟨_, rfl⟩
        obtain ⟨p, hp⟩ : ∃ p, p = plc n := ⟨_, rfl⟩
        obtain ⟨p1, hp1⟩ : ∃ p1, p1 = plc n + 1 := ⟨_, rfl⟩
        have hpe : p = 5 * n2 + 2 * r := by rw [hp, hn2, hr]; rfl
        have hx1 : ∀ W : World, (Instr.index 9 (.string s) (.int .i64 (p : Int))).run Tryd.prog W = .ok (bv (gb s.data.toList (plc n))) W := fun W => by rw [hp]; exact idx_str s (plc n) (by have := plc_lt n hlt; have := HLEN.out; omega) W
        have hx2 : ∀ W : World, (Instr.index 9 (.string s) (.int .i64 (p1 : Int))).run Tryd.prog W = .ok (bv (gb s.data.toList (plc n + 1))) W := fun W => by rw [hp1]; exact idx_str s (plc n + 1) (by have := plc_lt n hlt; have := HLEN.out; omega) W
        have f1 : (n : Int) / 2 = (n2 : Int) := by omega
        have f1b : Int.tdiv (n : Int) 2 = (n2 : Int) := by rw [Int.tdiv_eq_ediv_of_nonneg (by omega)]; exact f1
        have f2 : (n : Int) % 2 = (r : Int) := by omega
        have f2b : Int.tmod (n : Int) 2 = (r : Int) := by rw [Int.tmod_eq_emod_of_nonneg (by omega)]; exact f2
        have f3 : (5 : Int) * (n2 : Int) + 2 * (r : Int) = (p : Int) := by omega
        have f4 : (p : Int) + 1 = (p1 : Int) := by omega
        have v1 : IntKind.i64.wrap (n2 : Int) = (n2 : Int) := by rw [IntKind.wrap_i64]; omega
        have v2 : IntKind.i64.wrap (r : Int) = (r : Int) := by rw [IntKind.wrap_i64]; omega
        have v3 : IntKind.i64.wrap (5 * (n2 : Int)) = 5 * (n2 : Int) := by rw [IntKind.wrap_i64]; omega
        have v4 : IntKind.i64.wrap (2 * (r : Int)) = 2 * (r : Int) := by rw [IntKind.wrap_i64]; omega
        have v5 : IntKind.i64.wrap (p : Int) = (p : Int) := by have := plc_lt n hlt; rw [IntKind.wrap_i64]; omega
        have v6 : IntKind.i64.wrap (p1 : Int) = (p1 : Int) := by have := plc_lt n hlt; rw [IntKind.wrap_i64]; omega
        clear hn2 hr hpe hp hp1
        by_cases h1 : ∃ d, d < 16 ∧ gb s.data.toList (plc n) = hx d
        · by_cases h2 : ∃ d, d < 16 ∧ gb s.data.toList (plc n + 1) = hx d
          · obtain ⟨a, ha, ea⟩ := h1
            obtain ⟨b, hb, eb⟩ := h2
            have HA := hid ha
            have HBD := hid hb
            have HTBE := hid (show tb s.data.toList n = UInt8.ofNat (16 * a + b) by unfold tb; rw [ea, eb, dv8_hx ha, dv8_hx hb])
            rw [ea] at hx1
            rw [eb] at hx2
            obtain ⟨zz, hzz⟩ : ∃ zz, zz = 16 * a + b := ⟨_, rfl⟩
            have x1 : IntKind.i64.wrap (16 * (a : Int)) = 16 * (a : Int) := by rw [IntKind.wrap_i64]; omega
            have x2 : (16 : Int) * (a : Int) + (b : Int) = (zz : Int) := by omega
            have x3 : IntKind.i64.wrap (zz : Int) = (zz : Int) := by rw [IntKind.wrap_i64]; omega
            have x4 : IntKind.u8.wrap (zz : Int) = (zz : Int) := by rw [IntKind.wrap_u8]; omega
            have x5 : (zz : Int) % 256 = (zz : Int) := by omega
            have HX := hid (And.intro x1 (And.intro x2 (And.intro x3 (And.intro x4 x5))))
            rw [← hzz] at HTBE
            have HZZ := hid (show iv (UInt8.ofNat zz) = (zz : Int) from iv_of zz (by omega))
            clear x1 x2 x3 x4 x5 hzz ea eb ha hb hn
            go_wp2_with fail
            refine (digit_hit a HA.out wr).mono ?_
            rintro er wx ⟨rfl, rfl⟩
            go_wp2_with fail
            refine (digit_hit b HBD.out wr).mono ?_
            rintro er wx ⟨rfl, rfl⟩
            clear hx1 hx2 f1 f1b f2 f2b f3 f4 v1 v2 v3 v4 v5 v6
            have g1 := HX.out
            have hfz := HT.out.frozen n
            have hcl := HT.out.at_ n (by rw [HQ.out.1]; exact hlt)
            have hni : (n : Int) < 16 := by omega
            go_wp2
            go_roundw
            case rel =>
              have HTS := Bt.set HT.out n (UInt8.ofNat zz)
              have hzv : (Value.int .u8 (((UInt8.ofNat zz).toNat : Nat) : Int)) = .int .u8 (zz : Int) := by have := HZZ.out; unfold iv at this; rw [this]
              rw [hzv] at HTS
              refine ⟨n + 1, t.set n (UInt8.ofNat zz), HLT.out, by go_num, hid (HB.out.grown (grown_cell (i := n) (grown_of (Below.refl wr.heap.size wr) (some gT)) (.int .u8 (zz : Int))) HB.out.size (fun k (e : some gT = some k) => by injection e with e; have := HO.out.2.1; omega)), hid (Bt.other HR.out _ HO.out.2.2), hid HTS, hid ⟨by rw [List.length_set]; exact HQ.out.1, fun k hk => ?_⟩⟩
              rw [gb_set _ _ _ _ (by rw [HQ.out.1]; exact HLT.out), HQ.out.2 k hk]
              by_cases hkn : k = n
              · subst hkn; rw [if_pos rfl, if_pos (by omega), HTBE.out]
              · rw [if_neg hkn]
                by_cases hk2 : k < n
                · rw [if_pos hk2, if_pos (by omega)]
                · rw [if_neg hk2, if_neg (by omega)]
            case measure => have := HLT.out; simp [intOf]; omega
          · obtain ⟨a, ha, ea⟩ := h1
            have HA := hid ha
            have HNO := hid (show ∀ t, ¬ IsT s.data.toList t from fun t ht => by
              have hg := isT_good ht (plc n + 1) (by have := plc_lt n hlt; omega)
              unfold Gd at hg
              rw [if_neg (plc_digit n hlt).2] at hg
              exact h2 hg)
            have HM2 := hid (show ∀ k, k < 16 → hx k ≠ gb s.data.toList (plc n + 1) from fun k hk e => h2 ⟨k, hk, e.symm⟩)
            rw [ea] at hx1
            clear ha ea h2 hn
            go_wp2_with fail
            refine (digit_hit a HA.out wr).mono ?_
            rintro er wx ⟨rfl, rfl⟩
            go_wp2_with fail
            refine (digit_miss (gb s.data.toList (plc n + 1)) HM2.out wr).mono ?_
            rintro er wx ⟨rfl, rfl⟩
            clear hx1 hx2
            clear f1 f1b f2 f2b f3 f4 v1 v2 v3 v4 v5 v6
            go_upto_region 11 with fail
            have hst := st_tag (m := z16) HR.out z16_length z16_length
            rw [z16_lit] at hst
            have HB4 := hid (HB.out.grown (grown_srow (w := wr) gR (bvs z16).toArray) HB.out.size (fun k e => by injection e with e; have := HO.out.1; omega))
            have HR4 := hid (Bt.row (m := z16) HR.out)
            rw [z16_lit] at HB4 HR4
            go_wp2_with (((with_reducible refine isS 26 (.tmp 2) (.tmp 47) rfl ?_); refine wp_st (by kernel_rfl) 26 (.tmp 2) (.tmp 47) rfl _ _ rfl rfl hst ?_))
            refine bodyPost_ret (v := .tuple #[.agg (bvs z16).toArray, .int .i64 4]) (res_tag (p := 2) (u := 3) Tryd.results9 _ _ gR z16 _ rfl HR4.out z16_length rfl) rfl ⟨_, rfl, .inr ⟨HNO.out, rfl⟩, ?_⟩
            exact HB4.out
        · have HNO := hid (show ∀ t, ¬ IsT s.data.toList t from fun t ht => by
            have hg := isT_good ht (plc n) (by have := plc_lt n hlt; omega)
            unfold Gd at hg
            rw [if_neg (plc_digit n hlt).1] at hg
            exact h1 hg)
          have HM1 := hid (show ∀ k, k < 16 → hx k ≠ gb s.data.toList (plc n) from fun k hk e => h1 ⟨k, hk, e.symm⟩)
          by_cases h2 : ∃ d, d < 16 ∧ gb s.data.toList (plc n + 1) = hx d
          · obtain ⟨b, hb, eb⟩ := h2
            have HBD := hid hb
            rw [eb] at hx2
            clear hb eb h1 hn
            go_wp2_with fail
            refine (digit_miss (gb s.data.toList (plc n)) HM1.out wr).mono ?_
            rintro er wx ⟨rfl, rfl⟩
            go_wp2_with fail
            refine (digit_hit b HBD.out wr).mono ?_
            rintro er wx ⟨rfl, rfl⟩
            clear hx1 hx2
            clear f1 f1b f2 f2b f3 f4 v1 v2 v3 v4 v5 v6
            go_upto_region 11 with fail
            have hst := st_tag (m := z16) HR.out z16_length z16_length
            rw [z16_lit] at hst
            have HB4 := hid (HB.out.grown (grown_srow (w := wr) gR (bvs z16).toArray) HB.out.size (fun k e => by injection e with e; have := HO.out.1; omega))
            have HR4 := hid (Bt.row (m := z16) HR.out)
            rw [z16_lit] at HB4 HR4
            go_wp2_with (((with_reducible refine isS 26 (.tmp 2) (.tmp 47) rfl ?_); refine wp_st (by kernel_rfl) 26 (.tmp 2) (.tmp 47) rfl _ _ rfl rfl hst ?_))
            refine bodyPost_ret (v := .tuple #[.agg (bvs z16).toArray, .int .i64 4]) (res_tag (p := 2) (u := 3) Tryd.results9 _ _ gR z16 _ rfl HR4.out z16_length rfl) rfl ⟨_, rfl, .inr ⟨HNO.out, rfl⟩, ?_⟩
            exact HB4.out
          · have HM2 := hid (show ∀ k, k < 16 → hx k ≠ gb s.data.toList (plc n + 1) from fun k hk e => h2 ⟨k, hk, e.symm⟩)
            clear h1 h2 hn
            go_wp2_with fail
            refine (digit_miss (gb s.data.toList (plc n)) HM1.out wr).mono ?_
            rintro er wx ⟨rfl, rfl⟩
            go_wp2_with fail
            refine (digit_miss (gb s.data.toList (plc n + 1)) HM2.out wr).mono ?_
            rintro er wx ⟨rfl, rfl⟩
            clear hx1 hx2
            clear f1 f1b f2 f2b f3 f4 v1 v2 v3 v4 v5 v6
            go_upto_region 11 with fail
            have hst := st_tag (m := z16) HR.out z16_length z16_length
            rw [z16_lit] at hst
            have HB4 := hid (HB.out.grown (grown_srow (w := wr) gR (bvs z16).toArray) HB.out.size (fun k e => by injection e with e; have := HO.out.1; omega))
            have HR4 := hid (Bt.row (m := z16) HR.out)
            rw [z16_lit] at HB4 HR4
            go_wp2_with (((with_reducible refine isS 26 (.tmp 2) (.tmp 47) rfl ?_); refine wp_st (by kernel_rfl) 26 (.tmp 2) (.tmp 47) rfl _ _ rfl rfl hst ?_))
            refine bodyPost_ret (v := .tuple #[.agg (bvs z16).toArray, .int .i64 4]) (res_tag (p := 2) (u := 3) Tryd.results9 _ _ gR z16 _ rfl HR4.out z16_length rfl) rfl ⟨_, rfl, .inr ⟨HNO.out, rfl⟩, ?_⟩
            exact HB4.out
      · obtain rfl : n = 16 := by omega
        have hlt2 := ld_tag HT.out HQ.out.1
        clear hn
        go_upto_region 13 with fail
        go_wp2_with (((with_reducible refine isD 55 rfl ?_); refine wp_ld (by kernel_rfl) 26 (.tmp 4) rfl _ rfl _ hlt2 ?_))
        clear hlt2
        refine (rtext_ok t wr HQ.out.1).mono ?_
        rintro er wx ⟨rfl, hbx⟩
        have HB := hid (HB.out.trans (hbx.mono HB.out.size))
        have HR := hid (HR.out.on hbx)
        have HT := hid (HT.out.on hbx)
        clear hbx
        by_cases he : txt t = s.data.toList
        · have HIS := hid (show IsT s.data.toList t from ⟨HQ.out.1, he⟩)
          have hcmp : s.toList = txt t := by rw [ByteArray.toList_eq, he]
          have hlt2 := ld_tag HT.out HQ.out.1
          have hst := st_tag (m := t) HR.out z16_length HQ.out.1
          have HB4 := hid (HB.out.grown (grown_srow (w := wx) gR (bvs t).toArray) HB.out.size (fun k e => by injection e with e; have := HO.out.1; omega))
          have HR4 := hid (Bt.row (m := t) HR.out)
          clear he
          go_upto_region 15 with fail
          clear hcmp
          go_wp2_with (first | ((with_reducible refine isD 60 rfl ?_); refine wp_ld (by kernel_rfl) 26 (.tmp 4) rfl _ rfl _ hlt2 ?_) | ((with_reducible refine isS 26 (.tmp 2) (.tmp 60) rfl ?_); refine wp_st (by kernel_rfl) 26 (.tmp 2) (.tmp 60) rfl _ _ rfl rfl hst ?_))
          refine bodyPost_ret (v := .tuple #[.agg (bvs t).toArray, .int .i64 0]) (res_tag (p := 2) (u := 3) Tryd.results9 _ _ gR t _ rfl HR4.out HQ.out.1 rfl) rfl ⟨_, rfl, .inl ⟨t, HIS.out, rfl⟩, HB4.out⟩
        · have HNO := hid (show ∀ u, ¬ IsT s.data.toList u from fun u hu => he (by
            have e : t = u := eq_gb HQ.out.1 hu.1 (fun k hk => by rw [HQ.out.2 k hk, if_pos hk, isT_tb hu k hk])
            rw [e]; exact hu.2))
          have hcmp : ¬ txt t = s.toList := by rw [ByteArray.toList_eq]; exact he
          have hcmp2 : (txt t == s.toList) = false := by simpa using hcmp
          clear he
          go_upto_region 14 with fail
          clear hcmp hcmp2
          have hst := st_tag (m := z16) HR.out z16_length z16_length
          rw [z16_lit] at hst
          have HB4 := hid (HB.out.grown (grown_srow (w := wx) gR (bvs z16).toArray) HB.out.size (fun k e => by injection e with e; have := HO.out.1; omega))
          have HR4 := hid (Bt.row (m := z16) HR.out)
          rw [z16_lit] at HB4 HR4
          go_wp2_with (((with_reducible refine isS 26 (.tmp 2) (.tmp 59) rfl ?_); refine wp_st (by kernel_rfl) 26 (.tmp 2) (.tmp 59) rfl _ _ rfl rfl hst ?_))
          refine bodyPost_ret (v := .tuple #[.agg (bvs z16).toArray, .int .i64 4]) (res_tag (p := 2) (u := 3) Tryd.results9 _ _ gR z16 _ rfl HR4.out z16_length rfl) rfl ⟨_, rfl, .inr ⟨HNO.out, rfl⟩, ?_⟩
          exact HB4.out
  · have HNO := hid (show ∀ t, ¬ IsT s.data.toList t from fun t ht => hlen (HSZ.out.symm.trans (isT_len ht)))
    have hi : ¬ (s.size : Int) = 39 := by omega
    have hb : ((s.size : Int) == 39) = false := by simpa using hi
    rw [z16_lit] at HB1
    have HB := HB1
    have HR : Hid (Bt (w.alloc (.cells #[.int .u8 0, .int .u8 0, .int .u8 0, .int .u8 0, .int .u8 0, .int .u8 0, .int .u8 0, .int .u8 0, .int .u8 0, .int .u8 0, .int .u8 0, .int .u8 0, .int .u8 0, .int .u8 0, .int .u8 0, .int .u8 0] 26)) w.heap.size 26 z16) := HX1
    clear HB1 HX1 HS1
    go_enter Tryd.func9, Tryd.ntmps9
    go_upto_region 2 with fail
    clear hlen hi hb
    generalize hw1 : (w.alloc (.cells _ 26)) = w1 at *
    obtain ⟨gR, hgR⟩ : ∃ gR, gR = w.heap.size := ⟨_, rfl⟩
    rw [← hgR] at HR ⊢
    have HO : Hid (w.heap.size ≤ gR ∧ True) := hid ⟨by omega, trivial⟩
    clear hgR
    have hst := st_tag (m := z16) HR.out z16_length z16_length
    rw [z16_lit] at hst
    have HB4 := hid (HB.out.grown (grown_srow (w := w1) gR (bvs z16).toArray) HB.out.size (fun k e => by injection e with e; have := HO.out.1; omega))
    have HR4 := hid (Bt.row (m := z16) HR.out)
    rw [z16_lit] at HB4 HR4
    go_wp2_with (((with_reducible refine isS 26 (.tmp 2) (.tmp 14) rfl ?_); refine wp_st (by kernel_rfl) 26 (.tmp 2) (.tmp 14) rfl _ _ rfl rfl hst ?_))
    refine bodyPost_ret (v := .tuple #[.agg (bvs z16).toArray, .int .i64 4]) (res_tag (p := 2) (u := 3) Tryd.results9 _ _ gR z16 _ rfl HR4.out z16_length rfl) rfl ⟨_, rfl, .inr ⟨HNO.out, rfl⟩, ?_⟩
    exact HB4.out

end Go.Proofs.YtgmnpkgnedngjaaDoor
namespace Go.Proofs.YtgmnpkgnedngjaaDoor
open Go.RowKit
set_option linter.unusedVariables false
set_option linter.unusedSimpArgs false

/-- the sum of a key, as tag -/
def ksum (n0 n1 n2 n3 : Nat) : List UInt8 := sha (spelt [116, 97, 103] 1 (fun _ => nb n0 n1 n2 n3) 1)
theorem ksum_length (n0 n1 n2 n3 : Nat) : (ksum n0 n1 n2 n3).length = 32 := sha_length _
/-- how each tag begins -/
def hd16 : List UInt8 := [32, 1, 0, 33, 0, 0, 0, 0, 0, 0, 0, 0, 0, 0, 0, 0]
theorem hd16_lit : (bvs hd16).toArray = #[.int .u8 32, .int .u8 1, .int .u8 0, .int .u8 33, .int .u8 0, .int .u8 0, .int .u8 0, .int .u8 0, .int .u8 0, .int .u8 0, .int .u8 0, .int .u8 0, .int .u8 0, .int .u8 0, .int .u8 0, .int .u8 0] := rfl
theorem hd16_length : hd16.length = 16 := rfl
/-- the tag that goes with a sum -/
def tago (S : List UInt8) : List UInt8 := [32, 1, 0, 33] ++ (S.drop 10).take 12
theorem tago_length (S : List UInt8) (h : S.length = 32) : (tago S).length = 16 := by simp [tago, h]
theorem tago_copy (S : List UInt8) : hd16.take 4 ++ (S.drop 10).take 12 ++ hd16.drop 16 = tago S := by simp [hd16, tago]
theorem tago_head (S : List UInt8) : gb (tago S) 0 = 32 ∧ gb (tago S) 1 = 1 ∧ gb (tago S) 2 = 0 ∧ gb (tago S) 3 = 33 := ⟨rfl, rfl, rfl, rfl⟩
theorem tago_at (S : List UInt8) (h : S.length = 32) (k : Nat) (h1 : 4 ≤ k) (h2 : k < 16) : gb (tago S) k = gb S (k + 6) := by
  unfold gb tago
  rw [List.getD_eq_getElem?_getD, List.getD_eq_getElem?_getD, List.getElem?_append_right (by simpa using h1), List.getElem?_take, if_pos (by simp; omega), List.getElem?_drop]
  congr 2; simp; omega
theorem sl16f (g : Nat) (w : World) : (Instr.sliceAt 26 (.pointer (some ⟨g, 0, none⟩)) (some (.int .i64 4)) none none).run Tryd.prog w = .ok (.slice (some ⟨g, 4, none⟩) 12 12) w := by
  have hl : Tryd.prog.arrayLen 26 = 16 := by kernel_rfl
  have h5 : Tryd.prog.elem 26 = 5 := by kernel_rfl
  rw [run_sliceAt_array_l (P := Tryd.prog) w 26 ⟨g, 0, none⟩ (by rw [hl, h5]; exact Tryd.underlying26) .i64 4 (by decide) (by rw [hl]; decide)]
  have hs : (sizeOf 5).run Tryd.prog w = .ok 1 w := by kernel_rfl
  rw [h5, hs, hl]
  simp [Result.andThen, slicedAt, Addr.add]
theorem sl32f (g : Nat) (w : World) : (Instr.sliceAt 40 (.pointer (some ⟨g, 0, none⟩)) (some (.int .i64 10)) none none).run Tryd.prog w = .ok (.slice (some ⟨g, 10, none⟩) 22 22) w := by
  have hl : Tryd.prog.arrayLen 40 = 32 := by kernel_rfl
  have h5 : Tryd.prog.elem 40 = 5 := by kernel_rfl
  rw [run_sliceAt_array_l (P := Tryd.prog) w 40 ⟨g, 0, none⟩ (by rw [hl, h5]; exact Tryd.underlying40) .i64 10 (by decide) (by rw [hl]; decide)]
  have hs : (sizeOf 5).run Tryd.prog w = .ok 1 w := by kernel_rfl
  rw [h5, hs, hl]
  simp [Result.andThen, slicedAt, Addr.add]
theorem rd_off {w : World} {g t : Nat} {b : List UInt8} (h : Bt w g t b) (o : Nat) : Rd w (some ⟨g, o, none⟩) (b.drop o) := by
  intro hp
  have hp' : o < b.length := by simp at hp; omega
  refine ⟨g, o, rfl, h.lt, fun j hj => ?_⟩
  have hj' : o + j < b.length := by simp at hj; omega
  rw [h.cell (o + j) hj']; simp
theorem step_cp {ops : Array Oper} {o : Oper} {a : Act} {w : World} {K : Act → World → Prop} {Q : Exit → Act → World → Prop} {E : Prop} (hgd : o.guard = none) (d s : Operand)
    (ho : o.op = .call { callee := .builtin .copy, args := #[d, s], argTypes := #[37, 37] }) (hty : o.type = 3) (vd vs : Value) (hd : a.eval d = vd) (hs : a.eval s = vs) (v' : Value) (w' : World)
    (hrun : (Builtin.copy_ #[37, 37] 3 #[vd, vs]).run Tryd.prog w = .ok v' w') (h : K (a.put o.dst v') w') :
    if Region.wanted o (yielded ops a.tmps) = true then Oper.wp Tryd.prog o a w K Q else E := by
  have hw : Region.wanted o (yielded ops a.tmps) = true := by simp [Region.wanted, hgd]
  rw [if_pos hw]
  unfold Oper.wp
  simp [execOp, ho, hty, resolve, invoke, builtin, hd, hs, hrun, Result.andThen]
  exact h
theorem bt_drew {w : World} {g : Nat} {t : TypeId} {b : List UInt8} (h : Bt w g t b) : Bt w.drew g t b := h
theorem ho16 (b : List UInt8) (h : b.length = 16) : Hid ((#[.int .u8 0, .int .u8 0, .int .u8 0, .int .u8 0, .int .u8 0, .int .u8 0, .int .u8 0, .int .u8 0, .int .u8 0, .int .u8 0, .int .u8 0, .int .u8 0, .int .u8 0, .int .u8 0, .int .u8 0, .int .u8 0] : Array Value).size = (bvs b).toArray.size) := by rw [bvs_size, h]; exact hid rfl
theorem hi16 (b : List UInt8) (h : b.length = 16) : Hid ((Tryd.prog.info? 26).map (·.size) = some (bvs b).toArray.size) := by rw [bvs_size, h]; exact hid (by kernel_rfl)
theorem bt_new (w : World) (t : TypeId) (b : List UInt8) : Bt (w.alloc (.cells (bvs b).toArray t)) w.heap.size t b := heap_alloc_new w _
theorem below_new (w : World) (o : Obj) : Below w.heap.size w (w.alloc o) := (Below.refl _ _).alloc (Nat.le_refl _) _
/-- the sum of a key, by the program -/
theorem key_as (w : World) (gb l c n0 n1 n2 n3 : Nat) (A : Option Addr) (h : w.heap[gb]? = some (.cells #[.slice A l c] 37 (0, 0))) (hr : Rd w A (nb n0 n1 n2 n3)) (hl : (nb n0 n1 n2 n3).length = l) (hc : l ≤ c) (hm : c ≤ 9223372036854775807) (hA : A = none → c = 0) (hK : Kt w) :
    Calls Tryd.prog 16 #[.string ⟨#[116, 97, 103]⟩, .slice (some ⟨gb, 0, none⟩) 1 1] w fun e w' => e = .returned (.agg (bvs (ksum n0 n1 n2 n3)).toArray) ∧ Below w.heap.size w w' :=
  as_any ⟨#[116, 97, 103]⟩ (some ⟨gb, 0, none⟩) 1 1 _ _ _ _ w (rws_one h hr hl hc hm hA) hK (by decide) (fun r hr => by rw [nb_length] at hl; show l ≤ _; omega) (by decide)
/-- .. by the document -/
theorem rkey_as (w : World) (gb l c n0 n1 n2 n3 : Nat) (A : Option Addr) (h : w.heap[gb]? = some (.cells #[.slice A l c] 37 (0, 0))) (hr : Rd w A (nb n0 n1 n2 n3)) (hl : (nb n0 n1 n2 n3).length = l) (hc : l ≤ c) (hm : c ≤ 9223372036854775807) (hA : A = none → c = 0) :
    Calls Tryd.prog 20 #[.string ⟨#[116, 97, 103]⟩, .slice (some ⟨gb, 0, none⟩) 1 1] w fun e w' => e = .returned (.agg (bvs (ksum n0 n1 n2 n3)).toArray) ∧ Below w.heap.size w w' :=
  refAs_any ⟨#[116, 97, 103]⟩ (some ⟨gb, 0, none⟩) 1 1 _ _ _ _ w (rws_one h hr hl hc hm hA) (by decide) (fun r hr => by rw [nb_length] at hl; show l ≤ _; omega) (by decide)
set_option maxRecDepth 100000 in
set_option maxHeartbeats 4000000 in
theorem tagof_any (n0 n1 n2 n3 : Nat) (w : World) (h0 : n0 < 18446744073709551616) (h1 : n1 < 18446744073709551616) (h2 : n2 < 18446744073709551616) (h3 : n3 < 18446744073709551616) (hk : Kt w) :
    Calls Tryd.prog 10 #[.agg #[.int .u64 (n0 : Int), .int .u64 (n1 : Int), .int .u64 (n2 : Int), .int .u64 (n3 : Int)]] w fun e w' => e = .returned (.agg (bvs (tago (ksum n0 n1 n2 n3))).toArray) ∧ Below w.heap.size w w' := by
  have H0 := hid h0
  have H1 := hid h1
  have H2 := hid h2
  have H3 := hid h3
  have HKT := hid hk
  have a1 := below_new w (.cells #[.int .u64 (n0 : Int), .int .u64 (n1 : Int), .int .u64 (n2 : Int), .int .u64 (n3 : Int)] 24)
  have s1 := al_size w (.cells #[.int .u64 (n0 : Int), .int .u64 (n1 : Int), .int .u64 (n2 : Int), .int .u64 (n3 : Int)] 24)
  have b1 := heap_alloc_new w (.cells #[.int .u64 (n0 : Int), .int .u64 (n1 : Int), .int .u64 (n2 : Int), .int .u64 (n3 : Int)] 24)
  generalize hw1 : w.alloc (.cells #[.int .u64 (n0 : Int), .int .u64 (n1 : Int), .int .u64 (n2 : Int), .int .u64 (n3 : Int)] 24) = w1 at *
  have a2 := below_new w1 (.cells (bvs z16).toArray 26)
  have b2 := bt_new w1 26 z16
  have HB := hid (a1.trans (a2.mono a1.size))
  have FN : Hid (Nb (w1.alloc (.cells (bvs z16).toArray 26)) w.heap.size n0 n1 n2 n3) := hid (Nb.on (show Nb w1 w.heap.size n0 n1 n2 n3 from b1) a2)
  have FR := hid b2
  have hgR : w.heap.size ≤ w1.heap.size := a1.size
  rw [z16_lit] at HB FN FR
  rw [s1] at FR hgR
  clear h0 h1 h2 h3 hk a1 a2 b1 b2
  go_enter Tryd.func10, Tryd.ntmps10
  go_upto_region 1 with fail
  try rw [hw1]
  generalize w.heap.size + 1 = gR at *
  have HGR := hid hgR
  generalize (w1.alloc (.cells _ 26)) = w2 at *
  have hln := ld_num FN.out
  clear hw1 s1 hgR
  go_wp2_with ((with_reducible refine isD 5 rfl ?_); refine wp_ld (by kernel_rfl) 24 (.tmp 1) rfl _ rfl _ hln ?_)
  clear hln
  refine (putLong_any none 0 n0 n1 n2 n3 [] w2 (Rd.nil _ _) (by simp) H0.out H1.out H2.out H3.out).mono ?_
  rintro e w3 ⟨rfl, hrw, hb⟩
  simp only [List.nil_append, List.length_nil, Nat.zero_add] at hrw ⊢
  have HRW := hid (show Bt w3 (w2.heap.size + 1) 5 (nb n0 n1 n2 n3) from hrw)
  have FR := hid (FR.out.on hb)
  have HB := hid (HB.out.trans (hb.mono HB.out.size))
  clear hrw hb FN
  generalize w2.heap.size + 1 = gp at *
  go_wp2_with fail
  have hb := below_new w3 (.cells #[.slice (some ⟨gp, 0, none⟩) 32 32] 37)
  have hx := heap_alloc_new w3 (.cells #[.slice (some ⟨gp, 0, none⟩) 32 32] 37)
  have FR := hid (FR.out.on hb)
  have HRW := hid (HRW.out.on hb)
  have HB := hid (HB.out.trans (hb.mono HB.out.size))
  clear hb
  generalize w3.alloc (.cells #[.slice (some ⟨gp, 0, none⟩) 32 32] 37) = w4 at *
  generalize w3.heap.size = gq at *
  refine (key_as w4 gq 32 32 n0 n1 n2 n3 (some ⟨gp, 0, none⟩) hx (bt_rd HRW.out) (nb_length _ _ _ _) (by decide) (by decide) (fun h => by cases h) (HKT.out.on HB.out)).mono ?_
  rintro e w5 ⟨rfl, hb⟩
  have FR := hid (FR.out.on hb)
  have HB := hid (HB.out.trans (hb.mono HB.out.size))
  have HSL := hid (ksum_length n0 n1 n2 n3)
  clear hb hx HRW
  generalize hSS : ksum n0 n1 n2 n3 = SS at *
  have HSE := hid hSS
  clear hSS
  have hb := below_new w5 (.cells (bvs SS).toArray 40)
  have FSm := hid (bt_new w5 40 SS)
  have HGS := hid (show gR ≠ w5.heap.size from Nat.ne_of_lt FR.out.lt)
  have FR := hid (FR.out.on hb)
  have HB := hid (HB.out.trans (hb.mono HB.out.size))
  have hi := (hi44 SS HSL.out).out
  have ho := (ho32 SS HSL.out).out
  clear hb
  go_upto_region 2 with (refine wpList_store_row rfl 40 (.tmp 3) (.tmp 8) rfl w5.heap.size (bvs SS).toArray rfl rfl 40 _ (heap_alloc_new _ _) hi ho (bvs_all SS) ?_; rw [World.setRow_alloc_new])
  clear hi ho
  generalize w5.alloc (.cells (bvs SS).toArray 40) = w6 at *
  generalize w5.heap.size = gS at *
  have hb := below_new w6 (.cells (bvs hd16).toArray 26)
  have FT := hid (bt_new w6 26 hd16)
  have HGT := hid (show gR ≠ w6.heap.size from Nat.ne_of_lt FR.out.lt)
  have HWT := hid (show w.heap.size ≤ w6.heap.size from HB.out.size)
  have FR := hid (FR.out.on hb)
  have FSm := hid (FSm.out.on hb)
  have HB := hid (HB.out.trans (hb.mono HB.out.size))
  have hi := (hi16 hd16 hd16_length).out
  have ho := (ho16 hd16 hd16_length).out
  clear hb
  go_upto_region 3 with ((with_reducible refine isS 26 (.tmp 4) (.tmp 9) rfl ?_); refine wpList_store_row rfl 26 (.tmp 4) (.tmp 9) rfl w6.heap.size (bvs hd16).toArray rfl rfl 26 _ (heap_alloc_new _ _) hi ho (bvs_all hd16) ?_; rw [World.setRow_alloc_new])
  clear hi ho
  generalize w6.alloc (.cells (bvs hd16).toArray 26) = w7 at *
  generalize w6.heap.size = gT at *
  have HO := hid (And.intro HGR.out (And.intro HWT.out HGT.out))
  refine wp_region_noPanic ?_
  refine Goes.region (fun (_ : Array Bool) (u : World) => Below w.heap.size w u) (by as_aux_lemma => kernel_rfl) ?_
  have HB := hid HB.out.drew
  have FR := hid (bt_drew FR.out)
  have FT := hid (bt_drew FT.out)
  have FSm := hid (bt_drew FSm.out)
  generalize w7.drew = w7d at *
  refine Goes.tk (i := 0) (o := ⟨some 10, _, _, _, _, _⟩) (v := ?_) [] (y := Or.inl ⟨by rfl, ?_⟩) (s := HB.out) (H := ?_)
  rotate_left
  · intro u hY; have hs0 := sl16f gT; go_simp; try with_reducible rfl
  try simp only [putz]
  refine Goes.tk (i := 1) (o := ⟨some 11, _, _, _, _, _⟩) (v := ?_) [] (y := Or.inl ⟨by rfl, ?_⟩) (s := HB.out) (H := ?_)
  rotate_left
  · intro u hY; have hs1 := sl32f gS; go_simp; try with_reducible rfl
  try simp only [putz]
  refine Goes.one (i := 2) (o := ⟨some 12, _, _, _, _, _⟩) (by as_aux_lemma => kernel_rfl) rfl (fun K hK => ?_)
  obtain ⟨w8, hrun, h6, hg6⟩ := run_copy_at w7d gT 26 hd16 (SS.drop 10) (some ⟨gS, 10, none⟩) 4 12 12 22 22 12 FT.out (rd_off FSm.out 10) (by rw [List.length_drop, HSL.out]) rfl (by decide) (by decide)
  rw [tago_copy] at h6
  have HB6 := hid (HB.out.grown hg6 HB.out.size (fun k (e : some gT = some k) => by injection e with e; have := HO.out.2.1; omega))
  have FR6 := hid (show Bt w8 gR 26 z16 from (hg6.block gR FR.out.lt (by intro e; injection e with e; exact HO.out.2.2 e)).trans FR.out)
  have FT6 := hid h6
  refine step_cp rfl (.tmp 10) (.tmp 11) rfl rfl _ _ rfl rfl _ w8 hrun ?_
  refine hK.out _ _ HB6.out ?_
  clear hK K hrun h6 hg6 HB FR FT FSm
  have HB := HB6
  try simp only [putz]
  refine Goes.done (by as_aux_lemma => kernel_rfl) ?_ _
  refine NoPanic.normal ?_
  have hlt := ld_tag FT6.out (tago_length SS HSL.out)
  have hst := st_tag (m := tago SS) FR6.out z16_length (tago_length SS HSL.out)
  have HB4 := hid (HB.out.grown (grown_srow (w := w8) gR (bvs (tago SS)).toArray) HB.out.size (fun k e => by injection e with e; have := HO.out.1; omega))
  have HR4 := hid (Bt.row (m := tago SS) FR6.out)
  have HTL := hid (tago_length SS HSL.out)
  go_wp2_with (first | ((with_reducible refine isD 13 rfl ?_); refine wp_ld (by kernel_rfl) 26 (.tmp 4) rfl _ rfl _ hlt ?_) | ((with_reducible refine isS 26 (.tmp 2) (.tmp 13) rfl ?_); refine wp_st (by kernel_rfl) 26 (.tmp 2) (.tmp 13) rfl _ _ rfl rfl hst ?_))
  exact bodyPost_ret (v := .agg (bvs (tago SS)).toArray) (results_cell_row (p := 2) Tryd.results10 _ _ gR 26 (bvs (tago SS)).toArray (0, 0) _ rfl HR4.out Tryd.underlying26 rfl (by rw [bvs_size, HTL.out]; kernel_rfl)) rfl ⟨by rw [HSE.out], HB4.out⟩
/-- the tag as it is put together, byte by byte -/
def tgs (S : List UInt8) (n : Nat) : List UInt8 := [32, 1, 0, 33] ++ (S.drop 10).take n ++ List.replicate (12 - n) 0
theorem tgs_none (S : List UInt8) : tgs S 0 = hd16 := by simp [tgs]; rfl
theorem tgs_all (S : List UInt8) : tgs S 12 = tago S := by simp [tgs, tago]
theorem tgs_length (S : List UInt8) (n : Nat) (h : S.length = 32) (hn : n ≤ 12) : (tgs S n).length = 16 := by simp [tgs, h]; omega
theorem tgs_step (S : List UInt8) (n : Nat) (h : S.length = 32) (hn : n < 12) : (tgs S n).set (4 + n) (gb S (10 + n)) = tgs S (n + 1) := by
  unfold tgs
  have hd : n < (S.drop 10).length := by simp [h]; omega
  have e1 : (S.drop 10).take (n + 1) = (S.drop 10).take n ++ [gb S (10 + n)] := by
    rw [List.take_succ_eq_append_getElem hd, gb_lt (show 10 + n < S.length by omega)]; simp
  have e2 : List.replicate (12 - n) (0 : UInt8) = 0 :: List.replicate (12 - (n + 1)) 0 := by
    rw [show 12 - n = (12 - (n + 1)) + 1 by omega, List.replicate_succ]
  have hl : ([32, 1, 0, 33] ++ (S.drop 10).take n : List UInt8).length = 4 + n := by simp [h]; omega
  rw [List.set_append_right _ _ (by rw [hl]; omega), hl, Nat.sub_self, e2, List.set_cons_zero, e1]; simp
set_option maxRecDepth 100000 in
set_option maxHeartbeats 4000000 in
theorem rtagof_any (n0 n1 n2 n3 : Nat) (w : World) (h0 : n0 < 18446744073709551616) (h1 : n1 < 18446744073709551616) (h2 : n2 < 18446744073709551616) (h3 : n3 < 18446744073709551616) :
    Calls Tryd.prog 11 #[.agg #[.int .u64 (n0 : Int), .int .u64 (n1 : Int), .int .u64 (n2 : Int), .int .u64 (n3 : Int)]] w fun e w' => e = .returned (.agg (bvs (tago (ksum n0 n1 n2 n3))).toArray) ∧ Below w.heap.size w w' := by
  have H0 := hid h0
  have H1 := hid h1
  have H2 := hid h2
  have H3 := hid h3
  have a1 := below_new w (.cells #[.int .u64 (n0 : Int), .int .u64 (n1 : Int), .int .u64 (n2 : Int), .int .u64 (n3 : Int)] 24)
  have s1 := al_size w (.cells #[.int .u64 (n0 : Int), .int .u64 (n1 : Int), .int .u64 (n2 : Int), .int .u64 (n3 : Int)] 24)
  have b1 := heap_alloc_new w (.cells #[.int .u64 (n0 : Int), .int .u64 (n1 : Int), .int .u64 (n2 : Int), .int .u64 (n3 : Int)] 24)
  generalize hw1 : w.alloc (.cells #[.int .u64 (n0 : Int), .int .u64 (n1 : Int), .int .u64 (n2 : Int), .int .u64 (n3 : Int)] 24) = w1 at *
  have a2 := below_new w1 (.cells (bvs z16).toArray 26)
  have b2 := bt_new w1 26 z16
  have HB := hid (a1.trans (a2.mono a1.size))
  have FN : Hid (Nb (w1.alloc (.cells (bvs z16).toArray 26)) w.heap.size n0 n1 n2 n3) := hid (Nb.on (show Nb w1 w.heap.size n0 n1 n2 n3 from b1) a2)
  have FR := hid b2
  have hgR : w.heap.size ≤ w1.heap.size := a1.size
  rw [z16_lit] at HB FN FR
  rw [s1] at FR hgR
  clear h0 h1 h2 h3 a1 a2 b1 b2
  go_enter Tryd.func11, Tryd.ntmps11
  go_upto_region 1 with fail
  try rw [hw1]
  generalize w.heap.size + 1 = gR at *
  have HGR := hid hgR
  generalize (w1.alloc (.cells _ 26)) = w2 at *
  have hln := ld_num FN.out
  clear hw1 s1 hgR
  go_wp2_with ((with_reducible refine isD 6 rfl ?_); refine wp_ld (by kernel_rfl) 24 (.tmp 1) rfl _ rfl _ hln ?_)
  clear hln
  refine (rputLong_any none 0 n0 n1 n2 n3 [] w2 (Rd.nil _ _) (fun _ => rfl) (by simp) H0.out H1.out H2.out H3.out).mono ?_
  rintro e w3 ⟨v, rfl, how, hb⟩
  simp only [List.nil_append] at how
  obtain ⟨A1, c1, rfl, hq1, hm1, hr1, ha1⟩ := how.form
  have hrr : Rd w3 A1 (nb n0 n1 n2 n3) := hr1
  have HRW := hid hrr
  rw [be_length] at hq1 ⊢
  have HQ1 := hid hq1
  have HM1 := hid hm1
  have HA1 := hid ha1
  have FR := hid (FR.out.on hb)
  have HB := hid (HB.out.trans (hb.mono HB.out.size))
  clear how hb FN hr1 hrr hq1 hm1 ha1
  go_wp2_with fail
  have hb := below_new w3 (.cells #[.slice A1 32 c1] 37)
  have hx := heap_alloc_new w3 (.cells #[.slice A1 32 c1] 37)
  have FR := hid (FR.out.on hb)
  have HRW := hid (HRW.out.below hb (Nat.le_refl _))
  have HB := hid (HB.out.trans (hb.mono HB.out.size))
  clear hb
  generalize w3.alloc (.cells #[.slice A1 32 c1] 37) = w4 at *
  generalize w3.heap.size = gq at *
  refine (rkey_as w4 gq 32 c1 n0 n1 n2 n3 A1 hx HRW.out (nb_length _ _ _ _) HQ1.out HM1.out HA1.out).mono ?_
  rintro e w5 ⟨rfl, hb⟩
  have FR := hid (FR.out.on hb)
  have HB := hid (HB.out.trans (hb.mono HB.out.size))
  have HSL := hid (ksum_length n0 n1 n2 n3)
  clear hb hx HRW
  generalize hSS : ksum n0 n1 n2 n3 = SS at *
  have HSE := hid hSS
  clear hSS
  have hb := below_new w5 (.cells (bvs SS).toArray 40)
  have FSm := hid (bt_new w5 40 SS)
  have HGS := hid (show gR ≠ w5.heap.size from Nat.ne_of_lt FR.out.lt)
  have FR := hid (FR.out.on hb)
  have HB := hid (HB.out.trans (hb.mono HB.out.size))
  have hi := (hi44 SS HSL.out).out
  have ho := (ho32 SS HSL.out).out
  clear hb
  go_upto_region 2 with (refine wpList_store_row rfl 40 (.tmp 3) (.tmp 9) rfl w5.heap.size (bvs SS).toArray rfl rfl 40 _ (heap_alloc_new _ _) hi ho (bvs_all SS) ?_; rw [World.setRow_alloc_new])
  clear hi ho
  generalize w5.alloc (.cells (bvs SS).toArray 40) = w6 at *
  generalize w5.heap.size = gS at *
  have hb := below_new w6 (.cells (bvs hd16).toArray 26)
  have FT := hid (bt_new w6 26 hd16)
  have HGT := hid (show gR ≠ w6.heap.size from Nat.ne_of_lt FR.out.lt)
  have HST := hid (show gS ≠ w6.heap.size from Nat.ne_of_lt FSm.out.lt)
  have HWT := hid (show w.heap.size ≤ w6.heap.size from HB.out.size)
  have FR := hid (FR.out.on hb)
  have FSm := hid (FSm.out.on hb)
  have HB := hid (HB.out.trans (hb.mono HB.out.size))
  have hi := (hi16 hd16 hd16_length).out
  have ho := (ho16 hd16 hd16_length).out
  clear hb
  go_upto_region 3 with ((with_reducible refine isS 26 (.tmp 4) (.tmp 10) rfl ?_); refine wpList_store_row rfl 26 (.tmp 4) (.tmp 10) rfl w6.heap.size (bvs hd16).toArray rfl rfl 26 _ (heap_alloc_new _ _) hi ho (bvs_all hd16) ?_; rw [World.setRow_alloc_new])
  clear hi ho
  generalize w6.alloc (.cells (bvs hd16).toArray 26) = w7 at *
  generalize w6.heap.size = gT at *
  have HO := hid (And.intro HGR.out (And.intro HWT.out (And.intro HGT.out HST.out)))
  have FT : Hid (Bt w7 gT 26 (tgs SS 0)) := hid (by rw [tgs_none]; exact FT.out)
  go_wp2_with fail
  go_loopw [5] (fun i wr => ∃ n : Nat, n ≤ 12 ∧ i = .int .i64 n ∧ Hid (Below w.heap.size w wr) ∧ Hid (Bt wr gR 26 z16) ∧ Hid (Bt wr gS 40 SS) ∧ Hid (Bt wr gT 26 (tgs SS n))) (fun i _ => 12 - (intOf i).toNat)
  case atStart => exact ⟨0, by decide, rfl, HB, FR, FSm, FT⟩
  case round =>
    clear HB FR FSm FT
    obtain ⟨n, hn, rfl, HB, FR, FSm, FT⟩ := hrel
    by_cases hlt : n < 12
    · have HLT := hid hlt
      obtain ⟨p, hp⟩ : ∃ p, p = 4 + n := ⟨_, rfl⟩
      obtain ⟨q, hq⟩ : ∃ q, q = 10 + n := ⟨_, rfl⟩
      have f1 : (4 : Int) + (n : Int) = (p : Int) := by omega
      have f2 : (10 : Int) + (n : Int) = (q : Int) := by omega
      have v1 : IntKind.i64.wrap (p : Int) = (p : Int) := by rw [IntKind.wrap_i64]; omega
      have v2 : IntKind.i64.wrap (q : Int) = (q : Int) := by rw [IntKind.wrap_i64]; omega
      have b1 : (p : Int) < 16 := by omega
      have b2 : (q : Int) < 32 := by omega
      have hcl := FSm.out.at_ q (by rw [HSL.out]; omega)
      have hfz := FT.out.frozen p
      have hct := FT.out.at_ p (by rw [tgs_length SS n HSL.out (by omega)]; omega)
      have HST2 := hid (show (tgs SS n).set p (gb SS q) = tgs SS (n + 1) by rw [hp, hq]; exact tgs_step SS n HSL.out hlt)
      clear hp hq
      go_wp2
      go_roundw
      case rel =>
        have HTS := Bt.set FT.out p (gb SS q)
        rw [HST2.out] at HTS
        exact ⟨n + 1, HLT.out, by go_num, hid (HB.out.grown (grown_cell (i := p) (grown_of (Below.refl wr.heap.size wr) (some gT)) (bv (gb SS q))) HB.out.size (fun k (e : some gT = some k) => by injection e with e; have := HO.out.2.1; omega)), hid (Bt.other FR.out _ HO.out.2.2.1), hid (Bt.other FSm.out _ HO.out.2.2.2), hid HTS⟩
      case measure => have := HLT.out; simp [intOf]; omega
    · obtain rfl : n = 12 := by omega
      rw [tgs_all] at FT
      have hlt := ld_tag FT.out (tago_length SS HSL.out)
      have hst := st_tag (m := tago SS) FR.out z16_length (tago_length SS HSL.out)
      have HB4 := hid (HB.out.grown (grown_srow (w := wr) gR (bvs (tago SS)).toArray) HB.out.size (fun k e => by injection e with e; have := HO.out.1; omega))
      have HR4 := hid (Bt.row (m := tago SS) FR.out)
      have HTL := hid (tago_length SS HSL.out)
      go_upto_region 7 with fail
      go_wp2_with (first | ((with_reducible refine isD 22 rfl ?_); refine wp_ld (by kernel_rfl) 26 (.tmp 4) rfl _ rfl _ hlt ?_) | ((with_reducible refine isS 26 (.tmp 2) (.tmp 22) rfl ?_); refine wp_st (by kernel_rfl) 26 (.tmp 2) (.tmp 22) rfl _ _ rfl rfl hst ?_))
      exact bodyPost_ret (v := .agg (bvs (tago SS)).toArray) (results_cell_row (p := 2) Tryd.results11 _ _ gR 26 (bvs (tago SS)).toArray (0, 0) _ rfl HR4.out Tryd.underlying26 rfl (by rw [bvs_size, HTL.out]; kernel_rfl)) rfl ⟨by rw [HSE.out], HB4.out⟩

end Go.Proofs.YtgmnpkgnedngjaaDoor
namespace Go.Proofs.YtgmnpkgnedngjaaDoor
open Go.RowKit
set_option linter.unusedVariables false
set_option linter.unusedSimpArgs false

theorem parse_hit (t : List UInt8) (ht : t.length = 16) (w : World) (hd : Dg w) : Calls Tryd.prog 8 #[sv (txt t)] w fun e w' => e = .returned (.tuple #[.agg (bvs t).toArray, .int .i64 0]) ∧ Below w.heap.size w w' := by
  refine (parse_any ⟨(txt t).toArray⟩ w hd).mono ?_
  rintro e w' ⟨v, rfl, hp, hb⟩
  rcases hp with ⟨u, hu, rfl⟩ | ⟨hn, _⟩
  · have e2 : t = u := IsT.one (s := txt t) ⟨ht, rfl⟩ (by simpa using hu)
    exact ⟨by rw [e2], hb⟩
  · exact absurd (show IsT (⟨(txt t).toArray⟩ : ByteArray).data.toList t from ⟨ht, by simp⟩) (hn t)
theorem parse_miss (s : ByteArray) (hs : ∀ t, ¬ IsT s.data.toList t) (w : World) (hd : Dg w) : Calls Tryd.prog 8 #[.string s] w fun e w' => e = .returned (.tuple #[.agg (bvs z16).toArray, .int .i64 4]) ∧ Below w.heap.size w w' := by
  refine (parse_any s w hd).mono ?_
  rintro e w' ⟨v, rfl, hp, hb⟩
  rcases hp with ⟨u, hu, rfl⟩ | ⟨_, rfl⟩
  · exact absurd hu (hs u)
  · exact ⟨rfl, hb⟩
theorem txt_hd : txt hd16 = [50, 48, 48, 49, 58, 48, 48, 50, 49, 58, 48, 48, 48, 48, 58, 48, 48, 48, 48, 58, 48, 48, 48, 48, 58, 48, 48, 48, 48, 58, 48, 48, 48, 48, 58, 48, 48, 48, 48] := rfl
theorem parse_hd (w : World) (hd : Dg w) : Calls Tryd.prog 8 #[.string ⟨#[50, 48, 48, 49, 58, 48, 48, 50, 49, 58, 48, 48, 48, 48, 58, 48, 48, 48, 48, 58, 48, 48, 48, 48, 58, 48, 48, 48, 48, 58, 48, 48, 48, 48, 58, 48, 48, 48, 48]⟩] w fun e w' => e = .returned (.tuple #[.agg (bvs hd16).toArray, .int .i64 0]) ∧ Below w.heap.size w w' := parse_hit hd16 rfl w hd
theorem parse_nought (w : World) (hd : Dg w) : Calls Tryd.prog 8 #[.string ⟨#[48]⟩] w fun e w' => e = .returned (.tuple #[.agg (bvs z16).toArray, .int .i64 4]) ∧ Below w.heap.size w w' :=
  parse_miss ⟨#[48]⟩ (fun t ht => by have := isT_len ht; exact absurd this (by decide)) w hd
theorem tcmp_same (a : List UInt8) (ha : a.length = 16) (w : World) : Calls Tryd.prog 12 #[.agg (bvs a).toArray, .agg (bvs a).toArray] w fun e w' => e = .returned (.int .i64 0) ∧ Below w.heap.size w w' := by
  have h := (cmpT_zero (a := a) (b := a) rfl).2 rfl
  have := tcmp_any a a w ha ha
  rwa [h] at this
set_option maxRecDepth 100000 in
set_option maxHeartbeats 4000000 in
theorem lives_any (w : World) (hd : Dg w) : Calls Tryd.prog 7 #[] w fun e w' => e = .returned (.bool true) ∧ Below w.heap.size w w' := by
  have HD := hid hd
  have HB := hid (below_new w (.cells (bvs hd16).toArray 26))
  have FT := hid (bt_new w 26 hd16)
  have hi := (hi16 hd16 hd16_length).out
  have ho := (ho16 hd16 hd16_length).out
  clear hd
  go_enter Tryd.func7, Tryd.ntmps7
  go_upto_region 2 with ((with_reducible refine isS 26 (.tmp 1) (.tmp 7) rfl ?_); refine wpList_store_row rfl 26 (.tmp 1) (.tmp 7) rfl w.heap.size (bvs hd16).toArray rfl rfl 26 _ (heap_alloc_new _ _) hi ho (bvs_all hd16) ?_; rw [World.setRow_alloc_new])
  clear hi ho
  generalize w.alloc (.cells (bvs hd16).toArray 26) = w1 at *
  generalize hgT : w.heap.size = gT at FT ⊢
  clear hgT
  have hlt := ld_tag FT.out hd16_length
  go_wp2_with ((with_reducible refine isD 8 rfl ?_); refine wp_ld (by kernel_rfl) 26 (.tmp 1) rfl _ rfl _ hlt ?_)
  clear hlt
  refine (text_ok hd16 w1 hd16_length (HD.out.on HB.out)).mono ?_
  rintro e w2 ⟨rfl, hb⟩
  have FT := hid (FT.out.on hb)
  have HB := hid (HB.out.trans (hb.mono HB.out.size))
  clear hb
  rw [show sv (txt hd16) = .string ⟨#[50, 48, 48, 49, 58, 48, 48, 50, 49, 58, 48, 48, 48, 48, 58, 48, 48, 48, 48, 58, 48, 48, 48, 48, 58, 48, 48, 48, 48, 58, 48, 48, 48, 48, 58, 48, 48, 48, 48]⟩ from rfl]
  go_wp2_with fail
  refine (parse_hd w2 (HD.out.on HB.out)).mono ?_
  rintro e w3 ⟨rfl, hb⟩
  have FT := hid (FT.out.on hb)
  have HB := hid (HB.out.trans (hb.mono HB.out.size))
  clear hb
  have hb := below_new w3 (.cells (bvs hd16).toArray 26)
  have FX := hid (bt_new w3 26 hd16)
  have FT := hid (FT.out.on hb)
  have HB := hid (HB.out.trans (hb.mono HB.out.size))
  have hi := (hi16 hd16 hd16_length).out
  have ho := (ho16 hd16 hd16_length).out
  clear hb
  go_upto_region 4 with (refine wpList_store_row rfl 26 (.tmp 3) (.tmp 13) rfl w3.heap.size (bvs hd16).toArray rfl rfl 26 _ (heap_alloc_new _ _) hi ho (bvs_all hd16) ?_; rw [World.setRow_alloc_new])
  clear hi ho
  generalize w3.alloc (.cells (bvs hd16).toArray 26) = w4 at *
  generalize w3.heap.size = gX at *
  go_wp2_with fail
  refine (parse_nought w4 (HD.out.on HB.out)).mono ?_
  rintro e w5 ⟨rfl, hb⟩
  have FT := hid (FT.out.on hb)
  have FX := hid (FX.out.on hb)
  have HB := hid (HB.out.trans (hb.mono HB.out.size))
  clear hb
  have hb := below_new w5 (.cells (bvs z16).toArray 26)
  have FT := hid (FT.out.on hb)
  have FX := hid (FX.out.on hb)
  have HB := hid (HB.out.trans (hb.mono HB.out.size))
  have hi := (hi16 z16 z16_length).out
  have ho := (ho16 z16 z16_length).out
  clear hb
  go_upto_region 5 with (refine wpList_store_row rfl 26 (.tmp 5) (.tmp 17) rfl w5.heap.size (bvs z16).toArray rfl rfl 26 _ (heap_alloc_new _ _) hi ho (bvs_all z16) ?_; rw [World.setRow_alloc_new])
  clear hi ho
  generalize w5.alloc (.cells (bvs z16).toArray 26) = w6 at *
  generalize w5.heap.size = gY at *
  have hlt := ld_tag FT.out hd16_length
  have hlx := ld_tag FX.out hd16_length
  have heq := eq_tag hd16 hd16 hd16_length hd16_length w6
  rw [decide_eq_true rfl] at heq
  go_wp2_with (first | ((with_reducible refine isD 22 rfl ?_); refine wp_ld (by kernel_rfl) 26 (.tmp 3) rfl _ rfl _ hlx ?_) | ((with_reducible refine isD 23 rfl ?_); refine wp_ld (by kernel_rfl) 26 (.tmp 1) rfl _ rfl _ hlt ?_) | ((with_reducible refine isD 35 rfl ?_); refine wp_ld (by kernel_rfl) 26 (.tmp 1) rfl _ rfl _ hlt ?_) | ((with_reducible refine isD 36 rfl ?_); refine wp_ld (by kernel_rfl) 26 (.tmp 3) rfl _ rfl _ hlx ?_))
  clear hlt hlx heq
  refine (tcmp_same hd16 hd16_length w6).mono ?_
  rintro e w7 ⟨rfl, hb⟩
  have HB := hid (HB.out.trans (hb.mono HB.out.size))
  clear hb
  go_wp2
  go_ret
  exact ⟨rfl, HB.out⟩

end Go.Proofs.YtgmnpkgnedngjaaDoor
namespace Go.Proofs.YtgmnpkgnedngjaaDoor
open Go.RowKit
set_option linter.unusedVariables false
set_option linter.unusedSimpArgs false

theorem pis_val (L : List UInt8) : ∃ (V : List UInt8) (ec : Int), V.length = 16 ∧ (∀ v, PIs L v → v = .tuple #[.agg (bvs V).toArray, .int .i64 ec]) := by
  by_cases h : ∃ t, IsT L t
  · obtain ⟨t, ht⟩ := h
    refine ⟨t, 0, ht.1, fun v hv => ?_⟩
    rcases hv with ⟨u, hu, rfl⟩ | ⟨hn, _⟩
    · rw [IsT.one ht hu]
    · exact absurd ht (hn t)
  · refine ⟨z16, 4, z16_length, fun v hv => ?_⟩
    rcases hv with ⟨u, hu, _⟩ | ⟨_, rfl⟩
    · exact absurd ⟨u, hu⟩ h
    · rfl
theorem ld_first {w : World} {g : Nat} {a b : List UInt8} (ha : a.length = 16) (hb : b.length = 16) (h : Bt w g 27 (a ++ b)) : (Instr.loadAt 26 (.pointer (some ⟨g, 0, none⟩))).run Tryd.prog w = .ok (.agg (bvs a).toArray) w := by
  have e : ((a ++ b).drop 0).take 16 = a := by rw [List.drop_zero, ← ha]; simp
  have h1 := bt_range h 0 16 (by rw [List.length_append]; omega)
  rw [e] at h1
  exact run_loadAt_mid w g 0 26 _ _ h1 Tryd.underlying26 rfl (by rw [bvs_length, ha]; kernel_rfl)
theorem ld_second {w : World} {g : Nat} {a b : List UInt8} (ha : a.length = 16) (hb : b.length = 16) (h : Bt w g 27 (a ++ b)) : (Instr.loadAt 26 (.pointer (some ⟨g, 16, none⟩))).run Tryd.prog w = .ok (.agg (bvs b).toArray) w := by
  have e : ((a ++ b).drop 16).take 16 = b := by
    rw [show (a ++ b).drop 16 = b by rw [← ha]; simp]; exact List.take_of_length_le (by omega)
  have h1 := bt_range h 16 16 (by rw [List.length_append]; omega)
  rw [e] at h1
  exact run_loadAt_mid w g 16 26 _ _ h1 Tryd.underlying26 rfl (by rw [bvs_length, hb]; kernel_rfl)
set_option maxRecDepth 100000 in
set_option maxHeartbeats 4000000 in
theorem tags_law (n0 n1 n2 n3 : Nat) (a b : List UInt8) (s : ByteArray) (w : World) (h0 : n0 < 18446744073709551616) (h1 : n1 < 18446744073709551616) (h2 : n2 < 18446744073709551616) (h3 : n3 < 18446744073709551616) (ha : a.length = 16) (hb : b.length = 16) (hk : Kt w) (hd : Dg w) :
    Calls Tryd.prog 3 #[.agg #[.int .u64 (n0 : Int), .int .u64 (n1 : Int), .int .u64 (n2 : Int), .int .u64 (n3 : Int)], .agg (bvs (a ++ b)).toArray, .string s] w fun e w' => e = .returned (.bool true) ∧ Below w.heap.size w w' := by
  have H0 := hid h0
  have H1 := hid h1
  have H2 := hid h2
  have H3 := hid h3
  have HLa := hid ha
  have HLb := hid hb
  have HKT := hid hk
  have HD := hid hd
  have a1 := below_new w (.cells #[.int .u64 (n0 : Int), .int .u64 (n1 : Int), .int .u64 (n2 : Int), .int .u64 (n3 : Int)] 24)
  have s1 := al_size w (.cells #[.int .u64 (n0 : Int), .int .u64 (n1 : Int), .int .u64 (n2 : Int), .int .u64 (n3 : Int)] 24)
  have b1 := heap_alloc_new w (.cells #[.int .u64 (n0 : Int), .int .u64 (n1 : Int), .int .u64 (n2 : Int), .int .u64 (n3 : Int)] 24)
  generalize hw1 : w.alloc (.cells #[.int .u64 (n0 : Int), .int .u64 (n1 : Int), .int .u64 (n2 : Int), .int .u64 (n3 : Int)] 24) = w1 at *
  have a2 := below_new w1 (.cells (bvs (a ++ b)).toArray 27)
  have FL := hid (bt_new w1 27 (a ++ b))
  have HB := hid (a1.trans (a2.mono a1.size))
  have FN : Hid (Nb (w1.alloc (.cells (bvs (a ++ b)).toArray 27)) w.heap.size n0 n1 n2 n3) := hid (Nb.on (show Nb w1 w.heap.size n0 n1 n2 n3 from b1) a2)
  rw [s1] at FL
  clear h0 h1 h2 h3 ha hb hk hd a1 a2 b1
  by_cases hlen : 1000 < s.size
  · have hi : (1000 : Int) < (s.size : Int) := by omega
    clear FL FN
    go_enter Tryd.func3, Tryd.ntmps3
    go_upto_region 2 with fail
    clear hi hlen
    try rw [hw1]
    generalize (w1.alloc (.cells _ 27)) = w2 at *
    go_wp2_with fail
    refine (lives_any w2 (HD.out.on HB.out)).mono ?_
    rintro e wz ⟨rfl, hb⟩
    have HB := hid (HB.out.trans (hb.mono HB.out.size))
    clear hb
    go_wp2
    go_ret
    exact ⟨rfl, HB.out⟩
  · have hi : ¬ (1000 : Int) < (s.size : Int) := by omega
    go_enter Tryd.func3, Tryd.ntmps3
    go_upto_region 3 with fail
    clear hi hlen
    try rw [hw1]
    generalize (w1.alloc (.cells _ 27)) = w2 at *
    generalize w.heap.size + 1 = gL at *
    generalize hgK : w.heap.size = gK at FN ⊢
    clear hgK hw1 s1
    obtain ⟨V, ec, hV, hPV⟩ := pis_val s.data.toList
    have HLV := hid hV
    have HPV := hid hPV
    clear hV hPV
    go_wp2_with fail
    refine (parse_any s w2 (HD.out.on HB.out)).mono ?_
    rintro e w3 ⟨v, rfl, hp, hb⟩
    obtain rfl := HPV.out v hp
    clear hp
    have FN := hid (FN.out.on hb)
    have FL := hid (FL.out.on hb)
    have HB := hid (HB.out.trans (hb.mono HB.out.size))
    clear hb
    have hb := below_new w3 (.cells (bvs V).toArray 26)
    have FX := hid (bt_new w3 26 V)
    have FN := hid (FN.out.on hb)
    have FL := hid (FL.out.on hb)
    have HB := hid (HB.out.trans (hb.mono HB.out.size))
    have hi := (hi16 V HLV.out).out
    have ho := (ho16 V HLV.out).out
    clear hb
    go_upto_region 4 with (refine wpList_store_row rfl 26 (.tmp 7) (.tmp 18) rfl w3.heap.size (bvs V).toArray rfl rfl 26 _ (heap_alloc_new _ _) hi ho (bvs_all V) ?_; rw [World.setRow_alloc_new])
    clear hi ho
    generalize w3.alloc (.cells (bvs V).toArray 26) = w4 at *
    generalize w3.heap.size = g_FX at *
    go_wp2_with fail
    refine (rparse_any s w4).mono ?_
    rintro e w5 ⟨v, rfl, hp, hb⟩
    obtain rfl := HPV.out v hp
    clear hp HPV
    have FN := hid (FN.out.on hb)
    have FL := hid (FL.out.on hb)
    have FX := hid (FX.out.on hb)
    have HB := hid (HB.out.trans (hb.mono HB.out.size))
    clear hb
    have hb := below_new w5 (.cells (bvs V).toArray 26)
    have FY := hid (bt_new w5 26 V)
    have FN := hid (FN.out.on hb)
    have FL := hid (FL.out.on hb)
    have FX := hid (FX.out.on hb)
    have HB := hid (HB.out.trans (hb.mono HB.out.size))
    have hi := (hi16 V HLV.out).out
    have ho := (ho16 V HLV.out).out
    clear hb
    go_upto_region 5 with (refine wpList_store_row rfl 26 (.tmp 9) (.tmp 23) rfl w5.heap.size (bvs V).toArray rfl rfl 26 _ (heap_alloc_new _ _) hi ho (bvs_all V) ?_; rw [World.setRow_alloc_new])
    clear hi ho
    generalize w5.alloc (.cells (bvs V).toArray 26) = wb at *
    generalize w5.heap.size = g_FY at *
    have HBW := HB
    have HKT := hid (HKT.out.on HB.out)
    have HD := hid (HD.out.on HB.out)
    clear HB
    obtain ⟨TT, hTT⟩ : ∃ TT, tago (ksum n0 n1 n2 n3) = TT := ⟨_, rfl⟩
    have HLTT := hid (show TT.length = 16 by rw [← hTT]; exact tago_length _ (ksum_length _ _ _ _))
    obtain ⟨c, hc⟩ : ∃ c, cmpT a b = c := ⟨_, rfl⟩
    have HOF := hid (show ∀ W, Below wb.heap.size wb W → _ from fun W hW => tagof_any n0 n1 n2 n3 W H0.out H1.out H2.out H3.out (HKT.out.on hW))
    have HRF := hid (show ∀ W, Below wb.heap.size wb W → _ from fun W hW => rtagof_any n0 n1 n2 n3 W H0.out H1.out H2.out H3.out)
    have HCM := hid (show ∀ W, Below wb.heap.size wb W → _ from fun W hW => tcmp_any a b W HLa.out HLb.out)
    have HRC := hid (show ∀ W, Below wb.heap.size wb W → _ from fun W hW => rcmp_any a b W HLa.out HLb.out)
    have HTX := hid (show ∀ W, Below wb.heap.size wb W → _ from fun W hW => text_ok a W HLa.out (HD.out.on hW))
    have HRT := hid (show ∀ W, Below wb.heap.size wb W → _ from fun W hW => rtext_ok a W HLa.out)
    have HLV5 := hid (show ∀ W, Below wb.heap.size wb W → _ from fun W hW => lives_any W (HD.out.on hW))
    rw [hTT] at HOF HRF
    rw [hc] at HCM HRC
    clear hTT hc
    refine wp_region_noPanic ?_
    refine Goes.region (fun (_ : Array Bool) (u : World) => Below wb.heap.size wb u) (by as_aux_lemma => kernel_rfl) ?_
    have HB := hid (p := Below wb.heap.size wb wb.drew) (Below.refl _ _).drew
    generalize wb.drew = wbd at *
    refine Goes.tk (i := 0) (o := ⟨some 25, _, _, _, _, _⟩) [] (y := Or.inl ⟨by rfl, fun u hY => y_ld _ _ rfl (.pointer (some ⟨gK, 0, none⟩)) _ rfl (ld_num (FN.out.on (yet_of hY)))⟩) (s := HB.out) (H := ?_)
    try simp only [putz]
    refine Goes.tk (i := 2) (o := ⟨some 27, _, _, _, _, _⟩) [] (y := Or.inl ⟨by rfl, fun u hY => y_ld _ _ rfl (.pointer (some ⟨gK, 0, none⟩)) _ rfl (ld_num (FN.out.on (yet_of hY)))⟩) (s := HB.out) (H := ?_)
    try simp only [putz]
    refine Goes.one (i := 1) (o := ⟨some 26, _, _, _, _, _⟩) (by as_aux_lemma => kernel_rfl) rfl (fun K hK => ?_)
    go_simp
    refine (HOF.out wbd HB.out).mono ?_
    rintro e wbd1 ⟨rfl, hb⟩
    go_wp2_with fail
    refine hK.out _ _ (HB.out.trans (hb.mono HB.out.size)) ?_
    have HB := hid (HB.out.trans (hb.mono HB.out.size))
    clear hb
    clear hK K
    try simp only [putz]
    refine Goes.one (i := 3) (o := ⟨some 28, _, _, _, _, _⟩) (by as_aux_lemma => kernel_rfl) rfl (fun K hK => ?_)
    go_simp
    refine (HRF.out wbd1 HB.out).mono ?_
    rintro e wbd2 ⟨rfl, hb⟩
    go_wp2_with fail
    refine hK.out _ _ (HB.out.trans (hb.mono HB.out.size)) ?_
    have HB := hid (HB.out.trans (hb.mono HB.out.size))
    clear hb
    clear hK K
    try simp only [putz]
    refine Goes.tk (i := 4) (o := ⟨some 29, _, _, _, _, _⟩) (v := ?_) [] (y := Or.inl ⟨by rfl, ?_⟩) (s := HB.out) (H := ?_)
    rotate_left
    · intro u hY; have heq := eq_tag TT TT HLTT.out HLTT.out u; rw [decide_eq_true rfl] at heq; go_simp; try with_reducible rfl
    try simp only [putz]
    refine Goes.tk (i := 5) (o := ⟨some 30, _, _, _, _, _⟩) (v := ?_) [] (y := Or.inl ⟨by rfl, ?_⟩) (s := HB.out) (H := ?_)
    rotate_left
    · intro u hY; go_simp; try with_reducible rfl
    try simp only [putz]
    refine Goes.tk (i := 6) (o := ⟨some 31, _, _, _, _, _⟩) (v := ?_) [] (y := Or.inl ⟨by rfl, ?_⟩) (s := HB.out) (H := ?_)
    rotate_left
    · intro u hY; have hs16 : ∀ W : World, (sizeOf 26).run Tryd.prog W = .ok 16 W := fun _ => (by kernel_rfl); go_simp; try with_reducible rfl
    try simp only [putz]
    refine Goes.tk (i := 7) (o := ⟨some 32, _, _, _, _, _⟩) [] (y := Or.inl ⟨by rfl, fun u hY => y_ld _ _ rfl (.pointer (some ⟨gL, 0, none⟩)) _ rfl (ld_first HLa.out HLb.out (FL.out.on (yet_of hY)))⟩) (s := HB.out) (H := ?_)
    try simp only [putz]
    refine Goes.tk (i := 8) (o := ⟨some 33, _, _, _, _, _⟩) (v := ?_) [] (y := Or.inl ⟨by rfl, ?_⟩) (s := HB.out) (H := ?_)
    rotate_left
    · intro u hY; have hs16 : ∀ W : World, (sizeOf 26).run Tryd.prog W = .ok 16 W := fun _ => (by kernel_rfl); go_simp; try with_reducible rfl
    try simp only [putz]
    refine Goes.tk (i := 9) (o := ⟨some 34, _, _, _, _, _⟩) [] (y := Or.inl ⟨by rfl, fun u hY => y_ld _ _ rfl (.pointer (some ⟨gL, 16, none⟩)) _ rfl (ld_second HLa.out HLb.out (FL.out.on (yet_of hY)))⟩) (s := HB.out) (H := ?_)
    try simp only [putz]
    refine Goes.tk (i := 11) (o := ⟨some 36, _, _, _, _, _⟩) (v := ?_) [] (y := Or.inl ⟨by rfl, ?_⟩) (s := HB.out) (H := ?_)
    rotate_left
    · intro u hY; have hs16 : ∀ W : World, (sizeOf 26).run Tryd.prog W = .ok 16 W := fun _ => (by kernel_rfl); go_simp; try with_reducible rfl
    try simp only [putz]
    refine Goes.tk (i := 12) (o := ⟨some 37, _, _, _, _, _⟩) [] (y := Or.inl ⟨by rfl, fun u hY => y_ld _ _ rfl (.pointer (some ⟨gL, 0, none⟩)) _ rfl (ld_first HLa.out HLb.out (FL.out.on (yet_of hY)))⟩) (s := HB.out) (H := ?_)
    try simp only [putz]
    refine Goes.tk (i := 13) (o := ⟨some 38, _, _, _, _, _⟩) (v := ?_) [] (y := Or.inl ⟨by rfl, ?_⟩) (s := HB.out) (H := ?_)
    rotate_left
    · intro u hY; have hs16 : ∀ W : World, (sizeOf 26).run Tryd.prog W = .ok 16 W := fun _ => (by kernel_rfl); go_simp; try with_reducible rfl
    try simp only [putz]
    refine Goes.tk (i := 14) (o := ⟨some 39, _, _, _, _, _⟩) [] (y := Or.inl ⟨by rfl, fun u hY => y_ld _ _ rfl (.pointer (some ⟨gL, 16, none⟩)) _ rfl (ld_second HLa.out HLb.out (FL.out.on (yet_of hY)))⟩) (s := HB.out) (H := ?_)
    try simp only [putz]
    refine Goes.one (i := 10) (o := ⟨some 35, _, _, _, _, _⟩) (by as_aux_lemma => kernel_rfl) rfl (fun K hK => ?_)
    rw [if_pos (by kernel_rfl)]
    go_simp
    refine (HCM.out wbd2 HB.out).mono ?_
    rintro e wbd3 ⟨rfl, hb⟩
    go_wp2_with fail
    refine hK.out _ _ (HB.out.trans (hb.mono HB.out.size)) ?_
    have HB := hid (HB.out.trans (hb.mono HB.out.size))
    clear hb
    clear hK K
    try simp only [putz]
    refine Goes.one (i := 15) (o := ⟨some 40, _, _, _, _, _⟩) (by as_aux_lemma => kernel_rfl) rfl (fun K hK => ?_)
    rw [if_pos (by kernel_rfl)]
    go_simp
    refine (HRC.out wbd3 HB.out).mono ?_
    rintro e wbd4 ⟨rfl, hb⟩
    go_wp2_with fail
    refine hK.out _ _ (HB.out.trans (hb.mono HB.out.size)) ?_
    have HB := hid (HB.out.trans (hb.mono HB.out.size))
    clear hb
    clear hK K
    try simp only [putz]
    refine Goes.tk (i := 16) (o := ⟨some 41, _, _, _, _, _⟩) (v := ?_) [] (y := Or.inl ⟨by rfl, ?_⟩) (s := HB.out) (H := ?_)
    rotate_left
    · intro u hY; go_simp; try with_reducible rfl
    try simp only [putz]
    refine Goes.tk (i := 17) (o := ⟨some 42, _, _, _, _, _⟩) (v := ?_) [] (y := Or.inl ⟨by rfl, ?_⟩) (s := HB.out) (H := ?_)
    rotate_left
    · intro u hY; go_simp; try with_reducible rfl
    try simp only [putz]
    refine Goes.tk (i := 18) (o := ⟨some 43, _, _, _, _, _⟩) (v := ?_) [] (y := Or.inl ⟨by rfl, ?_⟩) (s := HB.out) (H := ?_)
    rotate_left
    · intro u hY; go_simp; try with_reducible rfl
    try simp only [putz]
    refine Goes.tk (i := 19) (o := ⟨some 44, _, _, _, _, _⟩) (v := ?_) [] (y := Or.inl ⟨by rfl, ?_⟩) (s := HB.out) (H := ?_)
    rotate_left
    · intro u hY; have hs16 : ∀ W : World, (sizeOf 26).run Tryd.prog W = .ok 16 W := fun _ => (by kernel_rfl); go_simp; try with_reducible rfl
    try simp only [putz]
    refine Goes.tk (i := 20) (o := ⟨some 45, _, _, _, _, _⟩) [] (y := Or.inl ⟨by rfl, fun u hY => y_ld _ _ rfl (.pointer (some ⟨gL, 0, none⟩)) _ rfl (ld_first HLa.out HLb.out (FL.out.on (yet_of hY)))⟩) (s := HB.out) (H := ?_)
    try simp only [putz]
    refine Goes.tk (i := 22) (o := ⟨some 47, _, _, _, _, _⟩) (v := ?_) [] (y := Or.inl ⟨by rfl, ?_⟩) (s := HB.out) (H := ?_)
    rotate_left
    · intro u hY; have hs16 : ∀ W : World, (sizeOf 26).run Tryd.prog W = .ok 16 W := fun _ => (by kernel_rfl); go_simp; try with_reducible rfl
    try simp only [putz]
    refine Goes.tk (i := 23) (o := ⟨some 48, _, _, _, _, _⟩) [] (y := Or.inl ⟨by rfl, fun u hY => y_ld _ _ rfl (.pointer (some ⟨gL, 0, none⟩)) _ rfl (ld_first HLa.out HLb.out (FL.out.on (yet_of hY)))⟩) (s := HB.out) (H := ?_)
    try simp only [putz]
    refine Goes.one (i := 21) (o := ⟨some 46, _, _, _, _, _⟩) (by as_aux_lemma => kernel_rfl) rfl (fun K hK => ?_)
    rw [if_pos (by kernel_rfl)]
    go_simp
    refine (HTX.out wbd4 HB.out).mono ?_
    rintro e wbd5 ⟨rfl, hb⟩
    go_wp2_with fail
    refine hK.out _ _ (HB.out.trans (hb.mono HB.out.size)) ?_
    have HB := hid (HB.out.trans (hb.mono HB.out.size))
    clear hb
    clear hK K
    try simp only [putz]
    refine Goes.one (i := 24) (o := ⟨some 49, _, _, _, _, _⟩) (by as_aux_lemma => kernel_rfl) rfl (fun K hK => ?_)
    rw [if_pos (by kernel_rfl)]
    go_simp
    refine (HRT.out wbd5 HB.out).mono ?_
    rintro e wbd6 ⟨rfl, hb⟩
    go_wp2_with fail
    refine hK.out _ _ (HB.out.trans (hb.mono HB.out.size)) ?_
    have HB := hid (HB.out.trans (hb.mono HB.out.size))
    clear hb
    clear hK K
    try simp only [putz]
    refine Goes.tk (i := 25) (o := ⟨some 50, _, _, _, _, _⟩) (v := ?_) [] (y := Or.inl ⟨by rfl, ?_⟩) (s := HB.out) (H := ?_)
    rotate_left
    · intro u hY; go_simp; try with_reducible rfl
    try simp only [putz]
    refine Goes.tk (i := 26) (o := ⟨some 51, _, _, _, _, _⟩) (v := ?_) [] (y := Or.inl ⟨by rfl, ?_⟩) (s := HB.out) (H := ?_)
    rotate_left
    · intro u hY; go_simp; try with_reducible rfl
    try simp only [putz]
    refine Goes.tk (i := 27) (o := ⟨some 52, _, _, _, _, _⟩) (v := ?_) [] (y := Or.inl ⟨by rfl, ?_⟩) (s := HB.out) (H := ?_)
    rotate_left
    · intro u hY; go_simp; try with_reducible rfl
    try simp only [putz]
    refine Goes.tk (i := 28) (o := ⟨some 53, _, _, _, _, _⟩) [] (y := Or.inl ⟨by rfl, fun u hY => y_ld _ _ rfl (.pointer (some ⟨g_FX, 0, none⟩)) _ rfl (ld_tag (FX.out.on (yet_of hY)) HLV.out)⟩) (s := HB.out) (H := ?_)
    try simp only [putz]
    refine Goes.tk (i := 29) (o := ⟨some 54, _, _, _, _, _⟩) [] (y := Or.inl ⟨by rfl, fun u hY => y_ld _ _ rfl (.pointer (some ⟨g_FY, 0, none⟩)) _ rfl (ld_tag (FY.out.on (yet_of hY)) HLV.out)⟩) (s := HB.out) (H := ?_)
    try simp only [putz]
    refine Goes.tk (i := 30) (o := ⟨some 55, _, _, _, _, _⟩) (v := ?_) [] (y := Or.inl ⟨by rfl, ?_⟩) (s := HB.out) (H := ?_)
    rotate_left
    · intro u hY; have heq := eq_tag V V HLV.out HLV.out u; rw [decide_eq_true rfl] at heq; go_simp; try with_reducible rfl
    try simp only [putz]
    refine Goes.tk (i := 31) (o := ⟨some 56, _, _, _, _, _⟩) (v := ?_) [] (y := Or.inl ⟨by rfl, ?_⟩) (s := HB.out) (H := ?_)
    rotate_left
    · intro u hY; go_simp; try with_reducible rfl
    try simp only [putz]
    refine Goes.tk (i := 32) (o := ⟨some 57, _, _, _, _, _⟩) (v := ?_) [] (y := Or.inl ⟨by rfl, ?_⟩) (s := HB.out) (H := ?_)
    rotate_left
    · intro u hY; go_simp; try with_reducible rfl
    try simp only [putz]
    refine Goes.tk (i := 33) (o := ⟨some 58, _, _, _, _, _⟩) (v := ?_) [] (y := Or.inl ⟨by rfl, ?_⟩) (s := HB.out) (H := ?_)
    rotate_left
    · intro u hY; go_simp; try with_reducible rfl
    try simp only [putz]
    refine Goes.tk (i := 34) (o := ⟨some 59, _, _, _, _, _⟩) (v := ?_) [] (y := Or.inl ⟨by rfl, ?_⟩) (s := HB.out) (H := ?_)
    rotate_left
    · intro u hY; go_simp; try with_reducible rfl
    try simp only [putz]
    refine Goes.tk (i := 35) (o := ⟨some 60, _, _, _, _, _⟩) (v := ?_) [] (y := Or.inl ⟨by rfl, ?_⟩) (s := HB.out) (H := ?_)
    rotate_left
    · intro u hY; go_simp; try with_reducible rfl
    try simp only [putz]
    refine Goes.tk (i := 36) (o := ⟨some 61, _, _, _, _, _⟩) (v := ?_) [] (y := Or.inl ⟨by rfl, ?_⟩) (s := HB.out) (H := ?_)
    rotate_left
    · intro u hY; go_simp; try with_reducible rfl
    try simp only [putz]
    refine Goes.tk (i := 37) (o := ⟨some 62, _, _, _, _, _⟩) (v := ?_) [] (y := Or.inl ⟨by rfl, ?_⟩) (s := HB.out) (H := ?_)
    rotate_left
    · intro u hY; go_simp; try with_reducible rfl
    try simp only [putz]
    refine Goes.one (i := 38) (o := ⟨some 63, _, _, _, _, _⟩) (by as_aux_lemma => kernel_rfl) rfl (fun K hK => ?_)
    rw [if_pos (by kernel_rfl)]
    go_simp
    refine (HLV5.out wbd6 HB.out).mono ?_
    rintro e wbd7 ⟨rfl, hb⟩
    go_wp2_with fail
    refine hK.out _ _ (HB.out.trans (hb.mono HB.out.size)) ?_
    have HB := hid (HB.out.trans (hb.mono HB.out.size))
    clear hb
    clear hK K
    try simp only [putz]
    refine Goes.tk (i := 39) (o := ⟨some 64, _, _, _, _, _⟩) (v := ?_) [] (y := Or.inl ⟨by rfl, ?_⟩) (s := HB.out) (H := ?_)
    rotate_left
    · intro u hY; go_simp; try with_reducible rfl
    try simp only [putz]
    refine Goes.tk (i := 40) (o := ⟨some 6, _, _, _, _, _⟩) (v := ?_) [] (y := Or.inl ⟨by rfl, ?_⟩) (s := HB.out) (H := ?_)
    rotate_left
    · intro u hY; go_simp; try with_reducible rfl
    try simp only [putz]
    refine Goes.done (by as_aux_lemma => kernel_rfl) ?_ _
    refine NoPanic.normal ?_
    go_wp2
    go_ret
    exact ⟨rfl, HBW.out.trans (HB.out.mono HBW.out.size)⟩

end Go.Proofs.YtgmnpkgnedngjaaDoor

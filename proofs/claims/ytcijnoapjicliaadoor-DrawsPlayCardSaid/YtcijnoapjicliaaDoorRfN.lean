/-
  burrowref05.Number, walked: what is left by m of the parts' two sums. Conditions: 999 parts at most, each of 2^20 bytes at most; a text of 1000000 bytes at most.
-/
import Derived.Test.YtcijnoapjicliaaDoorPkK
import Derived.Test.YtcijnoapjicliaaDoorPkP
import Derived.Test.YtcijnoapjicliaaDoorRefAs
import Derived.Test.YtcijnoapjicliaaDoorPkV
import Derived.Test.YtcijnoapjicliaaDoorPkH
namespace Go.Proofs.YtcijnoapjicliaaDoor
open Go.RowKit
set_option linter.unusedVariables false
set_option linter.unusedSimpArgs false

/-- numbers in boxes, and sums in boxes -/
def Ns (w : World) (l : List (Nat × Nat)) (bl : List (Nat × List UInt8)) (w' : World) : Prop := Env w l w' ∧ ∀ p ∈ bl, Bt w' p.1 23 p.2
section
variable {w w' w2 : World} {l : List (Nat × Nat)} {bl : List (Nat × List UInt8)}
theorem Ns.on (h : Ns w l bl w') (hb : Below w'.heap.size w' w2) : Ns w l bl w2 := ⟨h.1.on hb, fun p hp => (h.2 p hp).on hb⟩
theorem Ns.old (h : Ns w l bl w') : Below w.heap.size w w' := h.1.1
theorem Ns.cell (h : Ns w l bl w') (g x : Nat) (hm : (g, x) ∈ l) : w'.cell? ⟨g, 0, none⟩ = some (.int .u64 (wd x 0 : Int)) ∧ w'.cell? ⟨g, 1, none⟩ = some (.int .u64 (wd x 1 : Int)) ∧ w'.cell? ⟨g, 2, none⟩ = some (.int .u64 (wd x 2 : Int)) ∧ w'.cell? ⟨g, 3, none⟩ = some (.int .u64 (wd x 3 : Int)) := h.1.cell g x hm
theorem Ns.lt (h : Ns w l bl w') (g x : Nat) (hm : (g, x) ∈ l) : g < w'.heap.size := h.1.lt g x hm
theorem Ns.frozen (h : Ns w l bl w') (g x : Nat) (hm : (g, x) ∈ l) (i : Nat) : w'.frozen? ⟨g, i, none⟩ = false := h.1.frozen g x hm i
theorem Ns.new (h : Ns w l bl w') (x : Nat) : Ns w ((w'.heap.size, x) :: l) bl (w'.alloc (.cells (cls x) 26)) := ⟨h.1.new x, fun p hp => (h.2 p hp).on ((Below.refl _ _).alloc (Nat.le_refl _) _)⟩
theorem Ns.bt (h : Ns w l bl w') (g : Nat) (x : List UInt8) (hm : (g, x) ∈ bl) : Bt w' g 23 x := h.2 _ hm
theorem ns_of {f : FuncId} {args : Array Value} {v : Value} (hc : Calls Tryd.prog f args w' fun e w2 => e = .returned v ∧ Below w'.heap.size w' w2) (h : Ns w l bl w') : Calls Tryd.prog f args w' fun e w2 => e = .returned v ∧ Ns w l bl w2 :=
  hc.mono fun e w2 ⟨he, hb⟩ => ⟨he, h.on hb⟩
theorem Ns.setx (h : Ns w l bl w') (x : List UInt8) : ∃ w2, (w'.alloc (.cells #[.int .u8 0, .int .u8 0, .int .u8 0, .int .u8 0, .int .u8 0, .int .u8 0, .int .u8 0, .int .u8 0, .int .u8 0, .int .u8 0, .int .u8 0, .int .u8 0, .int .u8 0, .int .u8 0, .int .u8 0, .int .u8 0, .int .u8 0, .int .u8 0, .int .u8 0, .int .u8 0, .int .u8 0, .int .u8 0, .int .u8 0, .int .u8 0, .int .u8 0, .int .u8 0, .int .u8 0, .int .u8 0, .int .u8 0, .int .u8 0, .int .u8 0, .int .u8 0] 23)).setRow w'.heap.size (bvs x).toArray = w2 ∧ Hid (Ns w l ((w'.heap.size, x) :: bl) w2) := by
  refine ⟨_, rfl, ?_⟩
  rw [World.setRow_alloc_new]
  have h2 := h.on ((Below.refl w'.heap.size w').alloc (Nat.le_refl _) (.cells (bvs x).toArray 23))
  refine hid ⟨h2.1, fun p hp => ?_⟩
  rcases List.mem_cons.1 hp with rfl | hp
  · exact heap_alloc_new _ _
  · exact h2.2 p hp
end
/-- the document's GetLong over a sum's box -/
theorem rgl_b (r : List UInt8) (g t : Nat) (w : World) (hq : r.length = 32) (hz : Bt w g 23 r) (et : tell r = t) :
    Calls Tryd.prog 37 #[.slice (some ⟨g, 0, none⟩) 32 32] w fun e w2 => e = .returned (.tuple #[num t, .int .i64 0]) ∧ Below w.heap.size w w2 := by
  have hr : Rd w (some ⟨g, 0, none⟩) r := by
    intro hp
    refine ⟨g, 0, rfl, lt_of_block hz, fun j hj => ?_⟩
    rw [cell_of_row _ _ _ _ 23 _ hz]
    simp [bvs, hj]
  have hg := rgetLong_ok (some ⟨g, 0, none⟩) 32 r w hr (by omega) (by decide) (by omega)
  rw [hq] at hg
  refine hg.mono ?_
  rintro e w2 ⟨rfl, hb⟩
  obtain ⟨h0, h1, h2, h3⟩ := words32 r hq
  subst et
  refine ⟨?_, hb⟩
  unfold num
  rw [← h0, ← h1, ← h2, ← h3]
  try rfl
theorem refas_r (st : ByteArray) (a0 : Option Addr) (n0 c0 : Nat) (A : Nat → Option Addr) (L C : Nat → Nat) (xs : Nat → List UInt8) (r : List UInt8) (w : World) (hR : Rws w a0 n0 A L C xs) (hn : n0 ≤ 1000) (hL : ∀ r, r < n0 → L r ≤ 1048576) (hs : st.size ≤ 1000000) (hr : sha (spelt st.data.toList n0 xs n0) = r) :
    Calls Tryd.prog 36 #[.string st, .slice a0 n0 c0] w fun e w' => e = .returned (.agg (bvs r).toArray) ∧ Below w.heap.size w w' := by
  subst hr
  exact refAs_any st a0 n0 c0 A L C xs w hR hn hL hs
theorem step_append_rows {ops : Array Oper} {rest : List Oper} {o : Oper} {a : Act} {w : World} {Q : Exit → Act → World → Prop} (hgd : o.guard = none) (s x : Operand)
    (ho : o.op = .call { callee := .builtin .append, args := #[s, x], argTypes := #[69, 69] }) (hty : o.type = 69) (vs vx : Value) (hs : a.eval s = vs) (hx : a.eval x = vx) (v' : Value) (w' : World)
    (hrun : (Builtin.append_ #[69, 69] 69 #[vs, vx]).run Tryd.prog w = .ok v' w') (h : wpList Tryd.prog ops Q rest (a.put o.dst v') w') : wpList Tryd.prog ops Q (o :: rest) a w := by
  refine wpList_plain hgd fun K hK => ?_
  unfold Oper.wp
  simp [execOp, ho, hty, resolve, invoke, builtin, hs, hx, hrun, Result.andThen]
  exact hK _ _ h
/-- the parts, and one of one byte more, as the document makes the list -/
theorem rows_one (x : UInt8) (w : World) (a0 : Option Addr) (n0 c0 : Nat) (A : Nat → Option Addr) (L C : Nat → Nat) (xs : Nat → List UInt8) (hR : Rws w a0 n0 A L C xs) (hn : n0 + 1 ≤ 1000) (hc : n0 ≤ c0) (h0 : a0 = none → c0 = 0) :
    ∃ v wa g c wb, Hid ((Builtin.append_ #[69, 69] 69 #[.slice none 0 0, .slice a0 n0 c0]).run Tryd.prog w = .ok v wa) ∧
      Hid ((Builtin.append_ #[69, 69] 69 #[v, .slice (some ⟨wa.heap.size + 1, 0, none⟩) 1 1]).run Tryd.prog ((wa.alloc (.cells #[.int .u8 (x.toNat : Int)] 5)).alloc (.cells #[.slice (some ⟨wa.heap.size, 0, none⟩) 1 1] 47)) = .ok (.slice (some ⟨g, 0, none⟩) (n0 + 1) c) wb) ∧
      Hid (Below w.heap.size w wb) ∧ Hid (n0 + 1 ≤ c) ∧ Hid (Rws wb (some ⟨g, 0, none⟩) (n0 + 1) (nx n0 A (some ⟨wa.heap.size, 0, none⟩)) (nx n0 L 1) (nx n0 C 1) (nx n0 xs [x])) := by
  have sz : ∀ (u : World) (o : Obj), (u.alloc o).heap.size = u.heap.size + 1 := fun u o => Array.size_push _
  obtain ⟨v, wa, hrun, ho, hb⟩ := rows_all w a0 n0 c0 A L C xs hR (by omega) hc h0
  have b1 := (Below.refl wa.heap.size wa).alloc (Nat.le_refl _) (.cells #[.int .u8 (x.toNat : Int)] 5)
  have b2 := (Below.refl _ (wa.alloc (.cells #[.int .u8 (x.toNat : Int)] 5))).alloc (Nat.le_refl _) (.cells #[.slice (some ⟨wa.heap.size, 0, none⟩) 1 1] 47)
  have k1 := on_blk (heap_alloc_new wa (.cells #[.int .u8 (x.toNat : Int)] 5)) _ b2
  have k2 := cell_of_row _ _ 0 _ 47 (0, 0) (heap_alloc_new (wa.alloc (.cells #[.int .u8 (x.toNat : Int)] 5)) (.cells #[.slice (some ⟨wa.heap.size, 0, none⟩) 1 1] 47))
  rw [sz] at k2
  have o2 := rowo_below (rowo_below ho b1) b2
  have hbb := (hb.trans (b1.mono hb.size)).trans (b2.mono (Nat.le_trans hb.size b1.size))
  obtain ⟨g, c, wb, hrun2, hB, _, hc2, hrw, _⟩ := rows_put w _ w.heap.size a0 v n0 A L C xs (Nat.le_refl _) hbb (Nat.le_trans hb.size (Nat.le_trans b1.size b2.size)) o2 hR (by omega) (wa.heap.size + 1) 1 wa.heap.size x k2 k1 (fun e => Nat.lt_irrefl _ (World.ownsRow.lt ho _ e).2)
  exact ⟨v, wa, g, c, wb, hid hrun, hid hrun2, hid hB, hid hc2, hid hrw⟩
theorem rwide_both (lo hi m s : Nat) (w : World) (hlo : lo < 2 ^ 256) (hhi : hi < 2 ^ 256) (hm : m < 2 ^ 256) (hm0 : m ≠ 0) (hs : wid lo hi m = s) :
    Calls Tryd.prog 38 #[num lo, num hi, num m] w fun r w2 => r = .returned (.tuple #[num s, .int .i64 0]) ∧ Below w.heap.size w w2 := by
  subst hs
  exact rwide_any lo hi m _ w hlo hhi hm hm0 (by unfold wid; first | rfl | (congr 1; omega) | (rw [Nat.add_comm]))
set_option maxRecDepth 100000 in
set_option maxHeartbeats 4000000 in
theorem rnumber_some (st : ByteArray) (a0 : Option Addr) (n0 c0 : Nat) (A : Nat → Option Addr) (L C : Nat → Nat) (xs : Nat → List UInt8) (m s : Nat) (w : World) (hm : m < 2 ^ 256) (hm0 : m ≠ 0) (hR : Rws w a0 n0 A L C xs) (hn : n0 + 1 ≤ 1000) (hL : ∀ r, r < n0 → L r ≤ 1048576) (hs : st.size ≤ 1000000) (hc : n0 ≤ c0) (h0 : a0 = none → c0 = 0)
    (hv : nof st.data.toList n0 xs m = s) :
    Calls Tryd.prog 23 #[num m, .string st, .slice a0 n0 c0] w fun r w' => r = .returned (.tuple #[num s, .int .i64 0]) ∧ Below w.heap.size w w' := by
  obtain ⟨rlo, erlo⟩ : ∃ z, sha (spelt st.data.toList (n0 + 1) (nx n0 xs [1]) (n0 + 1)) = z := ⟨_, rfl⟩
  obtain ⟨lo, elo⟩ : ∃ z, tell rlo = z := ⟨_, rfl⟩
  have hflo : half st.data.toList n0 xs 1 = lo := by rw [← elo, ← erlo]; rfl
  have HBlo := hid (hflo ▸ half_lt _ _ _ _ : lo < 2 ^ 256)
  have HQlo := hid (show rlo.length = 32 by rw [← erlo]; exact sha_length _)
  have ERlo := hid erlo
  have ETlo := hid elo
  obtain ⟨rhi, erhi⟩ : ∃ z, sha (spelt st.data.toList (n0 + 1) (nx n0 xs [0]) (n0 + 1)) = z := ⟨_, rfl⟩
  obtain ⟨hi, ehi⟩ : ∃ z, tell rhi = z := ⟨_, rfl⟩
  have hfhi : half st.data.toList n0 xs 0 = hi := by rw [← ehi, ← erhi]; rfl
  have HBhi := hid (hfhi ▸ half_lt _ _ _ _ : hi < 2 ^ 256)
  have HQhi := hid (show rhi.length = 32 by rw [← erhi]; exact sha_length _)
  have ERhi := hid erhi
  have EThi := hid ehi
  unfold nof at hv
  rw [hflo, hfhi] at hv
  have q0 := reqn_no m hm hm0
  have HM := hid hm
  have HM0 := hid hm0
  have HN := hid hn
  have HL1 := hid (nx_le n0 L hL)
  have HS := hid hs
  have HC := hid hc
  have H0A := hid h0
  have HV := hid hv
  have HR := hid hR
  clear hm hm0 hn hL hs hc h0 hv hR hflo hfhi erlo erhi elo ehi
  have H0 := hid ((((Env.refl w).new m).zero).perm (l' := [(w.heap.size + 1, 0), (w.heap.size, m)]) (by simp))
  have DZ := hid (show w.heap.size ≤ w.heap.size + 1 by omega)
  have DN := hid (show ∀ p ∈ [(w.heap.size, m)], p.1 ≠ w.heap.size + 1 by simp; try omega)
  go_enter Tryd.func23, Tryd.ntmps23
  go_upto_region 1 with fail
  generalize (w.alloc (.cells (cls m) 26)).alloc (.cells #[.int .u64 0, .int .u64 0, .int .u64 0, .int .u64 0] 26) = w0 at *
  generalize w.heap.size + 1 = g_z at *
  generalize hzg_a : w.heap.size = g_a at *
  obtain ⟨c0x0a, c0x0b, c0x0c, c0x0d⟩ := H0.out.cell (g_a) (m) (by simp)
  have c0x0l := H0.out.lt (g_a) (m) (by simp)
  have c0x0m := Nat.le_of_lt c0x0l
  go_upto_region 3 with fail
  clear c0x0a c0x0b c0x0c c0x0d c0x0l c0x0m
  have N0 := hid (show Ns w [(g_a, m), (g_z, 0)] [] w0 from ⟨H0.out.perm (by simp), fun p hp => by cases hp⟩)
  clear H0
  have HRW := hid ((on_rws HR.out) _ N0.out.old)
  obtain ⟨vhi, wahi, ghi, khi, wbhi, R1, R2, HBE, HCB, HRB⟩ := rows_one 0 w0 a0 n0 c0 A L C xs HRW.out HN.out HC.out H0A.out
  go_wp2_with (at_builtin; first | (refine step_append_rows rfl (.const (.slice none 0 0)) (.tmp 19) rfl rfl _ _ rfl rfl _ _ R1.out ?_) | (refine step_append_rows rfl (.tmp 20) (.tmp 22) rfl rfl _ _ rfl rfl _ _ R2.out ?_))
  have NA := hid (N0.out.on HBE.out)
  clear R1 R2 HBE HRW N0
  refine (ns_of (refas_r st _ (n0 + 1) khi _ _ _ _ rhi wbhi HRB.out HN.out HL1.out HS.out ERhi.out) NA.out).mono ?_
  rintro e wchi ⟨rfl, h⟩
  have NB := hid h
  clear h NA HRB HCB
  obtain ⟨wdhi, hw, Nhi⟩ := NB.out.setx rhi
  have hbx := hi44 rhi HQhi.out
  have hox := ho32 rhi HQhi.out
  go_upto_region 4 with (first | (refine wpList_store_row rfl 23 (.tmp 8) (.tmp 24) rfl wchi.heap.size (bvs rhi).toArray rfl rfl 23 _ (heap_alloc_new _ _) hbx.out hox.out (bvs_all _) ?_; rw [hw]))
  clear hw hbx hox NB
  generalize wchi.heap.size = bhi at *
  have HRW := hid ((on_rws HR.out) _ Nhi.out.old)
  obtain ⟨vlo, walo, glo, klo, wblo, R1, R2, HBE, HCB, HRB⟩ := rows_one 1 wdhi a0 n0 c0 A L C xs HRW.out HN.out HC.out H0A.out
  go_wp2_with (at_builtin; first | (refine step_append_rows rfl (.const (.slice none 0 0)) (.tmp 26) rfl rfl _ _ rfl rfl _ _ R1.out ?_) | (refine step_append_rows rfl (.tmp 27) (.tmp 29) rfl rfl _ _ rfl rfl _ _ R2.out ?_))
  have NA := hid (Nhi.out.on HBE.out)
  clear R1 R2 HBE HRW Nhi
  refine (ns_of (refas_r st _ (n0 + 1) klo _ _ _ _ rlo wblo HRB.out HN.out HL1.out HS.out ERlo.out) NA.out).mono ?_
  rintro e wclo ⟨rfl, h⟩
  have NB := hid h
  clear h NA HRB HCB
  obtain ⟨wdlo, hw, Nlo⟩ := NB.out.setx rlo
  have hbx := hi44 rlo HQlo.out
  have hox := ho32 rlo HQlo.out
  go_wp2_with (first | (refine wpList_store_row rfl 23 (.tmp 9) (.tmp 31) rfl wclo.heap.size (bvs rlo).toArray rfl rfl 23 _ (heap_alloc_new _ _) hbx.out hox.out (bvs_all _) ?_; rw [hw]))
  clear hw hbx hox NB
  generalize wclo.heap.size = blo at *
  refine (ns_of (rgl_b rhi bhi hi _ HQhi.out (Nlo.out.bt bhi rhi (by simp)) EThi.out) Nlo.out).mono ?_
  rintro e w21 ⟨rfl, h⟩
  have H21 := hid h
  clear h Nlo
  go_upto_region 6 with fail
  have H21b := hid (H21.out.new hi)
  clear H21
  generalize w21.alloc (.cells (cls hi) 26) = w21b at *
  generalize w21.heap.size = g10 at *
  go_wp2_with fail
  refine (ns_of (rgl_b rlo blo lo _ HQlo.out (H21b.out.bt blo rlo (by simp)) ETlo.out) H21b.out).mono ?_
  rintro e w22 ⟨rfl, h⟩
  have H22 := hid h
  clear h H21b
  go_upto_region 7 with fail
  have H22b := hid (H22.out.new lo)
  clear H22
  generalize w22.alloc (.cells (cls lo) 26) = w22b at *
  generalize w22.heap.size = g12 at *
  obtain ⟨c0x22a, c0x22b, c0x22c, c0x22d⟩ := H22b.out.cell (g12) (lo) (by simp)
  have c0x22l := H22b.out.lt (g12) (lo) (by simp)
  have c0x22m := Nat.le_of_lt c0x22l
  obtain ⟨c6x22a, c6x22b, c6x22c, c6x22d⟩ := H22b.out.cell (g10) (hi) (by simp)
  have c6x22l := H22b.out.lt (g10) (hi) (by simp)
  have c6x22m := Nat.le_of_lt c6x22l
  obtain ⟨c12x22a, c12x22b, c12x22c, c12x22d⟩ := H22b.out.cell (g_a) (m) (by simp)
  have c12x22l := H22b.out.lt (g_a) (m) (by simp)
  have c12x22m := Nat.le_of_lt c12x22l
  go_wp2_with fail
  clear c0x22a c0x22b c0x22c c0x22d c0x22l c0x22m c6x22a c6x22b c6x22c c6x22d c6x22l c6x22m c12x22a c12x22b c12x22c c12x22d c12x22l c12x22m
  refine (ns_of (rwide_both lo hi m s _ HBlo.out HBhi.out HM.out HM0.out HV.out) H22b.out).mono ?_
  rintro e w23 ⟨rfl, h⟩
  have H23 := hid h
  clear h H22b
  have HE := hid H23.out.1
  clear H23
  obtain ⟨z0, z1, z2, z3⟩ := HE.out.cell g_z 0 (by simp)
  have zl := HE.out.lt g_z 0 (by simp)
  have zf := HE.out.frozen g_z 0 (by simp)
  have HZ := hid (HE.out.set g_z 0 (s) [] (by simp) (by rw [hzg_a]; exact DZ.out) (by simp))
  go_wp2
  clear z0 z1 z2 z3 zl zf
  try rw [Exit.noGoto_ret]
  change bodyPost _ _ _ _ _ (fil w23 g_z (s))
  generalize fil w23 g_z (s) = wz at *
  obtain ⟨k0, k1, k2, k3⟩ := HZ.out.cell g_z (s) (by simp)
  exact bodyPost_ret (v := .tuple #[num (s), .int .i64 0]) (by simp [results, Tryd.results23, go_sem, k0, k1, k2, k3]) rfl ⟨rfl, HZ.out.1⟩
set_option maxRecDepth 100000 in
set_option maxHeartbeats 4000000 in
theorem rnumber_none (st : ByteArray) (a0 : Option Addr) (n0 c0 : Nat) (w : World) :
    Calls Tryd.prog 23 #[num 0, .string st, .slice a0 n0 c0] w fun r w' => r = .returned (.tuple #[num 0, .int .i64 1]) ∧ Below w.heap.size w w' := by
  obtain ⟨m, em⟩ : ∃ z, z = 0 := ⟨0, rfl⟩
  have q0 := reqn_yes
  rw [← em] at q0 ⊢
  have HEM := hid em
  clear em
  have H0 := hid ((((Env.refl w).new m).zero).perm (l' := [(w.heap.size + 1, 0), (w.heap.size, m)]) (by simp))
  have DZ := hid (show w.heap.size ≤ w.heap.size + 1 by omega)
  have DN := hid (show ∀ p ∈ [(w.heap.size, m)], p.1 ≠ w.heap.size + 1 by simp; try omega)
  go_enter Tryd.func23, Tryd.ntmps23
  go_upto_region 1 with fail
  generalize (w.alloc (.cells (cls m) 26)).alloc (.cells #[.int .u64 0, .int .u64 0, .int .u64 0, .int .u64 0] 26) = w0 at *
  generalize w.heap.size + 1 = g_z at *
  generalize hzg_a : w.heap.size = g_a at *
  obtain ⟨c0x0a, c0x0b, c0x0c, c0x0d⟩ := H0.out.cell (g_a) (m) (by simp)
  have c0x0l := H0.out.lt (g_a) (m) (by simp)
  have c0x0m := Nat.le_of_lt c0x0l
  obtain ⟨z0, z1, z2, z3⟩ := H0.out.cell g_z 0 (by simp)
  have zl := H0.out.lt g_z 0 (by simp)
  have zf := H0.out.frozen g_z 0 (by simp)
  have HZ := hid (H0.out.set g_z 0 (0) [] (by simp) (by rw [hzg_a]; exact DZ.out) (by simp))
  go_wp2
  clear z0 z1 z2 z3 zl zf
  try rw [Exit.noGoto_ret]
  change bodyPost _ _ _ _ _ (fil w0 g_z (0))
  generalize fil w0 g_z (0) = wz at *
  obtain ⟨k0, k1, k2, k3⟩ := HZ.out.cell g_z (0) (by simp)
  exact bodyPost_ret (v := .tuple #[num (0), .int .i64 1]) (by simp [results, Tryd.results23, go_sem, k0, k1, k2, k3]) rfl ⟨by rw [HEM.out], HZ.out.1⟩
theorem rnumber_any (st : ByteArray) (a0 : Option Addr) (n0 c0 : Nat) (A : Nat → Option Addr) (L C : Nat → Nat) (xs : Nat → List UInt8) (m s : Nat) (e : Int) (w : World) (hm : m < 2 ^ 256) (hR : Rws w a0 n0 A L C xs) (hn : n0 + 1 ≤ 1000) (hL : ∀ r, r < n0 → L r ≤ 1048576) (hs : st.size ≤ 1000000) (hc : n0 ≤ c0) (h0 : a0 = none → c0 = 0)
    (hv : (if m = 0 then 0 else nof st.data.toList n0 xs m) = s) (he : (if m = 0 then 1 else 0 : Int) = e) :
    Calls Tryd.prog 23 #[num m, .string st, .slice a0 n0 c0] w fun r w' => r = .returned (.tuple #[num s, .int .i64 e]) ∧ Below w.heap.size w w' := by
  by_cases hm0 : m = 0
  · subst hm0
    rw [if_pos rfl] at hv he
    subst hv; subst he
    exact rnumber_none st a0 n0 c0 w
  · rw [if_neg hm0] at hv he
    subst he
    exact rnumber_some st a0 n0 c0 A L C xs m s w hm hm0 hR hn hL hs hc h0 hv
end Go.Proofs.YtcijnoapjicliaaDoor

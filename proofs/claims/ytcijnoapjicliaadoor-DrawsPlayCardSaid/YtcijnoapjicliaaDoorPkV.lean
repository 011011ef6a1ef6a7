/-
  burrowref03.down, walked. Conditions: none of its lown.
  burrowref03.Wide, walked. Conditions: none of its lown.
-/
import Derived.Test.YtcijnoapjicliaaDoorPkU
import Derived.Test.YtcijnoapjicliaaDoorPkO
import Derived.Deep.Onto
import Derived.Deep.CutBlock
namespace Go.Proofs.YtcijnoapjicliaaDoor
open Go.RowKit
set_option linter.unusedVariables false

theorem r2sub_b (x y s : Nat) (k : Int) (w : World) (hx : x < 2 ^ 256) (hy : y < 2 ^ 256) (hs : dif x y = s) (hk : ((lent x y : Nat) : Int) = k) : Calls Tryd.prog 22 #[num x, num y] w fun e w2 => e = .returned (.tuple #[num s, .int .u64 k]) ∧ Below w.heap.size w w2 := by
 subst hs; subst hk; exact r2sub_any x y w hx hy
theorem rcmp_b (x y : Nat) (c : Int) (w : World) (hx : x < 2 ^ 256) (hy : y < 2 ^ 256) (hc : cmpN x y = c) : Calls Tryd.prog 21 #[num x, num y] w fun e w2 => e = .returned (.int .i64 c) ∧ Below w.heap.size w w2 := by
 subst hc; exact rcmp_any x y w hx hy
theorem rof_b (n : Nat) (z : Int) (w : World) (hn : n < 18446744073709551616) (hz : (n : Int) = z) : Calls Tryd.prog 57 #[.int .u64 z] w fun e w' => e = .returned (num n) ∧ Below w.heap.size w w' := by
 subst hz; exact rlof_any n w hn
theorem own_below {B : Nat} {v : Value} {bs : List UInt8} {w w' : World} (h : Ow w B v bs) (hb : Below w.heap.size w w') : Ow w' B v bs :=
 World.ownsRow.kept (row := none) h ⟨hb.os, hb.tape, hb.output, hb.size, fun j hj _ => hb.block j hj⟩ (by cases v.ownBlock <;> simp)
/-- what the loop carries -/
def Dn (w : World) (B g3 g5 g7 m left : Nat) (v : Value) (bs : List UInt8) (w' : World) : Prop := Env w [(g7, left), (g3, m), (g5, 0)] w' ∧ Ow w' B v bs ∧ w.heap.size ≤ g7 ∧ w.heap.size ≤ g5 ∧ g7 < B ∧ g5 < B ∧ g7 ≠ g3 ∧ g7 ≠ g5 ∧ g5 ≠ g3 ∧ B ≤ w'.heap.size ∧ w.heap.size ≤ B ∧ g3 < B
section
variable {w w' w2 : World} {B g3 g5 g7 m left : Nat} {v : Value} {bs : List UInt8}
theorem Dn.on (h : Dn w B g3 g5 g7 m left v bs w') (hb : Below w'.heap.size w' w2) : Dn w B g3 g5 g7 m left v bs w2 := by
 obtain ⟨h1, h2, h3, h4, h5, h6, h7, h8, h9, h10, h11⟩ := h
 exact ⟨h1.on hb, own_below h2 hb, h3, h4, h5, h6, h7, h8, h9, Nat.le_trans h10 hb.size, h11⟩
theorem Dn.set (h : Dn w B g3 g5 g7 m left v bs w') (x : Nat) : Dn w B g3 g5 g7 m x v bs (fil w' g7 x) := by
 obtain ⟨h1, h2, h3, h4, h5, h6, h7, h8, h9, h10, h11⟩ := h
 refine ⟨h1.set g7 left x [(g3, m), (g5, 0)] (by simp) h3 (fun p hp => by simp only [List.mem_cons, List.not_mem_nil, or_false] at hp; rcases hp with rfl | rfl; exact ⟨by simp, Ne.symm h7⟩; exact ⟨by simp, Ne.symm h8⟩), ?_, h3, h4, h5, h6, h7, h8, h9, ?_, h11⟩
 ·exact ownsRow_setCell_below (ownsRow_setCell_below (ownsRow_setCell_below (ownsRow_setCell_below h2 (a := ⟨g7, 0, none⟩) h5 _) (a := ⟨g7, 1, none⟩) h5 _) (a := ⟨g7, 2, none⟩) h5 _) (a := ⟨g7, 3, none⟩) h5 _
 ·have : (fil w' g7 x).heap.size = w'.heap.size := by simp [World.setCell]
  omega
theorem Dn.grown {v2 : Value} {bs2 : List UInt8} (h : Dn w B g3 g5 g7 m left v bs w') (hg : w'.grownBy w2 v.ownBlock) (ho : Ow w2 B v2 bs2) : Dn w B g3 g5 g7 m left v2 bs2 w2 := by
 obtain ⟨h1, h2, h3, h4, h5, h6, h7, h8, h9, h10, h11, h12⟩ := h
 have hB : Below B w' w2 := (Below.refl B w').grown hg h10 (fun k hk => (World.ownsRow.lt h2 k hk).1)
 refine ⟨⟨h1.1.grown hg h1.1.size (fun k hk => Nat.le_trans h11 (World.ownsRow.lt h2 k hk).1), fun p hp => ?_⟩, ho, h3, h4, h5, h6, h7, h8, h9, Nat.le_trans h10 hB.size, h11, h12⟩
 simp only [List.mem_cons, List.not_mem_nil, or_false] at hp
 rcases hp with rfl | rfl | rfl
 ·exact (h1.2 (g7, left) (by simp)).below hB h5
 ·exact (h1.2 (g3, m) (by simp)).below hB h12
 ·exact (h1.2 (g5, 0) (by simp)).below hB h6
theorem Dn.alloc (h : Dn w B g3 g5 g7 m left v bs w') (o : Obj) : Dn w B g3 g5 g7 m left v bs (w'.alloc o) := h.on (bal (Below.refl _ _) o)
end
/-- one bit more -/
theorem down_step {N m j : Nat} (hm0 : 0 < m) (hm : m < 2 ^ 256) : ∃ s k d b r2 g1 : Nat, (N / 2 ^ (j + 1) % m + N / 2 ^ (j + 1) % m) % 2 ^ 256 = s ∧ (N / 2 ^ (j + 1) % m + N / 2 ^ (j + 1) % m) / 2 ^ 256 = k ∧ k ≤ 1 ∧ N / 2 ^ j % 2 = b ∧ b ≤ 1 ∧ s + b = d ∧ d < 2 ^ 256 ∧ N / 2 ^ j % m = r2 ∧ N / 2 ^ j / m = g1 ∧ ((k = 0 ∧ d < m ∧ r2 = d ∧ g1 = 2 * (N / 2 ^ (j + 1) / m)) ∨ ((k = 1 ∨ (k = 0 ∧ m ≤ d)) ∧ r2 = dif d m ∧ g1 = 2 * (N / 2 ^ (j + 1) / m) + 1)) := by
 obtain ⟨t1, t2⟩ := bring_step N m j hm0
 have hbit : bitAt N j = N / 2 ^ j % 2 := rfl
 rw [hbit] at t1 t2
 have hb : N / 2 ^ j % 2 < 2 := Nat.mod_lt _ (by decide)
 have hr := Nat.mod_lt (N / 2 ^ (j + 1)) hm0
 generalize N / 2 ^ (j + 1) % m = r at *
 generalize N / 2 ^ (j + 1) / m = q at *
 generalize N / 2 ^ j % 2 = b at *
 obtain ⟨he, hs, hc⟩ := take_num hm hr (show b ≤ 1 by omega)
 have hk : (r + r) / 2 ^ 256 ≤ 1 := by rw [p256] at *; omega
 refine ⟨_, _, _, b, _, _, rfl, rfl, hk, rfl, by omega, rfl, hs, rfl, rfl, ?_⟩
 rw [← t1, t2]
 rcases hc with ⟨c1, c2, c3, c4⟩ | ⟨c1, c2, c3, c4⟩
 ·refine Or.inl ⟨?_, ?_, c2, by rw [c3, Nat.add_zero]⟩
  ·rw [p256] at *; omega
  ·rw [p256] at *; omega
 ·refine Or.inr ⟨?_, c2, by rw [c3]⟩
  rw [p256] at *
  omega
theorem down_next {T b m : Nat} (hm0 : 0 < m) (hb : b < 256) : (T % m * 256 + b) / m < 256 ∧ (T * 256 + b) % m = (T % m * 256 + b) % m ∧ (T * 256 + b) / m = T / m * 256 + (T % m * 256 + b) / m := by
 have hr := Nat.mod_lt T hm0
 have hd := Nat.div_add_mod T m
 have e : T * 256 + b = T % m * 256 + b + m * (T / m * 256) := by
  have : T * 256 = (m * (T / m) + T % m) * 256 := by rw [hd]
  rw [this, Nat.add_mul, Nat.mul_assoc]; omega
 refine ⟨?_, ?_, ?_⟩
 ·rw [Nat.div_lt_iff_lt_mul hm0]
  have := Nat.mul_le_mul_right 256 (Nat.succ_le_of_lt hr)
  rw [Nat.succ_mul] at this
  rw [Nat.mul_comm 256 m]; omega
 ·rw [e, Nat.add_mul_mod_self_left]
 ·rw [e, Nat.add_mul_div_left _ _ hm0, Nat.add_comm]
theorem be_next {n q g k : Nat} (h : n = q * 256 + g) (hg : g < 256) : be n (k + 1) = be q k ++ [UInt8.ofNat g] := by
 subst h
 rw [be_snoc, show (q * 256 + g) / 256 = q by omega]
 congr 2
 apply UInt8.toNat_inj.1
 rw [UInt8.toNat_ofNat', UInt8.toNat_ofNat']
 omega
/-- the bits of a byte behind something -/
theorem byte_bit {L b j : Nat} (hj : j < 8) : (L * 256 + b) / 2 ^ j % 2 = b / 2 ^ j % 2 := by
 have e : L * 256 + b = b + 2 ^ j * (2 * (L * 2 ^ (7 - j))) := by
  have : 256 = 2 ^ j * (2 * 2 ^ (7 - j)) := by rw [← Nat.pow_succ', ← Nat.pow_add, show j + (7 - j).succ = 8 by omega]
  conv => lhs; rw [this]
  rw [Nat.mul_left_comm, Nat.mul_left_comm L]; omega
 rw [e, Nat.add_mul_div_left _ _ (Nat.two_pow_pos j), Nat.add_mul_mod_self_left]
/-- what it answers: how often, in a row of its lown, and what is left -/
def DownE (w : World) (q n r : Nat) (e : Ending) (w' : World) : Prop := ∃ v, e = .returned (.tuple #[v, num r]) ∧ Ow w' w.heap.size v (be q n) ∧ Below w.heap.size w w'
set_option maxRecDepth 100000 in
set_option maxHeartbeats 6400000 in
theorem down_any (A : Option Addr) (c m : Nat) (bs : List UInt8) (w : World) (hr : Rd w A bs) (hm0 : 0 < m) (hm : m < 2 ^ 256) (hn : bs.length ≤ 1000000) : Calls Tryd.prog 59 #[.slice A bs.length c, num m] w (DownE w (tell bs / m) bs.length (tell bs % m)) := by
 have HR := hid hr
 have HM := hid hm
 have M0 := hid hm0
 have HN := hid hn
 obtain ⟨n, en⟩ : ∃ n, bs.length = n := ⟨_, rfl⟩
 rw [en]
 have EN := hid en
 rw [en] at hn
 have hn2 := hn
 clear hr hm hm0 en HN
 have H0 := hid (((((Env.refl w).new m).zero).zero).perm (l' := [(w.heap.size + 1 + 1, 0), (w.heap.size, m), (w.heap.size + 1, 0)]) (by simp))
 have hsz : (((w.alloc (.cells (cls m) 26)).alloc (.cells #[.int .u64 0, .int .u64 0, .int .u64 0, .int .u64 0] 26)).alloc (.cells #[.int .u64 0, .int .u64 0, .int .u64 0, .int .u64 0] 26)).heap.size = w.heap.size + 1 + 1 + 1 := by simp only [World.size_alloc]
 go_enter Tryd.func59, Tryd.ntmps59
 go_upto_block 0 with fail
 generalize ((w.alloc (.cells (cls m) 26)).alloc (.cells #[.int .u64 0, .int .u64 0, .int .u64 0, .int .u64 0] 26)).alloc (.cells #[.int .u64 0, .int .u64 0, .int .u64 0, .int .u64 0] 26) = w0 at *
 have HD0 : Hid (Dn w w0.heap.size w.heap.size (w.heap.size + 1) (w.heap.size + 1 + 1) m 0 (.slice none 0 0) [] w0) := hid ⟨H0.out, Ow.nil _ _, by omega, by omega, by omega, by omega, by omega, by omega, by omega, Nat.le_refl _, by omega, by omega⟩
 clear H0 hsz
 generalize w.heap.size + 1 + 1 = g7 at *
 generalize w.heap.size + 1 = g5 at *
 obtain ⟨g3, eg3⟩ : ∃ z, w.heap.size = z := ⟨_, rfl⟩
 rw [eg3] at HD0 ⊢
 generalize w0.heap.size = B at *
 have EG3 := hid eg3
 clear eg3
 go_wp2_with fail
 go_loopw [6, 8] (fun s6 s8 wr => ∃ (i left : Nat) (v : Value), Hid (i ≤ n) ∧ s8 = .int .i64 (i : Int) ∧ s6 = v ∧ Hid (left = tell (bs.take i) % m) ∧ Hid (Dn w B g3 g5 g7 m left v (be (tell (bs.take i) / m) i) wr)) (fun _ s _ => n - (intOf s).toNat)
 case atStart => exact ⟨0, 0, _, hid (by omega), rfl, rfl, hid (by simp [tell]), HD0⟩
 case round =>
  obtain ⟨i, left, v, hi, rfl, hv, P, H⟩ := hrel
  have hv2 := hv.symm
  clear hv HD0
  subst hv2
  by_cases h : i = n
  ·have PE := hid (show left = tell bs % m by rw [P.out, h, ← EN.out, List.take_length])
   have HO := hid (show Ow wr B v (be (tell bs / m) n) by have := H.out.2.1; rwa [h, show bs.take n = bs from by rw [← EN.out, List.take_length]] at this)
   have nlt : ¬ ((i : Int) < (n : Int)) := by omega
   obtain ⟨l0, l1, l2, l3⟩ := H.out.1.cell g7 left (by simp)
   have ll := H.out.1.lt g7 left (by simp)
   obtain ⟨z0, z1, z2, z3⟩ := H.out.1.cell g5 0 (by simp)
   have zl := H.out.1.lt g5 0 (by simp)
   have zf := H.out.1.frozen g5 0 (by simp)
   have n5 : g7 ≠ g5 := H.out.2.2.2.2.2.2.2.1
   have n6 : g5 ≠ g7 := Ne.symm n5
   have HZ := hid (H.out.1.set g5 0 left [] (by simp) H.out.2.2.2.1 (by simp))
   have HO2 := hid (show Ow (fil wr g5 left) B v (be (tell bs / m) n) from ownsRow_setCell_below (ownsRow_setCell_below (ownsRow_setCell_below (ownsRow_setCell_below HO.out (a := ⟨g5, 0, none⟩) H.out.2.2.2.2.2.1 _) (a := ⟨g5, 1, none⟩) H.out.2.2.2.2.2.1 _) (a := ⟨g5, 2, none⟩) H.out.2.2.2.2.2.1 _) (a := ⟨g5, 3, none⟩) H.out.2.2.2.2.2.1 _)
   have HWB := hid H.out.2.2.2.2.2.2.2.2.2.2.1
   clear HO H
   go_wp2
   go_region
   all_goals
    go_wp2
    clear l0 l1 l2 l3 z0 z1 z2 z3
    change bodyPost _ _ _ _ _ (fil wr g5 left).drew
    generalize fil wr g5 left = wz at *
    obtain ⟨k0, k1, k2, k3⟩ := HZ.out.cell g5 left (by simp)
    exact bodyPost_ret (v := .tuple #[v, num left]) (by simp [results, Tryd.results59, go_sem, k0, k1, k2, k3]) rfl ⟨v, by rw [PE.out], World.ownsRow.mono (World.ownsRow.drew HO2.out) HWB.out, HZ.out.1.drew⟩
  ·have hlt : i < n := by have := hi.out; omega
   have lt1 : (i : Int) < (n : Int) := by omega
   have HB : Hid (∃ g o b, A = some ⟨g, o, none⟩ ∧ b < 256 ∧ tell (bs.take (i + 1)) = tell (bs.take i) * 256 + b ∧ ∀ w2, Below w.heap.size w w2 → w2.cell? ⟨g, o + i, none⟩ = some (.int .u8 (b : Int))) := hid (by
     have hl : i < bs.length := by rw [EN.out]; exact hlt
     obtain ⟨g, o, hA, hg, hc⟩ := HR.out (by omega)
     exact ⟨g, o, bs[i].toNat, hA, bs[i].toNat_lt, tell_take_succ bs i hl, fun w2 hb => (hb.cell (p := ⟨g, o + i, none⟩) hg).trans (hc i hl)⟩)
   obtain ⟨g, o, b, hA, hb, hT, hcell⟩ := HB.out
   clear HB
   subst hA
   obtain ⟨hx1, hx2, hx3⟩ := down_next (T := tell (bs.take i)) (m := m) (b := b) M0.out hb
   have hN8 : (tell (bs.take i) % m * 256 + b) / 2 ^ 8 = tell (bs.take i) % m := by omega
   have hbit : ∀ j, j < 8 → (tell (bs.take i) % m * 256 + b) / 2 ^ j % 2 = b / 2 ^ j % 2 := fun j hj => byte_bit hj
   have hN := P.out
   rw [← hN] at hx1 hx2 hx3 hN8 hbit
   obtain ⟨NN, eNN⟩ : ∃ z, left * 256 + b = z := ⟨_, rfl⟩
   rw [eNN] at hx1 hx2 hx3 hN8 hbit
   have LM : left < m := by rw [hN]; exact Nat.mod_lt _ M0.out
   have hL8 : left = NN / 2 ^ 8 % m := by rw [hN8, Nat.mod_eq_of_lt LM]
   have hG8 : NN / 2 ^ 8 / m = 0 := by rw [hN8, Nat.div_eq_of_lt LM]
   have X1 := hid hx1
   have X2 := hid hx2
   have X3 := hid hx3
   have XB := hid hbit
   have L8 := hid hL8
   have G8 := hid hG8
   have HT := hid hT
   have HC := hid hcell
   have HBL := hid hb
   have HLT := hid hlt
   clear hx1 hx2 hx3 hN8 hbit hN eNN LM hL8 hG8 hT hcell hb h hlt
   obtain ⟨wo, rfl⟩ : ∃ wo : World, wo = wr := ⟨_, rfl⟩
   obtain ⟨BS, eBS⟩ : ∃ z, be (tell (bs.take i) / m) i = z := ⟨_, rfl⟩
   rw [eBS] at H
   have EBS := hid eBS
   clear eBS
   go_wp2_with fail
   go_loopw [9, 10] (fun s9 s10 wi => ∃ (j l2 gs : Nat) (z : Int), Hid (j ≤ 8) ∧ Hid (z = (j : Int) - 1) ∧ s10 = .int .i64 z ∧ s9 = .int .i64 (gs : Int) ∧ Hid (l2 = NN / 2 ^ j % m ∧ gs = NN / 2 ^ j / m) ∧ Hid (Dn w B g3 g5 g7 m l2 v BS wi)) (fun _ s _ => (intOf s + 1).toNat)
   case atStart => exact ⟨8, left, 0, 7, hid (by omega), hid (by omega), rfl, rfl, hid ⟨L8.out, G8.out.symm⟩, H⟩
   case round =>
    obtain ⟨j, l2, gs, z, hj, hz, rfl, rfl, PQ, HI⟩ := hrel
    clear H
    by_cases h0 : j = 0
    ·subst h0
     obtain rfl : z = -1 := by have := hz.out; omega
     have hp2 := PQ.out.2
     have hp1 := PQ.out.1
     rw [Nat.pow_zero, Nat.div_one] at hp1 hp2
     have hgl : gs < 256 := by rw [hp2]; exact X1.out
     have g8 : IntKind.u8.wrap (gs : Int) = (gs : Int) := by rw [IntKind.wrap_u8]; omega
     have HG1 := hid hp1
     have HG2 := hid hp2
     have HGL := hid hgl
     clear hp1 hp2 hgl hz PQ hj
     have hgs : (gs : Int) = (((UInt8.ofNat gs).toNat : Nat) : Int) := by rw [UInt8.toNat_ofNat']; have := HGL.out; omega
     have hR : Row (wr.alloc (.cells #[.int .u8 (gs : Int)] 5)) wr.heap.size [UInt8.ofNat gs] := by rw [hgs]; exact Row.one wr _
     have hBL : BS.length = i := by rw [← EBS.out, be_length]
     obtain ⟨v2, w2, hrun2, how2, hg2, _⟩ := append_bytes (wr.alloc (.cells #[.int .u8 (gs : Int)] 5)) B v BS [UInt8.ofNat gs] (some ⟨wr.heap.size, 0, none⟩) 1 1 (World.ownsRow.alloc HI.out.2.1 _) hR.rd0 rfl (fun h => by cases h) (by rw [hBL]; omega) (by have := HI.out.2.2.2.2.2.2.2.2.2.1; simp; omega)
     have HD2 := hid ((HI.out.alloc (.cells #[.int .u8 (gs : Int)] 5)).grown hg2 how2)
     have HN2 := hid hrun2
     have HP2 := hid (show l2 = tell (bs.take (i + 1)) % m by rw [HT.out, X2.out]; exact HG1.out)
     have HBE := hid (show be (tell (bs.take (i + 1)) / m) (i + 1) = BS ++ [UInt8.ofNat gs] by rw [be_next (by rw [HT.out, X3.out]) X1.out, ← HG2.out, EBS.out])
     clear hrun2 how2 hg2 hR hgs hBL
     go_wp2_with (at_builtin; refine step_append rfl (.tmp 62) (.tmp 65) rfl rfl _ _ rfl rfl v2 w2 HN2.out ?_)
     go_roundw
     case measure => simp [intOf]; have := HLT.out; omega
     case rel => exact ⟨i + 1, l2, v2, hid (by have := HLT.out; omega), by simp, rfl, HP2, hid (by rw [HBE.out]; exact HD2.out)⟩
    ·obtain ⟨k, rfl⟩ : ∃ k, j = k + 1 := ⟨j - 1, by omega⟩
     obtain rfl : z = (k : Int) := by have := hz.out; omega
     have hk8 : k < 8 := by have := hj.out; omega
     obtain ⟨s, kk, d, b2, r2, g1, s1, s2, s3, s4, s5, s6, s7, s8, s9, s10⟩ := down_step (N := NN) (j := k) M0.out HM.out
     rw [← PQ.out.1] at s1 s2
     rw [← PQ.out.2] at s10
     rw [XB.out k hk8] at s4
     have L2L := hid (show l2 < 2 ^ 256 by rw [PQ.out.1]; exact Nat.lt_trans (Nat.mod_lt _ M0.out) HM.out)
     have S1 := hid s1
     have S2 := hid (show (((l2 + l2) / 2 ^ 256 : Nat) : Int) = (kk : Int) by rw [s2])
     have SL := hid (show s < 2 ^ 256 by rw [← s1]; exact Nat.mod_lt _ (Nat.two_pow_pos _))
     have S6 := hid (show (s + b2) % 2 ^ 256 = d by rw [s6, Nat.mod_eq_of_lt s7])
     have S6b := hid (show (((s + b2) / 2 ^ 256 : Nat) : Int) = 0 by rw [s6, Nat.div_eq_of_lt s7]; rfl)
     have DL := hid s7
     have B2L := hid s5
     have S4 := hid s4
     have S8 := hid s8
     have S9 := hid s9
     have S10 := hid s10
     have S3 := hid s3
     have K8 := hid hk8
     clear s1 s2 s3 s4 s5 s6 s7 s8 s9 s10 hz hj
     have E0 := hid (show Env wr [(g7, l2), (g3, m), (g5, 0)] wr from ⟨Below.refl _ _, HI.out.1.2⟩)
     obtain ⟨c0x0a, c0x0b, c0x0c, c0x0d⟩ := E0.out.cell (g7) (l2) (by simp)
     have c0x0l := E0.out.lt (g7) (l2) (by simp)
     have c0x0m := Nat.le_of_lt c0x0l
     go_wp2_with fail
     clear c0x0a c0x0b c0x0c c0x0d c0x0l c0x0m
     refine (env_of (r2add_b l2 l2 s (kk : Int) _ L2L.out L2L.out S1.out S2.out) E0.out).mono ?_
     rintro e w1 ⟨rfl, h⟩
     have H1 := hid h
     clear h E0
     have Fg11 := hid H1.out.fresh
     go_upto_region 11 with fail
     have H1b := hid (H1.out.new s)
     clear H1
     generalize w1.alloc (.cells (cls s) 26) = w1b at *
     generalize w1.heap.size = g11 at *
     have j1 : IntKind.i64.wrap (i : Int) = (i : Int) := IntWalk.i64_in _ (by omega)
     have j2 : (0 : Int) ≤ (i : Int) := by omega
     have j3 : min k 8 = k := by omega
     have j4 : min k 64 = k := by omega
     have j5 : (0 : Int) ≤ (k : Int) := by omega
     have HBW := hid HI.out.1.1
     have J6 := hid (show (b2 : Int) = (IntKind.u64.wrap ((b : Int) / 2 ^ k)).tmod 2 by
      have e0 : ((b : Int) / 2 ^ k) = ((b / 2 ^ k : Nat) : Int) := by simp
      have hl : b / 2 ^ k ≤ b := Nat.div_le_self _ _
      have := HBL.out
      have h4 := S4.out
      rw [e0]
      generalize b / 2 ^ k = qq at *
      rw [IntWalk.u64_in _ (by omega), Int.tmod_eq_emod_of_nonneg (by omega), ← h4]; omega)
     have hgs : gs < 256 := Nat.lt_of_le_of_lt (by rw [PQ.out.2]; exact Nat.div_le_div_right (Nat.div_le_self _ _)) X1.out
     have y1 : IntKind.i64.wrap (2 * (gs : Int)) = ((2 * gs : Nat) : Int) := by rw [IntWalk.i64_in _ (by omega)]; omega
     have y2 : IntKind.i64.wrap (((2 * gs : Nat) : Int) + 1) = ((2 * gs + 1 : Nat) : Int) := by rw [IntWalk.i64_in _ (by omega)]; omega
     have y3 : IntKind.i64.wrap ((k : Int) - 1) = (k : Int) - 1 := IntWalk.i64_in _ (by omega)
     generalize e2g : 2 * gs = g2s at *
     generalize e3g : g2s + 1 = g3s at *
     have EG2 := hid e2g
     have EG3' := hid e3g
     clear e2g e3g hgs
     have hs := H1b.out.drew
     refine wp_region_noPanic ?_
     refine Goes.region (fun (L : Array Bool) (w' : World) => (L.getD 14 true = false → (w'.cell? ⟨g11, 0, none⟩ = some (.int .u64 (wd (s) 0 : Int)) ∧ w'.cell? ⟨g11, 1, none⟩ = some (.int .u64 (wd (s) 1 : Int)) ∧ w'.cell? ⟨g11, 2, none⟩ = some (.int .u64 (wd (s) 2 : Int)) ∧ w'.cell? ⟨g11, 3, none⟩ = some (.int .u64 (wd (s) 3 : Int)))) ∧ (w'.cell? ⟨g, o + i, none⟩ = some (.int .u8 (b : Int)))) (by kernel_rfl) ?_
     generalize w1b.drew = wdr at *
     refine Goes.take (i := 0) (o := ⟨some 30, _, _, _, _, _⟩) (v := ?_) [14] rfl (by kernel_rfl) (by kernel_rfl) (by kernel_rfl) (fun _ _ _ h => h) (by kernel_rfl) (fun L u h => ⟨fun e => h.1 (by rw [getD_set_ne true (by decide)]; exact e), h.2⟩) (Or.inl ⟨by rfl, ?_⟩) (⟨fun _ => ⟨(Env.cell hs g11 (s) (by simp)).1, (Env.cell hs g11 (s) (by simp)).2.1, (Env.cell hs g11 (s) (by simp)).2.2.1, (Env.cell hs g11 (s) (by simp)).2.2.2⟩, (HC.out _ (bthen HBW.out hs.1))⟩) ?_
     rotate_left
     ·intro w hY; obtain ⟨up, hL⟩ := hY; have hX := hL.2.1 (hL.1 14 (by simp)); have hX2 := hL.2.2; clear hL; (try dsimp only at hX hX2); obtain ⟨x0, x1, x2, x3⟩ := hX; have x4 := hX2; clear hX2; go_simp; try with_reducible rfl
     try simp only [putz]
     refine Goes.take (i := 1) (o := ⟨some 31, _, _, _, _, _⟩) (v := ?_) [] rfl (by kernel_rfl) (by kernel_rfl) (by kernel_rfl) (fun _ _ _ h => h) (by kernel_rfl) (fun L u h => ⟨fun e => h.1 (by rw [getD_set_ne true (by decide)]; exact e), h.2⟩) (Or.inl ⟨by rfl, ?_⟩) (⟨fun _ => ⟨(Env.cell hs g11 (s) (by simp)).1, (Env.cell hs g11 (s) (by simp)).2.1, (Env.cell hs g11 (s) (by simp)).2.2.1, (Env.cell hs g11 (s) (by simp)).2.2.2⟩, (HC.out _ (bthen HBW.out hs.1))⟩) ?_
     rotate_left
     ·intro w hY; go_simp; try with_reducible rfl
     try simp only [putz]
     refine Goes.take (i := 2) (o := ⟨some 32, _, _, _, _, _⟩) (v := ?_) [] rfl (by kernel_rfl) (by kernel_rfl) (by kernel_rfl) (fun _ _ _ h => h) (by kernel_rfl) (fun L u h => ⟨fun e => h.1 (by rw [getD_set_ne true (by decide)]; exact e), h.2⟩) (Or.inl ⟨by rfl, ?_⟩) (⟨fun _ => ⟨(Env.cell hs g11 (s) (by simp)).1, (Env.cell hs g11 (s) (by simp)).2.1, (Env.cell hs g11 (s) (by simp)).2.2.1, (Env.cell hs g11 (s) (by simp)).2.2.2⟩, (HC.out _ (bthen HBW.out hs.1))⟩) ?_
     rotate_left
     ·intro w hY; go_simp; try with_reducible rfl
     try simp only [putz]
     refine Goes.take (i := 3) (o := ⟨some 33, _, _, _, _, _⟩) (v := ?_) [14] rfl (by kernel_rfl) (by kernel_rfl) (by kernel_rfl) (fun _ _ _ h => h) (by kernel_rfl) (fun L u h => ⟨fun e => h.1 (by rw [getD_set_ne true (by decide)]; exact e), h.2⟩) (Or.inl ⟨by rfl, ?_⟩) (⟨fun _ => ⟨(Env.cell hs g11 (s) (by simp)).1, (Env.cell hs g11 (s) (by simp)).2.1, (Env.cell hs g11 (s) (by simp)).2.2.1, (Env.cell hs g11 (s) (by simp)).2.2.2⟩, (HC.out _ (bthen HBW.out hs.1))⟩) ?_
     rotate_left
     ·intro w hY; obtain ⟨up, hL⟩ := hY; have hX := hL.2.1 (hL.1 14 (by simp)); have hX2 := hL.2.2; clear hL; (try dsimp only at hX hX2); obtain ⟨x0, x1, x2, x3⟩ := hX; have x4 := hX2; clear hX2; go_simp; try with_reducible rfl
     try simp only [putz]
     refine Goes.take (i := 4) (o := ⟨some 34, _, _, _, _, _⟩) (v := ?_) [14] rfl (by kernel_rfl) (by kernel_rfl) (by kernel_rfl) (fun _ _ _ h => h) (by kernel_rfl) (fun L u h => ⟨fun e => h.1 (by rw [getD_set_ne true (by decide)]; exact e), h.2⟩) (Or.inl ⟨by rfl, ?_⟩) (⟨fun _ => ⟨(Env.cell hs g11 (s) (by simp)).1, (Env.cell hs g11 (s) (by simp)).2.1, (Env.cell hs g11 (s) (by simp)).2.2.1, (Env.cell hs g11 (s) (by simp)).2.2.2⟩, (HC.out _ (bthen HBW.out hs.1))⟩) ?_
     rotate_left
     ·intro w hY; obtain ⟨up, hL⟩ := hY; have hX := hL.2.1 (hL.1 14 (by simp)); have hX2 := hL.2.2; clear hL; (try dsimp only at hX hX2); obtain ⟨x0, x1, x2, x3⟩ := hX; have x4 := hX2; clear hX2; go_simp; try with_reducible rfl
     try simp only [putz]
     refine Goes.take (i := 5) (o := ⟨some 35, _, _, _, _, _⟩) (v := ?_) [] rfl (by kernel_rfl) (by kernel_rfl) (by kernel_rfl) (fun _ _ _ h => h) (by kernel_rfl) (fun L u h => ⟨fun e => h.1 (by rw [getD_set_ne true (by decide)]; exact e), h.2⟩) (Or.inl ⟨by rfl, ?_⟩) (⟨fun _ => ⟨(Env.cell hs g11 (s) (by simp)).1, (Env.cell hs g11 (s) (by simp)).2.1, (Env.cell hs g11 (s) (by simp)).2.2.1, (Env.cell hs g11 (s) (by simp)).2.2.2⟩, (HC.out _ (bthen HBW.out hs.1))⟩) ?_
     rotate_left
     ·intro w hY; go_simp; try with_reducible rfl
     try simp only [putz]
     refine Goes.take (i := 6) (o := ⟨some 36, _, _, _, _, _⟩) (v := ?_) [] rfl (by kernel_rfl) (by kernel_rfl) (by kernel_rfl) (fun _ _ _ h => h) (by kernel_rfl) (fun L u h => ⟨fun e => h.1 (by rw [getD_set_ne true (by decide)]; exact e), h.2⟩) (Or.inl ⟨by rfl, ?_⟩) (⟨fun _ => ⟨(Env.cell hs g11 (s) (by simp)).1, (Env.cell hs g11 (s) (by simp)).2.1, (Env.cell hs g11 (s) (by simp)).2.2.1, (Env.cell hs g11 (s) (by simp)).2.2.2⟩, (HC.out _ (bthen HBW.out hs.1))⟩) ?_
     rotate_left
     ·intro w hY; go_simp; try with_reducible rfl
     try simp only [putz]
     refine Goes.take (i := 7) (o := ⟨some 37, _, _, _, _, _⟩) (v := ?_) [] rfl (by kernel_rfl) (by kernel_rfl) (by kernel_rfl) (fun _ _ _ h => h) (by kernel_rfl) (fun L u h => ⟨fun e => h.1 (by rw [getD_set_ne true (by decide)]; exact e), h.2⟩) (Or.inl ⟨by rfl, ?_⟩) (⟨fun _ => ⟨(Env.cell hs g11 (s) (by simp)).1, (Env.cell hs g11 (s) (by simp)).2.1, (Env.cell hs g11 (s) (by simp)).2.2.1, (Env.cell hs g11 (s) (by simp)).2.2.2⟩, (HC.out _ (bthen HBW.out hs.1))⟩) ?_
     rotate_left
     ·intro w hY; go_simp; try with_reducible rfl
     try simp only [putz]
     refine Goes.take (i := 8) (o := ⟨some 38, _, _, _, _, _⟩) (v := ?_) [] rfl (by kernel_rfl) (by kernel_rfl) (by kernel_rfl) (fun _ _ _ h => h) (by kernel_rfl) (fun L u h => ⟨fun e => h.1 (by rw [getD_set_ne true (by decide)]; exact e), h.2⟩) (Or.inl ⟨by rfl, ?_⟩) (⟨fun _ => ⟨(Env.cell hs g11 (s) (by simp)).1, (Env.cell hs g11 (s) (by simp)).2.1, (Env.cell hs g11 (s) (by simp)).2.2.1, (Env.cell hs g11 (s) (by simp)).2.2.2⟩, (HC.out _ (bthen HBW.out hs.1))⟩) ?_
     rotate_left
     ·intro w hY; go_simp; try with_reducible rfl
     try simp only [putz]
     refine Goes.one (i := 9) (o := ⟨some 39, _, _, _, _, _⟩) (by kernel_rfl) rfl (fun K hK => ?_)
     go_simp
     with_reducible refine (env_of (rof_b b2 _ _ (by have := B2L.out; omega) J6.out) hs).mono ?_
     rintro e wn1 ⟨rfl, hs1⟩
     go_wp2_with fail
     refine hK.out _ _ (⟨fun _ => ⟨(Env.cell hs1 g11 (s) (by simp)).1, (Env.cell hs1 g11 (s) (by simp)).2.1, (Env.cell hs1 g11 (s) (by simp)).2.2.1, (Env.cell hs1 g11 (s) (by simp)).2.2.2⟩, (HC.out _ (bthen HBW.out hs1.1))⟩) ?_
     clear hK K
     try simp only [putz]
     clear hs
     have hs := hs1
     clear hs1
     refine Goes.one (i := 10) (o := ⟨some 40, _, _, _, _, _⟩) (by kernel_rfl) rfl (fun K hK => ?_)
     go_simp
     with_reducible refine (env_of (r2add_b s b2 d 0 _ SL.out (by have := B2L.out; omega) S6.out S6b.out) hs).mono ?_
     rintro e wn2 ⟨rfl, hs2⟩
     go_wp2_with fail
     refine hK.out _ _ (⟨fun _ => ⟨(Env.cell hs2 g11 (s) (by simp)).1, (Env.cell hs2 g11 (s) (by simp)).2.1, (Env.cell hs2 g11 (s) (by simp)).2.2.1, (Env.cell hs2 g11 (s) (by simp)).2.2.2⟩, (HC.out _ (bthen HBW.out hs2.1))⟩) ?_
     clear hK K
     try simp only [putz]
     clear hs
     have hs := hs2
     clear hs2
     refine Goes.take (i := 11) (o := ⟨some 29, _, _, _, _, _⟩) (v := ?_) [] rfl (by kernel_rfl) (by kernel_rfl) (by kernel_rfl) (fun _ _ _ h => h) (by kernel_rfl) (fun L u h => ⟨fun e => h.1 (by rw [getD_set_ne true (by decide)]; exact e), h.2⟩) (Or.inl ⟨by rfl, ?_⟩) (⟨fun _ => ⟨(Env.cell hs g11 (s) (by simp)).1, (Env.cell hs g11 (s) (by simp)).2.1, (Env.cell hs g11 (s) (by simp)).2.2.1, (Env.cell hs g11 (s) (by simp)).2.2.2⟩, (HC.out _ (bthen HBW.out hs.1))⟩) ?_
     rotate_left
     ·intro w hY; go_simp; try with_reducible rfl
     try simp only [putz]
     refine Goes.take (i := 12) (o := ⟨some 41, _, _, _, _, _⟩) (v := ?_) [] rfl (by kernel_rfl) (by kernel_rfl) (by kernel_rfl) (fun _ _ _ h => h) (by kernel_rfl) (fun L u h => ⟨fun e => h.1 (by rw [getD_set_ne true (by decide)]; exact e), h.2⟩) (Or.inl ⟨by rfl, ?_⟩) (⟨fun _ => ⟨(Env.cell hs g11 (s) (by simp)).1, (Env.cell hs g11 (s) (by simp)).2.1, (Env.cell hs g11 (s) (by simp)).2.2.1, (Env.cell hs g11 (s) (by simp)).2.2.2⟩, (HC.out _ (bthen HBW.out hs.1))⟩) ?_
     rotate_left
     ·intro w hY; go_simp; try with_reducible rfl
     try simp only [putz]
     refine Goes.take (i := 13) (o := ⟨some 42, _, _, _, _, _⟩) (v := ?_) [] rfl (by kernel_rfl) (by kernel_rfl) (by kernel_rfl) (fun _ _ _ h => h) (by kernel_rfl) (fun L u h => ⟨fun e => h.1 (by rw [getD_set_ne true (by decide)]; exact e), h.2⟩) (Or.inl ⟨by rfl, ?_⟩) (⟨fun _ => ⟨(Env.cell hs g11 (s) (by simp)).1, (Env.cell hs g11 (s) (by simp)).2.1, (Env.cell hs g11 (s) (by simp)).2.2.1, (Env.cell hs g11 (s) (by simp)).2.2.2⟩, (HC.out _ (bthen HBW.out hs.1))⟩) ?_
     rotate_left
     ·intro w hY; go_simp; try with_reducible rfl
     try simp only [putz]
     refine Goes.one (i := 14) (o := ⟨none, _, _, _, _, _⟩) (by kernel_rfl) rfl (fun K hK => ?_)
     obtain ⟨z0, z1, z2, z3⟩ := hs.cell g11 (s) (by simp)
     have zl := hs.lt g11 (s) (by simp)
     have zf := hs.frozen g11 (s) (by simp)
     have hs3 := hs.set g11 (s) (d) [(g7, l2), (g3, m), (g5, 0)] (by simp) Fg11.out.1 (fun p hp => by simp only [List.mem_cons, List.not_mem_nil, or_false] at hp; rcases hp with rfl | rfl | rfl <;> first | exact ⟨by simp, Fg11.out.2 (g7, l2) (by simp)⟩ | exact ⟨by simp, Fg11.out.2 (g3, m) (by simp)⟩ | exact ⟨by simp, Fg11.out.2 (g5, 0) (by simp)⟩)
     go_simp
     refine hK.out _ _ (⟨fun e => absurd e (by decide), (HC.out _ (bthen HBW.out hs3.1))⟩) ?_
     clear hK K
     try simp only [putz]
     clear hs z0 z1 z2 z3 zl zf
     change Goes _ _ _ _ _ _ _ _ (fil wn2 g11 (d))
     generalize fil wn2 g11 (d) = wn3 at *
     have hs := hs3
     clear hs3
     refine Goes.done (by kernel_rfl) ?_ _
     refine NoPanic.normal ?_
     have H2 := hid hs
     clear hs H1b HC
     generalize wn3 = w2 at *
     obtain ⟨t2, et2⟩ : ∃ z, dif d m = z := ⟨_, rfl⟩
     have ET2 := hid et2.symm
     clear et2
     rcases S10.out with ⟨c0, c1, c2, c3⟩ | ⟨c0, c2, c3⟩
     ·have EC : Hid (cmpN d m = -1) := hid (by unfold cmpN; rw [if_pos c1])
      have R2 := hid (show d = NN / 2 ^ k % m by rw [← c2]; exact S8.out.symm)
      have G1 := hid (show g2s = NN / 2 ^ k / m by rw [S9.out, c3])
      clear c1 c2 c3
      subst c0
      obtain ⟨c0x2a, c0x2b, c0x2c, c0x2d⟩ := H2.out.cell (g11) (d) (by simp)
      have c0x2l := H2.out.lt (g11) (d) (by simp)
      have c0x2m := Nat.le_of_lt c0x2l
      obtain ⟨c6x2a, c6x2b, c6x2c, c6x2d⟩ := H2.out.cell (g3) (m) (by simp)
      have c6x2l := H2.out.lt (g3) (m) (by simp)
      have c6x2m := Nat.le_of_lt c6x2l
      go_wp2_with fail
      clear c0x2a c0x2b c0x2c c0x2d c0x2l c0x2m c6x2a c6x2b c6x2c c6x2d c6x2l c6x2m
      refine (env_of (rcmp_b d m (-1) _ DL.out HM.out EC.out) H2.out).mono ?_
      rintro e w3 ⟨rfl, h⟩
      have H3 := hid h
      clear h H2
      obtain ⟨c0x3a, c0x3b, c0x3c, c0x3d⟩ := H3.out.cell (g11) (d) (by simp)
      have c0x3l := H3.out.lt (g11) (d) (by simp)
      have c0x3m := Nat.le_of_lt c0x3l
      obtain ⟨c6x3a, c6x3b, c6x3c, c6x3d⟩ := H3.out.cell (g7) (l2) (by simp)
      have c6x3l := H3.out.lt (g7) (l2) (by simp)
      have c6x3m := Nat.le_of_lt c6x3l
      have f12x3 := H3.out.frozen g7 l2 (by simp)
      have HZ := hid ((HI.out.on H3.out.1).set (d))
      go_wp2_with fail
      clear c0x3a c0x3b c0x3c c0x3d c0x3l c0x3m c6x3a c6x3b c6x3c c6x3d c6x3l c6x3m f12x3
      go_roundw
      case measure => first | (simp [intOf]; done) | (simp [intOf]; omega)
      case rel => exact ⟨k, d, g2s, (k : Int) - 1, hid (by have := K8.out; omega), hid rfl, rfl, rfl, hid ⟨by first | exact R2.out | (rw [← R2.out]), by first | exact G1.out | (rw [← G1.out])⟩, HZ⟩
     ·rcases c0 with c0 | ⟨c0, c1⟩
      ·subst c0
       have R2 := hid (show t2 = NN / 2 ^ k % m by rw [ET2.out, ← c2]; exact S8.out.symm)
       have G1 := hid (show g3s = NN / 2 ^ k / m by rw [S9.out, c3])
       clear c2 c3
       obtain ⟨c0x2a, c0x2b, c0x2c, c0x2d⟩ := H2.out.cell (g11) (d) (by simp)
       have c0x2l := H2.out.lt (g11) (d) (by simp)
       have c0x2m := Nat.le_of_lt c0x2l
       obtain ⟨c6x2a, c6x2b, c6x2c, c6x2d⟩ := H2.out.cell (g3) (m) (by simp)
       have c6x2l := H2.out.lt (g3) (m) (by simp)
       have c6x2m := Nat.le_of_lt c6x2l
       go_wp2_with fail
       clear c0x2a c0x2b c0x2c c0x2d c0x2l c0x2m c6x2a c6x2b c6x2c c6x2d c6x2l c6x2m
       obtain ⟨ln, eln⟩ : ∃ z : Int, ((lent d m : Nat) : Int) = z := ⟨_, rfl⟩
       have LN := hid eln
       clear eln
       refine (env_of (r2sub_b d m t2 ln _ DL.out HM.out ET2.out.symm LN.out) H2.out).mono ?_
       rintro e w3 ⟨rfl, h⟩
       have H3 := hid h
       clear h H2
       obtain ⟨c0x3a, c0x3b, c0x3c, c0x3d⟩ := H3.out.cell (g11) (d) (by simp)
       have c0x3l := H3.out.lt (g11) (d) (by simp)
       have c0x3m := Nat.le_of_lt c0x3l
       have f6x3 := H3.out.frozen g11 d (by simp)
       have HS := hid (H3.out.set g11 d t2 [(g7, l2), (g3, m), (g5, 0)] (by simp) Fg11.out.1 (fun p hp => by simp only [List.mem_cons, List.not_mem_nil, or_false] at hp; rcases hp with rfl | rfl | rfl <;> first | exact ⟨by simp, Fg11.out.2 (g7, l2) (by simp)⟩ | exact ⟨by simp, Fg11.out.2 (g3, m) (by simp)⟩ | exact ⟨by simp, Fg11.out.2 (g5, 0) (by simp)⟩))
       go_upto_region 15 with fail
       clear c0x3a c0x3b c0x3c c0x3d c0x3l c0x3m f6x3
       clear H3
       change Code.wp _ _ _ _ (fil w3 g11 t2)
       generalize fil w3 g11 t2 = w6 at *
       obtain ⟨c0x3a, c0x3b, c0x3c, c0x3d⟩ := HS.out.cell (g11) (t2) (by simp)
       have c0x3l := HS.out.lt (g11) (t2) (by simp)
       have c0x3m := Nat.le_of_lt c0x3l
       obtain ⟨c6x3a, c6x3b, c6x3c, c6x3d⟩ := HS.out.cell (g7) (l2) (by simp)
       have c6x3l := HS.out.lt (g7) (l2) (by simp)
       have c6x3m := Nat.le_of_lt c6x3l
       have f12x3 := HS.out.frozen g7 l2 (by simp)
       have HZ := hid ((HI.out.on HS.out.1).set (t2))
       go_wp2_with fail
       clear c0x3a c0x3b c0x3c c0x3d c0x3l c0x3m c6x3a c6x3b c6x3c c6x3d c6x3l c6x3m f12x3
       go_roundw
       case measure => first | (simp [intOf]; done) | (simp [intOf]; omega)
       case rel => exact ⟨k, t2, g3s, (k : Int) - 1, hid (by have := K8.out; omega), hid rfl, rfl, rfl, hid ⟨by first | exact R2.out | (rw [← R2.out]), by first | exact G1.out | (rw [← G1.out])⟩, HZ⟩
      ·subst c0
       obtain ⟨cz, ecz⟩ : ∃ z, cmpN d m = z := ⟨_, rfl⟩
       have hcz : 0 ≤ cz := by rw [← ecz]; unfold cmpN; split <;> (try split) <;> omega
       have ECZ := hid ecz
       clear ecz c1
       obtain ⟨c0x2a, c0x2b, c0x2c, c0x2d⟩ := H2.out.cell (g11) (d) (by simp)
       have c0x2l := H2.out.lt (g11) (d) (by simp)
       have c0x2m := Nat.le_of_lt c0x2l
       obtain ⟨c6x2a, c6x2b, c6x2c, c6x2d⟩ := H2.out.cell (g3) (m) (by simp)
       have c6x2l := H2.out.lt (g3) (m) (by simp)
       have c6x2m := Nat.le_of_lt c6x2l
       go_wp2_with fail
       clear c0x2a c0x2b c0x2c c0x2d c0x2l c0x2m c6x2a c6x2b c6x2c c6x2d c6x2l c6x2m
       refine (env_of (rcmp_b d m cz _ DL.out HM.out ECZ.out) H2.out).mono ?_
       rintro e w3 ⟨rfl, h⟩
       have H3 := hid h
       clear h H2
       have R2 := hid (show t2 = NN / 2 ^ k % m by rw [ET2.out, ← c2]; exact S8.out.symm)
       have G1 := hid (show g3s = NN / 2 ^ k / m by rw [S9.out, c3])
       clear c2 c3
       obtain ⟨c0x3a, c0x3b, c0x3c, c0x3d⟩ := H3.out.cell (g11) (d) (by simp)
       have c0x3l := H3.out.lt (g11) (d) (by simp)
       have c0x3m := Nat.le_of_lt c0x3l
       obtain ⟨c6x3a, c6x3b, c6x3c, c6x3d⟩ := H3.out.cell (g3) (m) (by simp)
       have c6x3l := H3.out.lt (g3) (m) (by simp)
       have c6x3m := Nat.le_of_lt c6x3l
       go_wp2_with fail
       clear c0x3a c0x3b c0x3c c0x3d c0x3l c0x3m c6x3a c6x3b c6x3c c6x3d c6x3l c6x3m
       obtain ⟨ln, eln⟩ : ∃ z : Int, ((lent d m : Nat) : Int) = z := ⟨_, rfl⟩
       have LN := hid eln
       clear eln
       refine (env_of (r2sub_b d m t2 ln _ DL.out HM.out ET2.out.symm LN.out) H3.out).mono ?_
       rintro e w4 ⟨rfl, h⟩
       have H4 := hid h
       clear h H3
       obtain ⟨c0x4a, c0x4b, c0x4c, c0x4d⟩ := H4.out.cell (g11) (d) (by simp)
       have c0x4l := H4.out.lt (g11) (d) (by simp)
       have c0x4m := Nat.le_of_lt c0x4l
       have f6x4 := H4.out.frozen g11 d (by simp)
       have HS := hid (H4.out.set g11 d t2 [(g7, l2), (g3, m), (g5, 0)] (by simp) Fg11.out.1 (fun p hp => by simp only [List.mem_cons, List.not_mem_nil, or_false] at hp; rcases hp with rfl | rfl | rfl <;> first | exact ⟨by simp, Fg11.out.2 (g7, l2) (by simp)⟩ | exact ⟨by simp, Fg11.out.2 (g3, m) (by simp)⟩ | exact ⟨by simp, Fg11.out.2 (g5, 0) (by simp)⟩))
       go_upto_region 15 with fail
       clear c0x4a c0x4b c0x4c c0x4d c0x4l c0x4m f6x4
       clear H4
       change Code.wp _ _ _ _ (fil w4 g11 t2)
       generalize fil w4 g11 t2 = w6 at *
       obtain ⟨c0x4a, c0x4b, c0x4c, c0x4d⟩ := HS.out.cell (g11) (t2) (by simp)
       have c0x4l := HS.out.lt (g11) (t2) (by simp)
       have c0x4m := Nat.le_of_lt c0x4l
       obtain ⟨c6x4a, c6x4b, c6x4c, c6x4d⟩ := HS.out.cell (g7) (l2) (by simp)
       have c6x4l := HS.out.lt (g7) (l2) (by simp)
       have c6x4m := Nat.le_of_lt c6x4l
       have f12x4 := HS.out.frozen g7 l2 (by simp)
       have HZ := hid ((HI.out.on HS.out.1).set (t2))
       go_wp2_with fail
       clear c0x4a c0x4b c0x4c c0x4d c0x4l c0x4m c6x4a c6x4b c6x4c c6x4d c6x4l c6x4m f12x4
       go_roundw
       case measure => first | (simp [intOf]; done) | (simp [intOf]; omega)
       case rel => exact ⟨k, t2, g3s, (k : Int) - 1, hid (by have := K8.out; omega), hid rfl, rfl, rfl, hid ⟨by first | exact R2.out | (rw [← R2.out]), by first | exact G1.out | (rw [← G1.out])⟩, HZ⟩
end Go.Proofs.YtcijnoapjicliaaDoor
namespace Go.Proofs.YtcijnoapjicliaaDoor
open Go.RowKit
set_option linter.unusedVariables false

theorem reqn_no (x : Nat) (hx : x < 2 ^ 256) (h : x ≠ 0) (w : World) : (Op.equalIn 10000 26 (num x) (.agg #[.int .u64 0, .int .u64 0, .int .u64 0, .int .u64 0])).run Tryd.prog w = .ok false w := by
  rw [num_zero]; exact eq_no x 0 hx (by decide) h w
theorem reqn_yes (w : World) : (Op.equalIn 10000 26 (num 0) (.agg #[.int .u64 0, .int .u64 0, .int .u64 0, .int .u64 0])).run Tryd.prog w = .ok true w := by
  rw [num_zero]; exact eq_yes 0 0 rfl w
theorem down_k {w w' : World} {l : List (Nat × Nat)} {A : Option Addr} {c : Nat} {bs : List UInt8} (n m q r : Nat) (hl : bs.length = n) (hn : n ≤ 1000000) (hm0 : 0 < m) (hm : m < 2 ^ 256) (hq : tell bs / m = q) (hr : tell bs % m = r) (h : Ek w l A c bs w') :
    Calls Tryd.prog 59 #[.slice A n c, num m] w' fun e w2 => ∃ A2 c2, e = .returned (.tuple #[.slice A2 n c2, num r]) ∧ Ek w l A2 c2 (be q n) w2 := by
  subst hl
  refine (down_any A c m bs w' h.2.1.1 hm0 hm hn).mono ?_
  rintro e w2 ⟨v, rfl, ho, hb⟩
  rw [hq] at ho
  obtain ⟨A2, c2, rfl, hk⟩ := Ek.of h.1 hb ho (Nat.le_refl _)
  rw [be_length, hr]
  exact ⟨A2, c2, rfl, hk⟩
theorem tell_both (h x : Nat) (hh : h < 2 ^ 256) (hx : x < 2 ^ 256) : tell (be h 32 ++ be x 32) = x + 2 ^ 256 * h := by
  rw [tell_append, tell_be, tell_be, be_length, show (256 : Nat) ^ 32 = 2 ^ 256 by decide, Nat.mod_eq_of_lt hh, Nat.mod_eq_of_lt hx, Nat.mul_comm, Nat.add_comm]
theorem tell_one (x : Nat) (hx : x < 2 ^ 256) : tell (be x 32) = x := by
  rw [tell_be, show (256 : Nat) ^ 32 = 2 ^ 256 by decide, Nat.mod_eq_of_lt hx]
set_option maxRecDepth 100000 in
theorem rwide_zero (lo hi : Nat) (w : World) (hlo : lo < 2 ^ 256) (hhi : hi < 2 ^ 256) : Calls Tryd.prog 38 #[num lo, num hi, num 0] w fun e w' => e = .returned (.tuple #[num 0, .int .i64 1]) ∧ Below w.heap.size w w' := by
  obtain ⟨m, em⟩ : ∃ z, z = 0 := ⟨0, rfl⟩
  have q0 := reqn_yes
  rw [← em] at q0 ⊢
  clear em hlo hhi
  have H0 := hid ((((((Env.refl w).new lo).new hi).new m).zero).perm (l' := [(w.heap.size + 1 + 1 + 1, 0), (w.heap.size + 1 + 1, m), (w.heap.size + 1, hi), (w.heap.size, lo)]) (by simp))
  have DZ := hid (show w.heap.size ≤ w.heap.size + 1 + 1 + 1 by omega)
  have DN := hid (show ∀ p ∈ [(w.heap.size, lo), (w.heap.size + 1, hi), (w.heap.size + 1 + 1, m)], p.1 ≠ w.heap.size + 1 + 1 + 1 by simp; try omega)
  go_enter Tryd.func38, Tryd.ntmps38
  go_upto_region 1 with fail
  generalize (((w.alloc (.cells (cls lo) 26)).alloc (.cells (cls hi) 26)).alloc (.cells (cls m) 26)).alloc (.cells #[.int .u64 0, .int .u64 0, .int .u64 0, .int .u64 0] 26) = w0 at *
  generalize w.heap.size + 1 + 1 + 1 = g_z at *
  generalize w.heap.size + 1 + 1 = g_c at *
  generalize w.heap.size + 1 = g_b at *
  generalize hzg_a : w.heap.size = g_a at *
  obtain ⟨c0x0a, c0x0b, c0x0c, c0x0d⟩ := H0.out.cell (g_c) (m) (by simp)
  have c0x0l := H0.out.lt (g_c) (m) (by simp)
  have c0x0m := Nat.le_of_lt c0x0l
  obtain ⟨z0, z1, z2, z3⟩ := H0.out.cell g_z 0 (by simp)
  have zl := H0.out.lt g_z 0 (by simp)
  have zf := H0.out.frozen g_z 0 (by simp)
  have HZ := hid (H0.out.set g_z 0 (m) [] (by simp) (by rw [hzg_a]; exact DZ.out) (by simp))
  go_wp2
  clear z0 z1 z2 z3 zl zf
  try rw [Exit.noGoto_ret]
  change bodyPost _ _ _ _ _ (fil w0 g_z (m))
  generalize fil w0 g_z (m) = wz at *
  obtain ⟨k0, k1, k2, k3⟩ := HZ.out.cell g_z (m) (by simp)
  exact bodyPost_ret (v := .tuple #[num (m), .int .i64 1]) (by simp [results, Tryd.results38, go_sem, k0, k1, k2, k3]) rfl ⟨rfl, HZ.out.1⟩
set_option maxRecDepth 100000 in
set_option maxHeartbeats 6400000 in
theorem rwide_small (lo hi m R : Nat) (w : World) (hlo : lo < 2 ^ 256) (hhi : hi < 2 ^ 256) (hm : m < 2 ^ 256) (hm0 : m ≠ 0) (hR : (lo + 2 ^ 256 * hi) % m = R) (hs : m < 18446744073709551616) : Calls Tryd.prog 38 #[num lo, num hi, num m] w fun e w' => e = .returned (.tuple #[num R, .int .i64 0]) ∧ Below w.heap.size w w' := by
  have q0 := reqn_no m hm hm0
  have HLO := hid hlo
  have HHI := hid hhi
  have HM := hid hm
  have HM0 := hid hm0
  have HT := hid (show tell (be hi 32 ++ be lo 32) % m = R by rw [tell_both hi lo hhi hlo, hR])
  have HV := hid (show decide (m < 18446744073709551616) = true from decide_eq_true hs)
  have HS := hid hs
  have HE0 := hid (rwd_one hs)
  have RL := hid (show R < 18446744073709551616 from Nat.lt_trans (by rw [← hR]; exact Nat.mod_lt _ (Nat.pos_of_ne_zero hm0)) hs)
  clear hlo hhi hm hm0 hR hs
  have H0 := hid ((((((Env.refl w).new lo).new hi).new m).zero).perm (l' := [(w.heap.size + 1 + 1 + 1, 0), (w.heap.size + 1 + 1, m), (w.heap.size + 1, hi), (w.heap.size, lo)]) (by simp))
  have DZ := hid (show w.heap.size ≤ w.heap.size + 1 + 1 + 1 by omega)
  have DN := hid (show ∀ p ∈ [(w.heap.size, lo), (w.heap.size + 1, hi), (w.heap.size + 1 + 1, m)], p.1 ≠ w.heap.size + 1 + 1 + 1 by simp; try omega)
  go_enter Tryd.func38, Tryd.ntmps38
  go_upto_region 1 with fail
  generalize (((w.alloc (.cells (cls lo) 26)).alloc (.cells (cls hi) 26)).alloc (.cells (cls m) 26)).alloc (.cells #[.int .u64 0, .int .u64 0, .int .u64 0, .int .u64 0] 26) = w0 at *
  generalize w.heap.size + 1 + 1 + 1 = g_z at *
  generalize w.heap.size + 1 + 1 = g_c at *
  generalize w.heap.size + 1 = g_b at *
  generalize hzg_a : w.heap.size = g_a at *
  obtain ⟨c0x0a, c0x0b, c0x0c, c0x0d⟩ := H0.out.cell (g_c) (m) (by simp)
  have c0x0l := H0.out.lt (g_c) (m) (by simp)
  have c0x0m := Nat.le_of_lt c0x0l
  go_upto_region 3 with fail
  clear c0x0a c0x0b c0x0c c0x0d c0x0l c0x0m
  have hs := H0.out.drew
  refine wp_region_noPanic ?_
  refine Goes.region (fun (L : Array Bool) (w' : World) => w'.cell? ⟨g_b, 0, none⟩ = some (.int .u64 (wd (hi) 0 : Int)) ∧ w'.cell? ⟨g_b, 1, none⟩ = some (.int .u64 (wd (hi) 1 : Int)) ∧ w'.cell? ⟨g_b, 2, none⟩ = some (.int .u64 (wd (hi) 2 : Int)) ∧ w'.cell? ⟨g_b, 3, none⟩ = some (.int .u64 (wd (hi) 3 : Int)) ∧ w'.cell? ⟨g_a, 0, none⟩ = some (.int .u64 (wd (lo) 0 : Int)) ∧ w'.cell? ⟨g_a, 1, none⟩ = some (.int .u64 (wd (lo) 1 : Int)) ∧ w'.cell? ⟨g_a, 2, none⟩ = some (.int .u64 (wd (lo) 2 : Int)) ∧ w'.cell? ⟨g_a, 3, none⟩ = some (.int .u64 (wd (lo) 3 : Int))) (by kernel_rfl) ?_
  generalize w0.drew = wdr at *
  have hJJ := hid (And.intro ((hs).cell g_b (hi) (by simp)).1 (And.intro ((hs).cell g_b (hi) (by simp)).2.1 (And.intro ((hs).cell g_b (hi) (by simp)).2.2.1 (And.intro ((hs).cell g_b (hi) (by simp)).2.2.2 (And.intro ((hs).cell g_a (lo) (by simp)).1 (And.intro ((hs).cell g_a (lo) (by simp)).2.1 (And.intro ((hs).cell g_a (lo) (by simp)).2.2.1 ((hs).cell g_a (lo) (by simp)).2.2.2)))))))
  refine Goes.tk (i := 0) (o := ⟨some 15, _, _, _, _, _⟩) (v := ?_) [] (y := Or.inl ⟨by rfl, ?_⟩) (s := hJJ.out) (H := ?_)
  rotate_left
  · rintro w ⟨up, -, hX⟩; (try dsimp only at hX); obtain ⟨x0, x1, x2, x3, x4, x5, x6, x7⟩ := hX; go_simp; try with_reducible rfl
  try simp only [putz]
  refine Goes.tk (i := 2) (o := ⟨some 17, _, _, _, _, _⟩) (v := ?_) [] (y := Or.inl ⟨by rfl, ?_⟩) (s := hJJ.out) (H := ?_)
  rotate_left
  · rintro w ⟨up, -, hX⟩; (try dsimp only at hX); obtain ⟨x0, x1, x2, x3, x4, x5, x6, x7⟩ := hX; go_simp; try with_reducible rfl
  try simp only [putz]
  clear hJJ
  refine Goes.one (i := 1) (o := ⟨some 16, _, _, _, _, _⟩) (by kernel_rfl) rfl (fun K hK => ?_)
  go_simp
  with_reducible refine (put_k hi HHI.out hs).mono ?_
  rintro e wn1 ⟨A1, c1, rfl, hs1⟩
  go_wp2_with fail
  refine hK.out _ _ (⟨((hs1).cell g_b (hi) (by simp)).1, ((hs1).cell g_b (hi) (by simp)).2.1, ((hs1).cell g_b (hi) (by simp)).2.2.1, ((hs1).cell g_b (hi) (by simp)).2.2.2, ((hs1).cell g_a (lo) (by simp)).1, ((hs1).cell g_a (lo) (by simp)).2.1, ((hs1).cell g_a (lo) (by simp)).2.2.1, ((hs1).cell g_a (lo) (by simp)).2.2.2⟩) ?_
  clear hK K
  try simp only [putz]
  clear hs
  have hs := hs1
  clear hs1
  refine Goes.one (i := 3) (o := ⟨some 18, _, _, _, _, _⟩) (by kernel_rfl) rfl (fun K hK => ?_)
  go_simp
  with_reducible refine (put_then lo 32 64 (by rw [be_length]) (by decide) rfl HLO.out hs).mono ?_
  rintro e wn2 ⟨A2, c2, rfl, hs2⟩
  go_wp2_with fail
  refine hK.out _ _ (⟨((hs2).cell g_b (hi) (by simp)).1, ((hs2).cell g_b (hi) (by simp)).2.1, ((hs2).cell g_b (hi) (by simp)).2.2.1, ((hs2).cell g_b (hi) (by simp)).2.2.2, ((hs2).cell g_a (lo) (by simp)).1, ((hs2).cell g_a (lo) (by simp)).2.1, ((hs2).cell g_a (lo) (by simp)).2.2.1, ((hs2).cell g_a (lo) (by simp)).2.2.2⟩) ?_
  clear hK K
  try simp only [putz]
  clear hs
  have hs := hs2
  clear hs2
  refine Goes.tk (i := 4) (o := ⟨some 8, _, _, _, _, _⟩) (v := ?_) [] (y := Or.inl ⟨by rfl, ?_⟩) (s := ⟨((hs).cell g_b (hi) (by simp)).1, ((hs).cell g_b (hi) (by simp)).2.1, ((hs).cell g_b (hi) (by simp)).2.2.1, ((hs).cell g_b (hi) (by simp)).2.2.2, ((hs).cell g_a (lo) (by simp)).1, ((hs).cell g_a (lo) (by simp)).2.1, ((hs).cell g_a (lo) (by simp)).2.2.1, ((hs).cell g_a (lo) (by simp)).2.2.2⟩) (H := ?_)
  rotate_left
  · intro w hY; go_simp; try with_reducible rfl
  try simp only [putz]
  refine Goes.done (by kernel_rfl) ?_ _
  refine NoPanic.normal ?_
  have HK := hid hs
  clear hs
  obtain ⟨c0x50a, c0x50b, c0x50c, c0x50d⟩ := HK.out.cell (g_c) (m) (by simp)
  have c0x50l := HK.out.lt (g_c) (m) (by simp)
  have c0x50m := Nat.le_of_lt c0x50l
  go_wp2_with fail
  clear c0x50a c0x50b c0x50c c0x50d c0x50l c0x50m
  refine (ek_of (rword_any m true _ HM.out HV.out) HK.out).mono ?_
  rintro e w51 ⟨rfl, h⟩
  have H51 := hid h
  clear h HK
  obtain ⟨c0x51a, c0x51b, c0x51c, c0x51d⟩ := H51.out.cell (g_c) (m) (by simp)
  have c0x51l := H51.out.lt (g_c) (m) (by simp)
  have c0x51m := Nat.le_of_lt c0x51l
  go_wp2_with fail
  clear c0x51a c0x51b c0x51c c0x51d c0x51l c0x51m
  refine (words_k 64 8 (wd m 0) R (by rw [List.length_append, be_length, be_length]) rfl (by decide) (by rw [HE0.out]; exact Nat.pos_of_ne_zero HM0.out) (by rw [HE0.out]; exact HS.out) (by rw [HE0.out]; exact HT.out) H51.out).mono ?_
  rintro e w52 ⟨rfl, h⟩
  have H52 := hid h
  clear h H51
  go_wp2_with fail
  refine (ek_of (rlof_any R _ RL.out) H52.out).mono ?_
  rintro e w53 ⟨rfl, h⟩
  have H53 := hid h
  clear h H52
  have HE := hid H53.out.1
  clear H53
  obtain ⟨z0, z1, z2, z3⟩ := HE.out.cell g_z 0 (by simp)
  have zl := HE.out.lt g_z 0 (by simp)
  have zf := HE.out.frozen g_z 0 (by simp)
  have HZ := hid (HE.out.set g_z 0 (R) [] (by simp) (by rw [hzg_a]; exact DZ.out) (by simp))
  go_wp2
  clear z0 z1 z2 z3 zl zf
  try rw [Exit.noGoto_ret]
  change bodyPost _ _ _ _ _ (fil w53 g_z (R))
  generalize fil w53 g_z (R) = wz at *
  obtain ⟨k0, k1, k2, k3⟩ := HZ.out.cell g_z (R) (by simp)
  exact bodyPost_ret (v := .tuple #[num (R), .int .i64 0]) (by simp [results, Tryd.results38, go_sem, k0, k1, k2, k3]) rfl ⟨rfl, HZ.out.1⟩
set_option maxRecDepth 100000 in
set_option maxHeartbeats 6400000 in
theorem rwide_large (lo hi m R : Nat) (w : World) (hlo : lo < 2 ^ 256) (hhi : hi < 2 ^ 256) (hm : m < 2 ^ 256) (hm0 : m ≠ 0) (hR : (lo + 2 ^ 256 * hi) % m = R) (hs : ¬ m < 18446744073709551616) : Calls Tryd.prog 38 #[num lo, num hi, num m] w fun e w' => e = .returned (.tuple #[num R, .int .i64 0]) ∧ Below w.heap.size w w' := by
  have q0 := reqn_no m hm hm0
  have HLO := hid hlo
  have HHI := hid hhi
  have HM := hid hm
  have HM0 := hid hm0
  have HT := hid (show tell (be hi 32 ++ be lo 32) % m = R by rw [tell_both hi lo hhi hlo, hR])
  have HV := hid (show decide (m < 18446744073709551616) = false from decide_eq_false hs)
  clear hlo hhi hm hm0 hR hs
  have H0 := hid ((((((Env.refl w).new lo).new hi).new m).zero).perm (l' := [(w.heap.size + 1 + 1 + 1, 0), (w.heap.size + 1 + 1, m), (w.heap.size + 1, hi), (w.heap.size, lo)]) (by simp))
  have DZ := hid (show w.heap.size ≤ w.heap.size + 1 + 1 + 1 by omega)
  have DN := hid (show ∀ p ∈ [(w.heap.size, lo), (w.heap.size + 1, hi), (w.heap.size + 1 + 1, m)], p.1 ≠ w.heap.size + 1 + 1 + 1 by simp; try omega)
  go_enter Tryd.func38, Tryd.ntmps38
  go_upto_region 1 with fail
  generalize (((w.alloc (.cells (cls lo) 26)).alloc (.cells (cls hi) 26)).alloc (.cells (cls m) 26)).alloc (.cells #[.int .u64 0, .int .u64 0, .int .u64 0, .int .u64 0] 26) = w0 at *
  generalize w.heap.size + 1 + 1 + 1 = g_z at *
  generalize w.heap.size + 1 + 1 = g_c at *
  generalize w.heap.size + 1 = g_b at *
  generalize hzg_a : w.heap.size = g_a at *
  obtain ⟨c0x0a, c0x0b, c0x0c, c0x0d⟩ := H0.out.cell (g_c) (m) (by simp)
  have c0x0l := H0.out.lt (g_c) (m) (by simp)
  have c0x0m := Nat.le_of_lt c0x0l
  go_upto_region 3 with fail
  clear c0x0a c0x0b c0x0c c0x0d c0x0l c0x0m
  have hs := H0.out.drew
  refine wp_region_noPanic ?_
  refine Goes.region (fun (L : Array Bool) (w' : World) => w'.cell? ⟨g_b, 0, none⟩ = some (.int .u64 (wd (hi) 0 : Int)) ∧ w'.cell? ⟨g_b, 1, none⟩ = some (.int .u64 (wd (hi) 1 : Int)) ∧ w'.cell? ⟨g_b, 2, none⟩ = some (.int .u64 (wd (hi) 2 : Int)) ∧ w'.cell? ⟨g_b, 3, none⟩ = some (.int .u64 (wd (hi) 3 : Int)) ∧ w'.cell? ⟨g_a, 0, none⟩ = some (.int .u64 (wd (lo) 0 : Int)) ∧ w'.cell? ⟨g_a, 1, none⟩ = some (.int .u64 (wd (lo) 1 : Int)) ∧ w'.cell? ⟨g_a, 2, none⟩ = some (.int .u64 (wd (lo) 2 : Int)) ∧ w'.cell? ⟨g_a, 3, none⟩ = some (.int .u64 (wd (lo) 3 : Int))) (by kernel_rfl) ?_
  generalize w0.drew = wdr at *
  have hJJ := hid (And.intro ((hs).cell g_b (hi) (by simp)).1 (And.intro ((hs).cell g_b (hi) (by simp)).2.1 (And.intro ((hs).cell g_b (hi) (by simp)).2.2.1 (And.intro ((hs).cell g_b (hi) (by simp)).2.2.2 (And.intro ((hs).cell g_a (lo) (by simp)).1 (And.intro ((hs).cell g_a (lo) (by simp)).2.1 (And.intro ((hs).cell g_a (lo) (by simp)).2.2.1 ((hs).cell g_a (lo) (by simp)).2.2.2)))))))
  refine Goes.tk (i := 0) (o := ⟨some 15, _, _, _, _, _⟩) (v := ?_) [] (y := Or.inl ⟨by rfl, ?_⟩) (s := hJJ.out) (H := ?_)
  rotate_left
  · rintro w ⟨up, -, hX⟩; (try dsimp only at hX); obtain ⟨x0, x1, x2, x3, x4, x5, x6, x7⟩ := hX; go_simp; try with_reducible rfl
  try simp only [putz]
  refine Goes.tk (i := 2) (o := ⟨some 17, _, _, _, _, _⟩) (v := ?_) [] (y := Or.inl ⟨by rfl, ?_⟩) (s := hJJ.out) (H := ?_)
  rotate_left
  · rintro w ⟨up, -, hX⟩; (try dsimp only at hX); obtain ⟨x0, x1, x2, x3, x4, x5, x6, x7⟩ := hX; go_simp; try with_reducible rfl
  try simp only [putz]
  clear hJJ
  refine Goes.one (i := 1) (o := ⟨some 16, _, _, _, _, _⟩) (by kernel_rfl) rfl (fun K hK => ?_)
  go_simp
  with_reducible refine (put_k hi HHI.out hs).mono ?_
  rintro e wn1 ⟨A1, c1, rfl, hs1⟩
  go_wp2_with fail
  refine hK.out _ _ (⟨((hs1).cell g_b (hi) (by simp)).1, ((hs1).cell g_b (hi) (by simp)).2.1, ((hs1).cell g_b (hi) (by simp)).2.2.1, ((hs1).cell g_b (hi) (by simp)).2.2.2, ((hs1).cell g_a (lo) (by simp)).1, ((hs1).cell g_a (lo) (by simp)).2.1, ((hs1).cell g_a (lo) (by simp)).2.2.1, ((hs1).cell g_a (lo) (by simp)).2.2.2⟩) ?_
  clear hK K
  try simp only [putz]
  clear hs
  have hs := hs1
  clear hs1
  refine Goes.one (i := 3) (o := ⟨some 18, _, _, _, _, _⟩) (by kernel_rfl) rfl (fun K hK => ?_)
  go_simp
  with_reducible refine (put_then lo 32 64 (by rw [be_length]) (by decide) rfl HLO.out hs).mono ?_
  rintro e wn2 ⟨A2, c2, rfl, hs2⟩
  go_wp2_with fail
  refine hK.out _ _ (⟨((hs2).cell g_b (hi) (by simp)).1, ((hs2).cell g_b (hi) (by simp)).2.1, ((hs2).cell g_b (hi) (by simp)).2.2.1, ((hs2).cell g_b (hi) (by simp)).2.2.2, ((hs2).cell g_a (lo) (by simp)).1, ((hs2).cell g_a (lo) (by simp)).2.1, ((hs2).cell g_a (lo) (by simp)).2.2.1, ((hs2).cell g_a (lo) (by simp)).2.2.2⟩) ?_
  clear hK K
  try simp only [putz]
  clear hs
  have hs := hs2
  clear hs2
  refine Goes.tk (i := 4) (o := ⟨some 8, _, _, _, _, _⟩) (v := ?_) [] (y := Or.inl ⟨by rfl, ?_⟩) (s := ⟨((hs).cell g_b (hi) (by simp)).1, ((hs).cell g_b (hi) (by simp)).2.1, ((hs).cell g_b (hi) (by simp)).2.2.1, ((hs).cell g_b (hi) (by simp)).2.2.2, ((hs).cell g_a (lo) (by simp)).1, ((hs).cell g_a (lo) (by simp)).2.1, ((hs).cell g_a (lo) (by simp)).2.2.1, ((hs).cell g_a (lo) (by simp)).2.2.2⟩) (H := ?_)
  rotate_left
  · intro w hY; go_simp; try with_reducible rfl
  try simp only [putz]
  refine Goes.done (by kernel_rfl) ?_ _
  refine NoPanic.normal ?_
  have HK := hid hs
  clear hs
  obtain ⟨c0x50a, c0x50b, c0x50c, c0x50d⟩ := HK.out.cell (g_c) (m) (by simp)
  have c0x50l := HK.out.lt (g_c) (m) (by simp)
  have c0x50m := Nat.le_of_lt c0x50l
  go_wp2_with fail
  clear c0x50a c0x50b c0x50c c0x50d c0x50l c0x50m
  refine (ek_of (rword_any m false _ HM.out HV.out) HK.out).mono ?_
  rintro e w51 ⟨rfl, h⟩
  have H51 := hid h
  clear h HK
  obtain ⟨c0x51a, c0x51b, c0x51c, c0x51d⟩ := H51.out.cell (g_c) (m) (by simp)
  have c0x51l := H51.out.lt (g_c) (m) (by simp)
  have c0x51m := Nat.le_of_lt c0x51l
  go_wp2_with fail
  clear c0x51a c0x51b c0x51c c0x51d c0x51l c0x51m
  refine (down_k 64 m _ R (by rw [List.length_append, be_length, be_length]) (by decide) (Nat.pos_of_ne_zero HM0.out) HM.out rfl HT.out H51.out).mono ?_
  rintro e w52 ⟨A3, c3, rfl, h⟩
  have H52 := hid h
  clear h H51
  have HE := hid H52.out.1
  clear H52
  go_upto_region 7 with fail
  have H52b := hid (HE.out.new R)
  clear HE
  generalize w52.alloc (.cells (cls R) 26) = w52b at *
  generalize w52.heap.size = g10 at *
  obtain ⟨c0x52a, c0x52b, c0x52c, c0x52d⟩ := H52b.out.cell (g10) (R) (by simp)
  have c0x52l := H52b.out.lt (g10) (R) (by simp)
  have c0x52m := Nat.le_of_lt c0x52l
  obtain ⟨z0, z1, z2, z3⟩ := H52b.out.cell g_z 0 (by simp)
  have zl := H52b.out.lt g_z 0 (by simp)
  have zf := H52b.out.frozen g_z 0 (by simp)
  have HZ := hid (H52b.out.set g_z 0 (R) [] (by simp) (by rw [hzg_a]; exact DZ.out) (by simp))
  go_wp2
  clear z0 z1 z2 z3 zl zf
  try rw [Exit.noGoto_ret]
  change bodyPost _ _ _ _ _ (fil w52b g_z (R))
  generalize fil w52b g_z (R) = wz at *
  obtain ⟨k0, k1, k2, k3⟩ := HZ.out.cell g_z (R) (by simp)
  exact bodyPost_ret (v := .tuple #[num (R), .int .i64 0]) (by simp [results, Tryd.results38, go_sem, k0, k1, k2, k3]) rfl ⟨rfl, HZ.out.1⟩
theorem rwide_any (lo hi m R : Nat) (w : World) (hlo : lo < 2 ^ 256) (hhi : hi < 2 ^ 256) (hm : m < 2 ^ 256) (hm0 : m ≠ 0) (hR : (lo + 2 ^ 256 * hi) % m = R) : Calls Tryd.prog 38 #[num lo, num hi, num m] w fun e w' => e = .returned (.tuple #[num R, .int .i64 0]) ∧ Below w.heap.size w w' := by
  by_cases hs : m < 18446744073709551616
  · exact rwide_small lo hi m R w hlo hhi hm hm0 hR hs
  · exact rwide_large lo hi m R w hlo hhi hm hm0 hR hs
end Go.Proofs.YtcijnoapjicliaaDoor

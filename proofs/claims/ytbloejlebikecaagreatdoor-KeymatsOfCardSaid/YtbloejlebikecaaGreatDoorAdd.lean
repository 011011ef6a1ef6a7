/-
  (*shas.Run).add, walked: bytes behind those so far, each block taken in as it gets whole. Conditions: the library's table holds what its text lays; no more than 2^47 bytes; they lie outside of the run.
-/
import Derived.Test.YtbloejlebikecaaGreatDoorRunIs
import Derived.Test.YtbloejlebikecaaGreatDoorOrdT
import Derived.Deep.Cut
namespace Go.Proofs.YtbloejlebikecaaGreatDoor
open Go.RowKit
set_option linter.unusedVariables false
set_option linter.unusedSimpArgs false

/-- a copy into a block, as one step of a region -/
theorem step_copy_at {P : Program} {ops : Array Oper} {o : Oper} {a : Act} {w : World} {K : Act → World → Prop} {Q : Exit → Act → World → Prop} {E : Prop} (hgd : o.guard = none) (d s : Operand) (dT sT : TypeId)
    (ho : o.op = .call { callee := .builtin .copy, args := #[d, s], argTypes := #[dT, sT] }) (elem : TypeId) (hu : P.underlying dT = some (.slice elem)) (hsz : (P.info? elem).map (·.size) = some 1)
    (g off dLen dCap : Nat) (ad : Addr) (sLen sCap : Nat) (hd : a.eval d = .slice (some ⟨g, off, none⟩) dLen dCap) (hs : a.eval s = .slice (some ad) sLen sCap)
    (cur : List Value) (t : TypeId) (hg : w.heap[g]? = some (.cells cur.toArray t (0, 0))) (cs : List Value) (hn : cs.length = Nat.min sLen dLen)
    (hsrc : ∀ j v, cs[j]? = some v → w.cell? (ad.add j) = some v) (hfit : off + cs.length ≤ cur.length) (h1 : ∀ v ∈ cs, v.oneCell' = true)
    (h : K (a.put o.dst (goInt cs.length)) (w.setRow g (splice cur off cs).toArray)) :
    if Region.wanted o (yielded ops a.tmps) = true then Oper.wp P o a w K Q else E := by
  have hw : Region.wanted o (yielded ops a.tmps) = true := by simp [Region.wanted, hgd]
  rw [if_pos hw]
  have hrun := run_copy_row (P := P) w dT sT o.type elem g off dLen dCap ad sLen sCap cur.toArray t cs hu hsz hg hn hsrc (by simpa using hfit) h1
  have e : cur.toArray.toList.take off ++ cs ++ cur.toArray.toList.drop (off + cs.length) = splice cur off cs := by simp [splice]
  rw [e] at hrun
  unfold Oper.wp
  simp [execOp, ho, resolve, invoke, builtin, hd, hs, hrun, Result.andThen]
  exact h
/-- a store of many cells into a block's middle, as one step of a region -/
theorem step_store_mid {P : Program} {ops : Array Oper} {o : Oper} {a : Act} {w : World} {K : Act → World → Prop} {Q : Exit → Act → World → Prop} {E : Prop} (hgd : o.guard = none) (ty : TypeId) (x y : Operand) (ho : o.op = .store ty x y)
    (b off : Nat) (cells : Array Value) (hx : a.eval x = .pointer (some ⟨b, off, none⟩)) (hy : a.eval y = .agg cells)
    (ht : w.there b off cells.size) (hi : (P.info? ty).map (·.size) = some cells.size) (h1 : cells.all (·.oneCell') = true)
    (h : K (a.put o.dst undef) (w.setCells b off cells.toList)) : if Region.wanted o (yielded ops a.tmps) = true then Oper.wp P o a w K Q else E := by
  have hw : Region.wanted o (yielded ops a.tmps) = true := by simp [Region.wanted, hgd]
  rw [if_pos hw]
  exact wp_store_mid ty x y ho b off cells hx hy ht hi h1 h
/-- the address of a slice's rest -/
def past (A : Option Addr) (k c : Nat) : Option Addr := if c = k then A else A.map (·.add k)
theorem slice_rest (A : Option Addr) (n c k : Nat) (hk : k ≤ n) (w : World) : (Instr.slice 27 (.slice A n c) (some (.int .i64 (k : Int))) none none).run Tryz.prog w = .ok (.slice (past A k c) (n - k) (c - k)) w := by
  have h5 : Tryz.prog.elem 27 = 5 := by kernel_rfl
  rw [run_slice_l (P := Tryz.prog) w 27 A n c (by rw [h5]; exact Tryz.underlying27) .i64 (k : Int) (by omega) (by omega)]
  have hs : (sizeOf 5).run Tryz.prog w = .ok 1 w := by kernel_rfl
  rw [h5, hs]
  simp only [Result.andThen, sliced, Int.toNat_natCast, past, Nat.mul_one]
theorem Rd.past {w : World} {A : Option Addr} {bs : List UInt8} (h : Rd w A bs) (k c : Nat) (hk : k ≤ bs.length) (hc : bs.length ≤ c) : Rd w (past A k c) (bs.drop k) := by
  intro hp
  have hp2 : 0 < bs.length := by simp at hp; omega
  obtain ⟨gp, o, rfl, hlt, hcl⟩ := h hp2
  have hne : c ≠ k := by simp at hp; omega
  refine ⟨gp, o + k, ?_, hlt, fun j hj => ?_⟩
  · unfold Go.Proofs.YtbloejlebikecaaGreatDoor.past; rw [if_neg hne]
    simp only [Option.map_some]
    congr 1
    unfold Addr.add
    by_cases hk0 : k = 0
    · subst hk0; simp
    · simp [hk0]
  · have := hcl (k + j) (by simp at hj; omega)
    rw [Nat.add_assoc, this]; simp
theorem past_block (A : Option Addr) (k c g : Nat) (h : ∀ ad, A = some ad → ad.block ≠ g) : ∀ ad, past A k c = some ad → ad.block ≠ g := by
  intro ad e
  unfold past at e
  split at e
  · exact h ad e
  · cases A with
    | none => cases e
    | some a0 =>
      simp only [Option.map_some] at e
      injection e with e
      subst e
      have := h a0 rfl
      unfold Addr.add
      split <;> simpa using this
/-- some more bytes, the block not whole -/
theorem run_part_is {wB : World} {g N r : Nat} {X p b0 : List UInt8} (hN : N = X.length) (hr : r = N % 64) (hb : b0.length = 64) (h : b0.take r = X.drop (64 * (N / 64))) (hp : r + p.length ≤ 64) (hz : (N + p.length) % 64 ≠ 0)
    (hR : Rn wB g (eat hh X (N / 64)) (splice b0 r p) (N + p.length)) : RunIs wB g (X ++ p) := by
  subst hN; subst hr
  obtain ⟨h1, h2, h3⟩ := run_part X p b0 hb h hp hz
  refine ⟨_, h1, h2, ?_⟩
  rw [h3, List.length_append]; exact hR
/-- some more bytes, the block whole, taken in -/
theorem run_whole_is {wB : World} {g N r : Nat} {X p b0 : List UInt8} (hN : N = X.length) (hr : r = N % 64) (hb : b0.length = 64) (h : b0.take r = X.drop (64 * (N / 64))) (hp : r + p.length = 64)
    (hR : Rn wB g (comp (eat hh X (N / 64)) (splice b0 r p)) (splice b0 r p) (N + p.length)) : RunIs wB g (X ++ p) := by
  subst hN; subst hr
  obtain ⟨h1, h2, h3⟩ := run_whole X p b0 hb h hp
  refine ⟨_, h1, h2, ?_⟩
  rw [h3, List.length_append]; exact hR
/-- the length of a slice -/
def lenV : Value → Nat
  | .slice _ n _ => n
  | _ => 0
theorem run_pure_pos (X : List UInt8) : X.length % 64 < 64 := Nat.mod_lt _ (by decide)
set_option maxRecDepth 100000 in
theorem slice_last (g r m : Nat) (hr : r < 64) (hm : m = 64 - r) (w : World) : (Instr.sliceAt 172 (.pointer (some ⟨g, 9, none⟩)) (some (.int .u64 (r : Int))) none none).run Tryz.prog w = .ok (.slice (some ⟨g, 9 + r, none⟩) m m) w := by
  have hl : Tryz.prog.arrayLen 172 = 64 := by kernel_rfl
  have h5 : Tryz.prog.elem 172 = 5 := by kernel_rfl
  rw [run_sliceAt_array_l (P := Tryz.prog) w 172 ⟨g, 9, none⟩ (by rw [hl, h5]; exact Tryz.underlying172) .u64 (r : Int) (by omega) (by rw [hl]; omega)]
  have hs : (sizeOf 5).run Tryz.prog w = .ok 1 w := by kernel_rfl
  rw [h5, hs, hl]
  simp only [Result.andThen, slicedAt, Int.toNat_natCast, Nat.mul_one]
  rw [if_neg (by omega), hm]
  congr 3
  unfold Addr.add
  by_cases h0 : r = 0
  · subst h0; simp
  · simp [h0]
set_option maxRecDepth 100000 in
set_option maxHeartbeats 4000000 in
theorem add_any (g : Nat) (A : Option Addr) (c : Nat) (bs part : List UInt8) (w : World) (n : Nat) (hn : part.length = n) (hR : RunIs w g bs) (hr : Rd w A part) (hA : 0 < n → ∀ ad, A = some ad → ad.block ≠ g) (hc : n ≤ c) (hK : Kt w) (h3 : 0 ≠ g) (hlen : bs.length + n ≤ 140737488355328) :
    Calls Tryz.prog 109 #[.pointer (some ⟨g, 0, none⟩), .slice A n c] w fun e w' => e = .returned (.tuple #[]) ∧ RunIs w' g (bs ++ part) ∧ w.grownBy w' (some g) := by
  have HN := hid hn
  have HR := hid hR
  have HRd := hid hr
  have HA := hid hA
  have HC := hid hc
  have HK := hid hK
  have H3 := hid h3
  have HLN := hid hlen
  clear hn hR hr hA hc hK h3 hlen
  go_enter Tryz.func109, Tryz.ntmps109
  go_wp2_with fail
  go_loopw [1] (fun s wr => ∃ (n' c' : Nat) (A' : Option Addr) (don res : List UInt8), s = .slice A' n' c' ∧ Hid (res.length = n') ∧ Hid (part = don ++ res) ∧ Hid (Rd wr A' res) ∧ Hid (0 < n' → ∀ ad, A' = some ad → ad.block ≠ g) ∧ Hid (n' ≤ c') ∧ Hid (RunIs wr g (bs ++ don)) ∧ Hid (w.grownBy wr (some g))) (fun s _ => lenV s)
  case atStart => exact ⟨n, c, A, [], part, rfl, HN, hid rfl, HRd, HA, HC, hid (by rw [List.append_nil]; exact HR.out), hid (World.grownBy.refl _ _)⟩
  case round =>
    clear HRd HA HC HR
    obtain ⟨n', c', A', don, res, rfl, HN', HP, HRd, HA, HC, HR, HG⟩ := hrel
    by_cases h0 : 0 < n'
    · have HN0 := hid h0
      obtain ⟨b0, hb0, ht0, hrn⟩ := HR.out
      obtain ⟨gp, o, rfl, hgp, hcl⟩ := HRd.out (by have := HN'.out; omega)
      have HX := hid (show (bs ++ don).length + res.length ≤ 140737488355328 by have h1 := HN.out; have h2 := HP.out; have h3 := HLN.out; rw [h2] at h1; simp at h1 ⊢; omega)
      generalize hX : bs ++ don = X at *
      have HXX := hid hX
      clear hX
      obtain ⟨N, hN⟩ : ∃ N, N = X.length := ⟨_, rfl⟩
      obtain ⟨r, hr⟩ : ∃ r, r = N % 64 := ⟨_, rfl⟩
      obtain ⟨m, hm⟩ : ∃ m, m = 64 - r := ⟨_, rfl⟩
      obtain ⟨tk, htk⟩ : ∃ tk, tk = Nat.min n' m := ⟨_, rfl⟩
      have hr64 : r < 64 := by rw [hr]; exact Nat.mod_lt _ (by decide)
      have htk2 : tk = min n' m := htk
      have hpl : (res.take tk).length = tk := by have := HN'.out; simp; omega
      rw [← hN] at hrn ht0
      rw [← hr] at ht0
      have HRN := hid hrn
      have HB0 := hid hb0
      have HT0 := hid ht0
      have HL8 := so_length X (N / 64)
      have HS8 := hid (so_sm X (N / 64))
      have HSRC := hid (p := ∀ j v, (bvs (res.take tk))[j]? = some v → wr.drew.cell? ((⟨gp, o, none⟩ : Addr).add j) = some v) (fun j v hv => by
        have hj : j < tk := by
          rcases Nat.lt_or_ge j tk with h | h
          · exact h
          · rw [List.getElem?_eq_none (by rw [bvs_length]; omega)] at hv; cases hv
        rw [Addr.add_mid]
        refine Eq.trans (hcl j (by have := HN'.out; omega)) ?_
        rw [← hv]
        simp [bvs, hj]
        rw [List.getElem?_eq_getElem (by have := HN'.out; omega)]
        rfl)
      have HFIT := hid (p := 9 + r + (bvs (res.take tk)).length ≤ (rc (eat hh X (N / 64)) b0 N).length) (by rw [rc_length N HL8 hb0, bvs_length, hpl]; omega)
      have HPL := hid (p := (bvs (res.take tk)).length = Nat.min n' m) (by rw [bvs_length, hpl, htk])
      have HNX := hid hN
      have hri : (N : Int) % 64 = (r : Int) := by omega
      have hslA := slice_last g r m hr64 hm
      have hs : wr.cell? ⟨g, 73, none⟩ = some (.int .u64 (N : Int)) := hrn.count HL8 hb0
      have HRA := hid (p := Rn (wr.drew.setRow g (splice (rc (eat hh X (N / 64)) b0 N) (9 + r) (bvs (res.take tk))).toArray) g (eat hh X (N / 64)) (splice b0 r (res.take tk)) N) (Rn.copy (w := wr.drew) HRN.out HL8 r (res.take tk) (by rw [hpl, hb0]; omega))
      have HB1 := hid (p := (splice b0 r (res.take tk)).length = 64) (by rw [length_splice _ _ _ (by rw [hpl, hb0]; omega), hb0])
      have HCN := hid (HRA.out.count HL8 HB1.out)
      have HGX := hid (grown_row (grown_drew (World.grownBy.refl wr (some g))) (splice (rc (eat hh X (N / 64)) b0 N) (9 + r) (bvs (res.take tk))).toArray)
      have HGA := hid (grown_row (grown_drew HG.out) (splice (rc (eat hh X (N / 64)) b0 N) (9 + r) (bvs (res.take tk))).toArray)
      have hrt : (N : Int).tmod 64 = (r : Int) := by rw [Int.tmod_eq_emod_of_nonneg (by omega)]; exact hri
      have HRD := hid hr
      have HMD := hid hm
      have HTK := hid htk2
      have HR64 := hid hr64
      have HP2 := hid hpl
      have HPL2 := hid (show (bvs (res.take tk)).length = tk by rw [bvs_length, hpl])
      clear hN hr hm htk htk2 hrn hb0 ht0 hcl hgp hpl hr64
      go_wp2_with fail
      refine wp_region_noPanic ?_
      refine Goes.region (fun (L : Array Bool) (w' : World) => w'.cell? ⟨g, 73, none⟩ = some (.int .u64 (N : Int))) (by as_aux_lemma => kernel_rfl) ?_
      refine Goes.take (i := 0) (o := ⟨some 8, _, _, _, _, _⟩) (v := ?_) [] rfl (by as_aux_lemma => kernel_rfl) (by as_aux_lemma => kernel_rfl) (by as_aux_lemma => kernel_rfl) (fun _ _ _ h => h) (by as_aux_lemma => kernel_rfl) (fun L u h => h) (Or.inl ⟨by rfl, ?_⟩) hs ?_
      rotate_left
      · intro w hY; go_simp; try with_reducible rfl
      try simp only [putz]
      refine Goes.take (i := 1) (o := ⟨some 9, _, _, _, _, _⟩) (v := ?_) [] rfl (by as_aux_lemma => kernel_rfl) (by as_aux_lemma => kernel_rfl) (by as_aux_lemma => kernel_rfl) (fun _ _ _ h => h) (by as_aux_lemma => kernel_rfl) (fun L u h => h) (Or.inl ⟨by rfl, ?_⟩) hs ?_
      rotate_left
      · intro w hY; go_simp; try with_reducible rfl
      try simp only [putz]
      refine Goes.take (i := 2) (o := ⟨some 10, _, _, _, _, _⟩) (v := ?_) [] rfl (by as_aux_lemma => kernel_rfl) (by as_aux_lemma => kernel_rfl) (by as_aux_lemma => kernel_rfl) (fun _ _ _ h => h) (by as_aux_lemma => kernel_rfl) (fun L u h => h) (Or.inl ⟨by rfl, ?_⟩) hs ?_
      rotate_left
      · intro w hY; go_simp; try with_reducible rfl
      try simp only [putz]
      refine Goes.take (i := 3) (o := ⟨some 11, _, _, _, _, _⟩) (v := ?_) [] rfl (by as_aux_lemma => kernel_rfl) (by as_aux_lemma => kernel_rfl) (by as_aux_lemma => kernel_rfl) (fun _ _ _ h => h) (by as_aux_lemma => kernel_rfl) (fun L u h => h) (Or.inl ⟨by rfl, ?_⟩) hs ?_
      rotate_left
      · intro w hY; go_simp; try with_reducible rfl
      try simp only [putz]
      refine Goes.take (i := 4) (o := ⟨some 12, _, _, _, _, _⟩) (v := ?_) [] rfl (by as_aux_lemma => kernel_rfl) (by as_aux_lemma => kernel_rfl) (by as_aux_lemma => kernel_rfl) (fun _ _ _ h => h) (by as_aux_lemma => kernel_rfl) (fun L u h => h) (Or.inl ⟨by rfl, ?_⟩) hs ?_
      rotate_left
      · intro w hY; go_simp; try with_reducible rfl
      try simp only [putz]
      refine Goes.take (i := 5) (o := ⟨some 13, _, _, _, _, _⟩) (v := ?_) [] rfl (by as_aux_lemma => kernel_rfl) (by as_aux_lemma => kernel_rfl) (by as_aux_lemma => kernel_rfl) (fun _ _ _ h => h) (by as_aux_lemma => kernel_rfl) (fun L u h => h) (Or.inl ⟨by rfl, ?_⟩) hs ?_
      rotate_left
      · intro w hY; go_simp; try with_reducible rfl
      try simp only [putz]
      refine Goes.take (i := 6) (o := ⟨some 14, _, _, _, _, _⟩) (v := ?_) [] rfl (by as_aux_lemma => kernel_rfl) (by as_aux_lemma => kernel_rfl) (by as_aux_lemma => kernel_rfl) (fun _ _ _ h => h) (by as_aux_lemma => kernel_rfl) (fun L u h => h) (Or.inl ⟨by rfl, ?_⟩) hs ?_
      rotate_left
      · intro w hY; obtain ⟨up, hL⟩ := hY; have hX := hL.2; clear hL; (try dsimp only at hX); go_simp; try with_reducible rfl
      try simp only [putz]
      refine Goes.take (i := 7) (o := ⟨some 15, _, _, _, _, _⟩) (v := ?_) [] rfl (by as_aux_lemma => kernel_rfl) (by as_aux_lemma => kernel_rfl) (by as_aux_lemma => kernel_rfl) (fun _ _ _ h => h) (by as_aux_lemma => kernel_rfl) (fun L u h => h) (Or.inl ⟨by rfl, ?_⟩) hs ?_
      rotate_left
      · intro w hY; go_simp; try with_reducible rfl
      try simp only [putz]
      refine Goes.take (i := 8) (o := ⟨some 16, _, _, _, _, _⟩) (v := ?_) [] rfl (by as_aux_lemma => kernel_rfl) (by as_aux_lemma => kernel_rfl) (by as_aux_lemma => kernel_rfl) (fun _ _ _ h => h) (by as_aux_lemma => kernel_rfl) (fun L u h => h) (Or.inl ⟨by rfl, ?_⟩) hs ?_
      rotate_left
      · intro w hY; go_simp; try with_reducible rfl
      try simp only [putz]
      refine Goes.take (i := 9) (o := ⟨some 17, _, _, _, _, _⟩) (v := ?_) [] rfl (by as_aux_lemma => kernel_rfl) (by as_aux_lemma => kernel_rfl) (by as_aux_lemma => kernel_rfl) (fun _ _ _ h => h) (by as_aux_lemma => kernel_rfl) (fun L u h => h) (Or.inl ⟨by rfl, ?_⟩) hs ?_
      rotate_left
      · intro w hY; go_simp; try with_reducible rfl
      try simp only [putz]
      refine Goes.one (i := 10) (o := ⟨some 18, _, _, _, _, _⟩) (by as_aux_lemma => kernel_rfl) rfl (fun K hK => ?_)
      refine step_copy_at rfl (.tmp 16) (.tmp 17) 27 27 rfl 5 Tryz.underlying27 (by kernel_rfl) g (9 + r) m m ⟨gp, o, none⟩ n' c' rfl rfl (rc (eat hh X (N / 64)) b0 N) 174 HRN.out (bvs (res.take tk)) HPL.out HSRC.out HFIT.out (bvs_one _) ?_
      refine hK.out _ _ HCN.out ?_
      clear hK K
      clear hs
      have hs := HCN.out
      try simp only [putz]
      refine Goes.take (i := 11) (o := ⟨some 4, _, _, _, _, _⟩) (v := ?_) [] rfl (by as_aux_lemma => kernel_rfl) (by as_aux_lemma => kernel_rfl) (by as_aux_lemma => kernel_rfl) (fun _ _ _ h => h) (by as_aux_lemma => kernel_rfl) (fun L u h => h) (Or.inl ⟨by rfl, ?_⟩) hs ?_
      rotate_left
      · intro w hY; go_simp; try with_reducible rfl
      try simp only [putz]
      refine Goes.done (by as_aux_lemma => kernel_rfl) ?_ _
      refine NoPanic.normal ?_
      simp only [HPL2.out]
      generalize wr.drew.setRow g (splice (rc (eat hh X (N / 64)) b0 N) (9 + r) (bvs (res.take tk))).toArray = wA at *
      have HSL := hid (slice_rest (some ⟨gp, o, none⟩) n' c' tk (by have := HTK.out; omega))
      have hsl := HSL.out
      obtain ⟨A2, hA2⟩ : ∃ A2, A2 = past (some ⟨gp, o, none⟩) tk c' := ⟨_, rfl⟩
      rw [← hA2] at hsl
      have HA2 := hid hA2
      clear hA2
      have hfr := HRA.out.frozen 73
      have hc73 := HCN.out
      have hpl := hid (show (N + tk : Nat) < 18446744073709551616 by have h1 := HX.out; have h2 := HNX.out; have h3 := HN'.out; have h4 := HTK.out; omega)
      have hw1 : IntKind.u64.wrap ((N : Int) + (tk : Int)) = ((N + tk : Nat) : Int) := by have := hpl.out; rw [IntKind.wrap_u64]; omega
      have hw2 : IntKind.u64.wrap (tk : Int) = (tk : Int) := by have := hpl.out; rw [IntKind.wrap_u64]; omega
      have HGW := hid (p := wr.grownBy wA (some g)) HGX.out
      have hcast : ((N : Int) + (tk : Int)) = ((N + tk : Nat) : Int) := by simp
      have HRB := hid (HRA.out.setCount HL8 HB1.out (N + tk))
      have HGB := hid (grown_cell (i := 73) HGW.out (.int .u64 ((N + tk : Nat) : Int)))
      rw [← hcast] at HRB HGB
      have HCA := hid hcast
      have HFIN := hid (p := ∀ wE : World, wr.grownBy wE (some g) → RunIs wE g (X ++ res.take tk) → ((∃ (n'_1 c'_1 : Nat) (A' : Option Addr) (don' res' : List UInt8), Value.slice A2 (n' - tk) (c' - tk) = Value.slice A' n'_1 c'_1 ∧ Hid (res'.length = n'_1) ∧ Hid (part = don' ++ res') ∧ Hid (Rd wE A' res') ∧ Hid (0 < n'_1 → ∀ ad, A' = some ad → ad.block ≠ g) ∧ Hid (n'_1 ≤ c'_1) ∧ Hid (RunIs wE g (bs ++ don')) ∧ Hid (w.grownBy wE (some g))) ∧ n' - tk < n')) (fun wE h1 h2 => by
        have hn0 : 0 < n' := HN0.out
        have ht := HTK.out
        have hm := HMD.out
        have h64 := HR64.out
        have hn := HN'.out
        have hcc := HC.out
        refine ⟨⟨n' - tk, c' - tk, A2, don ++ res.take tk, res.drop tk, rfl, hid (by rw [List.length_drop, hn]), hid (by rw [List.append_assoc, List.take_append_drop]; exact HP.out), hid ?_, hid ?_, hid (by omega), hid ?_, hid (HG.out.trans h1)⟩, by omega⟩
        · rw [HA2.out]; exact (HRd.out.grown h1 (HA.out hn0)).past tk c' (by omega) (by omega)
        · intro _; rw [HA2.out]; exact past_block _ _ _ _ (HA.out hn0)
        · rw [← List.append_assoc, HXX.out]; exact h2)
      have hp64 : r + (res.take tk).length ≤ 64 := by have := HP2.out; have := HTK.out; have := HMD.out; have := HR64.out; omega
      have HP64 := hid hp64
      clear hp64 hcast hsl
      have hsl := HSL.out
      rw [← HA2.out] at hsl
      by_cases hz : (N + tk) % 64 = 0
      · have hzi : ((N : Int) + (tk : Int)) % 64 = 0 := by omega
        have HZ := hid hz
        clear hz
        have HW2 := hid (p := r + (res.take tk).length = 64) (by have h1 := HP2.out; have h2 := HTK.out; have h3 := HMD.out; have h4 := HR64.out; have h5 := HRD.out; have h6 := HZ.out; have h7 := HP64.out; omega)
        go_upto_region 5 with fail
        generalize wA.setCell ⟨g, 73, none⟩ (.int .u64 ((N : Int) + (tk : Int))) = wB at *
        have HKB := hid ((HK.out.grown HG.out H3.out).grown HGB.out H3.out)
        have HIS := hid (p := ∀ wE : World, Rn wE g (comp (eat hh X (N / 64)) (splice b0 r (res.take tk))) (splice b0 r (res.take tk)) (N + tk) → RunIs wE g (X ++ res.take tk)) (fun wE h => run_whole_is HNX.out HRD.out HB0.out HT0.out HW2.out (by rw [HP2.out]; exact h))
        generalize eat hh X (N / 64) = L1 at *
        generalize splice b0 r (res.take tk) = b1 at *
        have hR : wB.rangeAt g 1 (dv L1) ∧ wB.rangeAt g 9 (bvs b1) := ⟨HRB.out.so, HRB.out.last HL8⟩
        have HI57 := hi57 L1 HL8
        have HI59 := hi59 b1 HB1.out
        rw [dv_size, ← dv_length] at HI57
        rw [bvs_size, ← bvs_length] at HI59
        have HL88 := hid HL8
        refine wp_region_noPanic ?_
        refine Goes.region (fun (L : Array Bool) (wX : World) => (L.getD 12 true = false → wX.rangeAt g 1 (dv L1) ∧ wX.rangeAt g 9 (bvs b1))) (by as_aux_lemma => kernel_rfl) ?_
        refine Goes.take (i := 0) (o := ⟨some 37, _, _, _, _, _⟩) (v := ?_) [] rfl (by as_aux_lemma => kernel_rfl) (by as_aux_lemma => kernel_rfl) (by as_aux_lemma => kernel_rfl) (fun _ _ _ h => h) (by as_aux_lemma => kernel_rfl) (fun L u h e => h (by rw [getD_set_ne true (by decide)]; exact e)) (Or.inl ⟨by rfl, ?_⟩) (fun _ => hR) ?_
        rotate_left
        · intro w hY; go_simp; try with_reducible rfl
        try simp only [putz]
        refine Goes.take (i := 1) (o := ⟨some 38, _, _, _, _, _⟩) (v := ?_) [] rfl (by as_aux_lemma => kernel_rfl) (by as_aux_lemma => kernel_rfl) (by as_aux_lemma => kernel_rfl) (fun _ _ _ h => h) (by as_aux_lemma => kernel_rfl) (fun L u h e => h (by rw [getD_set_ne true (by decide)]; exact e)) (Or.inl ⟨by rfl, ?_⟩) (fun _ => hR) ?_
        rotate_left
        · intro w hY; go_simp; try with_reducible rfl
        try simp only [putz]
        refine Goes.take (i := 2) (o := ⟨some 39, _, _, _, _, _⟩) (v := ?_) [] rfl (by as_aux_lemma => kernel_rfl) (by as_aux_lemma => kernel_rfl) (by as_aux_lemma => kernel_rfl) (fun _ _ _ h => h) (by as_aux_lemma => kernel_rfl) (fun L u h e => h (by rw [getD_set_ne true (by decide)]; exact e)) (Or.inl ⟨by rfl, ?_⟩) (fun _ => hR) ?_
        rotate_left
        · intro w hY; go_simp; try with_reducible rfl
        try simp only [putz]
        refine Goes.take (i := 3) (o := ⟨some 40, _, _, _, _, _⟩) (v := ?_) [] rfl (by as_aux_lemma => kernel_rfl) (by as_aux_lemma => kernel_rfl) (by as_aux_lemma => kernel_rfl) (fun _ _ _ h => h) (by as_aux_lemma => kernel_rfl) (fun L u h e => h (by rw [getD_set_ne true (by decide)]; exact e)) (Or.inl ⟨by rfl, ?_⟩) (fun _ => hR) ?_
        rotate_left
        · intro w hY; go_simp; try with_reducible rfl
        try simp only [putz]
        refine Goes.take (i := 4) (o := ⟨some 41, _, _, _, _, _⟩) [12] rfl (by as_aux_lemma => kernel_rfl) (by as_aux_lemma => kernel_rfl) (by as_aux_lemma => kernel_rfl) (fun _ _ _ h => h) (by as_aux_lemma => kernel_rfl) (fun L u h e => h (by rw [getD_set_ne true (by decide)]; exact e)) (yieldsIf_load_mid (by rfl) 170 (.tmp 40) rfl g 1 rfl (dv L1) _ (fun W hY => by obtain ⟨up, hU, hL⟩ := hY; exact (hL (hU 12 (by simp))).1) Tryz.underlying170 rfl HI57.out) (fun _ => hR) ?_
        try simp only [putz]
        refine Goes.take (i := 5) (o := ⟨some 42, _, _, _, _, _⟩) (v := ?_) [] rfl (by as_aux_lemma => kernel_rfl) (by as_aux_lemma => kernel_rfl) (by as_aux_lemma => kernel_rfl) (fun _ _ _ h => h) (by as_aux_lemma => kernel_rfl) (fun L u h e => h (by rw [getD_set_ne true (by decide)]; exact e)) (Or.inl ⟨by rfl, ?_⟩) (fun _ => hR) ?_
        rotate_left
        · intro w hY; go_simp; try with_reducible rfl
        try simp only [putz]
        refine Goes.take (i := 6) (o := ⟨some 43, _, _, _, _, _⟩) (v := ?_) [] rfl (by as_aux_lemma => kernel_rfl) (by as_aux_lemma => kernel_rfl) (by as_aux_lemma => kernel_rfl) (fun _ _ _ h => h) (by as_aux_lemma => kernel_rfl) (fun L u h e => h (by rw [getD_set_ne true (by decide)]; exact e)) (Or.inl ⟨by rfl, ?_⟩) (fun _ => hR) ?_
        rotate_left
        · intro w hY; go_simp; try with_reducible rfl
        try simp only [putz]
        refine Goes.take (i := 7) (o := ⟨some 44, _, _, _, _, _⟩) (v := ?_) [] rfl (by as_aux_lemma => kernel_rfl) (by as_aux_lemma => kernel_rfl) (by as_aux_lemma => kernel_rfl) (fun _ _ _ h => h) (by as_aux_lemma => kernel_rfl) (fun L u h e => h (by rw [getD_set_ne true (by decide)]; exact e)) (Or.inl ⟨by rfl, ?_⟩) (fun _ => hR) ?_
        rotate_left
        · intro w hY; go_simp; try with_reducible rfl
        try simp only [putz]
        refine Goes.take (i := 8) (o := ⟨some 45, _, _, _, _, _⟩) [12] rfl (by as_aux_lemma => kernel_rfl) (by as_aux_lemma => kernel_rfl) (by as_aux_lemma => kernel_rfl) (fun _ _ _ h => h) (by as_aux_lemma => kernel_rfl) (fun L u h e => h (by rw [getD_set_ne true (by decide)]; exact e)) (yieldsIf_load_mid (by rfl) 172 (.tmp 44) rfl g 9 rfl (bvs b1) _ (fun W hY => by obtain ⟨up, hU, hL⟩ := hY; exact (hL (hU 12 (by simp))).2) Tryz.underlying172 rfl HI59.out) (fun _ => hR) ?_
        try simp only [putz]
        refine Goes.one (i := 9) (o := ⟨some 46, _, _, _, _, _⟩) (by as_aux_lemma => kernel_rfl) rfl (fun K hK => ?_)
        go_simp
        refine (take_any L1 b1 _ HL88.out HS8.out HB1.out HKB.out.drew).mono ?_
        rintro e' w2 ⟨rfl, hb2⟩
        go_wp2_with fail
        have HR2 := hid (p := Rn w2 g L1 b1 (N + tk)) ((hb2.block g HRB.out.lt).trans HRB.out)
        have hR2 : w2.rangeAt g 1 (dv L1) ∧ w2.rangeAt g 9 (bvs b1) := ⟨HR2.out.so, HR2.out.last HL88.out⟩
        have HG2 := hid (p := wr.grownBy w2 (some g)) ((grown_drew HGB.out).trans (grown_of hb2 _))
        refine hK.out _ _ (fun _ => hR2) ?_
        clear hK K hR hb2
        have hR := hR2
        clear hR2
        try simp only [putz]
        refine Goes.take (i := 10) (o := ⟨some 47, _, _, _, _, _⟩) (v := ?_) [] rfl (by as_aux_lemma => kernel_rfl) (by as_aux_lemma => kernel_rfl) (by as_aux_lemma => kernel_rfl) (fun _ _ _ h => h) (by as_aux_lemma => kernel_rfl) (fun L u h e => h (by rw [getD_set_ne true (by decide)]; exact e)) (Or.inl ⟨by rfl, ?_⟩) (fun _ => hR) ?_
        rotate_left
        · intro w hY; go_simp; try with_reducible rfl
        try simp only [putz]
        refine Goes.take (i := 11) (o := ⟨some 48, _, _, _, _, _⟩) (v := ?_) [] rfl (by as_aux_lemma => kernel_rfl) (by as_aux_lemma => kernel_rfl) (by as_aux_lemma => kernel_rfl) (fun _ _ _ h => h) (by as_aux_lemma => kernel_rfl) (fun L u h e => h (by rw [getD_set_ne true (by decide)]; exact e)) (Or.inl ⟨by rfl, ?_⟩) (fun _ => hR) ?_
        rotate_left
        · intro w hY; go_simp; try with_reducible rfl
        try simp only [putz]
        refine Goes.one (i := 12) (o := ⟨none, _, _, _, _, _⟩) (by as_aux_lemma => kernel_rfl) rfl (fun K hK => ?_)
        refine step_store_mid rfl 170 (.tmp 48) (.tmp 46) rfl g 1 (dv (comp L1 b1)).toArray rfl rfl (by rw [dv_size, comp_length _ _ HL88.out]; exact HR2.out.there HL88.out) (hi57 _ (comp_length _ _ HL88.out)).out (dv_all _) ?_
        refine hK.out _ _ (fun e => absurd e (by as_aux_lemma => decide +kernel)) ?_
        clear hK K
        try simp only [putz]
        refine Goes.done (by as_aux_lemma => kernel_rfl) ?_ _
        refine NoPanic.normal ?_
        go_wp2
        exact HFIN.out _ (grown_cells HG2.out _) (HIS.out _ (HR2.out.setSo (HL88.out.trans (comp_length _ _ HL88.out).symm)))
      · have hzi : (((N : Int) + (tk : Int)) % 64 == 0) = false := by simp; omega
        have HIS := hid (run_part_is HNX.out HRD.out HB0.out HT0.out HP64.out (by rw [HP2.out]; exact hz) (by rw [HP2.out]; have := HRB.out; rw [HCA.out] at this; exact this))
        go_wp2
        exact HFIN.out _ HGB.out HIS.out
    · obtain rfl : n' = 0 := by omega
      have HRE : Hid (RunIs wr g (bs ++ part)) := hid (by
        have : res = [] := List.eq_nil_of_length_eq_zero HN'.out
        have h2 := HP.out
        rw [this, List.append_nil] at h2
        rw [h2]; exact HR.out)
      go_wp2
      exact bodyPost_end (v := .tuple #[]) (by simp [results, Tryz.results109, go_sem]) rfl ⟨rfl, HRE.out, HG.out⟩
end Go.Proofs.YtbloejlebikecaaGreatDoor

/-
  (*shas.Run).add, walked: bytes behind those so far, each block taken in as it gets whole. Conditions: the library's table holds what its text lays; no more than 2^47 bytes; they lie outside of the run.
  shas.tell, shas.squares, walked: numbers as bytes. Conditions: none.
  burrowlaw05.text, walked: a sum as digits of 16. Conditions: none.
  What '==' says of two sums. Conditions: none.
  From long numbers, as the reading gives them, to what the walks ask. Conditions: none.
  From groups, and what holds one and three numbers, as the reading gives them, to what the walks ask. Conditions: none.
  From groups, numbers, sums and signatures, as the reading gives them, to what the walks ask. Conditions: none.
-/
import Derived.Test.YtioebjbjpjbodaaDoorPkAf
import Derived.Test.YtioebjbjpjbodaaDoorPkAd
import Derived.Deep.Cut
import Derived.BigQuiet
import Derived.Test.YtioebjbjpjbodaaDoorPkWords
import Derived.WalkLawsBesides
import Derived.WalkSpells
import Derived.Test.YtioebjbjpjbodaaDoorPkAc
import Derived.WalkKit
import Derived.ProofKit
import Derived.OpenShut
import Derived.ShutString
import Derived.ChangeOld
import Derived.Below
import Derived.SizedLaws
import Derived.Deep.Strs
import Derived.Lib.SmallJoins
import Derived.Laws.IdiomArrays
import Derived.Test.YtioebjbjpjbodaaDoorPkAe
namespace Go.Proofs.YtioebjbjpjbodaaDoor
open Go.RowKit
set_option linter.unusedVariables false
set_option linter.unusedSimpArgs false

/-- a copy into a block, as one step of a region -/
theorem step_copy_at {P : Program} {ops : Array Oper} {o : Oper} {a : Act} {w : World} {K : Act → World → Prop} {Q : Exit → Act → World → Prop} {E : Prop} (hgd : o.guard = none) (d s : Operand) (dT sT : TypeId)
    (ho : o.op = .call { callee := .builtin .copy, args := #[d, s], argTypes := #[dT, sT] }) (elem : TypeId) (hu : P.underlying dT = some (.slice elem)) (hsz : (P.info? elem).map (·.size) = some 1)
    (g off dLen dCap : Nat) (ad : Addr) (sLen sCap : Nat) (hd : a.eval d = .slice (some ⟨g, off, none⟩) dLen dCap) (hs : a.eval s = .slice (some ad) sLen sCap)
    (cur : List Value) (t : TypeId) (hg : w.heap[g]? = some (.cells cur.toArray t (0, 0))) (cs : List Value) (hn : cs.length = Nat.min sLen dLen)
    (hsrc : ∀ j v, cs[j]? = some v → w.cell? (ad.add j) = some v) (hfit : off + cs.length ≤ cur.length) (h1 : ∀ v ∈ cs, v.oneCell' = true)
    (h : K (a.put o.dst (goInt cs.length)) (w.setRow g (splice cur off cs).toArray)) :
    if Region.wanted o (yielded ops a.tmps) = true then Oper.wp P o a w K Q else E := by
  have hw : Region.wanted o (yielded ops a.tmps) = true := by simp [Region.wanted, hgd]
  rw [if_pos hw]
  have hrun := run_copy_row (P := P) w dT sT o.type elem g off dLen dCap ad sLen sCap cur.toArray t cs hu hsz hg hn hsrc (by simpa using hfit) h1
  have e : cur.toArray.toList.take off ++ cs ++ cur.toArray.toList.drop (off + cs.length) = splice cur off cs := by simp [splice]
  rw [e] at hrun
  unfold Oper.wp
  simp [execOp, ho, resolve, invoke, builtin, hd, hs, hrun, Result.andThen]
  exact h
/-- a store of many cells into a block's middle, as one step of a region -/
theorem step_store_mid {P : Program} {ops : Array Oper} {o : Oper} {a : Act} {w : World} {K : Act → World → Prop} {Q : Exit → Act → World → Prop} {E : Prop} (hgd : o.guard = none) (ty : TypeId) (x y : Operand) (ho : o.op = .store ty x y)
    (b off : Nat) (cells : Array Value) (hx : a.eval x = .pointer (some ⟨b, off, none⟩)) (hy : a.eval y = .agg cells)
    (ht : w.there b off cells.size) (hi : (P.info? ty).map (·.size) = some cells.size) (h1 : cells.all (·.oneCell') = true)
    (h : K (a.put o.dst undef) (w.setCells b off cells.toList)) : if Region.wanted o (yielded ops a.tmps) = true then Oper.wp P o a w K Q else E := by
  have hw : Region.wanted o (yielded ops a.tmps) = true := by simp [Region.wanted, hgd]
  rw [if_pos hw]
  exact wp_store_mid ty x y ho b off cells hx hy ht hi h1 h
/-- the address of a slice's rest -/
def past (A : Option Addr) (k c : Nat) : Option Addr := if c = k then A else A.map (·.add k)
theorem slice_rest (A : Option Addr) (n c k : Nat) (hk : k ≤ n) (w : World) : (Instr.slice 73 (.slice A n c) (some (.int .i64 (k : Int))) none none).run Tryd.prog w = .ok (.slice (past A k c) (n - k) (c - k)) w := by
  have h5 : Tryd.prog.elem 73 = 5 := by kernel_rfl
  rw [run_slice_l (P := Tryd.prog) w 73 A n c (by rw [h5]; exact Tryd.underlying73) .i64 (k : Int) (by omega) (by omega)]
  have hs : (sizeOf 5).run Tryd.prog w = .ok 1 w := by kernel_rfl
  rw [h5, hs]
  simp only [Result.andThen, sliced, Int.toNat_natCast, past, Nat.mul_one]
theorem Rd.past {w : World} {A : Option Addr} {bs : List UInt8} (h : Rd w A bs) (k c : Nat) (hk : k ≤ bs.length) (hc : bs.length ≤ c) : Rd w (past A k c) (bs.drop k) := by
  intro hp
  have hp2 : 0 < bs.length := by simp at hp; omega
  obtain ⟨gp, o, rfl, hlt, hcl⟩ := h hp2
  have hne : c ≠ k := by simp at hp; omega
  refine ⟨gp, o + k, ?_, hlt, fun j hj => ?_⟩
  · unfold Go.Proofs.YtioebjbjpjbodaaDoor.past; rw [if_neg hne]
    simp only [Option.map_some]
    congr 1
    unfold Addr.add
    by_cases hk0 : k = 0
    · subst hk0; simp
    · simp [hk0]
  · have := hcl (k + j) (by simp at hj; omega)
    rw [Nat.add_assoc, this]; simp
theorem past_block (A : Option Addr) (k c g : Nat) (h : ∀ ad, A = some ad → ad.block ≠ g) : ∀ ad, past A k c = some ad → ad.block ≠ g := by
  intro ad e
  unfold past at e
  split at e
  · exact h ad e
  · cases A with
    | none => cases e
    | some a0 =>
      simp only [Option.map_some] at e
      injection e with e
      subst e
      have := h a0 rfl
      unfold Addr.add
      split <;> simpa using this
/-- some more bytes, the block not whole -/
theorem run_part_is {wB : World} {g N r : Nat} {X p b0 : List UInt8} (hN : N = X.length) (hr : r = N % 64) (hb : b0.length = 64) (h : b0.take r = X.drop (64 * (N / 64))) (hp : r + p.length ≤ 64) (hz : (N + p.length) % 64 ≠ 0)
    (hR : Rn wB g (eat hh X (N / 64)) (splice b0 r p) (N + p.length)) : RunIs wB g (X ++ p) := by
  subst hN; subst hr
  obtain ⟨h1, h2, h3⟩ := run_part X p b0 hb h hp hz
  refine ⟨_, h1, h2, ?_⟩
  rw [h3, List.length_append]; exact hR
/-- some more bytes, the block whole, taken in -/
theorem run_whole_is {wB : World} {g N r : Nat} {X p b0 : List UInt8} (hN : N = X.length) (hr : r = N % 64) (hb : b0.length = 64) (h : b0.take r = X.drop (64 * (N / 64))) (hp : r + p.length = 64)
    (hR : Rn wB g (comp (eat hh X (N / 64)) (splice b0 r p)) (splice b0 r p) (N + p.length)) : RunIs wB g (X ++ p) := by
  subst hN; subst hr
  obtain ⟨h1, h2, h3⟩ := run_whole X p b0 hb h hp
  refine ⟨_, h1, h2, ?_⟩
  rw [h3, List.length_append]; exact hR
/-- the length of a slice -/
def lenV : Value → Nat
  | .slice _ n _ => n
  | _ => 0
set_option maxRecDepth 100000 in
theorem slice_last (g r m : Nat) (hr : r < 64) (hm : m = 64 - r) (w : World) : (Instr.sliceAt 116 (.pointer (some ⟨g, 9, none⟩)) (some (.int .u64 (r : Int))) none none).run Tryd.prog w = .ok (.slice (some ⟨g, 9 + r, none⟩) m m) w := by
  have hl : Tryd.prog.arrayLen 116 = 64 := by kernel_rfl
  have h5 : Tryd.prog.elem 116 = 5 := by kernel_rfl
  rw [run_sliceAt_array_l (P := Tryd.prog) w 116 ⟨g, 9, none⟩ (by rw [hl, h5]; exact Tryd.underlying116) .u64 (r : Int) (by omega) (by rw [hl]; omega)]
  have hs : (sizeOf 5).run Tryd.prog w = .ok 1 w := by kernel_rfl
  rw [h5, hs, hl]
  simp only [Result.andThen, slicedAt, Int.toNat_natCast, Nat.mul_one]
  rw [if_neg (by omega), hm]
  congr 3
  unfold Addr.add
  by_cases h0 : r = 0
  · subst h0; simp
  · simp [h0]
set_option maxRecDepth 100000 in
set_option maxHeartbeats 4000000 in
theorem add_any (g : Nat) (A : Option Addr) (c : Nat) (bs part : List UInt8) (w : World) (n : Nat) (hn : part.length = n) (hR : RunIs w g bs) (hr : Rd w A part) (hA : 0 < n → ∀ ad, A = some ad → ad.block ≠ g) (hc : n ≤ c) (hK : Kt w) (h3 : 2 ≠ g) (hlen : bs.length + n ≤ 140737488355328) :
    Calls Tryd.prog 64 #[.pointer (some ⟨g, 0, none⟩), .slice A n c] w fun e w' => e = .returned (.tuple #[]) ∧ RunIs w' g (bs ++ part) ∧ w.grownBy w' (some g) := by
  have HN := hid hn
  have HR := hid hR
  have HRd := hid hr
  have HA := hid hA
  have HC := hid hc
  have HK := hid hK
  have H3 := hid h3
  have HLN := hid hlen
  clear hn hR hr hA hc hK h3 hlen
  go_enter Tryd.func64, Tryd.ntmps64
  go_wp2_with fail
  go_loopw [1] (fun s wr => ∃ (n' c' : Nat) (A' : Option Addr) (don res : List UInt8), s = .slice A' n' c' ∧ Hid (res.length = n') ∧ Hid (part = don ++ res) ∧ Hid (Rd wr A' res) ∧ Hid (0 < n' → ∀ ad, A' = some ad → ad.block ≠ g) ∧ Hid (n' ≤ c') ∧ Hid (RunIs wr g (bs ++ don)) ∧ Hid (w.grownBy wr (some g))) (fun s _ => lenV s)
  case atStart => exact ⟨n, c, A, [], part, rfl, HN, hid rfl, HRd, HA, HC, hid (by rw [List.append_nil]; exact HR.out), hid (World.grownBy.refl _ _)⟩
  case round =>
    clear HRd HA HC HR
    obtain ⟨n', c', A', don, res, rfl, HN', HP, HRd, HA, HC, HR, HG⟩ := hrel
    by_cases h0 : 0 < n'
    · have HN0 := hid h0
      obtain ⟨b0, hb0, ht0, hrn⟩ := HR.out
      obtain ⟨gp, o, rfl, hgp, hcl⟩ := HRd.out (by have := HN'.out; omega)
      have HX := hid (show (bs ++ don).length + res.length ≤ 140737488355328 by have h1 := HN.out; have h2 := HP.out; have h3 := HLN.out; rw [h2] at h1; simp at h1 ⊢; omega)
      generalize hX : bs ++ don = X at *
      have HXX := hid hX
      clear hX
      obtain ⟨N, hN⟩ : ∃ N, N = X.length := ⟨_, rfl⟩
      obtain ⟨r, hr⟩ : ∃ r, r = N % 64 := ⟨_, rfl⟩
      obtain ⟨m, hm⟩ : ∃ m, m = 64 - r := ⟨_, rfl⟩
      obtain ⟨tk, htk⟩ : ∃ tk, tk = Nat.min n' m := ⟨_, rfl⟩
      have hr64 : r < 64 := by rw [hr]; exact Nat.mod_lt _ (by decide)
      have htk2 : tk = min n' m := htk
      have hpl : (res.take tk).length = tk := by have := HN'.out; simp; omega
      rw [← hN] at hrn ht0
      rw [← hr] at ht0
      have HRN := hid hrn
      have HB0 := hid hb0
      have HT0 := hid ht0
      have HL8 := so_length X (N / 64)
      have HS8 := hid (so_sm X (N / 64))
      have HSRC := hid (p := ∀ j v, (bvs (res.take tk))[j]? = some v → wr.drew.cell? ((⟨gp, o, none⟩ : Addr).add j) = some v) (fun j v hv => by
        have hj : j < tk := by
          rcases Nat.lt_or_ge j tk with h | h
          · exact h
          · rw [List.getElem?_eq_none (by rw [bvs_length]; omega)] at hv; cases hv
        rw [Addr.add_mid]
        refine Eq.trans (hcl j (by have := HN'.out; omega)) ?_
        rw [← hv]
        simp [bvs, hj]
        rw [List.getElem?_eq_getElem (by have := HN'.out; omega)]
        rfl)
      have HFIT := hid (p := 9 + r + (bvs (res.take tk)).length ≤ (rc (eat hh X (N / 64)) b0 N).length) (by rw [rc_length N HL8 hb0, bvs_length, hpl]; omega)
      have HPL := hid (p := (bvs (res.take tk)).length = Nat.min n' m) (by rw [bvs_length, hpl, htk])
      have HNX := hid hN
      have hri : (N : Int) % 64 = (r : Int) := by omega
      have hslA := slice_last g r m hr64 hm
      have hs : wr.cell? ⟨g, 73, none⟩ = some (.int .u64 (N : Int)) := hrn.count HL8 hb0
      have HRA := hid (p := Rn (wr.drew.setRow g (splice (rc (eat hh X (N / 64)) b0 N) (9 + r) (bvs (res.take tk))).toArray) g (eat hh X (N / 64)) (splice b0 r (res.take tk)) N) (Rn.copy (w := wr.drew) HRN.out HL8 r (res.take tk) (by rw [hpl, hb0]; omega))
      have HB1 := hid (p := (splice b0 r (res.take tk)).length = 64) (by rw [length_splice _ _ _ (by rw [hpl, hb0]; omega), hb0])
      have HCN := hid (HRA.out.count HL8 HB1.out)
      have HGX := hid (grown_row (grown_drew (World.grownBy.refl wr (some g))) (splice (rc (eat hh X (N / 64)) b0 N) (9 + r) (bvs (res.take tk))).toArray)
      have HGA := hid (grown_row (grown_drew HG.out) (splice (rc (eat hh X (N / 64)) b0 N) (9 + r) (bvs (res.take tk))).toArray)
      have hrt : (N : Int).tmod 64 = (r : Int) := by rw [Int.tmod_eq_emod_of_nonneg (by omega)]; exact hri
      have HRD := hid hr
      have HMD := hid hm
      have HTK := hid htk2
      have HR64 := hid hr64
      have HP2 := hid hpl
      have HPL2 := hid (show (bvs (res.take tk)).length = tk by rw [bvs_length, hpl])
      clear hN hr hm htk htk2 hrn hb0 ht0 hcl hgp hpl hr64
      go_wp2_with fail
      refine wp_region_noPanic ?_
      refine Goes.region (fun (L : Array Bool) (w' : World) => w'.cell? ⟨g, 73, none⟩ = some (.int .u64 (N : Int))) (by as_aux_lemma => kernel_rfl) ?_
      refine Goes.take (i := 0) (o := ⟨some 8, _, _, _, _, _⟩) (v := ?_) [] rfl (by as_aux_lemma => kernel_rfl) (by as_aux_lemma => kernel_rfl) (by as_aux_lemma => kernel_rfl) (fun _ _ _ h => h) (by as_aux_lemma => kernel_rfl) (fun L u h => h) (Or.inl ⟨by rfl, ?_⟩) hs ?_
      rotate_left
      · intro w hY; go_simp; try with_reducible rfl
      try simp only [putz]
      refine Goes.take (i := 1) (o := ⟨some 9, _, _, _, _, _⟩) (v := ?_) [] rfl (by as_aux_lemma => kernel_rfl) (by as_aux_lemma => kernel_rfl) (by as_aux_lemma => kernel_rfl) (fun _ _ _ h => h) (by as_aux_lemma => kernel_rfl) (fun L u h => h) (Or.inl ⟨by rfl, ?_⟩) hs ?_
      rotate_left
      · intro w hY; go_simp; try with_reducible rfl
      try simp only [putz]
      refine Goes.take (i := 2) (o := ⟨some 10, _, _, _, _, _⟩) (v := ?_) [] rfl (by as_aux_lemma => kernel_rfl) (by as_aux_lemma => kernel_rfl) (by as_aux_lemma => kernel_rfl) (fun _ _ _ h => h) (by as_aux_lemma => kernel_rfl) (fun L u h => h) (Or.inl ⟨by rfl, ?_⟩) hs ?_
      rotate_left
      · intro w hY; go_simp; try with_reducible rfl
      try simp only [putz]
      refine Goes.take (i := 3) (o := ⟨some 11, _, _, _, _, _⟩) (v := ?_) [] rfl (by as_aux_lemma => kernel_rfl) (by as_aux_lemma => kernel_rfl) (by as_aux_lemma => kernel_rfl) (fun _ _ _ h => h) (by as_aux_lemma => kernel_rfl) (fun L u h => h) (Or.inl ⟨by rfl, ?_⟩) hs ?_
      rotate_left
      · intro w hY; go_simp; try with_reducible rfl
      try simp only [putz]
      refine Goes.take (i := 4) (o := ⟨some 12, _, _, _, _, _⟩) (v := ?_) [] rfl (by as_aux_lemma => kernel_rfl) (by as_aux_lemma => kernel_rfl) (by as_aux_lemma => kernel_rfl) (fun _ _ _ h => h) (by as_aux_lemma => kernel_rfl) (fun L u h => h) (Or.inl ⟨by rfl, ?_⟩) hs ?_
      rotate_left
      · intro w hY; go_simp; try with_reducible rfl
      try simp only [putz]
      refine Goes.take (i := 5) (o := ⟨some 13, _, _, _, _, _⟩) (v := ?_) [] rfl (by as_aux_lemma => kernel_rfl) (by as_aux_lemma => kernel_rfl) (by as_aux_lemma => kernel_rfl) (fun _ _ _ h => h) (by as_aux_lemma => kernel_rfl) (fun L u h => h) (Or.inl ⟨by rfl, ?_⟩) hs ?_
      rotate_left
      · intro w hY; go_simp; try with_reducible rfl
      try simp only [putz]
      refine Goes.take (i := 6) (o := ⟨some 14, _, _, _, _, _⟩) (v := ?_) [] rfl (by as_aux_lemma => kernel_rfl) (by as_aux_lemma => kernel_rfl) (by as_aux_lemma => kernel_rfl) (fun _ _ _ h => h) (by as_aux_lemma => kernel_rfl) (fun L u h => h) (Or.inl ⟨by rfl, ?_⟩) hs ?_
      rotate_left
      · intro w hY; obtain ⟨up, hL⟩ := hY; have hX := hL.2; clear hL; (try dsimp only at hX); go_simp; try with_reducible rfl
      try simp only [putz]
      refine Goes.take (i := 7) (o := ⟨some 15, _, _, _, _, _⟩) (v := ?_) [] rfl (by as_aux_lemma => kernel_rfl) (by as_aux_lemma => kernel_rfl) (by as_aux_lemma => kernel_rfl) (fun _ _ _ h => h) (by as_aux_lemma => kernel_rfl) (fun L u h => h) (Or.inl ⟨by rfl, ?_⟩) hs ?_
      rotate_left
      · intro w hY; go_simp; try with_reducible rfl
      try simp only [putz]
      refine Goes.take (i := 8) (o := ⟨some 16, _, _, _, _, _⟩) (v := ?_) [] rfl (by as_aux_lemma => kernel_rfl) (by as_aux_lemma => kernel_rfl) (by as_aux_lemma => kernel_rfl) (fun _ _ _ h => h) (by as_aux_lemma => kernel_rfl) (fun L u h => h) (Or.inl ⟨by rfl, ?_⟩) hs ?_
      rotate_left
      · intro w hY; go_simp; try with_reducible rfl
      try simp only [putz]
      refine Goes.take (i := 9) (o := ⟨some 17, _, _, _, _, _⟩) (v := ?_) [] rfl (by as_aux_lemma => kernel_rfl) (by as_aux_lemma => kernel_rfl) (by as_aux_lemma => kernel_rfl) (fun _ _ _ h => h) (by as_aux_lemma => kernel_rfl) (fun L u h => h) (Or.inl ⟨by rfl, ?_⟩) hs ?_
      rotate_left
      · intro w hY; go_simp; try with_reducible rfl
      try simp only [putz]
      refine Goes.one (i := 10) (o := ⟨some 18, _, _, _, _, _⟩) (by as_aux_lemma => kernel_rfl) rfl (fun K hK => ?_)
      refine step_copy_at rfl (.tmp 16) (.tmp 17) 73 73 rfl 5 Tryd.underlying73 (by kernel_rfl) g (9 + r) m m ⟨gp, o, none⟩ n' c' rfl rfl (rc (eat hh X (N / 64)) b0 N) 118 HRN.out (bvs (res.take tk)) HPL.out HSRC.out HFIT.out (bvs_one _) ?_
      refine hK.out _ _ HCN.out ?_
      clear hK K
      clear hs
      have hs := HCN.out
      try simp only [putz]
      refine Goes.take (i := 11) (o := ⟨some 4, _, _, _, _, _⟩) (v := ?_) [] rfl (by as_aux_lemma => kernel_rfl) (by as_aux_lemma => kernel_rfl) (by as_aux_lemma => kernel_rfl) (fun _ _ _ h => h) (by as_aux_lemma => kernel_rfl) (fun L u h => h) (Or.inl ⟨by rfl, ?_⟩) hs ?_
      rotate_left
      · intro w hY; go_simp; try with_reducible rfl
      try simp only [putz]
      refine Goes.done (by as_aux_lemma => kernel_rfl) ?_ _
      refine NoPanic.normal ?_
      simp only [HPL2.out]
      generalize wr.drew.setRow g (splice (rc (eat hh X (N / 64)) b0 N) (9 + r) (bvs (res.take tk))).toArray = wA at *
      have HSL := hid (slice_rest (some ⟨gp, o, none⟩) n' c' tk (by have := HTK.out; omega))
      have hsl := HSL.out
      obtain ⟨A2, hA2⟩ : ∃ A2, A2 = past (some ⟨gp, o, none⟩) tk c' := ⟨_, rfl⟩
      rw [← hA2] at hsl
      have HA2 := hid hA2
      clear hA2
      have hfr := HRA.out.frozen 73
      have hc73 := HCN.out
      have hpl := hid (show (N + tk : Nat) < 18446744073709551616 by have h1 := HX.out; have h2 := HNX.out; have h3 := HN'.out; have h4 := HTK.out; omega)
      have hw1 : IntKind.u64.wrap ((N : Int) + (tk : Int)) = ((N + tk : Nat) : Int) := by have := hpl.out; rw [IntKind.wrap_u64]; omega
      have hw2 : IntKind.u64.wrap (tk : Int) = (tk : Int) := by have := hpl.out; rw [IntKind.wrap_u64]; omega
      have HGW := hid (p := wr.grownBy wA (some g)) HGX.out
      have hcast : ((N : Int) + (tk : Int)) = ((N + tk : Nat) : Int) := by simp
      have HRB := hid (HRA.out.setCount HL8 HB1.out (N + tk))
      have HGB := hid (grown_cell (i := 73) HGW.out (.int .u64 ((N + tk : Nat) : Int)))
      rw [← hcast] at HRB HGB
      have HCA := hid hcast
      have HFIN := hid (p := ∀ wE : World, wr.grownBy wE (some g) → RunIs wE g (X ++ res.take tk) → ((∃ (n'_1 c'_1 : Nat) (A' : Option Addr) (don' res' : List UInt8), Value.slice A2 (n' - tk) (c' - tk) = Value.slice A' n'_1 c'_1 ∧ Hid (res'.length = n'_1) ∧ Hid (part = don' ++ res') ∧ Hid (Rd wE A' res') ∧ Hid (0 < n'_1 → ∀ ad, A' = some ad → ad.block ≠ g) ∧ Hid (n'_1 ≤ c'_1) ∧ Hid (RunIs wE g (bs ++ don')) ∧ Hid (w.grownBy wE (some g))) ∧ n' - tk < n')) (fun wE h1 h2 => by
        have hn0 : 0 < n' := HN0.out
        have ht := HTK.out
        have hm := HMD.out
        have h64 := HR64.out
        have hn := HN'.out
        have hcc := HC.out
        refine ⟨⟨n' - tk, c' - tk, A2, don ++ res.take tk, res.drop tk, rfl, hid (by rw [List.length_drop, hn]), hid (by rw [List.append_assoc, List.take_append_drop]; exact HP.out), hid ?_, hid ?_, hid (by omega), hid ?_, hid (HG.out.trans h1)⟩, by omega⟩
        · rw [HA2.out]; exact (HRd.out.grown h1 (HA.out hn0)).past tk c' (by omega) (by omega)
        · intro _; rw [HA2.out]; exact past_block _ _ _ _ (HA.out hn0)
        · rw [← List.append_assoc, HXX.out]; exact h2)
      have hp64 : r + (res.take tk).length ≤ 64 := by have := HP2.out; have := HTK.out; have := HMD.out; have := HR64.out; omega
      have HP64 := hid hp64
      clear hp64 hcast hsl
      have hsl := HSL.out
      rw [← HA2.out] at hsl
      by_cases hz : (N + tk) % 64 = 0
      · have hzi : ((N : Int) + (tk : Int)) % 64 = 0 := by omega
        have HZ := hid hz
        clear hz
        have HW2 := hid (p := r + (res.take tk).length = 64) (by have h1 := HP2.out; have h2 := HTK.out; have h3 := HMD.out; have h4 := HR64.out; have h5 := HRD.out; have h6 := HZ.out; have h7 := HP64.out; omega)
        go_upto_region 5 with fail
        generalize wA.setCell ⟨g, 73, none⟩ (.int .u64 ((N : Int) + (tk : Int))) = wB at *
        have HKB := hid ((HK.out.grown HG.out H3.out).grown HGB.out H3.out)
        have HIS := hid (p := ∀ wE : World, Rn wE g (comp (eat hh X (N / 64)) (splice b0 r (res.take tk))) (splice b0 r (res.take tk)) (N + tk) → RunIs wE g (X ++ res.take tk)) (fun wE h => run_whole_is HNX.out HRD.out HB0.out HT0.out HW2.out (by rw [HP2.out]; exact h))
        generalize eat hh X (N / 64) = L1 at *
        generalize splice b0 r (res.take tk) = b1 at *
        have hR : wB.rangeAt g 1 (dv L1) ∧ wB.rangeAt g 9 (bvs b1) := ⟨HRB.out.so, HRB.out.last HL8⟩
        have HI57 := hi57 L1 HL8
        have HI59 := hi59 b1 HB1.out
        rw [dv_size, ← dv_length] at HI57
        rw [bvs_size, ← bvs_length] at HI59
        have HL88 := hid HL8
        refine wp_region_noPanic ?_
        refine Goes.region (fun (L : Array Bool) (wX : World) => (L.getD 12 true = false → wX.rangeAt g 1 (dv L1) ∧ wX.rangeAt g 9 (bvs b1))) (by as_aux_lemma => kernel_rfl) ?_
        refine Goes.take (i := 0) (o := ⟨some 37, _, _, _, _, _⟩) (v := ?_) [] rfl (by as_aux_lemma => kernel_rfl) (by as_aux_lemma => kernel_rfl) (by as_aux_lemma => kernel_rfl) (fun _ _ _ h => h) (by as_aux_lemma => kernel_rfl) (fun L u h e => h (by rw [getD_set_ne true (by decide)]; exact e)) (Or.inl ⟨by rfl, ?_⟩) (fun _ => hR) ?_
        rotate_left
        · intro w hY; go_simp; try with_reducible rfl
        try simp only [putz]
        refine Goes.take (i := 1) (o := ⟨some 38, _, _, _, _, _⟩) (v := ?_) [] rfl (by as_aux_lemma => kernel_rfl) (by as_aux_lemma => kernel_rfl) (by as_aux_lemma => kernel_rfl) (fun _ _ _ h => h) (by as_aux_lemma => kernel_rfl) (fun L u h e => h (by rw [getD_set_ne true (by decide)]; exact e)) (Or.inl ⟨by rfl, ?_⟩) (fun _ => hR) ?_
        rotate_left
        · intro w hY; go_simp; try with_reducible rfl
        try simp only [putz]
        refine Goes.take (i := 2) (o := ⟨some 39, _, _, _, _, _⟩) (v := ?_) [] rfl (by as_aux_lemma => kernel_rfl) (by as_aux_lemma => kernel_rfl) (by as_aux_lemma => kernel_rfl) (fun _ _ _ h => h) (by as_aux_lemma => kernel_rfl) (fun L u h e => h (by rw [getD_set_ne true (by decide)]; exact e)) (Or.inl ⟨by rfl, ?_⟩) (fun _ => hR) ?_
        rotate_left
        · intro w hY; go_simp; try with_reducible rfl
        try simp only [putz]
        refine Goes.take (i := 3) (o := ⟨some 40, _, _, _, _, _⟩) (v := ?_) [] rfl (by as_aux_lemma => kernel_rfl) (by as_aux_lemma => kernel_rfl) (by as_aux_lemma => kernel_rfl) (fun _ _ _ h => h) (by as_aux_lemma => kernel_rfl) (fun L u h e => h (by rw [getD_set_ne true (by decide)]; exact e)) (Or.inl ⟨by rfl, ?_⟩) (fun _ => hR) ?_
        rotate_left
        · intro w hY; go_simp; try with_reducible rfl
        try simp only [putz]
        refine Goes.take (i := 4) (o := ⟨some 41, _, _, _, _, _⟩) [12] rfl (by as_aux_lemma => kernel_rfl) (by as_aux_lemma => kernel_rfl) (by as_aux_lemma => kernel_rfl) (fun _ _ _ h => h) (by as_aux_lemma => kernel_rfl) (fun L u h e => h (by rw [getD_set_ne true (by decide)]; exact e)) (yieldsIf_load_mid (by rfl) 113 (.tmp 40) rfl g 1 rfl (dv L1) _ (fun W hY => by obtain ⟨up, hU, hL⟩ := hY; exact (hL (hU 12 (by simp))).1) Tryd.underlying113 rfl HI57.out) (fun _ => hR) ?_
        try simp only [putz]
        refine Goes.take (i := 5) (o := ⟨some 42, _, _, _, _, _⟩) (v := ?_) [] rfl (by as_aux_lemma => kernel_rfl) (by as_aux_lemma => kernel_rfl) (by as_aux_lemma => kernel_rfl) (fun _ _ _ h => h) (by as_aux_lemma => kernel_rfl) (fun L u h e => h (by rw [getD_set_ne true (by decide)]; exact e)) (Or.inl ⟨by rfl, ?_⟩) (fun _ => hR) ?_
        rotate_left
        · intro w hY; go_simp; try with_reducible rfl
        try simp only [putz]
        refine Goes.take (i := 6) (o := ⟨some 43, _, _, _, _, _⟩) (v := ?_) [] rfl (by as_aux_lemma => kernel_rfl) (by as_aux_lemma => kernel_rfl) (by as_aux_lemma => kernel_rfl) (fun _ _ _ h => h) (by as_aux_lemma => kernel_rfl) (fun L u h e => h (by rw [getD_set_ne true (by decide)]; exact e)) (Or.inl ⟨by rfl, ?_⟩) (fun _ => hR) ?_
        rotate_left
        · intro w hY; go_simp; try with_reducible rfl
        try simp only [putz]
        refine Goes.take (i := 7) (o := ⟨some 44, _, _, _, _, _⟩) (v := ?_) [] rfl (by as_aux_lemma => kernel_rfl) (by as_aux_lemma => kernel_rfl) (by as_aux_lemma => kernel_rfl) (fun _ _ _ h => h) (by as_aux_lemma => kernel_rfl) (fun L u h e => h (by rw [getD_set_ne true (by decide)]; exact e)) (Or.inl ⟨by rfl, ?_⟩) (fun _ => hR) ?_
        rotate_left
        · intro w hY; go_simp; try with_reducible rfl
        try simp only [putz]
        refine Goes.take (i := 8) (o := ⟨some 45, _, _, _, _, _⟩) [12] rfl (by as_aux_lemma => kernel_rfl) (by as_aux_lemma => kernel_rfl) (by as_aux_lemma => kernel_rfl) (fun _ _ _ h => h) (by as_aux_lemma => kernel_rfl) (fun L u h e => h (by rw [getD_set_ne true (by decide)]; exact e)) (yieldsIf_load_mid (by rfl) 116 (.tmp 44) rfl g 9 rfl (bvs b1) _ (fun W hY => by obtain ⟨up, hU, hL⟩ := hY; exact (hL (hU 12 (by simp))).2) Tryd.underlying116 rfl HI59.out) (fun _ => hR) ?_
        try simp only [putz]
        refine Goes.one (i := 9) (o := ⟨some 46, _, _, _, _, _⟩) (by as_aux_lemma => kernel_rfl) rfl (fun K hK => ?_)
        go_simp
        refine (take_any L1 b1 _ HL88.out HS8.out HB1.out HKB.out.drew).mono ?_
        rintro e' w2 ⟨rfl, hb2⟩
        go_wp2_with fail
        have HR2 := hid (p := Rn w2 g L1 b1 (N + tk)) ((hb2.block g HRB.out.lt).trans HRB.out)
        have hR2 : w2.rangeAt g 1 (dv L1) ∧ w2.rangeAt g 9 (bvs b1) := ⟨HR2.out.so, HR2.out.last HL88.out⟩
        have HG2 := hid (p := wr.grownBy w2 (some g)) ((grown_drew HGB.out).trans (grown_of hb2 _))
        refine hK.out _ _ (fun _ => hR2) ?_
        clear hK K hR hb2
        have hR := hR2
        clear hR2
        try simp only [putz]
        refine Goes.take (i := 10) (o := ⟨some 47, _, _, _, _, _⟩) (v := ?_) [] rfl (by as_aux_lemma => kernel_rfl) (by as_aux_lemma => kernel_rfl) (by as_aux_lemma => kernel_rfl) (fun _ _ _ h => h) (by as_aux_lemma => kernel_rfl) (fun L u h e => h (by rw [getD_set_ne true (by decide)]; exact e)) (Or.inl ⟨by rfl, ?_⟩) (fun _ => hR) ?_
        rotate_left
        · intro w hY; go_simp; try with_reducible rfl
        try simp only [putz]
        refine Goes.take (i := 11) (o := ⟨some 48, _, _, _, _, _⟩) (v := ?_) [] rfl (by as_aux_lemma => kernel_rfl) (by as_aux_lemma => kernel_rfl) (by as_aux_lemma => kernel_rfl) (fun _ _ _ h => h) (by as_aux_lemma => kernel_rfl) (fun L u h e => h (by rw [getD_set_ne true (by decide)]; exact e)) (Or.inl ⟨by rfl, ?_⟩) (fun _ => hR) ?_
        rotate_left
        · intro w hY; go_simp; try with_reducible rfl
        try simp only [putz]
        refine Goes.one (i := 12) (o := ⟨none, _, _, _, _, _⟩) (by as_aux_lemma => kernel_rfl) rfl (fun K hK => ?_)
        refine step_store_mid rfl 113 (.tmp 48) (.tmp 46) rfl g 1 (dv (comp L1 b1)).toArray rfl rfl (by rw [dv_size, comp_length _ _ HL88.out]; exact HR2.out.there HL88.out) (hi57 _ (comp_length _ _ HL88.out)).out (dv_all _) ?_
        refine hK.out _ _ (fun e => absurd e (by as_aux_lemma => decide +kernel)) ?_
        clear hK K
        try simp only [putz]
        refine Goes.done (by as_aux_lemma => kernel_rfl) ?_ _
        refine NoPanic.normal ?_
        go_wp2
        exact HFIN.out _ (grown_cells HG2.out _) (HIS.out _ (HR2.out.setSo (HL88.out.trans (comp_length _ _ HL88.out).symm)))
      · have hzi : (((N : Int) + (tk : Int)) % 64 == 0) = false := by simp; omega
        have HIS := hid (run_part_is HNX.out HRD.out HB0.out HT0.out HP64.out (by rw [HP2.out]; exact hz) (by rw [HP2.out]; have := HRB.out; rw [HCA.out] at this; exact this))
        go_wp2
        exact HFIN.out _ HGB.out HIS.out
    · obtain rfl : n' = 0 := by omega
      have HRE : Hid (RunIs wr g (bs ++ part)) := hid (by
        have : res = [] := List.eq_nil_of_length_eq_zero HN'.out
        have h2 := HP.out
        rw [this, List.append_nil] at h2
        rw [h2]; exact HR.out)
      go_wp2
      exact bodyPost_end (v := .tuple #[]) (by simp [results, Tryd.results64, go_sem]) rfl ⟨rfl, HRE.out, HG.out⟩
end Go.Proofs.YtioebjbjpjbodaaDoor
namespace Go.Proofs.YtioebjbjpjbodaaDoor
open Go.RowKit
set_option linter.unusedVariables false

theorem i44 : (Tryd.prog.info? 28).map (·.size) = some 32 := by kernel_rfl
theorem hi44 (b : List UInt8) (h : b.length = 32) : Hid ((Tryd.prog.info? 28).map (·.size) = some (bvs b).toArray.size) := by rw [bvs_size, h]; exact hid i44
theorem Bt.set {w : World} {g : Nat} {t : TypeId} {l : List UInt8} (h : Bt w g t l) (k : Nat) (b : UInt8) : Bt (w.setCell ⟨g, k, none⟩ (.int .u8 ((b.toNat : Nat) : Int))) g t (l.set k b) := by
  unfold Bt at h ⊢; simp [World.setCell, Array.getElem?_modify, h, bvs, List.map_set]
theorem Bt.row {w : World} {g : Nat} {t : TypeId} {l m : List UInt8} (h : Bt w g t l) : Bt (w.setRow g (bvs m).toArray) g t m := setRow_heap w g _ _ t (0, 0) h
/-- what stands while numbers are told as bytes -/
structure Tl (w : World) (l : List Nat) (m : List UInt8) (w' : World) : Prop where
  below : Below w.heap.size w w'
  n : Us w' w.heap.size 113 l
  z : Bt w' (w.heap.size + 1) 28 (List.replicate 32 0)
  m : Bt w' (w.heap.size + 1 + 1) 28 m
theorem Tl.init (w : World) (l : List Nat) : Hid (Tl w l (List.replicate 32 0) (((w.alloc (.cells (dv l).toArray 113)).alloc (.cells #[.int .u8 0, .int .u8 0, .int .u8 0, .int .u8 0, .int .u8 0, .int .u8 0, .int .u8 0, .int .u8 0, .int .u8 0, .int .u8 0, .int .u8 0, .int .u8 0, .int .u8 0, .int .u8 0, .int .u8 0, .int .u8 0, .int .u8 0, .int .u8 0, .int .u8 0, .int .u8 0, .int .u8 0, .int .u8 0, .int .u8 0, .int .u8 0, .int .u8 0, .int .u8 0, .int .u8 0, .int .u8 0, .int .u8 0, .int .u8 0, .int .u8 0, .int .u8 0] 28)).alloc (.cells #[.int .u8 0, .int .u8 0, .int .u8 0, .int .u8 0, .int .u8 0, .int .u8 0, .int .u8 0, .int .u8 0, .int .u8 0, .int .u8 0, .int .u8 0, .int .u8 0, .int .u8 0, .int .u8 0, .int .u8 0, .int .u8 0, .int .u8 0, .int .u8 0, .int .u8 0, .int .u8 0, .int .u8 0, .int .u8 0, .int .u8 0, .int .u8 0, .int .u8 0, .int .u8 0, .int .u8 0, .int .u8 0, .int .u8 0, .int .u8 0, .int .u8 0, .int .u8 0] 28))) := by
  have s1 : ∀ (w : World) (o : Obj), (w.alloc o).heap.size = w.heap.size + 1 := fun w o => Array.size_push _
  refine hid ⟨(((Below.refl _ _).alloc (Nat.le_refl _) _).alloc (by rw [s1]; omega) _).alloc (by rw [s1, s1]; omega) _, Us.alloc (Us.alloc (heap_alloc_new _ _) _) _, Bt.alloc ?_ _, ?_⟩
  · rw [← s1 w (.cells (dv l).toArray 113)]; exact heap_alloc_new _ _
  · rw [← s1 w (.cells (dv l).toArray 113), ← s1 _ (.cells #[.int .u8 0, .int .u8 0, .int .u8 0, .int .u8 0, .int .u8 0, .int .u8 0, .int .u8 0, .int .u8 0, .int .u8 0, .int .u8 0, .int .u8 0, .int .u8 0, .int .u8 0, .int .u8 0, .int .u8 0, .int .u8 0, .int .u8 0, .int .u8 0, .int .u8 0, .int .u8 0, .int .u8 0, .int .u8 0, .int .u8 0, .int .u8 0, .int .u8 0, .int .u8 0, .int .u8 0, .int .u8 0, .int .u8 0, .int .u8 0, .int .u8 0, .int .u8 0] 28)]; exact heap_alloc_new _ _
theorem Tl.set {w w' : World} {l : List Nat} {m : List UInt8} (h : Tl w l m w') (k : Nat) (b : UInt8) : Tl w l (m.set k b) (w'.setCell ⟨w.heap.size + 1 + 1, k, none⟩ (.int .u8 ((b.toNat : Nat) : Int))) :=
  ⟨h.below.setCell (by simp; omega) _, h.n.other _ (by omega), h.z.other _ (by omega), h.m.set k b⟩
/-- the byte at a place -/
def sb (l : List Nat) (j : Nat) : UInt8 := UInt8.ofNat (at' l (j / 4) / 256 ^ (3 - j % 4))
theorem sb_val (l : List Nat) (j r : Nat) (hr : j % 4 = r) : (((sb l j).toNat : Nat) : Int) = ((at' l (j / 4) : Nat) : Int) / ((256 ^ (3 - r) : Nat) : Int) % 256 := by
  unfold sb
  rw [UInt8.toNat_ofNat', hr, show (2 : Nat) ^ 8 = 256 by decide]
  omega
set_option maxRecDepth 100000 in
set_option maxHeartbeats 1000000 in
theorem tell_any' (l : List Nat) (w : World) (hl : l.length = 8) :
    Calls Tryd.prog 78 #[.agg (dv l).toArray] w fun e w' => e = .returned (.agg (bvs (spell l)).toArray) ∧ Below w.heap.size w w' := by
  have HL := hid hl
  clear hl
  go_enter Tryd.func78, Tryd.ntmps78
  go_wp2_with fail
  have HT := Tl.init w l
  generalize ((w.alloc (.cells (dv l).toArray 113)).alloc (.cells #[.int .u8 0, .int .u8 0, .int .u8 0, .int .u8 0, .int .u8 0, .int .u8 0, .int .u8 0, .int .u8 0, .int .u8 0, .int .u8 0, .int .u8 0, .int .u8 0, .int .u8 0, .int .u8 0, .int .u8 0, .int .u8 0, .int .u8 0, .int .u8 0, .int .u8 0, .int .u8 0, .int .u8 0, .int .u8 0, .int .u8 0, .int .u8 0, .int .u8 0, .int .u8 0, .int .u8 0, .int .u8 0, .int .u8 0, .int .u8 0, .int .u8 0, .int .u8 0] 28)).alloc (.cells #[.int .u8 0, .int .u8 0, .int .u8 0, .int .u8 0, .int .u8 0, .int .u8 0, .int .u8 0, .int .u8 0, .int .u8 0, .int .u8 0, .int .u8 0, .int .u8 0, .int .u8 0, .int .u8 0, .int .u8 0, .int .u8 0, .int .u8 0, .int .u8 0, .int .u8 0, .int .u8 0, .int .u8 0, .int .u8 0, .int .u8 0, .int .u8 0, .int .u8 0, .int .u8 0, .int .u8 0, .int .u8 0, .int .u8 0, .int .u8 0, .int .u8 0, .int .u8 0] 28) = w0 at *
  go_loopw [5] (fun i wr => ∃ (k : Nat) (m : List UInt8), k ≤ 32 ∧ i = .int .i64 k ∧ Hid (Tl w l m wr) ∧ Hid (m.length = 32) ∧ Hid (∀ j, j < k → m[j]? = some (sb l j))) (fun i _ => 32 - (intOf i).toNat)
  case atStart => exact ⟨0, List.replicate 32 0, by omega, rfl, HT, hid rfl, hid (fun j hj => absurd hj (Nat.not_lt_zero _))⟩
  case round =>
    clear HT
    obtain ⟨k, m, hk, rfl, HT, HM, HA⟩ := hrel
    by_cases hlt : k < 32
    · obtain ⟨q, hq⟩ : ∃ q : Nat, q = k / 4 := ⟨_, rfl⟩
      have hqi : (k : Int) / 4 = (q : Int) := by omega
      have hq8 : q < 8 := by omega
      have HQ := hid hq
      clear hq
      have hcn := HT.out.n.cell q (by have := HL.out; omega)
      have hcm := HT.out.m.cell k (by have := HM.out; omega)
      have hfm := HT.out.m.frozen k
      generalize (m[k]'(by have := HM.out; omega)).toNat = old at hcm
      rcases (show k % 4 = 0 ∨ k % 4 = 1 ∨ k % 4 = 2 ∨ k % 4 = 3 by omega) with hr | hr | hr | hr
      · have hri : (k : Int) % 4 = 0 := by omega
        have HV := hid (sb_val l k 0 hr)
        rw [← HQ.out] at HV
        have HR := hid hr
        clear hr
        go_wp2
        go_roundw
        case rel =>
          refine ⟨k + 1, m.set k (sb l k), by omega, by go_num, ?_, hid (by rw [List.length_set]; exact HM.out), hid ?_⟩
          · have := HT.out.set k (sb l k)
            rw [HV.out] at this
            simpa using hid this
          · intro j hj
            rw [List.getElem?_set]
            by_cases h : k = j
            · subst h; rw [if_pos rfl, if_pos (by have := HM.out; omega)]
            · rw [if_neg h]; exact HA.out j (by omega)
        case measure => simp [intOf]; omega
      · have hri : (k : Int) % 4 = 1 := by omega
        have HV := hid (sb_val l k 1 hr)
        rw [← HQ.out] at HV
        have HR := hid hr
        clear hr
        go_wp2
        go_roundw
        case rel =>
          refine ⟨k + 1, m.set k (sb l k), by omega, by go_num, ?_, hid (by rw [List.length_set]; exact HM.out), hid ?_⟩
          · have := HT.out.set k (sb l k)
            rw [HV.out] at this
            simpa using hid this
          · intro j hj
            rw [List.getElem?_set]
            by_cases h : k = j
            · subst h; rw [if_pos rfl, if_pos (by have := HM.out; omega)]
            · rw [if_neg h]; exact HA.out j (by omega)
        case measure => simp [intOf]; omega
      · have hri : (k : Int) % 4 = 2 := by omega
        have HV := hid (sb_val l k 2 hr)
        rw [← HQ.out] at HV
        have HR := hid hr
        clear hr
        go_wp2
        go_roundw
        case rel =>
          refine ⟨k + 1, m.set k (sb l k), by omega, by go_num, ?_, hid (by rw [List.length_set]; exact HM.out), hid ?_⟩
          · have := HT.out.set k (sb l k)
            rw [HV.out] at this
            simpa using hid this
          · intro j hj
            rw [List.getElem?_set]
            by_cases h : k = j
            · subst h; rw [if_pos rfl, if_pos (by have := HM.out; omega)]
            · rw [if_neg h]; exact HA.out j (by omega)
        case measure => simp [intOf]; omega
      · have hri : (k : Int) % 4 = 3 := by omega
        have HV := hid (sb_val l k 3 hr)
        rw [← HQ.out] at HV
        have HR := hid hr
        clear hr
        go_wp2
        go_roundw
        case rel =>
          refine ⟨k + 1, m.set k (sb l k), by omega, by go_num, ?_, hid (by rw [List.length_set]; exact HM.out), hid ?_⟩
          · have := HT.out.set k (sb l k)
            rw [HV.out] at this
            simpa using hid this
          · intro j hj
            rw [List.getElem?_set]
            by_cases h : k = j
            · subst h; rw [if_pos rfl, if_pos (by have := HM.out; omega)]
            · rw [if_neg h]; exact HA.out j (by omega)
        case measure => simp [intOf]; omega
    · obtain rfl : k = 32 := by omega
      have hme : m = spell l := by
        apply List.ext_getElem?
        intro j
        rcases Nat.lt_or_ge j 32 with h | h
        · rw [HA.out j h, spell_at l j (by have := HL.out; omega)]; rfl
        · rw [List.getElem?_eq_none (by have := HM.out; omega), List.getElem?_eq_none (by rw [spell_length, HL.out]; exact h)]
      have HT2 : Hid (Tl w l (spell l) wr) := hid (hme ▸ HT.out)
      have HCL := hid (show (spell l).length = 32 by rw [spell_length, HL.out])
      clear HT HM HA hme
      generalize hr : spell l = r at *
      have HRR := hid hr
      clear hr
      have HI := hi44 r HCL.out
      have HO8 : Hid ((bvs (List.replicate 32 0)).toArray.size = (bvs r).toArray.size) := hid (by rw [bvs_size, bvs_size, HCL.out, List.length_replicate])
      have HZ := hid (HT2.out.z.row (m := r))
      have HBW := hid (p := Below w.heap.size w (wr.setRow (w.heap.size + 1) (bvs r).toArray)) (below_setRow HT2.out.below (Nat.le_succ _) _)
      go_upto_region 7 with fail
      have HDA := bvs_all r
      have HZL := HT2.out.m
      have HZZ := HT2.out.z
      unfold Bt at HZL HZZ
      have HZL := hid HZL
      have HZZ := hid HZZ
      go_wp2_with (first | (refine wpList_load_row rfl 28 (.tmp 3) rfl (w.heap.size + 1 + 1) rfl 28 (bvs r).toArray (0, 0) _ HZL.out Tryd.underlying28 rfl HI.out ?_) | (refine wpList_store_row rfl 28 (.tmp 2) (.tmp 21) rfl (w.heap.size + 1) (bvs r).toArray rfl rfl 28 _ HZZ.out HI.out HO8.out HDA ?_))
      exact bodyPost_ret (v := .agg (bvs r).toArray) (results_cell_row (p := 2) (ty := 28) Tryd.results78 _ _ (w.heap.size + 1) 28 (bvs r).toArray (0, 0) _ rfl HZ.out Tryd.underlying28 rfl HI.out) rfl ⟨by rw [HRR.out], HBW.out⟩
set_option maxRecDepth 100000 in
theorem squares_any (w : World) : Calls Tryd.prog 74 #[] w fun e w' => e = .returned (.agg (dv hh).toArray) ∧ Below w.heap.size w w' := by
  go_enter Tryd.func74, Tryd.ntmps74
  go_wp2
  have h : (w.alloc (.cells (dv hh).toArray 113)).heap[w.heap.size]? = some (.cells (dv hh).toArray 113) := heap_alloc_new w (.cells (dv hh).toArray 113)
  exact bodyPost_ret (v := .agg (dv hh).toArray) (results_cell_row (p := 0) (ty := 113) Tryd.results74 _ _ w.heap.size 113 (dv hh).toArray (0, 0) _ rfl h Tryd.underlying113 rfl (hi57 hh rfl).out) rfl ⟨rfl, (Below.refl _ _).alloc (Nat.le_refl _) _⟩
end Go.Proofs.YtioebjbjpjbodaaDoor
namespace Go.Proofs.YtioebjbjpjbodaaDoor
open Go.RowKit
set_option linter.unusedVariables false
set_option linter.unusedSimpArgs false

/-- a digit of 16 -/
def dig (n : Nat) : ByteArray := ⟨#[([48, 49, 50, 51, 52, 53, 54, 55, 56, 57, 97, 98, 99, 100, 101, 102] : List UInt8).getD n 0]⟩
/-- bytes as digits of 16, the first n of them -/
def hexs (b : List UInt8) : Nat → ByteArray
  | 0 => ⟨#[]⟩
  | n + 1 => (hexs b n ++ dig ((b.getD n 0).toNat / 16)) ++ dig ((b.getD n 0).toNat % 16)
end Go.Proofs.YtioebjbjpjbodaaDoor
namespace Go.Proofs.YtioebjbjpjbodaaDoor
open Go.RowKit
set_option linter.unusedVariables false

end Go.Proofs.YtioebjbjpjbodaaDoor
namespace Go.Proofs.YtioebjbjpjbodaaDoor
open Go.RowKit Go.ChangeShapes Go.WideShapes Go.ChangeAt
set_option linter.unusedVariables false

theorem lown : ownKnob Tryd.prog.godebug = none := by kernel_rfl
theorem okWide_array {P : Program} {W : World} {r : Reach} {b0 : Nat} {t e : TypeId} {n : Nat} {v : Value} (ht : P.underlying t = some (.array n e)) (h : Value.okWide P W r b0 t v) : ∃ cs : Array Value, v = .agg cs ∧ cs.size = P.cellsOf t := by
  simp only [Value.okWide, ht] at h
  obtain ⟨cs, h1, h2, _⟩ := h
  exact ⟨cs, h1, h2⟩
theorem lcells_num : Tryd.prog.cellsOf 24 = 4 := by kernel_rfl
theorem lcells_u64 : Tryd.prog.cellsOf 22 = 1 := by kernel_rfl
section
variable {H : Type} {enc : TypeId × Value → H} {W : World} {base : Nat} {spare : Nat → Bool} {held : Bool} {r : Reach} {b0 : Nat} {v : Value} {d : DataW H} {p : List MemPlace}
set_option maxRecDepth 100000 in
theorem lword_at {m : Nat} {cs : List Value} {y : DataW H × List MemPlace} (h : DataW.trod enc Tryd.prog W base spare held m 22 cs = some y) : ∃ n : Nat, cs = [.int .u64 (n : Int)] ∧ n < 18446744073709551616 := by
  obtain ⟨z, rfl, _, hw⟩ := DataW.trod_int Tryd.underlying22 h
  have hb : 0 ≤ z ∧ z ≤ 18446744073709551615 := by simpa [Lit.wf, IntKind.min, IntKind.max, IntKind.signed, IntKind.bits] using hw
  obtain ⟨n, rfl⟩ := Int.eq_ofNat_of_zero_le hb.1
  exact ⟨n, rfl, by omega⟩
set_option maxRecDepth 100000 in
theorem lopen_num (hv : Value.okWide Tryd.prog W r b0 24 v) (h : DataW.Trod enc Tryd.prog W base spare held 24 v d p) : ∃ x : Nat, v = num x ∧ x < 2 ^ 256 := by
  obtain ⟨cs, rfl, hs⟩ := okWide_array Tryd.underlying24 hv
  rw [lcells_num] at hs
  obtain ⟨fuel, hf⟩ := h
  obtain ⟨xs, m, _, _, _, hl, hx⟩ := DataW.trod_array Tryd.underlying24 hf
  obtain ⟨c0, c1, c2, c3, rfl⟩ : ∃ c0 c1 c2 c3, cs = #[c0, c1, c2, c3] := by
    match cs, hs with
    | ⟨[c0, c1, c2, c3]⟩, _ => exact ⟨c0, c1, c2, c3, rfl⟩
  rw [lcells_u64] at hx
  have g0 := hx 0 (by omega)
  have g1 := hx 1 (by omega)
  have g2 := hx 2 (by omega)
  have g3 := hx 3 (by omega)
  rw [List.getElem?_eq_getElem (by omega)] at g0 g1 g2 g3
  obtain ⟨n0, e0, h0⟩ := lword_at g0
  obtain ⟨n1, e1, h1⟩ := lword_at g1
  obtain ⟨n2, e2, h2⟩ := lword_at g2
  obtain ⟨n3, e3, h3⟩ := lword_at g3
  simp [Value.cells] at e0 e1 e2 e3
  subst e0; subst e1; subst e2; subst e3
  exact ⟨v4 n0 n1 n2 n3, num_of h0 h1 h2 h3, v4_lt h0 h1 h2 h3⟩
end
end Go.Proofs.YtioebjbjpjbodaaDoor
namespace Go.Proofs.YtioebjbjpjbodaaDoor
open Go.RowKit Go.ChangeShapes Go.WideShapes Go.ChangeAt
set_option linter.unusedVariables false

theorem okWide_struct {P : Program} {W : World} {r : Reach} {b0 : Nat} {t : TypeId} {fs : Array Field} {v : Value} (ht : P.underlying t = some (.struct fs)) (h : Value.okWide P W r b0 t v) : ∃ cs : Array Value, v = .agg cs ∧ cs.size = P.cellsOf t := by
  simp only [Value.okWide, ht] at h
  obtain ⟨cs, h1, h2, _⟩ := h
  exact ⟨cs, h1, h2⟩
theorem cells_group : Tryd.prog.cellsOf 26 = 12 := by kernel_rfl
section
variable {H : Type} {enc : TypeId × Value → H} {W : World} {base : Nat} {spare : Nat → Bool} {held : Bool} {r : Reach} {b0 : Nat} {v : Value} {d : DataW H} {p : List MemPlace}
theorem num_cells {m : Nat} {c0 c1 c2 c3 : Value} {y : DataW H × List MemPlace} (h : DataW.trod enc Tryd.prog W base spare held m 24 [c0, c1, c2, c3] = some y) : ∃ x : Nat, (c0 = .int .u64 (wd x 0 : Int) ∧ c1 = .int .u64 (wd x 1 : Int) ∧ c2 = .int .u64 (wd x 2 : Int) ∧ c3 = .int .u64 (wd x 3 : Int)) ∧ x < 2 ^ 256 := by
  obtain ⟨z0, z1, z2, z3, k, _, q0, q1, q2, q3⟩ := trod_array4 Tryd.underlying24 lcells_u64 h
  obtain ⟨n0, f0, h0⟩ := lword_at q0
  obtain ⟨n1, f1, h1⟩ := lword_at q1
  obtain ⟨n2, f2, h2⟩ := lword_at q2
  obtain ⟨n3, f3, h3⟩ := lword_at q3
  simp at f0 f1 f2 f3
  obtain ⟨e0, e1, e2, e3⟩ := wd_v4 h0 h1 h2 h3
  refine ⟨v4 n0 n1 n2 n3, ?_, v4_lt h0 h1 h2 h3⟩
  rw [e0, e1, e2, e3]
  exact ⟨f0, f1, f2, f3⟩
set_option maxRecDepth 100000 in
theorem group_cells {m : Nat} {c0 c1 c2 c3 c4 c5 c6 c7 c8 c9 c10 c11 : Value} {y : DataW H × List MemPlace} (h : DataW.trod enc Tryd.prog W base spare held m 26 [c0, c1, c2, c3, c4, c5, c6, c7, c8, c9, c10, c11] = some y) :
    ∃ x y z : Nat, (c0 = .int .u64 (wd x 0 : Int) ∧ c1 = .int .u64 (wd x 1 : Int) ∧ c2 = .int .u64 (wd x 2 : Int) ∧ c3 = .int .u64 (wd x 3 : Int) ∧ c4 = .int .u64 (wd y 0 : Int) ∧ c5 = .int .u64 (wd y 1 : Int) ∧ c6 = .int .u64 (wd y 2 : Int) ∧ c7 = .int .u64 (wd y 3 : Int) ∧ c8 = .int .u64 (wd z 0 : Int) ∧ c9 = .int .u64 (wd z 1 : Int) ∧ c10 = .int .u64 (wd z 2 : Int) ∧ c11 = .int .u64 (wd z 3 : Int)) ∧ x < 2 ^ 256 ∧ y < 2 ^ 256 ∧ z < 2 ^ 256 := by
  obtain ⟨y0, y1, y2, n, _, _, g0, g1, g2⟩ := Go.Deep.trod_struct3 Tryd.underlying26 h
  simp [lcells_num] at g0 g1 g2
  obtain ⟨x, hx, bx⟩ := num_cells g0
  obtain ⟨y, hy, bY⟩ := num_cells g1
  obtain ⟨z, hz, bz⟩ := num_cells g2
  obtain ⟨rfl, rfl, rfl, rfl⟩ := hx
  obtain ⟨rfl, rfl, rfl, rfl⟩ := hy
  obtain ⟨rfl, rfl, rfl, rfl⟩ := hz
  exact ⟨x, y, z, ⟨rfl, rfl, rfl, rfl, rfl, rfl, rfl, rfl, rfl, rfl, rfl, rfl⟩, bx, bY, bz⟩
set_option maxRecDepth 100000 in
theorem open_group (hv : Value.okWide Tryd.prog W r b0 26 v) (h : DataW.Trod enc Tryd.prog W base spare held 26 v d p) : ∃ x y z : Nat, v = .agg #[.int .u64 (wd x 0 : Int), .int .u64 (wd x 1 : Int), .int .u64 (wd x 2 : Int), .int .u64 (wd x 3 : Int), .int .u64 (wd y 0 : Int), .int .u64 (wd y 1 : Int), .int .u64 (wd y 2 : Int), .int .u64 (wd y 3 : Int), .int .u64 (wd z 0 : Int), .int .u64 (wd z 1 : Int), .int .u64 (wd z 2 : Int), .int .u64 (wd z 3 : Int)] ∧ x < 2 ^ 256 ∧ y < 2 ^ 256 ∧ z < 2 ^ 256 := by
  obtain ⟨cs, rfl, hs⟩ := okWide_struct Tryd.underlying26 hv
  rw [cells_group] at hs
  obtain ⟨fuel, hf⟩ := h
  obtain ⟨c0, c1, c2, c3, c4, c5, c6, c7, c8, c9, c10, c11, rfl⟩ : ∃ c0 c1 c2 c3 c4 c5 c6 c7 c8 c9 c10 c11, cs = #[c0, c1, c2, c3, c4, c5, c6, c7, c8, c9, c10, c11] := by
    match cs, hs with
    | ⟨[c0, c1, c2, c3, c4, c5, c6, c7, c8, c9, c10, c11]⟩, _ => exact ⟨c0, c1, c2, c3, c4, c5, c6, c7, c8, c9, c10, c11, rfl⟩
  obtain ⟨x, y, z, hx, bx, bY, bz⟩ := group_cells (by simpa [Value.cells] using hf)
  obtain ⟨rfl, rfl, rfl, rfl, rfl, rfl, rfl, rfl, rfl, rfl, rfl, rfl⟩ := hx
  exact ⟨x, y, z, rfl, bx, bY, bz⟩
end
end Go.Proofs.YtioebjbjpjbodaaDoor
namespace Go.Proofs.YtioebjbjpjbodaaDoor
open Go.RowKit Go.ChangeShapes Go.WideShapes Go.ChangeAt
set_option linter.unusedVariables false
set_option linter.unusedSimpArgs false

theorem cells_sum : Tryd.prog.cellsOf 28 = 32 := by kernel_rfl
theorem cells_u8 : Tryd.prog.cellsOf 5 = 1 := by kernel_rfl
theorem okWide_arr {P : Program} {W : World} {r : Reach} {b0 : Nat} {t e : TypeId} {n : Nat} {v : Value} (ht : P.underlying t = some (.array n e)) (h : Value.okWide P W r b0 t v) : ∃ cs : Array Value, v = .agg cs ∧ cs.size = P.cellsOf t := by
  simp only [Value.okWide, ht] at h
  obtain ⟨cs, h1, h2, _⟩ := h
  exact ⟨cs, h1, h2⟩
theorem bytes_of : ∀ (l : List Value), (∀ i, i < l.length → ∃ b : UInt8, l[i]? = some (.int .u8 ((b.toNat : Nat) : Int))) → ∃ bs : List UInt8, l = bvs bs
  | [], _ => ⟨[], rfl⟩
  | c :: l, h => by
    obtain ⟨b, hb⟩ := h 0 (by simp)
    obtain ⟨bs, hbs⟩ := bytes_of l (fun i hi => by have := h (i + 1) (by simpa using hi); simpa using this)
    refine ⟨b :: bs, ?_⟩
    simp at hb
    simp [bvs, hb]
    simpa [bvs] using hbs
section
variable {H : Type} {enc : TypeId × Value → H} {W : World} {base : Nat} {spare : Nat → Bool} {held : Bool} {r : Reach} {b0 : Nat} {v : Value} {d : DataW H} {p : List MemPlace}
set_option maxRecDepth 100000 in
theorem sum_list {m : Nat} {l : List Value} {y : DataW H × List MemPlace} (h : DataW.trod enc Tryd.prog W base spare held m 28 l = some y) : ∃ bs : List UInt8, l = bvs bs ∧ bs.length = 32 := by
  obtain ⟨xs, m', _, _, hlen, hl, hx⟩ := DataW.trod_array Tryd.underlying28 h
  rw [cells_sum] at hlen
  rw [cells_u8] at hx
  obtain ⟨bs, rfl⟩ := bytes_of l (fun i hi => by
    have g := hx i (by omega)
    rw [List.getElem?_eq_getElem (by omega)] at g
    obtain ⟨z, e, _, hw⟩ := DataW.trod_int Tryd.underlying5 g
    have hb : 0 ≤ z ∧ z ≤ 255 := by simpa [Lit.wf, IntKind.min, IntKind.max, IntKind.signed, IntKind.bits] using hw
    obtain ⟨n, rfl⟩ := Int.eq_ofNat_of_zero_le hb.1
    refine ⟨UInt8.ofNat n, ?_⟩
    have e2 := congrArg (fun x : List Value => x[0]?) e
    have e3 : l[i]? = some (.int .u8 (n : Int)) := by simpa using e2
    rw [e3, UInt8.toNat_ofNat', Nat.mod_eq_of_lt (by omega)])
  exact ⟨bs, rfl, by rw [← bvs_length]; exact hlen⟩
set_option maxRecDepth 100000 in
theorem open_sum (hv : Value.okWide Tryd.prog W r b0 28 v) (h : DataW.Trod enc Tryd.prog W base spare held 28 v d p) : ∃ bs : List UInt8, v = .agg (bvs bs).toArray ∧ bs.length = 32 := by
  obtain ⟨cs, rfl, hs⟩ := okWide_arr Tryd.underlying28 hv
  obtain ⟨fuel, hf⟩ := h
  obtain ⟨bs, hb, hl⟩ := sum_list (l := cs.toList) (by simpa [Value.cells] using hf)
  exact ⟨bs, by rw [← hb], hl⟩
end
end Go.Proofs.YtioebjbjpjbodaaDoor

/-
  Sums by a key, in plain words; boxes of bytes; a copy into a block. Conditions: none.
-/
import Derived.Test.YtbloejlebikecaaGreatDoorCb
import Derived.Laws.BitsAllLaws
namespace Go.Proofs.YtbloejlebikecaaGreatDoor
open Go.RowKit
set_option linter.unusedVariables false
set_option linter.unusedSimpArgs false

theorem xor_u8 (a b : UInt8) : bits .xor .u8 ((a.toNat : Nat) : Int) ((b.toNat : Nat) : Int) = (((a ^^^ b).toNat : Nat) : Int) := by
  rw [u8_xor_nat _ _ a.toNat_lt b.toNat_lt, UInt8.toNat_xor]
/-- the key, or its sum -/
def kin (key : List UInt8) : List UInt8 := if 64 < key.length then sha key else key
theorem kin_le (key : List UInt8) : (kin key).length ≤ 64 := by
  unfold kin; split
  · rw [sha_length]; decide
  · omega
/-- K -/
def kof (key : List UInt8) : List UInt8 := kin key ++ List.replicate (64 - (kin key).length) 0
theorem kof_length (key : List UInt8) : (kof key).length = 64 := by
  have := kin_le key
  simp [kof]; omega
/-- each byte against another one -/
def xr (k : List UInt8) (x : UInt8) : List UInt8 := k.map (· ^^^ x)
theorem xr_length (k : List UInt8) (x : UInt8) : (xr k x).length = k.length := by simp [xr]
/-- the sum by a key -/
def hm (key msg : List UInt8) : List UInt8 := sha (xr (kof key) 92 ++ sha (xr (kof key) 54 ++ msg))
theorem hm_length (key msg : List UInt8) : (hm key msg).length = 32 := sha_length _
/-- parts, one behind the other -/
def cat (xs : Nat → List UInt8) : Nat → List UInt8
  | 0 => []
  | k + 1 => cat xs k ++ xs k
theorem cat_length (xs : Nat → List UInt8) (k : Nat) (h : ∀ r, r < k → (xs r).length ≤ 1048576) : (cat xs k).length ≤ k * 1048576 := by
  induction k with
  | zero => simp [cat]
  | succ k ih =>
    have h1 := ih (fun r hr => h r (by omega))
    have h2 := h k (by omega)
    rw [cat, List.length_append]
    omega
theorem kof_pad (key : List UInt8) (n : Nat) (h : key.length + n ≤ 64) : kof (key ++ List.replicate n 0) = kof key := by
  have e1 : kin (key ++ List.replicate n 0) = key ++ List.replicate n 0 := by unfold kin; rw [if_neg (by simp; omega)]
  have e2 : kin key = key := by unfold kin; rw [if_neg (by omega)]
  unfold kof
  rw [e1, e2, List.append_assoc, List.replicate_append_replicate]
  congr 2
  simp; omega
theorem kof_sum (key : List UInt8) (h : 64 < key.length) : kof (sha key) = kof key := by
  have e1 : kin (sha key) = sha key := by unfold kin; rw [if_neg (by rw [sha_length]; decide)]
  have e2 : kin key = sha key := by unfold kin; rw [if_pos h]
  unfold kof
  rw [e1, e2]
theorem lit64 : (bvs (List.replicate 64 0)).toArray = #[.int .u8 0, .int .u8 0, .int .u8 0, .int .u8 0, .int .u8 0, .int .u8 0, .int .u8 0, .int .u8 0, .int .u8 0, .int .u8 0, .int .u8 0, .int .u8 0, .int .u8 0, .int .u8 0, .int .u8 0, .int .u8 0, .int .u8 0, .int .u8 0, .int .u8 0, .int .u8 0, .int .u8 0, .int .u8 0, .int .u8 0, .int .u8 0, .int .u8 0, .int .u8 0, .int .u8 0, .int .u8 0, .int .u8 0, .int .u8 0, .int .u8 0, .int .u8 0, .int .u8 0, .int .u8 0, .int .u8 0, .int .u8 0, .int .u8 0, .int .u8 0, .int .u8 0, .int .u8 0, .int .u8 0, .int .u8 0, .int .u8 0, .int .u8 0, .int .u8 0, .int .u8 0, .int .u8 0, .int .u8 0, .int .u8 0, .int .u8 0, .int .u8 0, .int .u8 0, .int .u8 0, .int .u8 0, .int .u8 0, .int .u8 0, .int .u8 0, .int .u8 0, .int .u8 0, .int .u8 0, .int .u8 0, .int .u8 0, .int .u8 0, .int .u8 0] := rfl
theorem lit32 : (bvs (List.replicate 32 0)).toArray = #[.int .u8 0, .int .u8 0, .int .u8 0, .int .u8 0, .int .u8 0, .int .u8 0, .int .u8 0, .int .u8 0, .int .u8 0, .int .u8 0, .int .u8 0, .int .u8 0, .int .u8 0, .int .u8 0, .int .u8 0, .int .u8 0, .int .u8 0, .int .u8 0, .int .u8 0, .int .u8 0, .int .u8 0, .int .u8 0, .int .u8 0, .int .u8 0, .int .u8 0, .int .u8 0, .int .u8 0, .int .u8 0, .int .u8 0, .int .u8 0, .int .u8 0, .int .u8 0] := rfl
theorem hi43 (b : List UInt8) (h : b.length = 64) : Hid ((Tryz.prog.info? 65).map (·.size) = some (bvs b).toArray.size) := by rw [bvs_size, h]; exact hid (by kernel_rfl)
theorem hsz (a b : List UInt8) (h : a.length = b.length) : Hid ((bvs a).toArray.size = (bvs b).toArray.size) := hid (by rw [bvs_size, bvs_size, h])
theorem al_size (w : World) (o : Obj) : (w.alloc o).heap.size = w.heap.size + 1 := Array.size_push _
theorem box1 (w : World) (t : TypeId) (a : List UInt8) : Hid (Below w.heap.size w (w.alloc (.cells (bvs a).toArray t))) ∧ Hid (Bt (w.alloc (.cells (bvs a).toArray t)) w.heap.size t a) ∧ Hid ((w.alloc (.cells (bvs a).toArray t)).heap.size = w.heap.size + 1) :=
  ⟨hid ((Below.refl _ _).alloc (Nat.le_refl _) _), hid (heap_alloc_new w _), hid (al_size _ _)⟩
theorem box2 (w : World) (t u : TypeId) (a b : List UInt8) : Hid (Below w.heap.size w ((w.alloc (.cells (bvs a).toArray t)).alloc (.cells (bvs b).toArray u))) ∧ Hid (Bt ((w.alloc (.cells (bvs a).toArray t)).alloc (.cells (bvs b).toArray u)) w.heap.size t a) ∧
    Hid (Bt ((w.alloc (.cells (bvs a).toArray t)).alloc (.cells (bvs b).toArray u)) (w.heap.size + 1) u b) ∧ Hid (((w.alloc (.cells (bvs a).toArray t)).alloc (.cells (bvs b).toArray u)).heap.size = w.heap.size + 2) := by
  obtain ⟨h1, h2, h3⟩ := box1 w t a
  have h4 := heap_alloc_new (w.alloc (.cells (bvs a).toArray t)) (.cells (bvs b).toArray u)
  rw [h3.out] at h4
  exact ⟨hid (h1.out.trans ((Below.refl _ _).alloc (by rw [h3.out]; omega) _)), hid (Bt.alloc h2.out _), hid h4, hid (by rw [al_size, h3.out])⟩
theorem bt_rd {w : World} {g t : Nat} {b : List UInt8} (h : Bt w g t b) : Rd w (some ⟨g, 0, none⟩) b := fun hp =>
  ⟨g, 0, rfl, h.lt, fun j hj => by rw [Nat.zero_add]; exact h.cell j hj⟩
/-- a copy into a block's beginning -/
theorem run_copy_bt (w : World) (g t : Nat) (dst bs : List UInt8) (A : Option Addr) (n c d dc : Nat) (hg : Bt w g t dst) (hr : Rd w A bs) (hn : bs.length = n) (hd : n ≤ d) (hl : d = dst.length) :
    ∃ w', (Builtin.copy_ #[27, 27] 3 #[.slice (some ⟨g, 0, none⟩) d dc, .slice A n c]).run Tryz.prog w = .ok (goInt n) w' ∧ Bt w' g t (bs ++ dst.drop n) ∧ w.grownBy w' (some g) := by
  have hs : (Tryz.prog.info? 5).map (·.size) = some 1 := u8_size
  rcases Nat.eq_zero_or_pos n with h0 | h0
  · subst h0
    have : bs = [] := List.eq_nil_of_length_eq_zero hn
    subst this
    exact ⟨w, run_copy_none w 27 27 3 5 _ _ d dc 0 c Tryz.underlying27 hs (by simp), by simpa using hg, World.grownBy.refl w _⟩
  · obtain ⟨ad, rfl, hc⟩ := hr.cells (by omega)
    have hrun := run_copy_row (P := Tryz.prog) w 27 27 3 5 g 0 d dc ad n c (bvs dst).toArray t (bvs bs) Tryz.underlying27 hs hg (by rw [bvs_length, hn]; exact (Nat.min_eq_left hd).symm) hc (by rw [bvs_length, bvs_size]; omega) (bvs_one bs)
    rw [bvs_length, hn] at hrun
    refine ⟨_, hrun, ?_, ?_⟩
    · have e : ((bvs dst).toArray.toList.take 0 ++ bvs bs ++ (bvs dst).toArray.toList.drop (0 + n)) = bvs (bs ++ dst.drop n) := by rw [bvs_append, bvs_drop]; simp
      rw [e]
      exact Bt.row hg
    · exact ⟨rfl, rfl, rfl, by simp [World.setRow], fun k hk hne => setRow_other w g k _ (fun e => hne (by rw [e]))⟩
/-- the walk's step at a copy whose run is known -/
theorem step_copy {ops : Array Oper} {rest : List Oper} {o : Oper} {a : Act} {w : World} {Q : Exit → Act → World → Prop} (hgd : o.guard = none) (d s : Operand)
    (ho : o.op = .call { callee := .builtin .copy, args := #[d, s], argTypes := #[27, 27] }) (hty : o.type = 3) (vd vs : Value) (hd : a.eval d = vd) (hs : a.eval s = vs) (v' : Value) (w' : World)
    (hrun : (Builtin.copy_ #[27, 27] 3 #[vd, vs]).run Tryz.prog w = .ok v' w') (h : wpList Tryz.prog ops Q rest (a.put o.dst v') w') : wpList Tryz.prog ops Q (o :: rest) a w := by
  refine wpList_plain hgd fun K hK => ?_
  unfold Oper.wp
  simp [execOp, ho, hty, resolve, invoke, builtin, hd, hs, hrun, Result.andThen]
  exact hK _ _ h
end Go.Proofs.YtbloejlebikecaaGreatDoor

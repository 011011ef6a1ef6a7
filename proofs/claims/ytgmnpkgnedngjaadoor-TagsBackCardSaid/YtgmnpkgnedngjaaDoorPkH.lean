/-
  burrowlaw05.alive, walked: it answers true. Condition: the library's table holds what its text lays.
  A run, and boxes of sums, as a law carries them. Conditions: none.
  Sums by a key, in plain words; boxes of bytes; a copy into a block. Conditions: none.
  macs.filled, macs.Of's closure, walked: K of a key; K against a byte. Conditions: the library's table holds what its text lays; 2^46 bytes at most.
  macs.Same, walked: whether both are the same bytes. Condition: 2^47 bytes at most.
-/
import Derived.Test.YtgmnpkgnedngjaaDoorPkF
import Derived.Test.YtgmnpkgnedngjaaDoorPkD
import Derived.Deep.Cut
import Derived.Lib.SlBytesConst
import Derived.Laws.BitsAllLaws
import Derived.BigQuiet
namespace Go.Proofs.YtgmnpkgnedngjaaDoor
open Go.RowKit
set_option linter.unusedVariables false
set_option linter.unusedSimpArgs false

theorem hex_none : hexs (sha []) 32 = { data := #[101, 51, 98, 48, 99, 52, 52, 50, 57, 56, 102, 99, 49, 99, 49, 52, 57, 97, 102, 98, 102, 52, 99, 56, 57, 57, 54, 102, 98, 57, 50, 52, 50, 55, 97, 101, 52, 49, 101, 52, 54, 52, 57, 98, 57, 51, 52, 99, 97, 52, 57, 53, 57, 57, 49, 98, 55, 56, 53, 50, 98, 56, 53, 53] } := by rw [sha_none]; kernel_rfl
theorem hex_abc : hexs (sha [97, 98, 99]) 32 = { data := #[98, 97, 55, 56, 49, 54, 98, 102, 56, 102, 48, 49, 99, 102, 101, 97, 52, 49, 52, 49, 52, 48, 100, 101, 53, 100, 97, 101, 50, 50, 50, 51, 98, 48, 48, 51, 54, 49, 97, 51, 57, 54, 49, 55, 55, 97, 57, 99, 98, 52, 49, 48, 102, 102, 54, 49, 102, 50, 48, 48, 49, 53, 97, 100] } := by rw [sha_abc]; kernel_rfl
/-- a run of these bytes, that was made since; all older things stand -/
structure Al (w : World) (g : Nat) (bs : List UInt8) (w' : World) : Prop where
  run : RunIs w' g bs
  below : Below w.heap.size w w'
  k : Kt w
  new : w.heap.size ≤ g
theorem Al.kt {w w' : World} {g : Nat} {bs : List UInt8} (h : Al w g bs w') : Kt w' := h.k.on h.below
theorem Al.n3 {w w' : World} {g : Nat} {bs : List UInt8} (h : Al w g bs w') : 2 ≠ g := by have := h.k.lt; have := h.new; omega
theorem Al.on {w w' w2 : World} {g : Nat} {bs : List UInt8} (h : Al w g bs w') (hb : Below w'.heap.size w' w2) : Al w g bs w2 := ⟨h.run.heap (hb.block g h.run.lt), h.below.trans (hb.mono h.below.size), h.k, h.new⟩
theorem Al.alloc {w w' : World} {g : Nat} {bs : List UInt8} (h : Al w g bs w') (o : Obj) : Al w g bs (w'.alloc o) := h.on ((Below.refl _ _).alloc (Nat.le_refl _) o)
theorem Al.drew {w w' : World} {g : Nat} {bs : List UInt8} (h : Al w g bs w') : Al w g bs w'.drew := ⟨h.run, h.below.drew, h.k, h.new⟩
theorem Al.put {w w' w2 : World} {g : Nat} {bs bs' : List UInt8} (h : Al w g bs w') (hr : RunIs w2 g bs') (hg : w'.grownBy w2 (some g)) : Al w g bs' w2 := ⟨hr, below_grown h.below hg h.new h.below.size, h.k, h.new⟩
/-- bytes of a constant text, made anew: marked behind their end -/
theorem rd_mark (w : World) (l : List UInt8) (fr : Nat × Nat) : Rd (w.alloc (.cells (bvs l).toArray 5 fr)) (some ⟨w.heap.size, 0, none⟩) l := by
  intro hp
  refine ⟨w.heap.size, 0, rfl, by simp, fun j hj => ?_⟩
  rw [cell_of_row _ _ _ _ 5 fr (heap_alloc_new w _)]
  simp [bvs, hj]
/-- a new block of bytes -/
theorem rd_new (w : World) (l : List UInt8) : Rd (w.alloc (.cells (bvs l).toArray 5)) (some ⟨w.heap.size, 0, none⟩) l := Row.rd0 (heap_alloc_new w _)
theorem new_at (w : World) (hK : Kt w) : Calls Tryd.prog 23 #[] w fun e w' => ∃ g, e = .returned (.pointer (some ⟨g, 0, none⟩)) ∧ Hid (Al w g [] w') := by
  refine (new_any w).mono ?_
  rintro e w1 ⟨⟨g, rfl, hg, hr⟩, hb⟩
  exact ⟨g, rfl, hid ⟨hr, hb, hK, hg⟩⟩
theorem sum_at {w wr : World} {g : Nat} {bs : List UInt8} (H : Hid (Al w g bs wr)) (hl : bs.length ≤ 70368744177664) :
    Calls Tryd.prog 27 #[.pointer (some ⟨g, 0, none⟩)] wr fun e w' => e = .returned (.agg (bvs (sha bs)).toArray) ∧ Hid (Al w g bs w') ∧ Hid (Below wr.heap.size wr w') := by
  refine (sum_any g bs wr H.out.run H.out.kt hl).mono ?_
  rintro e w1 ⟨rfl, hb⟩
  exact ⟨rfl, hid (H.out.on hb), hid hb⟩
end Go.Proofs.YtgmnpkgnedngjaaDoor
namespace Go.Proofs.YtgmnpkgnedngjaaDoor
open Go.RowKit
set_option linter.unusedVariables false
set_option linter.unusedSimpArgs false

/-- a run of these bytes, and boxes that hold these sums -/
def Cb (w : World) (g : Nat) (bs : List UInt8) (l : List (Nat × List UInt8)) (w' : World) : Prop := Al w g bs w' ∧ ∀ p ∈ l, Bt w' p.1 40 p.2 ∧ p.1 ≠ g
theorem Cb.old {w w' : World} {g : Nat} {bs : List UInt8} {l : List (Nat × List UInt8)} (h : Cb w g bs l w') : Below w.heap.size w w' := h.1.below
theorem Cb.on {w w' w2 : World} {g : Nat} {bs : List UInt8} {l : List (Nat × List UInt8)} (h : Cb w g bs l w') (hb : Below w'.heap.size w' w2) : Cb w g bs l w2 := ⟨h.1.on hb, fun p hp => ⟨(h.2 p hp).1.on hb, (h.2 p hp).2⟩⟩
theorem Cb.drew {w w' : World} {g : Nat} {bs : List UInt8} {l : List (Nat × List UInt8)} (h : Cb w g bs l w') : Cb w g bs l w'.drew := ⟨h.1.drew, h.2⟩
theorem Bt.grown {w w' : World} {g b : Nat} {t : TypeId} {l : List UInt8} (h : Bt w b t l) (hg : w.grownBy w' (some g)) (hne : b ≠ g) : Bt w' b t l := (hg.block b h.lt (by intro e; injection e with e; exact hne e)).trans h
theorem Cb.box {w w' : World} {g : Nat} {bs x : List UInt8} {l : List (Nat × List UInt8)} (h : Cb w g bs l w') : Cb w g bs ((w'.heap.size, x) :: l) (w'.alloc (.cells (bvs x).toArray 40)) := by
  have h2 := h.on ((Below.refl w'.heap.size w').alloc (Nat.le_refl _) (.cells (bvs x).toArray 40))
  refine ⟨h2.1, fun p hp => ?_⟩
  rcases List.mem_cons.1 hp with rfl | hp
  · exact ⟨heap_alloc_new _ _, Nat.ne_of_gt h.1.run.lt⟩
  · exact h2.2 p hp
theorem Cb.set {w w' : World} {g : Nat} {bs x : List UInt8} {l : List (Nat × List UInt8)} (h : Cb w g bs l w') : Cb w g bs ((w'.heap.size, x) :: l) ((w'.alloc (.cells #[.int .u8 0, .int .u8 0, .int .u8 0, .int .u8 0, .int .u8 0, .int .u8 0, .int .u8 0, .int .u8 0, .int .u8 0, .int .u8 0, .int .u8 0, .int .u8 0, .int .u8 0, .int .u8 0, .int .u8 0, .int .u8 0, .int .u8 0, .int .u8 0, .int .u8 0, .int .u8 0, .int .u8 0, .int .u8 0, .int .u8 0, .int .u8 0, .int .u8 0, .int .u8 0, .int .u8 0, .int .u8 0, .int .u8 0, .int .u8 0, .int .u8 0, .int .u8 0] 40)).setRow w'.heap.size (bvs x).toArray) := by
  rw [World.setRow_alloc_new]; exact h.box
theorem Cb.setx {w w' : World} {g : Nat} {bs : List UInt8} {l : List (Nat × List UInt8)} (h : Cb w g bs l w') (x : List UInt8) : ∃ w2, (w'.alloc (.cells #[.int .u8 0, .int .u8 0, .int .u8 0, .int .u8 0, .int .u8 0, .int .u8 0, .int .u8 0, .int .u8 0, .int .u8 0, .int .u8 0, .int .u8 0, .int .u8 0, .int .u8 0, .int .u8 0, .int .u8 0, .int .u8 0, .int .u8 0, .int .u8 0, .int .u8 0, .int .u8 0, .int .u8 0, .int .u8 0, .int .u8 0, .int .u8 0, .int .u8 0, .int .u8 0, .int .u8 0, .int .u8 0, .int .u8 0, .int .u8 0, .int .u8 0, .int .u8 0] 40)).setRow w'.heap.size (bvs x).toArray = w2 ∧ Hid (Cb w g bs ((w'.heap.size, x) :: l) w2) := ⟨_, rfl, hid h.set⟩
theorem ho32 (x : List UInt8) (h : x.length = 32) : Hid ((#[.int .u8 0, .int .u8 0, .int .u8 0, .int .u8 0, .int .u8 0, .int .u8 0, .int .u8 0, .int .u8 0, .int .u8 0, .int .u8 0, .int .u8 0, .int .u8 0, .int .u8 0, .int .u8 0, .int .u8 0, .int .u8 0, .int .u8 0, .int .u8 0, .int .u8 0, .int .u8 0, .int .u8 0, .int .u8 0, .int .u8 0, .int .u8 0, .int .u8 0, .int .u8 0, .int .u8 0, .int .u8 0, .int .u8 0, .int .u8 0, .int .u8 0, .int .u8 0] : Array Value).size = (bvs x).toArray.size) := hid (by rw [bvs_size, h]; rfl)
theorem new_cb (w : World) (hK : Kt w) : Calls Tryd.prog 23 #[] w fun e w' => ∃ g, e = .returned (.pointer (some ⟨g, 0, none⟩)) ∧ Hid (Cb w g [] [] w') := by
  refine (new_at w hK).mono ?_
  rintro e w1 ⟨g, rfl, h⟩
  exact ⟨g, rfl, hid ⟨h.out, fun p hp => by cases hp⟩⟩
theorem sum_cb {w wr : World} {g : Nat} {bs : List UInt8} {l : List (Nat × List UInt8)} (H : Hid (Cb w g bs l wr)) (hl : bs.length ≤ 70368744177664) :
    Calls Tryd.prog 27 #[.pointer (some ⟨g, 0, none⟩)] wr fun e w' => e = .returned (.agg (bvs (sha bs)).toArray) ∧ Hid (Cb w g bs l w') := by
  refine (sum_at (hid H.out.1) hl).mono ?_
  rintro e w1 ⟨rfl, h1, h2⟩
  exact ⟨rfl, hid (H.out.on h2.out)⟩
theorem slice_head (A : Option Addr) (n c k : Nat) (hk : k ≤ c) (w : World) : (Instr.slice 37 (.slice A n c) none (some (.int .i64 (k : Int))) none).run Tryd.prog w = .ok (.slice (past A 0 c) k c) w := by
  have h5 : Tryd.prog.elem 37 = 5 := by kernel_rfl
  rw [run_slice_h (P := Tryd.prog) w 37 A n c (by rw [h5]; exact Tryd.underlying37) .i64 (k : Int) (by omega) (by omega)]
  have hs : (sizeOf 5).run Tryd.prog w = .ok 1 w := by kernel_rfl
  rw [h5, hs]
  simp only [Result.andThen, sliced, Int.toNat_natCast, past, Nat.zero_mul, Nat.sub_zero]
/-- an argument's address lies below what is made since -/
theorem par_block {w : World} {A : Option Addr} {bs : List UInt8} {g : Nat} (h : Rd w A bs) (hp : 0 < bs.length) (hg : w.heap.size ≤ g) : ∀ ad, A = some ad → ad.block ≠ g := by
  intro ad e
  obtain ⟨gp, o, h1, h2, _⟩ := h hp
  rw [h1] at e; injection e with e; subst e
  show gp ≠ g
  omega
end Go.Proofs.YtgmnpkgnedngjaaDoor
namespace Go.Proofs.YtgmnpkgnedngjaaDoor
open Go.RowKit
set_option linter.unusedVariables false
set_option linter.unusedSimpArgs false

theorem xor_u8 (a b : UInt8) : bits .xor .u8 ((a.toNat : Nat) : Int) ((b.toNat : Nat) : Int) = (((a ^^^ b).toNat : Nat) : Int) := by
  rw [u8_xor_nat _ _ a.toNat_lt b.toNat_lt, UInt8.toNat_xor]
/-- the key, or its sum -/
def kin (key : List UInt8) : List UInt8 := if 64 < key.length then sha key else key
theorem kin_le (key : List UInt8) : (kin key).length ≤ 64 := by
  unfold kin; split
  · rw [sha_length]; decide
  · omega
/-- K -/
def kof (key : List UInt8) : List UInt8 := kin key ++ List.replicate (64 - (kin key).length) 0
theorem kof_length (key : List UInt8) : (kof key).length = 64 := by
  have := kin_le key
  simp [kof]; omega
/-- each byte against another one -/
def xr (k : List UInt8) (x : UInt8) : List UInt8 := k.map (· ^^^ x)
theorem xr_length (k : List UInt8) (x : UInt8) : (xr k x).length = k.length := by simp [xr]
/-- the sum by a key -/
def hm (key msg : List UInt8) : List UInt8 := sha (xr (kof key) 92 ++ sha (xr (kof key) 54 ++ msg))
theorem hm_length (key msg : List UInt8) : (hm key msg).length = 32 := sha_length _
/-- parts, one behind the other -/
def cat (xs : Nat → List UInt8) : Nat → List UInt8
  | 0 => []
  | k + 1 => cat xs k ++ xs k
theorem cat_length (xs : Nat → List UInt8) (k : Nat) (h : ∀ r, r < k → (xs r).length ≤ 1048576) : (cat xs k).length ≤ k * 1048576 := by
  induction k with
  | zero => simp [cat]
  | succ k ih =>
    have h1 := ih (fun r hr => h r (by omega))
    have h2 := h k (by omega)
    rw [cat, List.length_append]
    omega
theorem kof_pad (key : List UInt8) (n : Nat) (h : key.length + n ≤ 64) : kof (key ++ List.replicate n 0) = kof key := by
  have e1 : kin (key ++ List.replicate n 0) = key ++ List.replicate n 0 := by unfold kin; rw [if_neg (by simp; omega)]
  have e2 : kin key = key := by unfold kin; rw [if_neg (by omega)]
  unfold kof
  rw [e1, e2, List.append_assoc, List.replicate_append_replicate]
  congr 2
  simp; omega
theorem kof_sum (key : List UInt8) (h : 64 < key.length) : kof (sha key) = kof key := by
  have e1 : kin (sha key) = sha key := by unfold kin; rw [if_neg (by rw [sha_length]; decide)]
  have e2 : kin key = sha key := by unfold kin; rw [if_pos h]
  unfold kof
  rw [e1, e2]
theorem lit64 : (bvs (List.replicate 64 0)).toArray = #[.int .u8 0, .int .u8 0, .int .u8 0, .int .u8 0, .int .u8 0, .int .u8 0, .int .u8 0, .int .u8 0, .int .u8 0, .int .u8 0, .int .u8 0, .int .u8 0, .int .u8 0, .int .u8 0, .int .u8 0, .int .u8 0, .int .u8 0, .int .u8 0, .int .u8 0, .int .u8 0, .int .u8 0, .int .u8 0, .int .u8 0, .int .u8 0, .int .u8 0, .int .u8 0, .int .u8 0, .int .u8 0, .int .u8 0, .int .u8 0, .int .u8 0, .int .u8 0, .int .u8 0, .int .u8 0, .int .u8 0, .int .u8 0, .int .u8 0, .int .u8 0, .int .u8 0, .int .u8 0, .int .u8 0, .int .u8 0, .int .u8 0, .int .u8 0, .int .u8 0, .int .u8 0, .int .u8 0, .int .u8 0, .int .u8 0, .int .u8 0, .int .u8 0, .int .u8 0, .int .u8 0, .int .u8 0, .int .u8 0, .int .u8 0, .int .u8 0, .int .u8 0, .int .u8 0, .int .u8 0, .int .u8 0, .int .u8 0, .int .u8 0, .int .u8 0] := rfl
theorem lit32 : (bvs (List.replicate 32 0)).toArray = #[.int .u8 0, .int .u8 0, .int .u8 0, .int .u8 0, .int .u8 0, .int .u8 0, .int .u8 0, .int .u8 0, .int .u8 0, .int .u8 0, .int .u8 0, .int .u8 0, .int .u8 0, .int .u8 0, .int .u8 0, .int .u8 0, .int .u8 0, .int .u8 0, .int .u8 0, .int .u8 0, .int .u8 0, .int .u8 0, .int .u8 0, .int .u8 0, .int .u8 0, .int .u8 0, .int .u8 0, .int .u8 0, .int .u8 0, .int .u8 0, .int .u8 0, .int .u8 0] := rfl
theorem hsz (a b : List UInt8) (h : a.length = b.length) : Hid ((bvs a).toArray.size = (bvs b).toArray.size) := hid (by rw [bvs_size, bvs_size, h])
theorem al_size (w : World) (o : Obj) : (w.alloc o).heap.size = w.heap.size + 1 := Array.size_push _
theorem box1 (w : World) (t : TypeId) (a : List UInt8) : Hid (Below w.heap.size w (w.alloc (.cells (bvs a).toArray t))) ∧ Hid (Bt (w.alloc (.cells (bvs a).toArray t)) w.heap.size t a) ∧ Hid ((w.alloc (.cells (bvs a).toArray t)).heap.size = w.heap.size + 1) :=
  ⟨hid ((Below.refl _ _).alloc (Nat.le_refl _) _), hid (heap_alloc_new w _), hid (al_size _ _)⟩
theorem box2 (w : World) (t u : TypeId) (a b : List UInt8) : Hid (Below w.heap.size w ((w.alloc (.cells (bvs a).toArray t)).alloc (.cells (bvs b).toArray u))) ∧ Hid (Bt ((w.alloc (.cells (bvs a).toArray t)).alloc (.cells (bvs b).toArray u)) w.heap.size t a) ∧
    Hid (Bt ((w.alloc (.cells (bvs a).toArray t)).alloc (.cells (bvs b).toArray u)) (w.heap.size + 1) u b) ∧ Hid (((w.alloc (.cells (bvs a).toArray t)).alloc (.cells (bvs b).toArray u)).heap.size = w.heap.size + 2) := by
  obtain ⟨h1, h2, h3⟩ := box1 w t a
  have h4 := heap_alloc_new (w.alloc (.cells (bvs a).toArray t)) (.cells (bvs b).toArray u)
  rw [h3.out] at h4
  exact ⟨hid (h1.out.trans ((Below.refl _ _).alloc (by rw [h3.out]; omega) _)), hid (Bt.alloc h2.out _), hid h4, hid (by rw [al_size, h3.out])⟩
theorem bt_rd {w : World} {g t : Nat} {b : List UInt8} (h : Bt w g t b) : Rd w (some ⟨g, 0, none⟩) b := fun hp =>
  ⟨g, 0, rfl, h.lt, fun j hj => by rw [Nat.zero_add]; exact h.cell j hj⟩
/-- a copy into a block's beginning -/
theorem run_copy_bt (w : World) (g t : Nat) (dst bs : List UInt8) (A : Option Addr) (n c d dc : Nat) (hg : Bt w g t dst) (hr : Rd w A bs) (hn : bs.length = n) (hd : n ≤ d) (hl : d = dst.length) :
    ∃ w', (Builtin.copy_ #[37, 37] 3 #[.slice (some ⟨g, 0, none⟩) d dc, .slice A n c]).run Tryd.prog w = .ok (goInt n) w' ∧ Bt w' g t (bs ++ dst.drop n) ∧ w.grownBy w' (some g) := by
  have hs : (Tryd.prog.info? 5).map (·.size) = some 1 := u8_size
  rcases Nat.eq_zero_or_pos n with h0 | h0
  · subst h0
    have : bs = [] := List.eq_nil_of_length_eq_zero hn
    subst this
    exact ⟨w, run_copy_none w 37 37 3 5 _ _ d dc 0 c Tryd.underlying37 hs (by simp), by simpa using hg, World.grownBy.refl w _⟩
  · obtain ⟨ad, rfl, hc⟩ := hr.cells (by omega)
    have hrun := run_copy_row (P := Tryd.prog) w 37 37 3 5 g 0 d dc ad n c (bvs dst).toArray t (bvs bs) Tryd.underlying37 hs hg (by rw [bvs_length, hn]; exact (Nat.min_eq_left hd).symm) hc (by rw [bvs_length, bvs_size]; omega) (bvs_one bs)
    rw [bvs_length, hn] at hrun
    refine ⟨_, hrun, ?_, ?_⟩
    · have e : ((bvs dst).toArray.toList.take 0 ++ bvs bs ++ (bvs dst).toArray.toList.drop (0 + n)) = bvs (bs ++ dst.drop n) := by rw [bvs_append, bvs_drop]; simp
      rw [e]
      exact Bt.row hg
    · exact ⟨rfl, rfl, rfl, by simp [World.setRow], fun k hk hne => setRow_other w g k _ (fun e => hne (by rw [e]))⟩
/-- the walk's step at a copy whose run is known -/
theorem step_copy {ops : Array Oper} {rest : List Oper} {o : Oper} {a : Act} {w : World} {Q : Exit → Act → World → Prop} (hgd : o.guard = none) (d s : Operand)
    (ho : o.op = .call { callee := .builtin .copy, args := #[d, s], argTypes := #[37, 37] }) (hty : o.type = 3) (vd vs : Value) (hd : a.eval d = vd) (hs : a.eval s = vs) (v' : Value) (w' : World)
    (hrun : (Builtin.copy_ #[37, 37] 3 #[vd, vs]).run Tryd.prog w = .ok v' w') (h : wpList Tryd.prog ops Q rest (a.put o.dst v') w') : wpList Tryd.prog ops Q (o :: rest) a w := by
  refine wpList_plain hgd fun K hK => ?_
  unfold Oper.wp
  simp [execOp, ho, hty, resolve, invoke, builtin, hd, hs, hrun, Result.andThen]
  exact hK _ _ h
end Go.Proofs.YtgmnpkgnedngjaaDoor
namespace Go.Proofs.YtgmnpkgnedngjaaDoor
open Go.RowKit
set_option linter.unusedVariables false
set_option linter.unusedSimpArgs false

theorem kof_long (key : List UInt8) (h : 64 < key.length) : sha key ++ (List.replicate 64 (0 : UInt8)).drop 32 = kof key := by
  have e : kin key = sha key := by unfold kin; rw [if_pos h]
  unfold kof
  rw [e, sha_length]; rfl
theorem kof_short (key : List UInt8) (h : ¬ 64 < key.length) : key ++ (List.replicate 64 (0 : UInt8)).drop key.length = kof key := by
  have e : kin key = key := by unfold kin; rw [if_neg h]
  unfold kof
  rw [e, List.drop_replicate]
theorem sl32 (g : Nat) (w : World) : (Instr.sliceAt 40 (.pointer (some ⟨g, 0, none⟩)) none none none).run Tryd.prog w = .ok (.slice (some ⟨g, 0, none⟩) 32 32) w := by
  have hl : Tryd.prog.arrayLen 40 = 32 := by kernel_rfl
  have h5 : Tryd.prog.elem 40 = 5 := by kernel_rfl
  rw [run_sliceAt_array_all (P := Tryd.prog) w 40 ⟨g, 0, none⟩ (by rw [hl, h5]; exact Tryd.underlying40)]
  have hs : (sizeOf 5).run Tryd.prog w = .ok 1 w := by kernel_rfl
  rw [h5, hs, hl]
  simp [Result.andThen, slicedAt, Addr.add]
theorem bt_at {w : World} {g t : Nat} {a b : List UInt8} (h : Bt w g t a) (e : a = b) : Bt w g t b := e ▸ h
/-- the first i bytes against another one, the others as they were -/
def mxk (k : List UInt8) (x : UInt8) (i : Nat) : List UInt8 := xr (k.take i) x ++ k.drop i
theorem mxk_length (k : List UInt8) (x : UInt8) (i : Nat) : (mxk k x i).length = k.length := by simp [mxk, xr]; omega
theorem mxk_at (k : List UInt8) (x : UInt8) (i : Nat) (h : i < k.length) : (mxk k x i)[i]'(by rw [mxk_length]; exact h) = k[i] := by
  unfold mxk
  rw [List.getElem_append_right (by simp [xr]; omega)]
  have e : min i k.length = i := by omega
  simp [xr, e]
theorem mxk_set (k : List UInt8) (x : UInt8) (i : Nat) (h : i < k.length) : (mxk k x i).set i (k[i] ^^^ x) = mxk k x (i + 1) := by
  unfold mxk
  have e : (xr (k.take i) x).length = i := by simp [xr]; omega
  rw [List.set_append_right _ _ (by rw [e]; exact Nat.le_refl _), e, Nat.sub_self, List.drop_eq_getElem_cons h, List.set_cons_zero, List.take_succ_eq_append_getElem h]
  simp only [xr, List.map_append, List.map_cons, List.map_nil, List.append_assoc, List.singleton_append]
theorem mxk_all (k : List UInt8) (x : UInt8) (i : Nat) (h : k.length ≤ i) : mxk k x i = xr k x := by
  unfold mxk
  rw [List.take_of_length_le h, List.drop_eq_nil_of_le h, List.append_nil]
theorem ho64 (x : List UInt8) (h : x.length = 64) : Hid ((#[.int .u8 0, .int .u8 0, .int .u8 0, .int .u8 0, .int .u8 0, .int .u8 0, .int .u8 0, .int .u8 0, .int .u8 0, .int .u8 0, .int .u8 0, .int .u8 0, .int .u8 0, .int .u8 0, .int .u8 0, .int .u8 0, .int .u8 0, .int .u8 0, .int .u8 0, .int .u8 0, .int .u8 0, .int .u8 0, .int .u8 0, .int .u8 0, .int .u8 0, .int .u8 0, .int .u8 0, .int .u8 0, .int .u8 0, .int .u8 0, .int .u8 0, .int .u8 0, .int .u8 0, .int .u8 0, .int .u8 0, .int .u8 0, .int .u8 0, .int .u8 0, .int .u8 0, .int .u8 0, .int .u8 0, .int .u8 0, .int .u8 0, .int .u8 0, .int .u8 0, .int .u8 0, .int .u8 0, .int .u8 0, .int .u8 0, .int .u8 0, .int .u8 0, .int .u8 0, .int .u8 0, .int .u8 0, .int .u8 0, .int .u8 0, .int .u8 0, .int .u8 0, .int .u8 0, .int .u8 0, .int .u8 0, .int .u8 0, .int .u8 0, .int .u8 0] : Array Value).size = (bvs x).toArray.size) := hid (by rw [bvs_size, h]; rfl)
end Go.Proofs.YtgmnpkgnedngjaaDoor
namespace Go.Proofs.YtgmnpkgnedngjaaDoor
open Go.RowKit
set_option linter.unusedVariables false
set_option linter.unusedSimpArgs false

theorem wrap_pos (n : Nat) (h : n < 9223372036854775808) : IntKind.i64.wrap (n : Int) = (n : Int) := by rw [IntKind.wrap_i64]; omega
theorem i64_xor_nat (a b : Nat) (ha : a < 9223372036854775808) (hb : b < 9223372036854775808) : bits .xor .i64 (a : Int) (b : Int) = ((a ^^^ b : Nat) : Int) := by
  have hx : a ^^^ b < 2 ^ 63 := Nat.xor_lt_two_pow (by omega) (by omega)
  show IntKind.i64.wrap ((BitVec.ofInt 64 (a : Int) ^^^ BitVec.ofInt 64 (b : Int)).toNat : Int) = _
  rw [BitVec.toNat_xor, ofInt_u64 a (by omega), ofInt_u64 b (by omega)]
  exact wrap_pos _ (by omega)
theorem i64_or_nat (a b : Nat) (ha : a < 9223372036854775808) (hb : b < 9223372036854775808) : bits .or .i64 (a : Int) (b : Int) = ((a ||| b : Nat) : Int) := by
  have hx : a ||| b < 2 ^ 63 := Nat.or_lt_two_pow (by omega) (by omega)
  show IntKind.i64.wrap ((BitVec.ofInt 64 (a : Int) ||| BitVec.ofInt 64 (b : Int)).toNat : Int) = _
  rw [BitVec.toNat_or, ofInt_u64 a (by omega), ofInt_u64 b (by omega)]
  exact wrap_pos _ (by omega)
/-- where two lists part, looked at up to here -/
def ap (a b : List UInt8) : Nat → Nat
  | 0 => a.length ^^^ b.length
  | j + 1 => ap a b j ||| (a.getD j 0 ^^^ b.getD j 0).toNat
theorem ap_lt (a b : List UInt8) (ha : a.length < 9223372036854775808) (hb : b.length < 9223372036854775808) (j : Nat) : ap a b j < 9223372036854775808 := by
  induction j with
  | zero => have : a.length ^^^ b.length < 2 ^ 63 := Nat.xor_lt_two_pow (by omega) (by omega); rw [ap]; omega
  | succ j ih => have : ap a b j ||| (a.getD j 0 ^^^ b.getD j 0).toNat < 2 ^ 63 := Nat.or_lt_two_pow (by omega) (by have := (a.getD j 0 ^^^ b.getD j 0).toNat_lt; omega); rw [ap]; omega
theorem xor_none (a b : Nat) : a ^^^ b = 0 ↔ a = b := by
  constructor
  · intro h
    have : a ^^^ b ^^^ b = 0 ^^^ b := by rw [h]
    rwa [Nat.xor_assoc, Nat.xor_self, Nat.xor_zero, Nat.zero_xor] at this
  · rintro rfl; exact Nat.xor_self a
theorem or_none (a b : Nat) : a ||| b = 0 ↔ a = 0 ∧ b = 0 := by
  constructor
  · intro h
    have h1 : a ≤ a ||| b := Nat.left_le_or
    have h2 : b ≤ a ||| b := Nat.right_le_or
    omega
  · rintro ⟨rfl, rfl⟩; rfl
theorem ap_none (a b : List UInt8) (j : Nat) : ap a b j = 0 ↔ a.length = b.length ∧ ∀ i, i < j → a.getD i 0 = b.getD i 0 := by
  induction j with
  | zero => rw [ap, xor_none]; exact ⟨fun h => ⟨h, fun i hi => absurd hi (Nat.not_lt_zero _)⟩, fun h => h.1⟩
  | succ j ih =>
    have e : (a.getD j 0 ^^^ b.getD j 0).toNat = 0 ↔ a.getD j 0 = b.getD j 0 := by
      rw [UInt8.toNat_xor, xor_none]; exact ⟨fun h => UInt8.toNat.inj h, fun h => by rw [h]⟩
    rw [ap, or_none, ih, e]
    constructor
    · rintro ⟨⟨h1, h2⟩, h3⟩
      refine ⟨h1, fun i hi => ?_⟩
      rcases Nat.lt_or_ge i j with h | h
      · exact h2 i h
      · obtain rfl : i = j := by omega
        exact h3
    · rintro ⟨h1, h2⟩
      exact ⟨⟨h1, fun i hi => h2 i (by omega)⟩, h2 j (by omega)⟩
theorem ap_all (a b : List UInt8) : ap a b (min a.length b.length) = 0 ↔ a = b := by
  rw [ap_none]
  constructor
  · rintro ⟨h1, h2⟩
    apply List.ext_getElem h1
    intro i hi1 hi2
    have := h2 i (by omega)
    rwa [List.getD_eq_getElem?_getD, List.getD_eq_getElem?_getD, List.getElem?_eq_getElem hi1, List.getElem?_eq_getElem hi2] at this
  · rintro rfl; exact ⟨rfl, fun i _ => rfl⟩
theorem Rd.cellD {w : World} {A : Option Addr} {bs : List UInt8} (h : Rd w A bs) (j : Nat) (hj : j < bs.length) : ∃ g o, A = some ⟨g, o, none⟩ ∧ w.cell? ⟨g, o + j, none⟩ = some (.int .u8 (((bs.getD j 0).toNat : Nat) : Int)) := by
  obtain ⟨g, o, h1, _, h2⟩ := h (by omega)
  refine ⟨g, o, h1, ?_⟩
  rw [h2 j hj, List.getD_eq_getElem?_getD, List.getElem?_eq_getElem hj]; rfl
end Go.Proofs.YtgmnpkgnedngjaaDoor

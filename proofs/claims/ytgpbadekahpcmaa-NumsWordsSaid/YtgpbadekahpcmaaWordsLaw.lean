/-
  burrowlaw01.NumsWords, walked: it answers true at every long number and every bytes around. Condition: the slices are within the form's own reach.
-/
import Derived.Test.YtgpbadekahpcmaaAlive
import Derived.Test.YtgpbadekahpcmaaSame
import Derived.Test.YtgpbadekahpcmaaAppend
import Derived.Test.YtgpbadekahpcmaaEqNum
import Derived.Test.YtgpbadekahpcmaaSplit
import Derived.Deep.RegionHeld3
namespace Go.Proofs.Ytgpbadekahpcmaa
open Go.RowKit
set_option linter.unusedVariables false

/-- the two boxes -/
def Bx (w : World) (g : Nat) (x y : Array Value) : Prop := w.heap[g]? = some (.cells x 29 (0, 0)) ∧ w.heap[g + 1]? = some (.cells y 30 (0, 0)) ∧ g + 1 < w.heap.size
theorem Bx.below {w w' : World} {g : Nat} {x y : Array Value} (h : Bx w g x y) (hb : Below w.heap.size w w') : Bx w' g x y :=
  ⟨(hb.block g (by have := h.2.2; omega)).trans h.1, (hb.block (g + 1) h.2.2).trans h.2.1, Nat.lt_of_lt_of_le h.2.2 hb.size⟩
theorem Bx.alloc {w : World} {g : Nat} {x y : Array Value} (h : Bx w g x y) (o : Obj) : Bx (w.alloc o) g x y := h.below ((Below.refl w.heap.size w).alloc (Nat.le_refl _) o)
theorem Bx.num {w : World} {g : Nat} {x y : Array Value} (h : Bx w g x y) (i : Nat) (v : Value) (hv : x[i]? = some v) : w.cell? ⟨g, i, none⟩ = some v := by
  rw [cell_of_row w g i _ 29 (0, 0) h.1, hv]
theorem Bx.sl {w : World} {g : Nat} {x y : Array Value} (h : Bx w g x y) (i : Nat) (v : Value) (hv : y[i]? = some v) : w.cell? ⟨g + 1, i, none⟩ = some v := by
  rw [cell_of_row w (g + 1) i _ 30 (0, 0) h.2.1, hv]

theorem put8 (A : Option Addr) (n c x : Nat) (bs : List UInt8) (w : World) (hl : bs.length = n) (hr : Rd w A bs) (hn : n ≤ 140737488355328) (hx : x < 18446744073709551616) :
    Calls Try.prog 7 #[.slice A n c, .int .u64 (x : Int), .int .i64 8] w fun e w' => e = .returned (.slice (some ⟨w.heap.size, 0, none⟩) (n + 8) (n + 8)) ∧
      Row w' w.heap.size (bs ++ be x 8) ∧ Below w.heap.size w w' := by
  subst hl; exact put_any A c x 8 8 bs w hr hn hx rfl

theorem same_nm (A B : Option Addr) (c d n m : Nat) (bs : List UInt8) (w : World) (hl : bs.length = n) (hm : bs.length = m) (ha : Rd w A bs) (hb : Rd w B bs) (hn : n ≤ 281474976710656) :
    Calls Try.prog 9 #[.slice A n c, .slice B m d] w fun e w' => e = .returned (.bool true) ∧ ∃ k, w' = w.drewN k := by
  subst hl; subst hm; exact same_true A B c d bs w ha hb hn

theorem step_append_r {ops : Array Oper} {o : Oper} {a : Act} {w : World} {K : Act → World → Prop} {Q : Exit → Act → World → Prop} {E : Prop} (hgd : o.guard = none) (s x : Operand)
    (ho : o.op = .call { callee := .builtin .append, args := #[s, x], argTypes := #[23, 23] }) (hty : o.type = 23) (vs vx : Value) (hs : a.eval s = vs) (hx : a.eval x = vx) (v' : Value) (w' : World)
    (hrun : (Builtin.append_ #[23, 23] 23 #[vs, vx]).run Try.prog w = .ok v' w') (h : K (a.put o.dst v') w') :
    if Region.wanted o (yielded ops a.tmps) = true then Oper.wp Try.prog o a w K Q else E := by
  have hw : Region.wanted o (yielded ops a.tmps) = true := by simp [Region.wanted, hgd]
  rw [if_pos hw]
  unfold Oper.wp
  simp [execOp, ho, hty, resolve, invoke, builtin, hs, hx, hrun, Result.andThen]
  exact h

/-- the long number's bytes are its words' -/
theorem be_words (n0 n1 n2 n3 : Nat) (h0 : n0 < 18446744073709551616) (h1 : n1 < 18446744073709551616) (h2 : n2 < 18446744073709551616) (h3 : n3 < 18446744073709551616) :
    be (wnum [n0, n1, n2, n3]) 32 = ((be n3 8 ++ be n2 8) ++ be n1 8) ++ be n0 8 := by
  have p8 : (256 : Nat) ^ 8 = 18446744073709551616 := by decide
  have step : ∀ x r, x < 18446744073709551616 → be (x + 18446744073709551616 * r) 8 = be x 8 := by
    intro x r hx
    rw [← be_mod, ← be_mod x 8, p8]
    congr 1
    omega
  have cut : ∀ x r k, x < 18446744073709551616 → be (x + 18446744073709551616 * r) (k + 8) = be r k ++ be x 8 := by
    intro x r k hx
    rw [be_add, step x r hx, p8]
    congr 2
    omega
  simp only [wnum]
  rw [show (32 : Nat) = 24 + 8 from rfl, cut _ _ _ h0, show (24 : Nat) = 16 + 8 from rfl, cut _ _ _ h1, show (16 : Nat) = 8 + 8 from rfl, cut _ _ _ h2, step _ _ h3]

theorem seg (X Y : List UInt8) (x : Nat) (hx : x < 18446744073709551616) (k : Nat) (hk : X.length = k) : tell (((X ++ (be x 8 ++ Y)).drop k).take 8) = x := by
  subst hk
  rw [List.drop_left]
  have := List.take_left (l₁ := be x 8) (l₂ := Y)
  rw [be_length] at this
  rw [this, tell_be, show (256 : Nat) ^ 8 = 18446744073709551616 from by decide]
  exact Nat.mod_eq_of_lt hx

theorem row_words (n0 n1 n2 n3 : Nat) (ms : List UInt8) (h0 : n0 < 18446744073709551616) (h1 : n1 < 18446744073709551616) (h2 : n2 < 18446744073709551616) (h3 : n3 < 18446744073709551616) :
    word (be (wnum [n0, n1, n2, n3]) 32 ++ ms) 0 = n3 ∧ word (be (wnum [n0, n1, n2, n3]) 32 ++ ms) 1 = n2 ∧ word (be (wnum [n0, n1, n2, n3]) 32 ++ ms) 2 = n1 ∧ word (be (wnum [n0, n1, n2, n3]) 32 ++ ms) 3 = n0 := by
  rw [be_words n0 n1 n2 n3 h0 h1 h2 h3]
  refine ⟨?_, ?_, ?_, ?_⟩
  · have := seg [] (be n2 8 ++ (be n1 8 ++ (be n0 8 ++ ms))) n3 h3 0 rfl
    simpa [word] using this
  · have := seg (be n3 8) (be n1 8 ++ (be n0 8 ++ ms)) n2 h2 8 (be_length _ _)
    simpa [word] using this
  · have := seg (be n3 8 ++ be n2 8) (be n0 8 ++ ms) n1 h1 16 (by simp [be_length])
    simpa [word] using this
  · have := seg ((be n3 8 ++ be n2 8) ++ be n1 8) ms n0 h0 24 (by simp [be_length])
    simpa [word] using this

theorem getLong_at (A : Option Addr) (n c : Nat) (bs : List UInt8) (w : World) (hl : bs.length = n) (hr : Rd w A bs) (hc : n ≤ c) (hc2 : c ≤ 9223372036854775807) (h4 : 32 ≤ n) (hn : n ≤ 140737488355328) (x0 x1 x2 x3 : Nat) (e0 : word bs 0 = x0) (e1 : word bs 1 = x1) (e2 : word bs 2 = x2) (e3 : word bs 3 = x3) :
    Calls Try.prog 12 #[.slice A n c] w fun e w' => e = .returned (.tuple #[.agg #[.int .u64 (x3 : Int), .int .u64 (x2 : Int), .int .u64 (x1 : Int), .int .u64 (x0 : Int)], .int .i64 0]) ∧ Below w.heap.size w w' := by
  subst hl; subst e0; subst e1; subst e2; subst e3; exact getLong_ok A c bs w hr hc hc2 h4

theorem cut_at (w2 : World) (A : Option Addr) (n c k : Nat) (bs : List UInt8) (hl : bs.length = n) (hr : Rd w2 A bs) (hk : k ≤ n) (hc : n ≤ c) :
    ∃ D : Option Addr, (∀ w : World, (Instr.slice 23 (.slice A n c) (some (.int .i64 (k : Int))) none none).run Try.prog w = .ok (.slice D (n - k) (c - k)) w) ∧ Rd w2 D (bs.drop k) := by
  subst hl; exact slice_low w2 A c k bs hr hk hc

set_option maxRecDepth 100000 in
set_option maxHeartbeats 1600000 in
theorem words_any (A B : Option Addr) (c d n0 n1 n2 n3 : Nat) (bs ms : List UInt8) (w : World) (ha : Rd w A bs) (hb : Rd w B ms) (hc : bs.length ≤ c) (hc2 : c ≤ 140737488355328) (hd : ms.length ≤ d) (hd2 : d ≤ 140737488355328) (hBn : B = none → d = 0)
    (h0 : n0 < 18446744073709551616) (h1 : n1 < 18446744073709551616) (h2 : n2 < 18446744073709551616) (h3 : n3 < 18446744073709551616) :
    Calls Try.prog 4 #[.agg #[.int .u64 (n0 : Int), .int .u64 (n1 : Int), .int .u64 (n2 : Int), .int .u64 (n3 : Int)], .agg #[.slice A bs.length c, .slice B ms.length d]] w fun e w' => e = .returned (.bool true) ∧ Below w.heap.size w w' := by
  go_enter Try.func4, Try.ntmps4
  go_wp2_with fail
  have HX := hid (p := Bx ((w.alloc (.cells #[.int .u64 (n0 : Int), .int .u64 (n1 : Int), .int .u64 (n2 : Int), .int .u64 (n3 : Int)] 29)).alloc (.cells #[.slice A bs.length c, .slice B ms.length d] 30)) w.heap.size #[.int .u64 (n0 : Int), .int .u64 (n1 : Int), .int .u64 (n2 : Int), .int .u64 (n3 : Int)] #[.slice A bs.length c, .slice B ms.length d])
    ⟨(Below.heap_alloc _ _ _ (by simp)).trans (heap_alloc_new _ _), by
      have := heap_alloc_new (w.alloc (.cells #[.int .u64 (n0 : Int), .int .u64 (n1 : Int), .int .u64 (n2 : Int), .int .u64 (n3 : Int)] 29)) (.cells #[.slice A bs.length c, .slice B ms.length d] 30)
      simpa using this, by simp⟩
  have HB := hid (((Below.refl w.heap.size w).alloc (Nat.le_refl _) (.cells #[.int .u64 (n0 : Int), .int .u64 (n1 : Int), .int .u64 (n2 : Int), .int .u64 (n3 : Int)] 29)).alloc (by simp) (.cells #[.slice A bs.length c, .slice B ms.length d] 30))
  generalize (w.alloc (.cells #[.int .u64 (n0 : Int), .int .u64 (n1 : Int), .int .u64 (n2 : Int), .int .u64 (n3 : Int)] 29)).alloc (.cells #[.slice A bs.length c, .slice B ms.length d] 30) = w0 at *
  refine (alive_any _).mono ?_
  rintro e w1 ⟨rfl, hb1⟩
  have HX1 := hid (HX.out.below hb1)
  have HB1 := hid (HB.out.trans (hb1.mono HB.out.size))
  clear hb1 HX HB
  have s0 := HX1.out.sl 0 _ rfl
  have s1 := HX1.out.sl 1 _ rfl
  go_wp2_with fail
  clear s0 s1
  have HB2 := hid (HB1.out.alloc HB1.out.size (.cells #[.int .i64 (bs.length : Int), .int .i64 (ms.length : Int)] 3))
  have HX2 := hid (HX1.out.alloc (.cells #[.int .i64 (bs.length : Int), .int .i64 (ms.length : Int)] 3))
  have hc0 : (w1.alloc (.cells #[.int .i64 (bs.length : Int), .int .i64 (ms.length : Int)] 3)).cell? ⟨w1.heap.size, 0, none⟩ = some (.int .i64 (bs.length : Int)) := by
    rw [cell_of_row _ _ _ _ 3 (0, 0) (heap_alloc_new w1 _)]; rfl
  have hc1 : (w1.alloc (.cells #[.int .i64 (bs.length : Int), .int .i64 (ms.length : Int)] 3)).cell? ⟨w1.heap.size, 1, none⟩ = some (.int .i64 (ms.length : Int)) := by
    rw [cell_of_row _ _ _ _ 3 (0, 0) (heap_alloc_new w1 _)]; rfl
  generalize w1.alloc (.cells #[.int .i64 (bs.length : Int), .int .i64 (ms.length : Int)] 3) = w2 at *
  generalize w1.heap.size = g2 at *
  have HA2 := hid (ha.below HB2.out (Nat.le_refl _))
  have HM2 := hid (hb.below HB2.out (Nat.le_refl _))
  clear HB1 HX1 ha hb
  rcases Nat.lt_or_ge 1048576 (bs.length + ms.length) with hs | hs
  · refine (beyond_yes g2 bs.length ms.length w2 hc0 hc1 hs (by omega) (by omega)).mono ?_
    rintro e w' ⟨rfl, rfl⟩
    clear hc0 hc1
    go_wp2_with fail
    refine (alive_any _).mono ?_
    rintro e w3 ⟨rfl, hb3⟩
    have HB3 := hid (HB2.out.trans (hb3.mono HB2.out.size))
    clear hb3
    go_wp2
    go_ret
    exact ⟨rfl, HB3.out⟩
  · refine (beyond_no g2 bs.length ms.length w2 hc0 hc1 hs).mono ?_
    rintro e w' ⟨rfl, rfl⟩
    clear hc0 hc1
    have s0 := HX2.out.sl 0 _ rfl
    have m0 := HX2.out.num 0 _ rfl
    have m1 := HX2.out.num 1 _ rfl
    have m2 := HX2.out.num 2 _ rfl
    have m3 := HX2.out.num 3 _ rfl
    go_wp2_with fail
    refine (putLong_any A c n0 n1 n2 n3 bs w2 HA2.out (by omega) h0 h1 h2 h3).mono ?_
    rintro e w3 ⟨rfl, HR, hb3⟩
    have HL3 := hid HR
    have HX3 := hid (HX2.out.below hb3)
    have HA3 := hid (HA2.out.below hb3 (Nat.le_refl _))
    have HM3 := hid (HM2.out.below hb3 (Nat.le_refl _))
    have HB3 := hid (HB2.out.trans (hb3.mono HB2.out.size))
    clear HR hb3 HX2 HA2 HM2 HB2 s0 m0 m1 m2 m3
    generalize w2.heap.size + 1 = ga at *
    have s0 := HX3.out.sl 0 _ rfl
    have m3 := HX3.out.num 3 _ rfl
    go_wp2
    refine wp_loop_rounds 5 ?_
    rw [rounds_succ]
    go_wp2_with fail
    clear s0 m3
    refine (put_any A c n3 8 8 bs w3 HA3.out (by omega) h3 rfl).mono ?_
    rintro e w4 ⟨rfl, HR, hb4⟩
    have HO4 := hid HR
    have HL4 := hid (HL3.out.below hb4 HL3.out.lt)
    have HX4 := hid (HX3.out.below hb4)
    have HM4 := hid (HM3.out.below hb4 (Nat.le_refl _))
    have HB4 := hid (HB3.out.trans (hb4.mono HB3.out.size))
    clear HR hb4 HL3 HX3 HM3 HB3 HA3
    generalize w3.heap.size = g4 at *
    have m2 := HX4.out.num 2 _ rfl
    go_wp2
    rw [rounds_succ]
    go_wp2_with fail
    clear m2
    refine (put8 _ (bs.length + 8) _ n2 (bs ++ be n3 8) w4 (by simp [be_length]) HO4.out.rd0 (by omega) h2).mono ?_
    rintro e w5 ⟨rfl, HR, hb5⟩
    have HO5 := hid HR
    have HL5 := hid (HL4.out.below hb5 HL4.out.lt)
    have HX5 := hid (HX4.out.below hb5)
    have HM5 := hid (HM4.out.below hb5 (Nat.le_refl _))
    have HB5 := hid (HB4.out.trans (hb5.mono HB4.out.size))
    clear HR hb5 HO4 HL4 HX4 HM4 HB4
    generalize w4.heap.size = g5 at *
    have m1 := HX5.out.num 1 _ rfl
    go_wp2
    rw [rounds_succ]
    go_wp2_with fail
    clear m1
    refine (put8 _ (bs.length + 8 + 8) _ n1 ((bs ++ be n3 8) ++ be n2 8) w5 (by simp [be_length]) HO5.out.rd0 (by omega) h1).mono ?_
    rintro e w6 ⟨rfl, HR, hb6⟩
    have HO6 := hid HR
    have HL6 := hid (HL5.out.below hb6 HL5.out.lt)
    have HX6 := hid (HX5.out.below hb6)
    have HM6 := hid (HM5.out.below hb6 (Nat.le_refl _))
    have HB6 := hid (HB5.out.trans (hb6.mono HB5.out.size))
    clear HR hb6 HO5 HL5 HX5 HM5 HB5
    generalize w5.heap.size = g6 at *
    have m0 := HX6.out.num 0 _ rfl
    go_wp2
    rw [rounds_succ]
    go_wp2_with fail
    clear m0
    refine (put8 _ (bs.length + 8 + 8 + 8) _ n0 (((bs ++ be n3 8) ++ be n2 8) ++ be n1 8) w6 (by simp [be_length]) HO6.out.rd0 (by omega) h0).mono ?_
    rintro e w7 ⟨rfl, HR, hb7⟩
    have HO7 := hid HR
    have HL7 := hid (HL6.out.below hb7 HL6.out.lt)
    have HX7 := hid (HX6.out.below hb7)
    have HM7 := hid (HM6.out.below hb7 (Nat.le_refl _))
    have HB7 := hid (HB6.out.trans (hb7.mono HB6.out.size))
    clear HR hb7 HO6 HL6 HX6 HM6 HB6
    generalize w6.heap.size = g7 at *
    have s0 := HX7.out.sl 0 _ rfl
    have s1 := HX7.out.sl 1 _ rfl
    go_wp2
    rw [rounds_succ]
    go_wp2_with fail
    have HE := hid (p := bs ++ be (wnum [n0, n1, n2, n3]) 32 = (((bs ++ be n3 8) ++ be n2 8) ++ be n1 8) ++ be n0 8) (by rw [be_words n0 n1 n2 n3 h0 h1 h2 h3]; simp)
    rw [← HE.out] at HO7
    refine (same_nm _ _ _ _ (bs.length + 32) _ (bs ++ be (wnum [n0, n1, n2, n3]) 32) w7 (by simp [be_length]) (by simp [be_length]) HL7.out.rd0 HO7.out.rd0 (by omega)).mono ?_
    rintro e w8 ⟨rfl, nq, rfl⟩
    have HL8 := hid (p := Row (w7.drewN nq) ga (bs ++ be (wnum [n0, n1, n2, n3]) 32)) HL7.out
    have HX8 := hid (p := Bx (w7.drewN nq) w.heap.size _ _) HX7.out
    have HM8 := hid (p := Rd (w7.drewN nq) B ms) HM7.out
    have HB8 := hid (p := Below w.heap.size w (w7.drewN nq)) (below_drewN HB7.out nq)
    clear HL7 HX7 HM7 HB7 HO7 HE s0 s1
    generalize w7.drewN nq = w8 at *
    have s0 := HX8.out.sl 0 _ rfl
    have s1 := HX8.out.sl 1 _ rfl
    have hr8 : Rd w8.drew (some ⟨ga, bs.length, none⟩) (be (wnum [n0, n1, n2, n3]) 32) := by
      have h := HL8.out.rd bs.length 32
      have e : ((bs ++ be (wnum [n0, n1, n2, n3]) 32).drop bs.length).take 32 = be (wnum [n0, n1, n2, n3]) 32 := by
        rw [List.drop_left]; exact List.take_of_length_le (by rw [be_length]; omega)
      rw [e] at h
      exact h
    obtain ⟨v1, w9, hrun1, how1, hg1, hat1⟩ := append_bytes w8.drew w8.drew.heap.size (.slice none 0 0) [] (be (wnum [n0, n1, n2, n3]) 32) (some ⟨ga, bs.length, none⟩) 32 32 (Ow.nil _ _) hr8 (be_length _ _) (fun h => by cases h) (by simp) (Nat.le_refl _)
    have hb9 : Below w8.drew.heap.size w8.drew w9 := (Below.refl _ _).grown hg1 (Nat.le_refl _) (by simp [Value.ownBlock])
    have hB1 : ∀ k, v1.ownBlock = some k → w8.drew.heap.size ≤ k := fun k hk => (World.ownsRow.lt how1 k hk).1
    have hm8 : Rd w8.drew B ms := HM8.out
    obtain ⟨v2, w10, hrun2, how2, hg2, hat2⟩ := append_bytes w9 w8.drew.heap.size v1 ([] ++ be (wnum [n0, n1, n2, n3]) 32) ms B ms.length d how1 (hm8.below hb9 (Nat.le_refl _)) rfl hBn (by simp [be_length]; omega) hb9.size
    have hb10 : Below w8.drew.heap.size w8.drew w10 := hb9.grown hg2 hb9.size hB1
    obtain ⟨A6, c6, rfl, hc6, hc6', hr6⟩ := how2.form
    rw [List.nil_append] at hr6 hc6
    have el1 : (be (wnum [n0, n1, n2, n3]) 32 ++ ms).length = 32 + ms.length := by simp [be_length]
    rw [el1] at hc6
    have el2 : ([] ++ be (wnum [n0, n1, n2, n3]) 32 ++ ms).length = 32 + ms.length := by simp [be_length]
    rw [el2] at hrun2
    clear el1 el2
    have hx8 : Bx w8.drew w.heap.size #[.int .u64 (n0 : Int), .int .u64 (n1 : Int), .int .u64 (n2 : Int), .int .u64 (n3 : Int)] #[.slice A bs.length c, .slice B ms.length d] := HX8.out
    have HX9 := hid (hx8.below hb9)
    have HX10 := hid (hx8.below hb10)
    have HB10 := hid (HB8.out.drew.trans (hb10.mono HB8.out.size))
    have HN1 := hid hrun1
    have HN2 := hid hrun2
    have HC6 := hid hc6
    have HD6 := hid hr6
    have hsl := slice_tail ga bs.length 32 (by omega)
    clear hrun1 hrun2 how1 how2 hg1 hg2 hat1 hat2 hb9 hb10 hB1 hm8 hr8 hr6 hc6 hx8 HX8 HB8 HM8 HL8
    go_wp2_with fail
    go_region_held3 (fun w' => w'.cell? ⟨w.heap.size + 1, 0, none⟩ = some (.slice A bs.length c) ∧ w'.cell? ⟨w.heap.size + 1, 1, none⟩ = some (.slice B ms.length d))
      (first | exact ⟨HX9.out.sl 0 _ rfl, HX9.out.sl 1 _ rfl⟩ | exact ⟨HX10.out.sl 0 _ rfl, HX10.out.sl 1 _ rfl⟩ | go_keep)
      (first | (refine step_append_r (by rfl) (.const (.slice none 0 0)) (.tmp 59) (by rfl) (by rfl) _ _ (by rfl) (by rfl) v1 w9 HN1.out ?_) | (refine step_append_r (by rfl) (.tmp 60) (.tmp 62) (by rfl) (by rfl) _ _ (by rfl) (by rfl) _ w10 HN2.out ?_))
    clear hsl s0 s1 HX9 HN1 HN2
    obtain ⟨e0, e1, e2, e3⟩ := row_words n0 n1 n2 n3 ms h0 h1 h2 h3
    have HE0 := hid e0
    have HE1 := hid e1
    have HE2 := hid e2
    have HE3 := hid e3
    clear e0 e1 e2 e3
    have HR := hid (p := (be (wnum [n0, n1, n2, n3]) 32 ++ ms).length = 32 + ms.length) (by simp [be_length])
    go_wp2_with fail
    refine (getLong_at A6 (32 + ms.length) c6 _ w10 HR.out HD6.out HC6.out hc6' (by omega) (by omega) n3 n2 n1 n0 HE0.out HE1.out HE2.out HE3.out).mono ?_
    rintro e w11 ⟨rfl, hb11⟩
    have HX12 := hid ((HX10.out.below hb11).alloc (.cells #[.int .u64 (n0 : Int), .int .u64 (n1 : Int), .int .u64 (n2 : Int), .int .u64 (n3 : Int)] 29))
    have HD12 := hid ((HD6.out.below hb11 (Nat.le_refl _)).alloc (.cells #[.int .u64 (n0 : Int), .int .u64 (n1 : Int), .int .u64 (n2 : Int), .int .u64 (n3 : Int)] 29))
    have HB12 := hid ((HB10.out.trans (hb11.mono HB10.out.size)).alloc (HB10.out.trans (hb11.mono HB10.out.size)).size (.cells #[.int .u64 (n0 : Int), .int .u64 (n1 : Int), .int .u64 (n2 : Int), .int .u64 (n3 : Int)] 29))
    have HM12 := hid (heap_alloc_new w11 (.cells #[.int .u64 (n0 : Int), .int .u64 (n1 : Int), .int .u64 (n2 : Int), .int .u64 (n3 : Int)] 29))
    clear hb11 HX10 HD6 HB10
    go_wp2
    generalize w11.alloc (.cells #[.int .u64 (n0 : Int), .int .u64 (n1 : Int), .int .u64 (n2 : Int), .int .u64 (n3 : Int)] 29) = w12 at *
    generalize w11.heap.size = gm at *
    obtain ⟨D0, sl0, r0⟩ := cut_at w12 A6 (32 + ms.length) c6 0 _ HR.out HD12.out (by omega) HC6.out
    obtain ⟨D1, sl1, r1⟩ := cut_at w12 A6 (32 + ms.length) c6 8 _ HR.out HD12.out (by omega) HC6.out
    obtain ⟨D2, sl2, r2⟩ := cut_at w12 A6 (32 + ms.length) c6 16 _ HR.out HD12.out (by omega) HC6.out
    obtain ⟨D3, sl3, r3⟩ := cut_at w12 A6 (32 + ms.length) c6 24 _ HR.out HD12.out (by omega) HC6.out
    have R0 := hid r0
    have R1 := hid r1
    have R2 := hid r2
    have R3 := hid r3
    clear r0 r1 r2 r3 HD12
    have q0 : ∀ w : World, (Instr.slice 23 (.slice A6 (32 + ms.length) c6) (some (.int .i64 0)) none none).run Try.prog w = .ok (.slice D0 (32 + ms.length - 0) (c6 - 0)) w := sl0
    have q1 : ∀ w : World, (Instr.slice 23 (.slice A6 (32 + ms.length) c6) (some (.int .i64 8)) none none).run Try.prog w = .ok (.slice D1 (32 + ms.length - 8) (c6 - 8)) w := sl1
    have q2 : ∀ w : World, (Instr.slice 23 (.slice A6 (32 + ms.length) c6) (some (.int .i64 16)) none none).run Try.prog w = .ok (.slice D2 (32 + ms.length - 16) (c6 - 16)) w := sl2
    have q3 : ∀ w : World, (Instr.slice 23 (.slice A6 (32 + ms.length) c6) (some (.int .i64 24)) none none).run Try.prog w = .ok (.slice D3 (32 + ms.length - 24) (c6 - 24)) w := sl3
    clear sl0 sl1 sl2 sl3
    have m0 := HX12.out.num 0 _ rfl
    have m1 := HX12.out.num 1 _ rfl
    have m2 := HX12.out.num 2 _ rfl
    have m3 := HX12.out.num 3 _ rfl
    refine wp_loop_rounds 5 ?_
    rw [rounds_succ]
    go_wp2_with fail
    have HC := HC6.out
    refine (get_at D0 _ _ 8 n3 8 _ w12 (by have := HR.out; rw [List.length_drop]; omega) rfl HE0.out R0.out (by omega) (by omega) (by omega) (by omega)).mono ?_
    rintro e w' ⟨rfl, rfl⟩
    go_wp2
    rw [rounds_succ]
    go_wp2_with fail
    refine (get_at D1 _ _ 8 n2 8 _ w12 (by have := HR.out; rw [List.length_drop]; omega) rfl HE1.out R1.out (by omega) (by omega) (by omega) (by omega)).mono ?_
    rintro e w' ⟨rfl, rfl⟩
    go_wp2
    rw [rounds_succ]
    go_wp2_with fail
    refine (get_at D2 _ _ 8 n1 8 _ w12 (by have := HR.out; rw [List.length_drop]; omega) rfl HE2.out R2.out (by omega) (by omega) (by omega) (by omega)).mono ?_
    rintro e w' ⟨rfl, rfl⟩
    go_wp2
    rw [rounds_succ]
    go_wp2_with fail
    refine (get_at D3 _ _ 8 n0 8 _ w12 (by have := HR.out; rw [List.length_drop]; omega) rfl HE3.out R3.out (by omega) (by omega) (by omega) (by omega)).mono ?_
    rintro e w' ⟨rfl, rfl⟩
    go_wp2
    rw [rounds_succ]
    have k0 : w12.cell? ⟨gm, 0, none⟩ = some (.int .u64 (n0 : Int)) := by rw [cell_of_row _ _ _ _ 29 (0, 0) HM12.out]; rfl
    have k1 : w12.cell? ⟨gm, 1, none⟩ = some (.int .u64 (n1 : Int)) := by rw [cell_of_row _ _ _ _ 29 (0, 0) HM12.out]; rfl
    have k2 : w12.cell? ⟨gm, 2, none⟩ = some (.int .u64 (n2 : Int)) := by rw [cell_of_row _ _ _ _ 29 (0, 0) HM12.out]; rfl
    have k3 : w12.cell? ⟨gm, 3, none⟩ = some (.int .u64 (n3 : Int)) := by rw [cell_of_row _ _ _ _ 29 (0, 0) HM12.out]; rfl
    have heq := eq_num (n0 : Int) (n1 : Int) (n2 : Int) (n3 : Int) (n0 : Int) (n1 : Int) (n2 : Int) (n3 : Int) w12
    simp only [beq_self_eq_true, Bool.and_self] at heq
    clear q0 q1 q2 q3
    go_wp2
    go_ret
    exact ⟨rfl, HB12.out⟩
end Go.Proofs.Ytgpbadekahpcmaa

/-
  burrowlaw05.alive, walked: it answers true. Condition: the library's table holds what its text lays.
-/
import Derived.Test.YtikmhnlhaolbfaaDoorSum
import Derived.Test.YtikmhnlhaolbfaaDoorText
import Derived.Test.YtikmhnlhaolbfaaDoorEqSum
import Derived.Deep.Cut
import Derived.Lib.SlBytesConst
namespace Go.Proofs.YtikmhnlhaolbfaaDoor
open Go.RowKit
set_option linter.unusedVariables false
set_option linter.unusedSimpArgs false

theorem hex_none : hexs (sha []) 32 = { data := #[101, 51, 98, 48, 99, 52, 52, 50, 57, 56, 102, 99, 49, 99, 49, 52, 57, 97, 102, 98, 102, 52, 99, 56, 57, 57, 54, 102, 98, 57, 50, 52, 50, 55, 97, 101, 52, 49, 101, 52, 54, 52, 57, 98, 57, 51, 52, 99, 97, 52, 57, 53, 57, 57, 49, 98, 55, 56, 53, 50, 98, 56, 53, 53] } := by rw [sha_none]; kernel_rfl
theorem hex_abc : hexs (sha [97, 98, 99]) 32 = { data := #[98, 97, 55, 56, 49, 54, 98, 102, 56, 102, 48, 49, 99, 102, 101, 97, 52, 49, 52, 49, 52, 48, 100, 101, 53, 100, 97, 101, 50, 50, 50, 51, 98, 48, 48, 51, 54, 49, 97, 51, 57, 54, 49, 55, 55, 97, 57, 99, 98, 52, 49, 48, 102, 102, 54, 49, 102, 50, 48, 48, 49, 53, 97, 100] } := by rw [sha_abc]; kernel_rfl
/-- a run of these bytes, that was made since; all older things stand -/
structure Al (w : World) (g : Nat) (bs : List UInt8) (w' : World) : Prop where
  run : RunIs w' g bs
  below : Below w.heap.size w w'
  k : Kt w
  new : w.heap.size ≤ g
theorem Al.kt {w w' : World} {g : Nat} {bs : List UInt8} (h : Al w g bs w') : Kt w' := h.k.on h.below
theorem Al.n3 {w w' : World} {g : Nat} {bs : List UInt8} (h : Al w g bs w') : 3 ≠ g := by have := h.k.lt; have := h.new; omega
theorem Al.on {w w' w2 : World} {g : Nat} {bs : List UInt8} (h : Al w g bs w') (hb : Below w'.heap.size w' w2) : Al w g bs w2 := ⟨h.run.heap (hb.block g h.run.lt), h.below.trans (hb.mono h.below.size), h.k, h.new⟩
theorem Al.alloc {w w' : World} {g : Nat} {bs : List UInt8} (h : Al w g bs w') (o : Obj) : Al w g bs (w'.alloc o) := h.on ((Below.refl _ _).alloc (Nat.le_refl _) o)
theorem Al.drew {w w' : World} {g : Nat} {bs : List UInt8} (h : Al w g bs w') : Al w g bs w'.drew := ⟨h.run, h.below.drew, h.k, h.new⟩
theorem Al.put {w w' w2 : World} {g : Nat} {bs bs' : List UInt8} (h : Al w g bs w') (hr : RunIs w2 g bs') (hg : w'.grownBy w2 (some g)) : Al w g bs' w2 := ⟨hr, below_grown h.below hg h.new h.below.size, h.k, h.new⟩
/-- bytes of a constant text, made anew: marked behind their end -/
theorem rd_mark (w : World) (l : List UInt8) (fr : Nat × Nat) : Rd (w.alloc (.cells (bvs l).toArray 5 fr)) (some ⟨w.heap.size, 0, none⟩) l := by
  intro hp
  refine ⟨w.heap.size, 0, rfl, by simp, fun j hj => ?_⟩
  rw [cell_of_row _ _ _ _ 5 fr (heap_alloc_new w _)]
  simp [bvs, hj]
/-- a new block of bytes -/
theorem rd_new (w : World) (l : List UInt8) : Rd (w.alloc (.cells (bvs l).toArray 5)) (some ⟨w.heap.size, 0, none⟩) l := Row.rd0 (heap_alloc_new w _)
theorem new_at (w : World) (hK : Kt w) : Calls Tryd.prog 38 #[] w fun e w' => ∃ g, e = .returned (.pointer (some ⟨g, 0, none⟩)) ∧ Hid (Al w g [] w') := by
  refine (new_any w).mono ?_
  rintro e w1 ⟨⟨g, rfl, hg, hr⟩, hb⟩
  exact ⟨g, rfl, hid ⟨hr, hb, hK, hg⟩⟩
theorem write_at {w wr : World} {g : Nat} {bs : List UInt8} (H : Hid (Al w g bs wr)) (A : Option Addr) (c n : Nat) (part : List UInt8) (hn : part.length = n) (hr : Rd wr A part) (hA : 0 < n → ∀ ad, A = some ad → ad.block ≠ g) (hc : n ≤ c) (hlen : bs.length + n ≤ 140737488355328) :
    Calls Tryd.prog 39 #[.pointer (some ⟨g, 0, none⟩), .slice A n c] wr fun e w' => e = .returned (.int .i64 0) ∧ Hid (Al w g (bs ++ part) w') ∧ Hid (wr.grownBy w' (some g)) := by
  refine (write_any g A c bs part wr n hn H.out.run hr hA hc H.out.kt H.out.n3 hlen).mono ?_
  rintro e w1 ⟨rfl, hr1, hg1⟩
  exact ⟨rfl, hid (H.out.put hr1 hg1), hid hg1⟩
theorem sum_at {w wr : World} {g : Nat} {bs : List UInt8} (H : Hid (Al w g bs wr)) (hl : bs.length ≤ 70368744177664) :
    Calls Tryd.prog 40 #[.pointer (some ⟨g, 0, none⟩)] wr fun e w' => e = .returned (.agg (bvs (sha bs)).toArray) ∧ Hid (Al w g bs w') ∧ Hid (Below wr.heap.size wr w') := by
  refine (sum_any g bs wr H.out.run H.out.kt hl).mono ?_
  rintro e w1 ⟨rfl, hb⟩
  exact ⟨rfl, hid (H.out.on hb), hid hb⟩
theorem of_at {w wr : World} {g : Nat} {bs : List UInt8} (H : Hid (Al w g bs wr)) (A : Option Addr) (c n : Nat) (part : List UInt8) (hn : part.length = n) (hr : Rd wr A part) (hc : n ≤ c) (hl : n ≤ 70368744177664) :
    Calls Tryd.prog 33 #[.slice A n c] wr fun e w' => e = .returned (.agg (bvs (sha part)).toArray) ∧ Hid (Al w g bs w') ∧ Hid (Below wr.heap.size wr w') := by
  refine (of_any A c part wr n hn hr hc H.out.kt hl).mono ?_
  rintro e w1 ⟨rfl, hb⟩
  exact ⟨rfl, hid (H.out.on hb), hid hb⟩
theorem text_at {w wr : World} {g : Nat} {bs : List UInt8} (H : Hid (Al w g bs wr)) (part : List UInt8) (hl : part.length = 32) :
    Calls Tryd.prog 92 #[.agg (bvs part).toArray] wr fun e w' => e = .returned (.string (hexs part 32)) ∧ Hid (Al w g bs w') := by
  refine (text_any part wr hl).mono ?_
  rintro e w1 ⟨rfl, hb⟩
  exact ⟨rfl, hid (H.out.on hb)⟩
set_option maxRecDepth 100000 in
set_option maxHeartbeats 2000000 in
theorem alive_any (w : World) (hK : Kt w) : Calls Tryd.prog 48 #[] w fun e w' => e = .returned (.bool true) ∧ Below w.heap.size w w' := by
  go_enter Tryd.func48, Tryd.ntmps48
  go_wp2_with fail
  refine (new_at w hK).mono ?_
  rintro e w1 ⟨g, rfl, H1⟩
  have hc := Lib.run_convert_bytes_const (P := Tryd.prog) w1 41 5 #[.int .u8 97] 1 1 Tryd.underlying41 Tryd.underlying5
  have hcv : (convert 41 41 (.slice (some ⟨w1.heap.size, 0, none⟩) 1 1)).run Tryd.prog (w1.alloc (.cells #[.int .u8 97] 5)) = .ok (.slice (some ⟨w1.heap.size, 0, none⟩) 1 1) (w1.alloc (.cells #[.int .u8 97] 5 (1, 2))) := hc
  clear hc
  go_wp2_with fail
  clear hcv
  have H2 := hid (H1.out.alloc (.cells (bvs [97]).toArray 5 (1, 2)))
  have R2 := hid (rd_mark w1 [97] (1, 2))
  have hne : w1.heap.size ≠ g := Nat.ne_of_gt H1.out.run.lt
  have e1 : (bvs [97]).toArray = #[.int .u8 97] := rfl
  rw [e1] at H2 R2
  generalize w1.alloc (.cells #[.int .u8 97] 5 (1, 2)) = w2 at *
  refine (write_at H2 (some ⟨w1.heap.size, 0, none⟩) 1 1 [97] rfl R2.out (fun _ ad e => by injection e with e; subst e; exact hne) (Nat.le_refl _) (by decide)).mono ?_
  rintro e w3 ⟨rfl, H3, -⟩
  clear hne R2 H2 H1
  have hc := Lib.run_convert_bytes_const (P := Tryd.prog) w3 41 5 #[.int .u8 98, .int .u8 99] 2 2 Tryd.underlying41 Tryd.underlying5
  have hcv : (convert 41 41 (.slice (some ⟨w3.heap.size, 0, none⟩) 2 2)).run Tryd.prog (w3.alloc (.cells #[.int .u8 98, .int .u8 99] 5)) = .ok (.slice (some ⟨w3.heap.size, 0, none⟩) 2 2) (w3.alloc (.cells #[.int .u8 98, .int .u8 99] 5 (2, 3))) := hc
  clear hc
  go_wp2_with fail
  clear hcv
  have H4 := hid (H3.out.alloc (.cells (bvs [98, 99]).toArray 5 (2, 3)))
  have R4 := hid (rd_mark w3 [98, 99] (2, 3))
  have hne : w3.heap.size ≠ g := Nat.ne_of_gt H3.out.run.lt
  have e2 : (bvs [98, 99]).toArray = #[.int .u8 98, .int .u8 99] := rfl
  rw [e2] at H4 R4
  generalize w3.alloc (.cells #[.int .u8 98, .int .u8 99] 5 (2, 3)) = w4 at *
  refine (write_at H4 (some ⟨w3.heap.size, 0, none⟩) 2 2 [98, 99] rfl R4.out (fun _ ad e => by injection e with e; subst e; exact hne) (Nat.le_refl _) (by decide)).mono ?_
  rintro e w5 ⟨rfl, H5, -⟩
  have H5 := hid (p := Al w g [97, 98, 99] w5) H5.out
  clear hne R4 H4 H3
  go_wp2_with fail
  refine (of_at H5 none 0 0 [] rfl (Rd.nil _ _) (Nat.le_refl _) (by decide)).mono ?_
  rintro e w6 ⟨rfl, H6, -⟩
  clear H5
  go_wp2_with fail
  refine (text_at H6 (sha []) (sha_length _)).mono ?_
  rintro e w7 ⟨rfl, H7⟩
  clear H6
  rw [hex_none]
  have hc := Lib.run_convert_bytes_const (P := Tryd.prog) w7 41 5 #[.int .u8 97, .int .u8 98, .int .u8 99] 3 3 Tryd.underlying41 Tryd.underlying5
  have hcv : (convert 41 41 (.slice (some ⟨w7.heap.size, 0, none⟩) 3 3)).run Tryd.prog (w7.alloc (.cells #[.int .u8 97, .int .u8 98, .int .u8 99] 5)) = .ok (.slice (some ⟨w7.heap.size, 0, none⟩) 3 3) (w7.alloc (.cells #[.int .u8 97, .int .u8 98, .int .u8 99] 5 (3, 4))) := hc
  clear hc
  go_wp2_with fail
  clear hcv
  have H8 := hid (H7.out.alloc (.cells (bvs [97, 98, 99]).toArray 5 (3, 4)))
  have R8 := hid (rd_mark w7 [97, 98, 99] (3, 4))
  have e3 : (bvs [97, 98, 99]).toArray = #[.int .u8 97, .int .u8 98, .int .u8 99] := rfl
  rw [e3] at H8 R8
  clear H7
  generalize w7.alloc (.cells #[.int .u8 97, .int .u8 98, .int .u8 99] 5 (3, 4)) = w8 at *
  generalize w7.heap.size = s7 at *
  refine (of_at H8 (some ⟨s7, 0, none⟩) 3 3 [97, 98, 99] rfl R8.out (Nat.le_refl _) (by decide)).mono ?_
  rintro e w9 ⟨rfl, H9, -⟩
  clear H8 R8
  go_wp2_with fail
  refine (text_at H9 (sha [97, 98, 99]) (sha_length _)).mono ?_
  rintro e w10 ⟨rfl, H10⟩
  clear H9
  rw [hex_abc]
  go_wp2_with fail
  refine (sum_at H10 (by decide)).mono ?_
  rintro e w11 ⟨rfl, H11, -⟩
  clear H10
  have hc := Lib.run_convert_bytes_const (P := Tryd.prog) w11 41 5 #[.int .u8 97, .int .u8 98, .int .u8 99] 3 3 Tryd.underlying41 Tryd.underlying5
  have hcv : (convert 41 41 (.slice (some ⟨w11.heap.size, 0, none⟩) 3 3)).run Tryd.prog (w11.alloc (.cells #[.int .u8 97, .int .u8 98, .int .u8 99] 5)) = .ok (.slice (some ⟨w11.heap.size, 0, none⟩) 3 3) (w11.alloc (.cells #[.int .u8 97, .int .u8 98, .int .u8 99] 5 (3, 4))) := hc
  clear hc
  go_wp2_with fail
  clear hcv
  have H12 := hid (H11.out.alloc (.cells (bvs [97, 98, 99]).toArray 5 (3, 4)))
  have R12 := hid (rd_mark w11 [97, 98, 99] (3, 4))
  rw [e3] at H12 R12
  clear H11
  generalize w11.alloc (.cells #[.int .u8 97, .int .u8 98, .int .u8 99] 5 (3, 4)) = w12 at *
  generalize w11.heap.size = s11 at *
  refine (of_at H12 (some ⟨s11, 0, none⟩) 3 3 [97, 98, 99] rfl R12.out (Nat.le_refl _) (by decide)).mono ?_
  rintro e w13 ⟨rfl, H13, -⟩
  clear H12 R12
  have heq := fun W : World => eq_sum (sha [97, 98, 99]) (sha [97, 98, 99]) (sha_length _) (sha_length _) W
  simp only [decide_true] at heq
  go_wp2
  go_ret
  exact ⟨rfl, H13.out.below⟩
end Go.Proofs.YtikmhnlhaolbfaaDoor

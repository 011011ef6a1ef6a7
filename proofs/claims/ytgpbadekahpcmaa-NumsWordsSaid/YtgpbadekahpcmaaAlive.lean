/-
  burrowlaw01.alive, walked: the chapter's examples come out as they stand there. Conditions: none.
-/
import Derived.Test.YtgpbadekahpcmaaPutBytes
import Derived.Test.YtgpbadekahpcmaaGetBytes
import Derived.Test.YtgpbadekahpcmaaGetLong
namespace Go.Proofs.Ytgpbadekahpcmaa
open Go.RowKit
set_option linter.unusedVariables false

theorem be5 : be (wnum [5, 0, 0, 0]) 32 = List.replicate 31 0 ++ [5] := by decide +kernel

theorem Row.new (w : World) (bs : List UInt8) : Row (w.alloc (.cells (bvs bs).toArray 5)) w.heap.size bs := heap_alloc_new w _

theorem str_row (w : World) (g : Nat) (bs : List UInt8) (n c : Nat) (hn : bs.length = n) (h : Row w g bs) :
    (convert 23 9 (.slice (some ⟨g, 0, none⟩) n c)).run Try.prog w = .ok (.string ⟨bs.toArray⟩) w := by
  subst hn
  rw [run_convert_bytes_string w 23 9 5 _ _ _ Try.underlying23 Try.underlying5 Try.underlying9]
  have hl := run_loadCells_list (P := Try.prog) w ⟨g, 0, none⟩ (bvs bs) (fun j v hv => by
    have hj : j < bs.length := by
      rcases Nat.lt_or_ge j bs.length with h | h
      · exact h
      · rw [List.getElem?_eq_none (by rw [bvs_length]; exact h)] at hv; cases hv
    rw [add_plain, Nat.zero_add, h.cell j hj]
    simp [bvs, hj] at hv
    rw [hv])
  rw [bvs_length] at hl
  have e : bvs bs = (bs.map fun b => ((b.toNat : Nat) : Int)).map (Value.int .u8) := by simp [bvs]
  rw [e] at hl
  rw [run_bytesToString w ⟨g, 0, none⟩ bs.length c _ hl]
  congr 2
  suffices hh : ∀ (l : List UInt8) (s : ByteArray), (l.map fun b => ((b.toNat : Nat) : Int)).foldl (fun r n => r.push (UInt8.ofNat n.toNat)) s = ⟨s.data ++ l.toArray⟩ by
    rw [hh]; simp
  intro l
  induction l with
  | nil => intro s; simp
  | cons b r ih =>
    intro s
    rw [List.map_cons, List.foldl_cons, ih]
    simp [ByteArray.push]

theorem five_words : word (List.replicate 31 0 ++ [5]) 3 = 5 ∧ word (List.replicate 31 0 ++ [5]) 2 = 0 ∧ word (List.replicate 31 0 ++ [5]) 1 = 0 ∧ word (List.replicate 31 0 ++ [5]) 0 = 0 := by decide +kernel

theorem getLong_five (g : Nat) (w : World) (h : Row w g ([9] ++ (List.replicate 31 0 ++ [5]))) :
    Calls Try.prog 12 #[.slice (some ⟨g, 1, none⟩) 32 32] w fun e w' => e = .returned (.tuple #[.agg #[.int .u64 5, .int .u64 0, .int .u64 0, .int .u64 0], .int .i64 0]) ∧ Below w.heap.size w w' := by
  have hr := h.rd 1 32
  have e : ((([9] ++ (List.replicate 31 0 ++ [5]) : List UInt8).drop 1).take 32) = List.replicate 31 (0 : UInt8) ++ [5] := by decide +kernel
  rw [e] at hr
  have hg := getLong_ok _ 32 _ w hr (by simp) (by omega) (by simp)
  obtain ⟨e3, e2, e1, e0⟩ := five_words
  rw [e3, e2, e1, e0] at hg
  exact hg

/-- a block of four words -/
def Num4 (w : World) (g : Nat) : Prop := w.heap[g]? = some (.cells #[.int .u64 5, .int .u64 0, .int .u64 0, .int .u64 0] 29 (0, 0))

theorem eq_five (w : World) : (Op.equalIn 10000 29 (.agg #[.int .u64 5, .int .u64 0, .int .u64 0, .int .u64 0]) (.agg #[.int .u64 5, .int .u64 0, .int .u64 0, .int .u64 0])).run Try.prog w = .ok true w := by kernel_rfl

def St (w : World) (gn : Nat) (wk : World) : Prop := Below w.heap.size w wk ∧ Num4 wk gn ∧ gn < wk.heap.size
theorem St.alloc {w wk : World} {gn : Nat} (h : St w gn wk) (o : Obj) : St w gn (wk.alloc o) :=
  ⟨h.1.alloc h.1.size o, (Below.heap_alloc wk o gn h.2.2).trans h.2.1, by have := h.2.2; simp; omega⟩
theorem St.below {w wk w' : World} {gn : Nat} (h : St w gn wk) (hb : Below wk.heap.size wk w') : St w gn w' :=
  ⟨h.1.trans (hb.mono h.1.size), (hb.block gn h.2.2).trans h.2.1, Nat.lt_of_lt_of_le h.2.2 hb.size⟩
theorem St.cell {w wk : World} {gn : Nat} (h : St w gn wk) (i : Nat) (v : Value) (hv : (#[Value.int .u64 5, .int .u64 0, .int .u64 0, .int .u64 0] : Array Value)[i]? = some v) : wk.cell? ⟨gn, i, none⟩ = some v := by
  rw [cell_of_row wk gn i _ 29 (0, 0) h.2.1, hv]

set_option maxRecDepth 100000 in
set_option maxHeartbeats 1600000 in
theorem alive_any (w : World) : Calls Try.prog 8 #[] w fun e w' => e = .returned (.bool true) ∧ Below w.heap.size w w' := by
  go_enter Try.func8, Try.ntmps8
  go_wp2_with fail
  have HN := hid (Row.new w [9])
  have HB := hid ((Below.refl w.heap.size w).alloc (Nat.le_refl _) (.cells (bvs [9]).toArray 5))
  change Calls _ _ _ (w.alloc (.cells (bvs [9]).toArray 5)) _
  have HZ := hid (p := w.heap.size < (w.alloc (.cells (bvs [9]).toArray 5)).heap.size) (by simp)
  generalize w.alloc (.cells (bvs [9]).toArray 5) = w0 at *
  refine (putLong_any _ 1 5 0 0 0 [9] w0 HN.out.rd0 (by simp) (by omega) (by omega) (by omega) (by omega)).mono ?_
  rintro e w1 ⟨rfl, HR, hb⟩
  rw [be5] at HR
  have HR1 := hid HR
  have HB1 := hid (HB.out.trans (hb.mono (Nat.le_of_lt HZ.out)))
  clear HR hb HB HN
  go_wp2_with fail
  refine (getLong_five _ w1 HR1.out).mono ?_
  rintro e w2 ⟨rfl, hb⟩
  have HR2 := hid (HR1.out.below hb HR1.out.lt)
  have HB2 := hid (HB1.out.trans (hb.mono HB1.out.size))
  clear HR1 HB1 hb
  go_wp2_with fail
  have HS := hid (p := St w w2.heap.size (w2.alloc (.cells #[.int .u64 5, .int .u64 0, .int .u64 0, .int .u64 0] 29))) ⟨HB2.out.alloc HB2.out.size _, heap_alloc_new _ _, by simp⟩
  clear HR2 HB2 HZ
  generalize w2.alloc (.cells #[.int .u64 5, .int .u64 0, .int .u64 0, .int .u64 0] 29) = w3 at *
  generalize w2.heap.size = gn at *
  refine (getLong_short _ 31 31 w3 (by omega)).mono ?_
  rintro e w4 ⟨rfl, hb⟩
  have HS4 := hid (HS.out.below hb)
  clear HS hb
  go_wp2_with fail
  have HS5 := hid (HS4.out.alloc (.cells #[.int .u64 0, .int .u64 0, .int .u64 0, .int .u64 0] 29))
  clear HS4
  have HZ5 := hid (p := (w4.alloc (.cells #[.int .u64 0, .int .u64 0, .int .u64 0, .int .u64 0] 29)).heap.size = w4.heap.size + 1) (by simp)
  generalize w4.alloc (.cells #[.int .u64 0, .int .u64 0, .int .u64 0, .int .u64 0] 29) = w5 at *
  generalize w4.heap.size = g5 at *
  have HN6 := hid (p := Row (w5.alloc (.cells (bvs [1, 2, 7]).toArray 5)) (g5 + 1) [1, 2, 7]) (by rw [← HZ5.out]; exact Row.new w5 [1, 2, 7])
  have HS6 := hid (HS5.out.alloc (.cells (bvs [1, 2, 7]).toArray 5))
  clear HS5
  change Calls _ _ _ (w5.alloc (.cells (bvs [1, 2, 7]).toArray 5)) _
  generalize w5.alloc (.cells (bvs [1, 2, 7]).toArray 5) = w6 at *
  refine (get_ok _ 3 2 [1, 2, 7] w6 HN6.out.rd0 (by simp) (by omega) (by omega) (by simp)).mono ?_
  rintro e w' ⟨rfl, rfl⟩
  have HT := hid (p := tell (List.take 2 [1, 2, 7]) = 258) (by decide +kernel)
  rw [HT.out]
  clear HN6 HZ5
  go_wp2_with fail
  have HS7 := hid (HS6.out.alloc (.cells #[.int .u8 1] 5))
  clear HS6
  generalize w6.alloc (.cells #[.int .u8 1] 5) = w7 at *
  generalize w6.heap.size = g7 at *
  refine (get_short _ 1 1 2 w7 (by omega) (by omega) (by omega)).mono ?_
  rintro e w' ⟨rfl, rfl⟩
  go_wp2_with fail
  have HS8 := hid (HS7.out.alloc (.cells #[.int .u8 1] 5))
  clear HS7
  generalize w7.alloc (.cells #[.int .u8 1] 5) = w8 at *
  generalize w7.heap.size = g8 at *
  refine (get_arg _ 1 1 9 w8 (by omega)).mono ?_
  rintro e w' ⟨rfl, rfl⟩
  go_wp2_with fail
  have HN9 := hid (Row.new w8 [0, 0, 0, 2, 7, 8, 9])
  have HS9 := hid (HS8.out.alloc (.cells (bvs [0, 0, 0, 2, 7, 8, 9]).toArray 5))
  clear HS8
  change Calls _ _ _ (w8.alloc (.cells (bvs [0, 0, 0, 2, 7, 8, 9]).toArray 5)) _
  generalize w8.alloc (.cells (bvs [0, 0, 0, 2, 7, 8, 9]).toArray 5) = w9 at *
  generalize w8.heap.size = g9 at *
  have HT9 := hid (p := tell (List.take 4 [0, 0, 0, 2, 7, 8, 9]) = 2) (by decide +kernel)
  refine (getBytes_ok _ 7 [0, 0, 0, 2, 7, 8, 9] w9 HN9.out.rd0 (by simp) (by omega) (by simp) (by rw [HT9.out]; simp) (by simp)).mono ?_
  rw [HT9.out]
  rintro e w10 ⟨rfl, HR, hb⟩
  have HR10 := hid (p := Row w10 w9.heap.size [7, 8]) HR
  have HS10 := hid (HS9.out.below hb)
  clear HR hb HS9 HN9 HT9
  generalize w9.heap.size = gl at *
  go_wp2_with fail
  have HN11 := hid (Row.new w10 [0, 0, 0, 2, 7])
  have HS11 := hid (HS10.out.alloc (.cells (bvs [0, 0, 0, 2, 7]).toArray 5))
  have HR11 := hid (HR10.out.alloc (.cells (bvs [0, 0, 0, 2, 7]).toArray 5))
  clear HS10 HR10
  change Calls _ _ _ (w10.alloc (.cells (bvs [0, 0, 0, 2, 7]).toArray 5)) _
  generalize w10.alloc (.cells (bvs [0, 0, 0, 2, 7]).toArray 5) = w11 at *
  generalize w10.heap.size = g11 at *
  have HT11 := hid (p := tell (List.take 4 [0, 0, 0, 2, 7]) = 2) (by decide +kernel)
  refine (getBytes_short _ 5 [0, 0, 0, 2, 7] w11 HN11.out.rd0 (by simp) (by omega) (by simp) (by rw [HT11.out]; simp) (by simp)).mono ?_
  rintro e w' ⟨rfl, rfl⟩
  clear HN11 HT11
  have c0 := HS11.out.cell 0 _ rfl
  have c1 := HS11.out.cell 1 _ rfl
  have c2 := HS11.out.cell 2 _ rfl
  have c3 := HS11.out.cell 3 _ rfl
  have hstr := str_row w11 gl [7, 8] 2 2 rfl HR11.out
  have heq := eq_five w11
  go_wp2_with fail
  clear c0 c1 c2 c3 hstr heq HR11
  have HN12 := hid (Row.new w11 [9])
  have HS12 := hid (HS11.out.alloc (.cells (bvs [9]).toArray 5))
  clear HS11
  change Calls _ _ _ (w11.alloc (.cells (bvs [9]).toArray 5)) _
  generalize w11.alloc (.cells (bvs [9]).toArray 5) = w12 at *
  generalize w11.heap.size = g12 at *
  refine (put_any _ 1 258 2 2 [9] w12 HN12.out.rd0 (by simp) (by omega) rfl).mono ?_
  rintro e w13 ⟨rfl, HR, hb⟩
  have HE := hid (p := ([9] : List UInt8) ++ be 258 2 = [9, 1, 2]) (by decide +kernel)
  rw [HE.out] at HR
  have HS13 := hid (HS12.out.below hb)
  have hstr := str_row w13 w12.heap.size [9, 1, 2] 3 3 rfl HR
  clear HR hb HS12 HN12
  generalize w12.heap.size = g13 at *
  go_wp2_with fail
  clear hstr
  have HN14 := hid (Row.new w13 [1])
  have HS14 := hid (HS13.out.alloc (.cells (bvs [1]).toArray 5))
  clear HS13
  change Calls _ _ _ ((w13.alloc (.cells (bvs [1]).toArray 5)).alloc (.cells (bvs [7, 7]).toArray 5)) _
  have HZ14 := hid (p := (w13.alloc (.cells (bvs [1]).toArray 5)).heap.size = w13.heap.size + 1) (by simp)
  generalize w13.alloc (.cells (bvs [1]).toArray 5) = w14 at *
  generalize w13.heap.size = g14 at *
  have HN15 := hid (p := Row (w14.alloc (.cells (bvs [7, 7]).toArray 5)) (g14 + 1) [7, 7]) (by rw [← HZ14.out]; exact Row.new w14 [7, 7])
  have HM15 := hid (HN14.out.alloc (.cells (bvs [7, 7]).toArray 5))
  have HS15 := hid (HS14.out.alloc (.cells (bvs [7, 7]).toArray 5))
  clear HS14 HN14 HZ14
  generalize w14.alloc (.cells (bvs [7, 7]).toArray 5) = w15 at *
  refine (putBytes_any _ _ 1 2 [1] [7, 7] w15 HM15.out.rd0 HN15.out.rd0 (by simp) (by simp)).mono ?_
  rintro e w16 ⟨rfl, HR, hb⟩
  have HF := hid (p := ([1] : List UInt8) ++ (be ([7, 7] : List UInt8).length 4 ++ [7, 7]) = [1, 0, 0, 0, 2, 7, 7]) (by decide +kernel)
  rw [HF.out] at HR
  have HS16 := hid (HS15.out.below hb)
  have hstr := str_row w16 w15.heap.size [1, 0, 0, 0, 2, 7, 7] 7 7 rfl HR
  clear HR hb HS15 HN15 HM15
  generalize w15.heap.size = g16 at *
  go_wp2
  go_ret
  exact ⟨rfl, HS16.out.1⟩
end Go.Proofs.Ytgpbadekahpcmaa

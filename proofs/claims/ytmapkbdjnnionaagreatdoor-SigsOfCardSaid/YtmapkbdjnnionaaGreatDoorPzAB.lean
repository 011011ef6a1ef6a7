import Derived.Test.YtmapkbdjnnionaaGreatDoorRows
import Derived.Test.YtmapkbdjnnionaaGreatDoorPzAA
import Derived.WalkKit
import Derived.Laws.CopyOwn
set_option maxRecDepth 100000
set_option maxHeartbeats 8000000
set_option linter.all false
namespace Go.Proofs.YtmapkbdjnnionaaGreatDoor
section
open Go.RowKit
theorem hid {p:Prop} (h:p):Hid p:=h
def Rd (w:World) (A:Option Addr) (bs:List UInt8):Prop :=
 0<bs.length→∃ g o,A=some ⟨g,o,none⟩∧g<w.heap.size∧∀ j,(h:j<bs.length)→w.cell? ⟨g,o+j,none⟩=some (.int .u8 ((bs[j].toNat:Nat):Int))
def au (bs:List UInt8):List Value:=bs.map fun b=>.int .u8 ((b.toNat:Nat):Int)
theorem aX (bs:List UInt8):(au bs).length=bs.length:=by simp [au]
theorem bvs_append (a b:List UInt8):au (a ++ b)=au a ++ au b:=by simp [au]
theorem bvs_take (a:List UInt8) (n:Nat):au (a.take n)=(au a).take n:=by simp [au,List.map_take]
theorem bvs_drop (a:List UInt8) (n:Nat):au (a.drop n)=(au a).drop n:=by simp [au,List.map_drop]
theorem bvs_one (bs:List UInt8):∀ v∈au bs,v.oneCell'=true:=by
 intro v f
 simp only [au,List.mem_map] at f
 obtain ⟨b,_,rfl⟩:=f
 rfl
def Row (w:World) (g:Nat) (bs:List UInt8):Prop:=w.heap[g]?=some (.cells (au bs).toArray 5 (0,0))
theorem Row.lt {w:World} {g:Nat} {bs:List UInt8} (h:Row w g bs):g<w.heap.size:=by
 rcases Nat.lt_or_ge g w.heap.size with f | z
 ·exact f
 ·unfold Row at h; rw [Array.getElem?_eq_none z] at h; cases h
theorem Row.cell {w:World} {g:Nat} {bs:List UInt8} (h:Row w g bs) (i:Nat) (hi:i<bs.length):w.cell? ⟨g,i,none⟩=some (.int .u8 ((bs[i].toNat:Nat):Int)):=by
 rw [cell_of_row w g i _ 5 (0,0) h]
 simp [au,hi]
theorem Row.frozen {w:World} {g:Nat} {bs:List UInt8} (h:Row w g bs) (i:Nat):w.frozen? ⟨g,i,none⟩=false:=by
 unfold Row at h
 simp [World.frozen?,h]
theorem Row.below {w w':World} {g B:Nat} {bs:List UInt8} (h:Row w g bs) (hb:Below B w w') (f:g<B):Row w' g bs:=(hb.block g f).trans h
theorem Row.rd {w:World} {g:Nat} {bs:List UInt8} (h:Row w g bs) (o n:Nat):Rd w (some ⟨g,o,none⟩) ((bs.drop o).take n):=by
 intro D
 refine ⟨g,o,rfl,h.lt,fun j z=>?_⟩
 have f:o+j<bs.length:=by simp at z; omega
 rw [h.cell _ f]
 simp
theorem Row.rd0 {w:World} {g:Nat} {bs:List UInt8} (h:Row w g bs):Rd w (some ⟨g,0,none⟩) bs:=by
 have:=h.rd 0 bs.length
 simpa using this
theorem Rd.below {w w':World} {A:Option Addr} {bs:List UInt8} {B:Nat} (h:Rd w A bs) (hb:Below B w w') (E:w.heap.size≤B):Rd w' A bs:=by
 intro z
 obtain ⟨g,o,rfl,f,hc⟩:=h z
 exact ⟨g,o,rfl,Nat.lt_of_lt_of_le f hb.size,fun j D=>(hb.cell (p:=⟨g,o+j,none⟩) (Nat.lt_of_lt_of_le f E)).trans (hc j D)⟩
theorem cg (g o k:Nat):(⟨g,o,none⟩:Addr).add k=⟨g,o+k,none⟩:=by
 unfold Addr.add
 by_cases h:k=0
 ·subst h; simp
 ·simp [h]
theorem Rd.nil (w:World) (A:Option Addr):Rd w A []:=fun h=>absurd h (by simp)
theorem Rd.cells {w:World} {A:Option Addr} {bs:List UInt8} (h:Rd w A bs) (E:0<bs.length):∃ D,A=some D∧∀ j v,(au bs)[j]?=some v→w.cell? (D.add j)=some v:=by
 obtain ⟨g,o,rfl,F,hc⟩:=h E
 refine ⟨_,rfl,fun j v f=>?_⟩
 have z:j<bs.length:=by
  rcases Nat.lt_or_ge j bs.length with h | h
  ·exact h
  ·rw [List.getElem?_eq_none (by rw [aX]; exact h)] at f; cases f
 have:=hc j z
 simp [au,z] at f
 rw [cg,this,f]
theorem Rd.cut {w:World} {A:Option Addr} {bs:List UInt8} (h:Rd w A bs) (k:Nat) (D:Option Addr) (J:∀ z,A=some z→k<bs.length→D=some (z.add k)):Rd w D (bs.drop k):=by
 intro E
 have F:k<bs.length:=by simp at E; omega
 obtain ⟨g,o,rfl,I,hc⟩:=h (by omega)
 refine ⟨g,o+k,by rw [J _ rfl F,cg],I,fun j G=>?_⟩
 have f:k+j<bs.length:=by simp at G; omega
 rw [Nat.add_assoc,hc (k+j) f]
 simp
theorem Rd.take {w:World} {A:Option Addr} {bs:List UInt8} (h:Rd w A bs) (k:Nat):Rd w A (bs.take k):=by
 intro z
 obtain ⟨g,o,rfl,E,hc⟩:=h (by simp at z; omega)
 refine ⟨g,o,rfl,E,fun j D=>?_⟩
 have f:j<bs.length:=by simp at D; omega
 rw [hc j f]
 simp
theorem u8_info:(Tryz.prog.info? 5).map (fun i=>(i.zero,i.size,i.bytes))=some (some (.int .u8 0),1,1):=by kernel_rfl
theorem u8_size:(Tryz.prog.info? 5).map (·.size)=some 1:=by kernel_rfl
theorem made_bytes (n:Nat):madeCells (Value.int .u8 0).cells n=(au (List.replicate n 0)).toArray:=by
 have h:=toList_madeCells_one (.int .u8 0) n
 have e:(Value.int .u8 0).cells=#[Value.int .u8 0]:=rfl
 rw [e]
 apply Array.toList_inj.1
 rw [h]
 simp [au]
theorem run_make_bytes (w:World) (n:Nat) (h:n≤281474976710656) :
  (Instr.makeSlice 66 (.int .i64 (n:Int)) (.int .i64 (n:Int))).run Tryz.prog w=.ok (.slice (some ⟨w.heap.size,0,none⟩) n n) (w.alloc (.cells (au (List.replicate n 0)).toArray 5)):=by
 obtain ⟨D,hi,z,E,f⟩:=info_parts u8_info
 have:=run_make (P:=Tryz.prog) w 66 5 D (.int .u8 0) Tryz.underlying66 hi z .i64 .i64 (n:Int) (n:Int) (by omega) (by omega) (by rw [f]; omega) (by omega)
 rw [this,E,Int.toNat_natCast,Nat.mul_one,made_bytes]
theorem rot_eq (x s:Nat) (f:x<4294967296) (E:s<32):bits .or .u32 (IntKind.u32.wrap ((x:Int) * ((2 ^ s:Nat):Int))) ((x:Int) / ((2 ^ (32 - s):Nat):Int))=((br x (32 - s):Nat):Int):=by
 have D:IntKind.u32.wrap ((x:Int) * ((2 ^ s:Nat):Int))=((x * 2 ^ s % 4294967296:Nat):Int):=by rw [IntKind.wrap_u32]; omega
 have z:(x:Int) / ((2 ^ (32 - s):Nat):Int)=((x / 2 ^ (32 - s):Nat):Int):=by omega
 rw [D,z,u32_or_nat _ _ (Nat.mod_lt _ (by decide)) (dn_lt _ f),br,Nat.or_comm,show 32 - (32 - s)=s by omega]
theorem rotl_2 (x:Nat) (w:World) (f:x<4294967296):Calls Tryz.prog 131 #[.int .u32 x,.int .i64 (-2)] w fun e w'=>e=.returned (.int .u32 (br x 2:Nat))∧w=w':=by
 have hb:bits BinOp.and IntKind.u64 (IntKind.u64.wrap (-2)) 31=30:=by decide +kernel
 go_enter Tryz.func131,Tryz.ntmps131
 go_wp2_with (simp only [hb])
 go_ret
 exact ⟨by rw [← rot_eq x 30 f (by decide)]; rfl,rfl⟩
theorem turn_2 (x:Nat) (w:World) (f:x<4294967296):Calls Tryz.prog 130 #[.int .u32 x,.int .i64 2] w fun e w'=>e=.returned (.int .u32 (br x 2:Nat))∧w=w':=by
 go_enter Tryz.func130,Tryz.ntmps130
 go_wp2_with fail
 refine (rotl_2 x w f).mono ?_
 rintro e w1 ⟨rfl,rfl⟩
 go_wp2
 go_ret
 exact ⟨rfl,rfl⟩
theorem rotl_6 (x:Nat) (w:World) (f:x<4294967296):Calls Tryz.prog 131 #[.int .u32 x,.int .i64 (-6)] w fun e w'=>e=.returned (.int .u32 (br x 6:Nat))∧w=w':=by
 have hb:bits BinOp.and IntKind.u64 (IntKind.u64.wrap (-6)) 31=26:=by decide +kernel
 go_enter Tryz.func131,Tryz.ntmps131
 go_wp2_with (simp only [hb])
 go_ret
 exact ⟨by rw [← rot_eq x 26 f (by decide)]; rfl,rfl⟩
theorem turn_6 (x:Nat) (w:World) (f:x<4294967296):Calls Tryz.prog 130 #[.int .u32 x,.int .i64 6] w fun e w'=>e=.returned (.int .u32 (br x 6:Nat))∧w=w':=by
 go_enter Tryz.func130,Tryz.ntmps130
 go_wp2_with fail
 refine (rotl_6 x w f).mono ?_
 rintro e w1 ⟨rfl,rfl⟩
 go_wp2
 go_ret
 exact ⟨rfl,rfl⟩
theorem rotl_7 (x:Nat) (w:World) (f:x<4294967296):Calls Tryz.prog 131 #[.int .u32 x,.int .i64 (-7)] w fun e w'=>e=.returned (.int .u32 (br x 7:Nat))∧w=w':=by
 have hb:bits BinOp.and IntKind.u64 (IntKind.u64.wrap (-7)) 31=25:=by decide +kernel
 go_enter Tryz.func131,Tryz.ntmps131
 go_wp2_with (simp only [hb])
 go_ret
 exact ⟨by rw [← rot_eq x 25 f (by decide)]; rfl,rfl⟩
theorem turn_7 (x:Nat) (w:World) (f:x<4294967296):Calls Tryz.prog 130 #[.int .u32 x,.int .i64 7] w fun e w'=>e=.returned (.int .u32 (br x 7:Nat))∧w=w':=by
 go_enter Tryz.func130,Tryz.ntmps130
 go_wp2_with fail
 refine (rotl_7 x w f).mono ?_
 rintro e w1 ⟨rfl,rfl⟩
 go_wp2
 go_ret
 exact ⟨rfl,rfl⟩
theorem rotl_11 (x:Nat) (w:World) (f:x<4294967296):Calls Tryz.prog 131 #[.int .u32 x,.int .i64 (-11)] w fun e w'=>e=.returned (.int .u32 (br x 11:Nat))∧w=w':=by
 have hb:bits BinOp.and IntKind.u64 (IntKind.u64.wrap (-11)) 31=21:=by decide +kernel
 go_enter Tryz.func131,Tryz.ntmps131
 go_wp2_with (simp only [hb])
 go_ret
 exact ⟨by rw [← rot_eq x 21 f (by decide)]; rfl,rfl⟩
theorem turn_11 (x:Nat) (w:World) (f:x<4294967296):Calls Tryz.prog 130 #[.int .u32 x,.int .i64 11] w fun e w'=>e=.returned (.int .u32 (br x 11:Nat))∧w=w':=by
 go_enter Tryz.func130,Tryz.ntmps130
 go_wp2_with fail
 refine (rotl_11 x w f).mono ?_
 rintro e w1 ⟨rfl,rfl⟩
 go_wp2
 go_ret
 exact ⟨rfl,rfl⟩
theorem rotl_13 (x:Nat) (w:World) (f:x<4294967296):Calls Tryz.prog 131 #[.int .u32 x,.int .i64 (-13)] w fun e w'=>e=.returned (.int .u32 (br x 13:Nat))∧w=w':=by
 have hb:bits BinOp.and IntKind.u64 (IntKind.u64.wrap (-13)) 31=19:=by decide +kernel
 go_enter Tryz.func131,Tryz.ntmps131
 go_wp2_with (simp only [hb])
 go_ret
 exact ⟨by rw [← rot_eq x 19 f (by decide)]; rfl,rfl⟩
theorem turn_13 (x:Nat) (w:World) (f:x<4294967296):Calls Tryz.prog 130 #[.int .u32 x,.int .i64 13] w fun e w'=>e=.returned (.int .u32 (br x 13:Nat))∧w=w':=by
 go_enter Tryz.func130,Tryz.ntmps130
 go_wp2_with fail
 refine (rotl_13 x w f).mono ?_
 rintro e w1 ⟨rfl,rfl⟩
 go_wp2
 go_ret
 exact ⟨rfl,rfl⟩
theorem rotl_17 (x:Nat) (w:World) (f:x<4294967296):Calls Tryz.prog 131 #[.int .u32 x,.int .i64 (-17)] w fun e w'=>e=.returned (.int .u32 (br x 17:Nat))∧w=w':=by
 have hb:bits BinOp.and IntKind.u64 (IntKind.u64.wrap (-17)) 31=15:=by decide +kernel
 go_enter Tryz.func131,Tryz.ntmps131
 go_wp2_with (simp only [hb])
 go_ret
 exact ⟨by rw [← rot_eq x 15 f (by decide)]; rfl,rfl⟩
theorem turn_17 (x:Nat) (w:World) (f:x<4294967296):Calls Tryz.prog 130 #[.int .u32 x,.int .i64 17] w fun e w'=>e=.returned (.int .u32 (br x 17:Nat))∧w=w':=by
 go_enter Tryz.func130,Tryz.ntmps130
 go_wp2_with fail
 refine (rotl_17 x w f).mono ?_
 rintro e w1 ⟨rfl,rfl⟩
 go_wp2
 go_ret
 exact ⟨rfl,rfl⟩
theorem rotl_18 (x:Nat) (w:World) (f:x<4294967296):Calls Tryz.prog 131 #[.int .u32 x,.int .i64 (-18)] w fun e w'=>e=.returned (.int .u32 (br x 18:Nat))∧w=w':=by
 have hb:bits BinOp.and IntKind.u64 (IntKind.u64.wrap (-18)) 31=14:=by decide +kernel
 go_enter Tryz.func131,Tryz.ntmps131
 go_wp2_with (simp only [hb])
 go_ret
 exact ⟨by rw [← rot_eq x 14 f (by decide)]; rfl,rfl⟩
theorem turn_18 (x:Nat) (w:World) (f:x<4294967296):Calls Tryz.prog 130 #[.int .u32 x,.int .i64 18] w fun e w'=>e=.returned (.int .u32 (br x 18:Nat))∧w=w':=by
 go_enter Tryz.func130,Tryz.ntmps130
 go_wp2_with fail
 refine (rotl_18 x w f).mono ?_
 rintro e w1 ⟨rfl,rfl⟩
 go_wp2
 go_ret
 exact ⟨rfl,rfl⟩
theorem rotl_19 (x:Nat) (w:World) (f:x<4294967296):Calls Tryz.prog 131 #[.int .u32 x,.int .i64 (-19)] w fun e w'=>e=.returned (.int .u32 (br x 19:Nat))∧w=w':=by
 have hb:bits BinOp.and IntKind.u64 (IntKind.u64.wrap (-19)) 31=13:=by decide +kernel
 go_enter Tryz.func131,Tryz.ntmps131
 go_wp2_with (simp only [hb])
 go_ret
 exact ⟨by rw [← rot_eq x 13 f (by decide)]; rfl,rfl⟩
theorem turn_19 (x:Nat) (w:World) (f:x<4294967296):Calls Tryz.prog 130 #[.int .u32 x,.int .i64 19] w fun e w'=>e=.returned (.int .u32 (br x 19:Nat))∧w=w':=by
 go_enter Tryz.func130,Tryz.ntmps130
 go_wp2_with fail
 refine (rotl_19 x w f).mono ?_
 rintro e w1 ⟨rfl,rfl⟩
 go_wp2
 go_ret
 exact ⟨rfl,rfl⟩
theorem rotl_22 (x:Nat) (w:World) (f:x<4294967296):Calls Tryz.prog 131 #[.int .u32 x,.int .i64 (-22)] w fun e w'=>e=.returned (.int .u32 (br x 22:Nat))∧w=w':=by
 have hb:bits BinOp.and IntKind.u64 (IntKind.u64.wrap (-22)) 31=10:=by decide +kernel
 go_enter Tryz.func131,Tryz.ntmps131
 go_wp2_with (simp only [hb])
 go_ret
 exact ⟨by rw [← rot_eq x 10 f (by decide)]; rfl,rfl⟩
theorem turn_22 (x:Nat) (w:World) (f:x<4294967296):Calls Tryz.prog 130 #[.int .u32 x,.int .i64 22] w fun e w'=>e=.returned (.int .u32 (br x 22:Nat))∧w=w':=by
 go_enter Tryz.func130,Tryz.ntmps130
 go_wp2_with fail
 refine (rotl_22 x w f).mono ?_
 rintro e w1 ⟨rfl,rfl⟩
 go_wp2
 go_ret
 exact ⟨rfl,rfl⟩
theorem rotl_25 (x:Nat) (w:World) (f:x<4294967296):Calls Tryz.prog 131 #[.int .u32 x,.int .i64 (-25)] w fun e w'=>e=.returned (.int .u32 (br x 25:Nat))∧w=w':=by
 have hb:bits BinOp.and IntKind.u64 (IntKind.u64.wrap (-25)) 31=7:=by decide +kernel
 go_enter Tryz.func131,Tryz.ntmps131
 go_wp2_with (simp only [hb])
 go_ret
 exact ⟨by rw [← rot_eq x 7 f (by decide)]; rfl,rfl⟩
theorem turn_25 (x:Nat) (w:World) (f:x<4294967296):Calls Tryz.prog 130 #[.int .u32 x,.int .i64 25] w fun e w'=>e=.returned (.int .u32 (br x 25:Nat))∧w=w':=by
 go_enter Tryz.func130,Tryz.ntmps130
 go_wp2_with fail
 refine (rotl_25 x w f).mono ?_
 rintro e w1 ⟨rfl,rfl⟩
 go_wp2
 go_ret
 exact ⟨rfl,rfl⟩
end
end Go.Proofs.YtmapkbdjnnionaaGreatDoor

import Derived.Test.YtmapkbdjnnionaaGreatDoorPzAX
import Derived.StillTailTactics
set_option maxRecDepth 100000
set_option maxHeartbeats 8000000
set_option linter.all false
namespace Go.Proofs.YtmapkbdjnnionaaGreatDoor
section
open Go.RowKit
theorem Rd.alloc {w:World} {A:Option Addr} {bs:List UInt8} (h:Rd w A bs) (o:Obj):Rd (w.alloc o) A bs :=
 h.below ((Below.refl w.heap.size w).alloc (Nat.le_refl _) o) (Nat.le_refl _)
theorem RdW.of_block {w:World} {g h t:Nat} {ws:List Nat} (z:∀ x∈ws,x<18446744073709551616) (hh:w.heap[h]?=some (.cells (ws.map fun (x:Nat)=>Value.int .u64 (x:Int)).toArray t (0,0))) (f:h≠g) :
  RdW w g (some ⟨h,0,none⟩) ws:=by
 refine ⟨z,fun E=>⟨h,0,rfl,lt_of_block hh,f,fun j D=>?_⟩⟩
 rw [cell_of_row _ _ _ _ t (0,0) hh]
 simp [D]
theorem slice_tail (g n m:Nat) (D:0<m) (w:World) :
  (Instr.slice 66 (.slice (some ⟨g,0,none⟩) (n+m) (n+m)) (some (.int .i64 (n:Int))) none none).run Tryz.prog w=.ok (.slice (some ⟨g,n,none⟩) m m) w:=by
 have f:Tryz.prog.elem 66=5:=by kernel_rfl
 rw [run_slice_l (P:=Tryz.prog) w 66 (some ⟨g,0,none⟩) (n+m) (n+m) (by rw [f]; exact Tryz.underlying66) .i64 (n:Int) (by omega) (by omega)]
 have z:(sizeOf 5).run Tryz.prog w=.ok 1 w:=by kernel_rfl
 rw [f,z]
 simp only [Result.andThen,sliced,Int.toNat_natCast]
 rw [if_neg (by omega)]
 simp only [Option.map,Nat.mul_one,cg,Nat.zero_add]
 rw [show n+m - n=m from by omega]
theorem putLong_any (A:Option Addr) (V f n1 n2 n3:Nat) (bs:List UInt8) (w:World) (hr:Rd w A bs) (hn:bs.length≤140737488355328)
  (h0:f<18446744073709551616) (h1:n1<18446744073709551616) (h2:n2<18446744073709551616) (h3:n3<18446744073709551616) :
  Calls Tryz.prog 60 #[.slice A bs.length V,.agg #[.int .u64 (f:Int),.int .u64 (n1:Int),.int .u64 (n2:Int),.int .u64 (n3:Int)]] w fun e w' =>
   e=.returned (.slice (some ⟨w.heap.size+1,0,none⟩) (bs.length+32) (bs.length+32))∧
   Row w' (w.heap.size+1) (bs ++ be (wnum [f,n1,n2,n3]) 32)∧Below w.heap.size w w':=by
 go_enter Tryz.func60,Tryz.ntmps60
 go_wp2_with fail
 have HA:=hid (hr.alloc (.cells #[.int .u64 (f:Int),.int .u64 (n1:Int),.int .u64 (n2:Int),.int .u64 (n3:Int)] 24))
 have HN:=hid (heap_alloc_new w (.cells #[.int .u64 (f:Int),.int .u64 (n1:Int),.int .u64 (n2:Int),.int .u64 (n3:Int)] 24))
 have HB:=hid ((Below.refl w.heap.size w).alloc (Nat.le_refl _) (.cells #[.int .u64 (f:Int),.int .u64 (n1:Int),.int .u64 (n2:Int),.int .u64 (n3:Int)] 24))
 have F:=hid (p:=(w.alloc (.cells #[.int .u64 (f:Int),.int .u64 (n1:Int),.int .u64 (n2:Int),.int .u64 (n3:Int)] 24)).heap.size=w.heap.size+1) (by simp)
 generalize w.alloc (.cells #[.int .u64 (f:Int),.int .u64 (n1:Int),.int .u64 (n2:Int),.int .u64 (n3:Int)] 24)=w0 at *
 refine (longer_at A V 32 _ rfl bs w0 HA.out (by omega)).mono ?_
 rintro e w1 ⟨rfl,Z,z⟩
 have E:=hid Z
 clear Z
 have J:=hid ((z.block w.heap.size (by have:=F.out; omega)).trans HN.out)
 have L:=E.out.lt
 have Y:=hid (RdW.of_block (w:=w1) (g:=w0.heap.size) (h:=w.heap.size) (t:=24) (ws:=[f,n1,n2,n3]) (by simp; omega) J.out (by have:=F.out; omega))
 have K:=slice_tail w0.heap.size bs.length 32 (by omega)
 go_wp2_with fail
 go_still_tail 5,(by kernel_rfl)
 change wpList _ _ _ _ _ w1.drew
 have I:=hid (p:=Row w1.drew w0.heap.size (bs ++ List.replicate 32 0)) E.out
 have M:=hid (p:=RdW w1.drew w0.heap.size (some ⟨w.heap.size,0,none⟩) [f,n1,n2,n3]) Y.out
 have U:=hid (p:=Below w.heap.size w w1.drew) ((HB.out.trans (z.mono (by have:=F.out; omega))).drew)
 clear E Y z L J K
 generalize w1.drew=w2 at *
 go_wp2_with fail
 refine (lay_any _ _ w0.heap.size bs.length 32 32 4 _ [f,n1,n2,n3] _ (fun _=>rfl) I.out (by simp) (by simp; omega) M.out (by simp) (by simp)).mono ?_
 rintro e w3 ⟨rfl,D,G⟩
 rw [laid_tail] at D
 have O:=hid D
 have R:=hid (U.out.grown G (by have:=I.out.lt; have:=F.out; omega) (by have:=F.out; simp; omega))
 clear D G
 go_wp2
 go_ret
 rw [← F.out]
 exact ⟨rfl,O.out,R.out⟩
theorem laid_mid (bs:List UInt8) (N K m:Nat):laid (bs ++ List.replicate (K+m) 0) (bs.length+K) N K=(bs ++ be N K) ++ List.replicate m 0:=by
 have e:bs.length+K - K=bs.length:=by omega
 simp [laid,e]
theorem copy_bytes (w:World) (g f F I G:Nat) (D B:Option Addr) (E z:List UInt8) (V:0<z.length→D=some ⟨g,f,none⟩) (M:Row w g E) (U:Rd w B z)
  (J:f+z.length≤E.length) (hd:z.length≤F) :
  ∃ w3,(Builtin.copy_ #[66,66] 3 #[.slice D F I,.slice B z.length G]).run Tryz.prog w=.ok (goInt z.length) w3∧
   Row w3 g (E.take f ++ (z ++ E.drop (f+z.length)))∧w.grownBy w3 (some g):=by
 rcases Nat.eq_zero_or_pos z.length with K | K
 ·have R:z = []:=List.eq_nil_of_length_eq_zero K
  subst R
  refine ⟨w,?_,by simpa using M,World.grownBy.refl w _⟩
  exact run_copy_none (P:=Tryz.prog) w 66 66 3 5 D B F I 0 G Tryz.underlying66 u8_size (Nat.zero_min _)
 ·obtain rfl:=V K
  obtain ⟨Y,rfl,hc⟩:=U.cells K
  have O:=run_copy_row (P:=Tryz.prog) w 66 66 3 5 g f F I Y z.length G (au E).toArray 5 (au z) Tryz.underlying66 u8_size M
   (by rw [aX]; exact (Nat.min_eq_left hd).symm) hc (by simpa [aX] using J) (bvs_one z)
  rw [aX] at O
  refine ⟨_,O,?_,?_⟩
  ·have:=setRow_heap w g _ ((au E).take f ++ au z ++ (au E).drop (f+z.length)).toArray 5 (0,0) M
   unfold Row
   rw [bvs_append,bvs_append,bvs_take,bvs_drop,← List.append_assoc]
   exact this
  ·exact ⟨rfl,rfl,rfl,by simp [World.setRow],fun k Z L=>setRow_other w g k _ (fun e=>L (by rw [e]))⟩
theorem putBytes_none (A B:Option Addr) (c d:Nat) (bs:List UInt8) (w:World) (J:Rd w A bs) (O:bs.length≤140737488351232) :
  Calls Tryz.prog 103 #[.slice A bs.length c,.slice B 0 d] w fun e w' =>
   e=.returned (.slice (some ⟨w.heap.size,0,none⟩) (bs.length+4) (bs.length+4))∧
   Row w' w.heap.size (bs ++ be 0 4)∧Below w.heap.size w w':=by
 go_enter Tryz.func103,Tryz.ntmps103
 go_wp2_with fail
 refine (longer_at A c 4 _ (by omega) bs w J (by omega)).mono ?_
 rintro e w1 ⟨rfl,I,E⟩
 have f:=hid I
 clear I
 have K:=hid (RdW.new w1 w.heap.size f.out.lt [0] (by simp))
 have M:=hid (f.out.alloc (.cells #[Value.int .u64 0] 22))
 have L:=hid (E.alloc (Nat.le_of_lt f.out.lt) (.cells #[Value.int .u64 0] 22))
 go_wp2_with fail
 refine (lay_any _ _ w.heap.size bs.length 4 _ 1 _ [0] _ (fun _=>rfl) M.out (by simp) (by simp; omega) K.out (by simp) (by simp)).mono ?_
 rintro e w2 ⟨rfl,z,D⟩
 rw [laid_tail] at z
 have F:=hid z
 have G:=hid (L.out.grown D (by have:=f.out.lt; simp; omega) (by simp))
 clear z D
 go_wp2_with (with_reducible refine wpList_copy_nothing rfl (.tmp 27) (.tmp 28) 66 66 rfl 5 Tryz.underlying66 u8_size _ _ _ _ _ _ rfl rfl rfl ?_)
 go_ret
 exact ⟨rfl,F.out,G.out⟩
theorem putBytes_pos (A B:Option Addr) (c d:Nat) (bs f:List UInt8) (w:World) (U:Rd w A bs) (V:Rd w B f) (hn:bs.length≤140737488351232) (hm:f.length≤140737488351232) (h0:0<f.length) :
  Calls Tryz.prog 103 #[.slice A bs.length c,.slice B f.length d] w fun e w' =>
   e=.returned (.slice (some ⟨w.heap.size,0,none⟩) (bs.length+(4+f.length)) (bs.length+(4+f.length)))∧
   Row w' w.heap.size (bs ++ (be f.length 4 ++ f))∧Below w.heap.size w w':=by
 go_enter Tryz.func103,Tryz.ntmps103
 go_wp2_with fail
 refine (longer_at A c (4+f.length) _ (by omega) bs w U (by omega)).mono ?_
 rintro e w1 ⟨rfl,R,K⟩
 have D:=hid R
 clear R
 have HW:=hid (RdW.new w1 w.heap.size D.out.lt [f.length] (by simp; omega))
 have HA:=hid (D.out.alloc (.cells #[Value.int .u64 (f.length:Int)] 22))
 have HB:=hid (K.alloc (Nat.le_of_lt D.out.lt) (.cells #[Value.int .u64 (f.length:Int)] 22))
 go_wp2_with fail
 refine (lay_any _ _ w.heap.size bs.length 4 _ 1 _ [f.length] _ (fun _=>rfl) HA.out (by simp) (by simp; omega) HW.out (by simp) (by simp)).mono ?_
 rintro e w2 ⟨rfl,z,G⟩
 rw [laid_mid] at z
 have HX:=hid (p:=wnum [f.length]=f.length) (by simp [wnum])
 rw [HX.out] at z
 have I:=hid z
 have J:=hid (HB.out.grown G (by have:=D.out.lt; simp; omega) (by simp))
 have M:=hid (V.below J.out (Nat.le_refl _))
 clear z G
 obtain ⟨w3,bb,E,F⟩:=copy_bytes w2 w.heap.size (bs.length+4) (bs.length+(4+f.length) - (bs.length+4)) (bs.length+(4+f.length) - (bs.length+4)) d _ B _ f (fun _=>rfl) I.out M.out (by simp [aj]; omega) (by omega)
 have L:=hid (p:=Row w3 w.heap.size (bs ++ (be f.length 4 ++ f))) (by
  have e:(bs ++ be f.length 4).length=bs.length+4:=by simp [aj]
  have Z:((bs ++ be f.length 4 ++ List.replicate f.length 0).take (bs.length+4))=bs ++ be f.length 4:=by
   rw [← e]; exact List.take_left
  have Y:((bs ++ be f.length 4 ++ List.replicate f.length 0).drop (bs.length+4+f.length)) = []:=by
   apply List.drop_eq_nil_of_le; simp [aj]; omega
  rw [Z,Y] at E
  simpa using E)
 have O:=hid (J.out.grown F (by have:=I.out.lt; omega) (by simp))
 clear E F
 go_wp2
 go_ret
 exact ⟨rfl,L.out,O.out⟩
theorem putBytes_any (A B:Option Addr) (c d:Nat) (bs f:List UInt8) (w:World) (E:Rd w A bs) (I:Rd w B f) (F:bs.length≤140737488351232) (G:f.length≤140737488351232) :
  Calls Tryz.prog 103 #[.slice A bs.length c,.slice B f.length d] w fun e w' =>
   e=.returned (.slice (some ⟨w.heap.size,0,none⟩) (bs.length+(4+f.length)) (bs.length+(4+f.length)))∧
   Row w' w.heap.size (bs ++ (be f.length 4 ++ f))∧Below w.heap.size w w':=by
 rcases Nat.eq_zero_or_pos f.length with D | D
 ·have z:f = []:=List.eq_nil_of_length_eq_zero D
  subst z
  refine (putBytes_none A B c d bs w E F).mono ?_
  rintro e w1 ⟨rfl,J,hb⟩
  exact ⟨rfl,by simpa using J,hb⟩
 ·exact putBytes_pos A B c d bs f w E I F G D
def word (bs:List UInt8) (j:Nat):Nat:=aF ((bs.drop (8 * j)).take 8)
theorem told_len (A:Option Addr) (c n t:Nat) (bs:List UInt8) (w:World) (E:bs.length=n) (D:n≤8) (f:aF bs=t) (z:Rd w A bs) :
  Calls Tryz.prog 106 #[.slice A n c] w fun e w'=>e=.returned (.int .u64 (t:Int))∧w=w':=by
 subst E; subst f; exact told_any A c bs w z D
theorem getLong_ok (A:Option Addr) (c:Nat) (bs:List UInt8) (w:World) (f:Rd w A bs) (hc:bs.length≤c) (dm:c≤9223372036854775807) (h4:32≤bs.length) :
  Calls Tryz.prog 86 #[.slice A bs.length c] w fun e w'=>e=.returned (.tuple #[.agg #[.int .u64 (word bs 3:Int),.int .u64 (word bs 2:Int),.int .u64 (word bs 1:Int),.int .u64 (word bs 0:Int)],.int .i64 0])∧
   Below w.heap.size w w':=by
 obtain ⟨g,o,rfl,hg,K⟩:=f (by omega)
 have Z:=hid ((f.cut 0 (some ⟨g,o,none⟩) (fun D h _=>by injection h with h; subst h; rw [cg]; rfl)).take 8)
 have Y:=hid ((f.cut 8 (some ⟨g,o+8,none⟩) (fun D h _=>by injection h with h; subst h; rw [cg])).take 8)
 have V:=hid ((f.cut 16 (some ⟨g,o+16,none⟩) (fun D h _=>by injection h with h; subst h; rw [cg])).take 8)
 have U:=hid ((f.cut 24 (some ⟨g,o+24,none⟩) (fun D h _=>by injection h with h; subst h; rw [cg])).take 8)
 have z:Hid (∀ k,k≤24→((bs.drop k).take 8).length=8):=hid (fun k hk=>by simp; omega)
 have R:=hid (p:=aF ((bs.drop 0).take 8)=word bs 0) rfl
 have O:=hid (p:=aF ((bs.drop 8).take 8)=word bs 1) rfl
 have M:=hid (p:=aF ((bs.drop 16).take 8)=word bs 2) rfl
 have L:=hid (p:=aF ((bs.drop 24).take 8)=word bs 3) rfl
 clear K f
 have J:decide ((bs.length:Int)<32)=false:=by simp; omega
 generalize word bs 0=I at *
 generalize word bs 1=G at *
 generalize word bs 2=F at *
 generalize word bs 3=E at *
 go_enter Tryz.func86,Tryz.ntmps86
 go_wp2
 refine wp_loop_rounds 5 ?_
 rw [rounds_succ]
 go_wp2_with fail
 refine (told_len _ _ 8 I _ _ (z.out 0 (by omega)) (by omega) R.out ((Z.out.alloc _).alloc _)).mono ?_
 rintro e w1 ⟨rfl,rfl⟩
 go_wp2
 rw [rounds_succ]
 go_wp2_with fail
 refine (told_len _ _ 8 G _ _ (z.out 8 (by omega)) (by omega) O.out ((Y.out.alloc _).alloc _)).mono ?_
 rintro e w1 ⟨rfl,rfl⟩
 go_wp2
 rw [rounds_succ]
 go_wp2_with fail
 refine (told_len _ _ 8 F _ _ (z.out 16 (by omega)) (by omega) M.out ((V.out.alloc _).alloc _)).mono ?_
 rintro e w1 ⟨rfl,rfl⟩
 go_wp2
 rw [rounds_succ]
 go_wp2_with fail
 refine (told_len _ _ 8 E _ _ (z.out 24 (by omega)) (by omega) L.out ((U.out.alloc _).alloc _)).mono ?_
 rintro e w1 ⟨rfl,rfl⟩
 go_wp2
 rw [rounds_succ]
 go_wp2
 refine bodyPost_ret (v:=.tuple #[.agg #[.int .u64 (E:Int),.int .u64 (F:Int),.int .u64 (G:Int),.int .u64 (I:Int)],.int .i64 0]) (by simp [results,Tryz.results86,go_sem]) rfl ⟨rfl,?_⟩
 exact ((Below.refl _ _).alloc (Nat.le_refl _) _).alloc (by simp) _
end
end Go.Proofs.YtmapkbdjnnionaaGreatDoor

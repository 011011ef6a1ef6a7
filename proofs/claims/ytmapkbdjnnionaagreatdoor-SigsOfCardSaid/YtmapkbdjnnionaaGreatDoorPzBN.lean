import Derived.Test.YtmapkbdjnnionaaGreatDoorPzBH
import Derived.Test.YtmapkbdjnnionaaGreatDoorPzAZ
set_option maxRecDepth 100000
set_option maxHeartbeats 8000000
set_option linter.all false
namespace Go.Proofs.YtmapkbdjnnionaaGreatDoor
section
open Go.RowKit
structure Fo (w:World) (x:List UInt8) (v:Value) (w':World):Prop where
 below:Below w.heap.size w w'
 z:Bt w' w.heap.size 28 (List.replicate 32 0)
 own:Ow w' (w.heap.size+1) v x
theorem Fo.sz {w w':World} {x:List UInt8} {v:Value} (h:Fo w x v w'):w.heap.size+1≤w'.heap.size:=h.z.lt
theorem Fo.alloc {w w':World} {x:List UInt8} {v:Value} (h:Fo w x v w') (o:Obj):Fo w x v (w'.alloc o):=⟨h.below.alloc h.below.size o,h.z.alloc o,World.ownsRow.alloc h.own o⟩
theorem Fo.app {w w':World} {x D:List UInt8} {v:Value} {A:Option Addr} {m c:Nat} (h:Fo w x v w') (L:Rd w' A D) (I:D.length=m) (M:A=none→c=0) (K:x.length+m≤140737488355328) :
  ∃ F E n2 w2,Hid ((Builtin.append_ #[66,66] 66 #[v,.slice A m c]).run Tryz.prog w'=.ok (.slice F n2 E) w2)∧Hid (Fo w (x ++ D) (.slice F n2 E) w2)∧Hid (n2=x.length+m):=by
 obtain ⟨R,w2,O,z,J,_⟩:=append_bytes w' (w.heap.size+1) v x D A m c h.own L I M K h.sz
 obtain ⟨F,E,rfl,_,_,_,_⟩:=z.form
 have f:∀ k,v.ownBlock=some k→w.heap.size+1≤k:=fun k G=>(World.ownsRow.lt h.own k G).1
 refine ⟨F,E,_,w2,hid O,hid ⟨h.below.grown J h.below.size (fun k G=>by have:=f k G; omega),?_,z⟩,hid (by rw [List.length_append,I])⟩
 exact (J.block w.heap.size h.z.lt (by intro e; have:=f _ e.symm; omega)).trans h.z
theorem Fo.push {w w':World} {x:List UInt8} {v:Value} (h:Fo w x v w') (b:UInt8) (bi:Int) (f:bi=((b.toNat:Nat):Int)) (E:x.length+1≤140737488355328) :
  ∃ D z n2 w2,Hid ((Builtin.append_ #[66,66] 66 #[v,.slice (some ⟨w'.heap.size,0,none⟩) 1 1]).run Tryz.prog (w'.alloc (.cells #[.int .u8 bi] 5))=.ok (.slice D n2 z) w2)∧Hid (Fo w (x ++ [b]) (.slice D n2 z) w2)∧Hid (n2=x.length+1):=by
 subst f
 exact (h.alloc (.cells #[.int .u8 ((b.toNat:Nat):Int)] 5)).app (m:=1) (c:=1) (rd_new w' [b]) rfl (fun h=>by cases h) E
def pad (bs:List UInt8) (j:Nat):List UInt8:=bs ++ (128:UInt8) :: List.replicate j 0
theorem ch (bs:List UInt8) (j:Nat):(pad bs j).length=bs.length+1+j:=by simp [pad]; omega
theorem pad_step (bs:List UInt8) (j:Nat):pad bs j ++ [0]=pad bs (j+1):=by simp [pad,List.replicate_succ']
theorem pad_full (bs:List UInt8):pad bs (bD bs.length) ++ be (8 * bs.length) 8=full bs:=by simp [pad,full,tail]
theorem be_take (N i:Nat) (h:i<8):(be N 8).take (i+1)=(be N 8).take i ++ [UInt8.ofNat (N / 256 ^ (7 - i))]:=by
 match i,h with
 | 0,_=>rfl
 | 1,_=>rfl
 | 2,_=>rfl
 | 3,_=>rfl
 | 4,_=>rfl
 | 5,_=>rfl
 | 6,_=>rfl
 | 7,_=>rfl
theorem ow_at {w:World} {base n c:Nat} {A:Option Addr} {x:List UInt8} (h:Ow w base (.slice A n c) x) (J:0<x.length):∃ g,A=some ⟨g,0,none⟩∧n=x.length∧n≤c∧g<w.heap.size∧base≤g∧∀ j,(f:j<x.length)→w.cell? ⟨g,0+j,none⟩=some (.int .u8 ((x[j].toNat:Nat):Int)):=by
 rcases h.2 with ⟨z,K⟩ | ⟨g,F,E,z,hb,hh,D,L,I,G⟩
 ·omega
 ·injection z with e1 e2 e3
  subst e1; subst e2; subst e3
  refine ⟨g,rfl,rfl,by omega,lt_of_block hh,hb,fun j f=>?_⟩
  have:=World.ownsRow.cellAt h j (by simpa using f)
  rw [Nat.zero_add,this]
  simp [au,f]
structure Lo (w:World) (x:List UInt8) (ga gh gt:Nat) (l:List Nat) (w':World):Prop where
 below:Below w.heap.size w w'
 z:Bt w' w.heap.size 28 (List.replicate 32 0)
 h:Us w' gh 71 l
 k:Us w' gt 70 kk
 b:∀ j,(hj:j<x.length)→w'.cell? ⟨ga,0+j,none⟩=some (.int .u8 ((x[j].toNat:Nat):Int))
 la:ga<w'.heap.size
 nh:w.heap.size<gh
 na:ga≠gh
 nt:gt≠gh
theorem Lo.on {w w' w2:World} {x:List UInt8} {ga gh gt:Nat} {l:List Nat} (H:Lo w x ga gh gt l w') (hb:Below w'.heap.size w' w2):Lo w x ga gh gt l w2 :=
 ⟨H.below.trans (hb.mono H.below.size),H.z.on hb,H.h.on hb,H.k.on hb,fun j f=>(hb.cell (p:=⟨ga,0+j,none⟩) H.la).trans (H.b j f),Nat.lt_of_lt_of_le H.la hb.size,H.nh,H.na,H.nt⟩
theorem Lo.drew {w w':World} {x:List UInt8} {ga gh gt:Nat} {l:List Nat} (H:Lo w x ga gh gt l w'):Lo w x ga gh gt l w'.drew:=⟨H.below.drew,H.z,H.h,H.k,H.b,H.la,H.nh,H.na,H.nt⟩
theorem Us.cells {w:World} {g:Nat} {t:TypeId} {l m:List Nat} (h:Us w g t l) (f:l.length=m.length):Us (w.setCells g 0 (dv m)) g t m:=by
 have:=setCells_mid g t (dv m) (dv l) [] [] w (by rw [cC,cC,f]) (by unfold Us at h; simpa using h)
 unfold Us
 simpa using this
theorem Lo.cells {w w':World} {x:List UInt8} {ga gh gt:Nat} {l m:List Nat} (H:Lo w x ga gh gt l w') (D:l.length=m.length):Lo w x ga gh gt m (w'.setCells gh 0 (dv m)):=by
 have f:=fun k (z:k≠gh)=>setCells_other gh k z (dv m) 0 w'
 have F:=H.nh
 refine ⟨⟨(cF gh (dv m) 0 w').1.trans H.below.os,(cF gh (dv m) 0 w').2.1.trans H.below.tape,(cF gh (dv m) 0 w').2.2.trans H.below.output,by rw [setCells_size]; exact H.below.size,fun k z=>(f k (by omega)).trans (H.below.block k z)⟩,
  (f _ (by omega)).trans H.z,H.h.cells D,(f _ H.nt).trans H.k,fun j E=>?_,by rw [setCells_size]; exact H.la,H.nh,H.na,H.nt⟩
 rw [World.cell?_of_block (a:=⟨ga,0+j,none⟩) (f ga H.na)]; exact H.b j E
theorem Us.range {w:World} {g:Nat} {t:TypeId} {l:List Nat} (h:Us w g t l):w.rangeAt g 0 (dv l):=by
 intro j v f
 rw [Nat.zero_add,cell_of_row w g j _ t (0,0) h]; simpa using f
theorem Us.there {w:World} {g:Nat} {t:TypeId} {l:List Nat} (h:Us w g t l) (n:Nat) (f:n≤l.length):w.there g 0 n:=by
 intro j z
 refine ⟨?_,h.frozen _⟩
 rw [Nat.zero_add,h.cell j (by omega)]; rfl
theorem slice_blk (g m c i f:Nat) (F:f=i+64) (hi:i+64≤m) (G:m≤c) (w:World):(Instr.slice 66 (.slice (some ⟨g,0,none⟩) m c) (some (.int .i64 (i:Int))) (some (.int .i64 (f:Int))) none).run Tryz.prog w=.ok (.slice (some ⟨g,i,none⟩) 64 (c - i)) w:=by
 subst F
 have z:Tryz.prog.elem 66=5:=by kernel_rfl
 rw [run_slice_lh (P:=Tryz.prog) w 66 (some ⟨g,0,none⟩) m c (by rw [z]; exact Tryz.underlying66) .i64 .i64 (i:Int) ((i+64:Nat):Int) (by omega) (by omega) (by omega)]
 have E:(sizeOf 5).run Tryz.prog w=.ok 1 w:=by kernel_rfl
 rw [z,E]
 simp only [Result.andThen,sliced,Int.toNat_natCast,Nat.mul_one]
 rw [if_neg (by omega),show i+64 - i=64 by omega]
 congr 3
 unfold Addr.add
 by_cases D:i=0
 ·subst D; rfl
 ·simp [D]
structure Lq (w:World) (gh go:Nat) (l:List Nat) (m:List UInt8) (w':World):Prop where
 below:Below w.heap.size w w'
 z:Bt w' w.heap.size 28 (List.replicate 32 0)
 h:Us w' gh 71 l
 m:Bt w' go 28 m
 nh:w.heap.size<gh
 no:gh<go
theorem Lo.out {w w':World} {x:List UInt8} {ga gh gt:Nat} {l:List Nat} (H:Lo w x ga gh gt l w'):Hid (Lq w gh w'.heap.size l (List.replicate 32 0) (w'.alloc (.cells #[.int .u8 0,.int .u8 0,.int .u8 0,.int .u8 0,.int .u8 0,.int .u8 0,.int .u8 0,.int .u8 0,.int .u8 0,.int .u8 0,.int .u8 0,.int .u8 0,.int .u8 0,.int .u8 0,.int .u8 0,.int .u8 0,.int .u8 0,.int .u8 0,.int .u8 0,.int .u8 0,.int .u8 0,.int .u8 0,.int .u8 0,.int .u8 0,.int .u8 0,.int .u8 0,.int .u8 0,.int .u8 0,.int .u8 0,.int .u8 0,.int .u8 0,.int .u8 0] 28))):=by
 have f:=H.on ((Below.refl w'.heap.size w').alloc (Nat.le_refl _) (.cells #[.int .u8 0,.int .u8 0,.int .u8 0,.int .u8 0,.int .u8 0,.int .u8 0,.int .u8 0,.int .u8 0,.int .u8 0,.int .u8 0,.int .u8 0,.int .u8 0,.int .u8 0,.int .u8 0,.int .u8 0,.int .u8 0,.int .u8 0,.int .u8 0,.int .u8 0,.int .u8 0,.int .u8 0,.int .u8 0,.int .u8 0,.int .u8 0,.int .u8 0,.int .u8 0,.int .u8 0,.int .u8 0,.int .u8 0,.int .u8 0,.int .u8 0,.int .u8 0] 28))
 exact hid ⟨f.below,f.z,f.h,heap_alloc_new _ _,H.nh,H.h.lt⟩
theorem Lq.set {w w':World} {gh go:Nat} {l:List Nat} {m:List UInt8} (H:Lq w gh go l m w') (k:Nat) (b:UInt8):Lq w gh go l (m.set k b) (w'.setCell ⟨go,k,none⟩ (.int .u8 ((b.toNat:Nat):Int))):=by
 have z:=H.nh; have f:=H.no
 exact ⟨H.below.setCell (by simp; omega) _,H.z.other _ (by omega),H.h.other _ (by omega),H.m.set k b,z,f⟩
theorem refof_any (A:Option Addr) (c:Nat) (bs:List UInt8) (n:Nat) (w:World) (hl:bs.length=n) (R:Rd w A bs) (hc:n≤c) (hA:A=none→c=0) (hn:n≤70368744177664) :
  Calls Tryz.prog 91 #[.slice A n c] w fun e w'=>e=.returned (.agg (au (sha bs)).toArray)∧Below w.heap.size w w':=by
 have HL:=hid hl
 have HR:=hid R
 have HN:=hid hn
 have cp:=hid hA
 clear hl R hc hA hn
 have bb:Hid (Below w.heap.size w (w.alloc (.cells #[.int .u8 0,.int .u8 0,.int .u8 0,.int .u8 0,.int .u8 0,.int .u8 0,.int .u8 0,.int .u8 0,.int .u8 0,.int .u8 0,.int .u8 0,.int .u8 0,.int .u8 0,.int .u8 0,.int .u8 0,.int .u8 0,.int .u8 0,.int .u8 0,.int .u8 0,.int .u8 0,.int .u8 0,.int .u8 0,.int .u8 0,.int .u8 0,.int .u8 0,.int .u8 0,.int .u8 0,.int .u8 0,.int .u8 0,.int .u8 0,.int .u8 0,.int .u8 0] 28))):=hid ((Below.refl _ _).alloc (Nat.le_refl _) _)
 have bN:Hid (Fo w [] (.slice none 0 0) (w.alloc (.cells #[.int .u8 0,.int .u8 0,.int .u8 0,.int .u8 0,.int .u8 0,.int .u8 0,.int .u8 0,.int .u8 0,.int .u8 0,.int .u8 0,.int .u8 0,.int .u8 0,.int .u8 0,.int .u8 0,.int .u8 0,.int .u8 0,.int .u8 0,.int .u8 0,.int .u8 0,.int .u8 0,.int .u8 0,.int .u8 0,.int .u8 0,.int .u8 0,.int .u8 0,.int .u8 0,.int .u8 0,.int .u8 0,.int .u8 0,.int .u8 0,.int .u8 0,.int .u8 0] 28))):=hid ⟨bb.out,heap_alloc_new w _,Ow.nil _ _⟩
 obtain ⟨A1,c1,n1,w2,R1,bK,cf⟩:=bN.out.app (HR.out.below bb.out (Nat.le_refl _)) HL.out cp.out (by simp; have:=HN.out; omega)
 obtain ⟨A2,c2,n2,w3,R2,bI,bA⟩:=bK.out.push 128 128 rfl (by rw [List.nil_append,HL.out]; have:=HN.out; omega)
 have z:=hid (p:=Fo w (pad bs 0) (.slice A2 n2 c2) w3) (by have:=bI.out; simpa [pad] using this)
 have f:=hid (p:=n2=n+1) (by rw [bA.out,List.nil_append,HL.out])
 clear bN bK bI cf bA
 go_enter Tryz.func91,Tryz.ntmps91
 go_wp2_with (first | (at_builtin; refine bj rfl (.const (.slice none 0 0)) (.tmp 11) rfl rfl _ _ rfl rfl (.slice A1 n1 c1) w2 R1.out ?_) | (at_builtin; refine bj rfl (.tmp 12) (.tmp 13) rfl rfl _ _ rfl rfl (.slice A2 n2 c2) w3 R2.out ?_))
 clear R1 R2 bb
 have aE:=hid (show bD n<64 from Nat.mod_lt _ (by decide))
 go_loopw [3] (fun s wr=>∃ (j m c':Nat) (A':Option Addr),j≤bD n∧s=.slice A' m c'∧Hid (m=n+1+j)∧Hid (Fo w (pad bs j) (.slice A' m c') wr)) (fun s _=>n+65 - lenV s)
 case atStart=>exact ⟨0,n2,c2,A2,Nat.zero_le _,rfl,f,z⟩
 case round =>
  clear f z
  obtain ⟨j,m,c',A',hj,rfl,U,HF⟩:=hrel
  have HJ:=hid hj
  clear hj
  by_cases ab:j<bD n
  ·have ao:(m:Int) % 64≠56:=by have Z:=U.out; have h2:=HJ.out; have h3:=ab; unfold bD at h3; omega
   have aQ:(m:Int).tmod 64≠56:=by rw [Int.tmod_eq_emod_of_nonneg (by omega)]; exact ao
   have cw:(((m:Int) % 64) == 56)=false:=by simpa using ao
   have cq:(((m:Int).tmod 64) == 56)=false:=by simpa using aQ
   have bG:=hid ab
   clear ab
   obtain ⟨G,E,n3,w4,R3,z,f⟩:=HF.out.push 0 0 rfl (by rw [ch,HL.out]; have Z:=HN.out; have h2:=HJ.out; have h3:=aE.out; omega)
   have F:=hid (p:=Fo w (pad bs (j+1)) (.slice G n3 E) w4) (by have:=z.out; rwa [pad_step] at this)
   have D:=hid (p:=n3=n+1+(j+1)) (by rw [f.out,ch,HL.out]; omega)
   clear z f
   go_wp2_with (at_builtin; refine bj rfl (.tmp 19) (.tmp 20) rfl rfl _ _ rfl rfl (.slice G n3 E) w4 R3.out ?_)
   refine ⟨⟨j+1,n3,E,G,bG.out,rfl,D,F⟩,?_⟩
   have Z:=U.out; have h2:=D.out; have h3:=bG.out; have h4:=aE.out
   show n+65 - n3<n+65 - m
   omega
  ·obtain rfl:j=bD n:=by have:=HJ.out; omega
   have ao:(m:Int) % 64=56:=by have Z:=U.out; unfold bD at Z; omega
   have aQ:(m:Int).tmod 64=56:=by rw [Int.tmod_eq_emod_of_nonneg (by omega)]; exact ao
   obtain ⟨N,bx⟩:∃ N,N=8 * n:=⟨_,rfl⟩
   have bZ:IntKind.u64.wrap (8 * IntKind.u64.wrap (n:Int))=(N:Int):=by have:=HN.out; rw [IntKind.wrap_u64,IntKind.wrap_u64]; omega
   have bY:IntKind.u64.wrap (8 * (n:Int))=(N:Int):=by have:=HN.out; rw [IntKind.wrap_u64]; omega
   have bR:IntKind.u64.wrap (n:Int)=(n:Int):=by have:=HN.out; rw [IntKind.wrap_u64]; omega
   have cd:=hid bx
   clear bx ab
   go_upto_region 6 with fail
   go_loopw [3,5] (fun s i wr=>∃ (k m c':Nat) (A':Option Addr),k≤8∧i=.int .i64 k∧s=.slice A' m c'∧Hid (m=n+1+bD n+k)∧Hid (Fo w (pad bs (bD n) ++ (be N 8).take k) (.slice A' m c') wr)) (fun _ i _=>8 - (intOf i).toNat)
   case atStart=>exact ⟨0,m,c',A',by omega,rfl,rfl,U,hid (by rw [List.take_zero,List.append_nil]; exact HF.out)⟩
   case round =>
    clear HF U ao aQ bZ bY bR
    obtain ⟨k,m,c',A',hk,rfl,rfl,U,HF⟩:=hrel
    have Y:=hid (show (pad bs (bD n) ++ (be N 8).take k).length+1≤140737488355328 by rw [List.length_append,ch,List.length_take,aj,HL.out]; have Z:=HN.out; have h2:=aE.out; omega)
    rcases (show k=0∨k=1∨k=2∨k=3∨k=4∨k=5∨k=6∨k=7∨k=8 by omega) with rfl | rfl | rfl | rfl | rfl | rfl | rfl | rfl | rfl
    ·obtain ⟨G,E,n3,w4,R3,z,f⟩:=HF.out.push (UInt8.ofNat (N / 256 ^ (7 - 0))) ((N:Int) / 72057594037927936 % 256) (by rw [UInt8.toNat_ofNat']; omega) Y.out
     have F:=hid (p:=Fo w (pad bs (bD n) ++ (be N 8).take (0+1)) (.slice G n3 E) w4) (by have:=z.out; rw [List.append_assoc,← be_take N 0 (by decide)] at this; exact this)
     have D:=hid (p:=n3=n+1+bD n+1) (by rw [f.out,List.length_append,ch,List.length_take,aj,HL.out]; omega)
     clear z f
     go_wp2_with (at_builtin; refine bj rfl (.tmp 30) (.tmp 37) rfl rfl _ _ rfl rfl (.slice G n3 E) w4 R3.out ?_)
     exact ⟨⟨1,n3,E,G,by decide,by go_num,rfl,D,F⟩,by simp [intOf]⟩
    ·obtain ⟨G,E,n3,w4,R3,z,f⟩:=HF.out.push (UInt8.ofNat (N / 256 ^ (7 - 1))) ((N:Int) / 281474976710656 % 256) (by rw [UInt8.toNat_ofNat']; omega) Y.out
     have F:=hid (p:=Fo w (pad bs (bD n) ++ (be N 8).take (1+1)) (.slice G n3 E) w4) (by have:=z.out; rw [List.append_assoc,← be_take N 1 (by decide)] at this; exact this)
     have D:=hid (p:=n3=n+1+bD n+2) (by rw [f.out,List.length_append,ch,List.length_take,aj,HL.out]; omega)
     clear z f
     go_wp2_with (at_builtin; refine bj rfl (.tmp 30) (.tmp 37) rfl rfl _ _ rfl rfl (.slice G n3 E) w4 R3.out ?_)
     exact ⟨⟨2,n3,E,G,by decide,by go_num,rfl,D,F⟩,by simp [intOf]⟩
    ·obtain ⟨G,E,n3,w4,R3,z,f⟩:=HF.out.push (UInt8.ofNat (N / 256 ^ (7 - 2))) ((N:Int) / 1099511627776 % 256) (by rw [UInt8.toNat_ofNat']; omega) Y.out
     have F:=hid (p:=Fo w (pad bs (bD n) ++ (be N 8).take (2+1)) (.slice G n3 E) w4) (by have:=z.out; rw [List.append_assoc,← be_take N 2 (by decide)] at this; exact this)
     have D:=hid (p:=n3=n+1+bD n+3) (by rw [f.out,List.length_append,ch,List.length_take,aj,HL.out]; omega)
     clear z f
     go_wp2_with (at_builtin; refine bj rfl (.tmp 30) (.tmp 37) rfl rfl _ _ rfl rfl (.slice G n3 E) w4 R3.out ?_)
     exact ⟨⟨3,n3,E,G,by decide,by go_num,rfl,D,F⟩,by simp [intOf]⟩
    ·obtain ⟨G,E,n3,w4,R3,z,f⟩:=HF.out.push (UInt8.ofNat (N / 256 ^ (7 - 3))) ((N:Int) / 4294967296 % 256) (by rw [UInt8.toNat_ofNat']; omega) Y.out
     have F:=hid (p:=Fo w (pad bs (bD n) ++ (be N 8).take (3+1)) (.slice G n3 E) w4) (by have:=z.out; rw [List.append_assoc,← be_take N 3 (by decide)] at this; exact this)
     have D:=hid (p:=n3=n+1+bD n+4) (by rw [f.out,List.length_append,ch,List.length_take,aj,HL.out]; omega)
     clear z f
     go_wp2_with (at_builtin; refine bj rfl (.tmp 30) (.tmp 37) rfl rfl _ _ rfl rfl (.slice G n3 E) w4 R3.out ?_)
     exact ⟨⟨4,n3,E,G,by decide,by go_num,rfl,D,F⟩,by simp [intOf]⟩
    ·obtain ⟨G,E,n3,w4,R3,z,f⟩:=HF.out.push (UInt8.ofNat (N / 256 ^ (7 - 4))) ((N:Int) / 16777216 % 256) (by rw [UInt8.toNat_ofNat']; omega) Y.out
     have F:=hid (p:=Fo w (pad bs (bD n) ++ (be N 8).take (4+1)) (.slice G n3 E) w4) (by have:=z.out; rw [List.append_assoc,← be_take N 4 (by decide)] at this; exact this)
     have D:=hid (p:=n3=n+1+bD n+5) (by rw [f.out,List.length_append,ch,List.length_take,aj,HL.out]; omega)
     clear z f
     go_wp2_with (at_builtin; refine bj rfl (.tmp 30) (.tmp 37) rfl rfl _ _ rfl rfl (.slice G n3 E) w4 R3.out ?_)
     exact ⟨⟨5,n3,E,G,by decide,by go_num,rfl,D,F⟩,by simp [intOf]⟩
    ·obtain ⟨G,E,n3,w4,R3,z,f⟩:=HF.out.push (UInt8.ofNat (N / 256 ^ (7 - 5))) ((N:Int) / 65536 % 256) (by rw [UInt8.toNat_ofNat']; omega) Y.out
     have F:=hid (p:=Fo w (pad bs (bD n) ++ (be N 8).take (5+1)) (.slice G n3 E) w4) (by have:=z.out; rw [List.append_assoc,← be_take N 5 (by decide)] at this; exact this)
     have D:=hid (p:=n3=n+1+bD n+6) (by rw [f.out,List.length_append,ch,List.length_take,aj,HL.out]; omega)
     clear z f
     go_wp2_with (at_builtin; refine bj rfl (.tmp 30) (.tmp 37) rfl rfl _ _ rfl rfl (.slice G n3 E) w4 R3.out ?_)
     exact ⟨⟨6,n3,E,G,by decide,by go_num,rfl,D,F⟩,by simp [intOf]⟩
    ·obtain ⟨G,E,n3,w4,R3,z,f⟩:=HF.out.push (UInt8.ofNat (N / 256 ^ (7 - 6))) ((N:Int) / 256 % 256) (by rw [UInt8.toNat_ofNat']; omega) Y.out
     have F:=hid (p:=Fo w (pad bs (bD n) ++ (be N 8).take (6+1)) (.slice G n3 E) w4) (by have:=z.out; rw [List.append_assoc,← be_take N 6 (by decide)] at this; exact this)
     have D:=hid (p:=n3=n+1+bD n+7) (by rw [f.out,List.length_append,ch,List.length_take,aj,HL.out]; omega)
     clear z f
     go_wp2_with (at_builtin; refine bj rfl (.tmp 30) (.tmp 37) rfl rfl _ _ rfl rfl (.slice G n3 E) w4 R3.out ?_)
     exact ⟨⟨7,n3,E,G,by decide,by go_num,rfl,D,F⟩,by simp [intOf]⟩
    ·obtain ⟨G,E,n3,w4,R3,z,f⟩:=HF.out.push (UInt8.ofNat (N / 256 ^ (7 - 7))) ((N:Int) % 256) (by rw [UInt8.toNat_ofNat']; omega) Y.out
     have F:=hid (p:=Fo w (pad bs (bD n) ++ (be N 8).take (7+1)) (.slice G n3 E) w4) (by have:=z.out; rw [List.append_assoc,← be_take N 7 (by decide)] at this; exact this)
     have D:=hid (p:=n3=n+1+bD n+8) (by rw [f.out,List.length_append,ch,List.length_take,aj,HL.out]; omega)
     clear z f
     go_wp2_with (at_builtin; refine bj rfl (.tmp 30) (.tmp 37) rfl rfl _ _ rfl rfl (.slice G n3 E) w4 R3.out ?_)
     exact ⟨⟨8,n3,E,G,by decide,by go_num,rfl,D,F⟩,by simp [intOf]⟩
    ·have aG:=hid (p:=Fo w (full bs) (.slice A' m c') wr) (by have:=HF.out; rw [List.take_of_length_le (by rw [aj]; decide),cd.out,← HL.out,pad_full] at this; exact this)
     have ad:=hid (p:=m=(full bs).length) (by rw [U.out,full,List.length_append,dP,HL.out]; omega)
     clear HF U Y
     have ay:=hid (aG.out.alloc (.cells #[.int .u32 1779033703,.int .u32 3144134277,.int .u32 1013904242,.int .u32 2773480762,.int .u32 1359893119,.int .u32 2600822924,.int .u32 528734635,.int .u32 1541459225] 71))
     have ba:Hid (Us (wr.alloc (.cells #[.int .u32 1779033703,.int .u32 3144134277,.int .u32 1013904242,.int .u32 2773480762,.int .u32 1359893119,.int .u32 2600822924,.int .u32 528734635,.int .u32 1541459225] 71)) wr.heap.size 71 hh):=hid (heap_alloc_new _ _)
     have bd:=aG.out.sz
     go_wp2_with fail
     generalize wr.alloc (.cells #[.int .u32 1779033703,.int .u32 3144134277,.int .u32 1013904242,.int .u32 2773480762,.int .u32 1359893119,.int .u32 2600822924,.int .u32 528734635,.int .u32 1541459225] 71)=w9 at *
     obtain ⟨ga,rfl,bS,bo,aR,bW,al⟩:=ow_at ay.out.own (by rw [← ad.out,ad.out,full,List.length_append,dP]; omega)
     have bu:ga<wr.heap.size:=by
      rcases aG.out.own.2 with ⟨Z,_⟩ | ⟨g',cH,cE,Z,_,bU,_⟩
      ·injection Z with e1; cases e1
      ·injection Z with e1; injection e1 with e1; injection e1 with e1; subst e1; exact lt_of_block bU
     generalize bq:wr.heap.size=gh at *
     have cj:=hid bo
     have aK:=hid (p:=∀ gt W,Us W gt 70 kk→Below w9.heap.size w9 W→gt=w9.heap.size→Lo w (full bs) ga gh gt hh W) (fun gt W hk hb cz=>by
      have cx:=ba.out.lt
      exact ⟨ay.out.below.trans (hb.mono ay.out.below.size),ay.out.z.on hb,ba.out.on hb,hk,fun j hj=>(hb.cell (p:=⟨ga,0+j,none⟩) aR).trans (al j hj),Nat.lt_of_lt_of_le aR hb.size,by omega,by omega,by omega⟩)
     clear al aR bW bd bu bq bS bo
     refine (table_any w9).mono ?_
     rintro e w10 ⟨rfl,aI,aJ⟩
     have V:=hid (aK.out _ w10 aI.out aJ rfl)
     clear aK ay ba aG aI aJ
     generalize w9.heap.size=gt at *
     have HD:=hid (full_whole bs)
     go_wp2_with fail
     go_loopw [8] (fun i wr=>∃ (q O:Nat) (I:List Nat),i=.int .i64 O∧O≤m∧Hid (O=64 * q)∧Hid (I=eat hh (full bs) q)∧Hid (Lo w (full bs) ga gh gt I wr)) (fun i _=>m - (intOf i).toNat)
     case atStart=>exact ⟨0,0,hh,rfl,Nat.zero_le _,hid rfl,hid rfl,V⟩
     case round =>
      clear V
      obtain ⟨q,O,I,rfl,bp,ax,ar,V⟩:=hrel
      have cl:=hid bp
      clear bp
      by_cases ab:O<m
      ·have aT:O+64≤m:=by have Z:=ad.out; have h2:=HD.out; have h3:=ax.out; omega
       have cs:(O:Int)<(m:Int):=by omega
       obtain ⟨an,ap⟩:∃ an,an=O+64:=⟨_,rfl⟩
       have ct:=slice_blk ga m c' O an ap aT cj.out
       have hw:IntKind.i64.wrap ((O:Int)+64)=(an:Int):=by have Z:=ad.out; have h2:=HN.out; have h3:=HL.out; rw [IntKind.wrap_i64]; rw [full,List.length_append,dP] at Z; have h4:=aE.out; rw [h3] at Z; omega
       have M:=hid (show I.length=8 by rw [ar.out]; exact so_length _ _)
       have cb:=hid (show Sm I by rw [ar.out]; exact so_sm _ _)
       have aM:=hid (show ((full bs).drop O |>.take 64).length=64 by have Z:=ad.out; simp; omega)
       have co:=hid (p:=∀ j,(hj:j<((full bs).drop O |>.take 64).length)→wr.drew.cell? ⟨ga,O+j,none⟩=some (.int .u8 ((((full bs).drop O |>.take 64)[j].toNat:Nat):Int))) (fun j hj=>by
        have Z:=ad.out
        have cy:j<64:=by rw [aM.out] at hj; exact hj
        have h2:=V.out.b (O+j) (by omega)
        rw [Nat.zero_add] at h2
        refine Eq.trans h2 ?_
        simp)
       have aL:=hi56 I M.out
       rw [dx,← cC] at aL
       have hR:wr.drew.rangeAt gh 0 (dv I):=V.out.h.range
       have bP:=hid aT
       have aW:=hid ap
       clear ap aT
       go_wp2_with fail
       refine wp_region_noPanic ?_
       refine aa.region (fun (L:Array Bool) (wX:World)=>(L.getD 8 true=false→wX.rangeAt gh 0 (dv I))) (by as_aux_lemma=>kernel_rfl) ?_
       refine aa.take (i:=0) (o:=⟨some 47,_,_,_,_,_⟩) [8] rfl (by as_aux_lemma=>kernel_rfl) (by as_aux_lemma=>kernel_rfl) (by as_aux_lemma=>kernel_rfl) (fun _ _ _ h=>h) (by as_aux_lemma=>kernel_rfl) (fun L u h e=>h (by rw [getD_set_ne true (by decide)]; exact e)) (yieldsIf_load_mid (by rfl) 71 (.tmp 6) rfl gh 0 rfl (dv I) _ (fun W hY=>by obtain ⟨up,hU,hL⟩:=hY; exact hL (hU 8 (by simp))) Tryz.underlying71 rfl aL.out) (fun _=>hR) ?_
       try simp only [ac]
       refine aa.take (i:=1) (o:=⟨some 48,_,_,_,_,_⟩) (v:=?_) [] rfl (by as_aux_lemma=>kernel_rfl) (by as_aux_lemma=>kernel_rfl) (by as_aux_lemma=>kernel_rfl) (fun _ _ _ h=>h) (by as_aux_lemma=>kernel_rfl) (fun L u h e=>h (by rw [getD_set_ne true (by decide)]; exact e)) (Or.inl ⟨by rfl,?_⟩) (fun _=>hR) ?_
       rotate_left
       ·intro w hY; go_simp; try with_reducible rfl
       try simp only [ac]
       refine aa.take (i:=2) (o:=⟨some 49,_,_,_,_,_⟩) (v:=?_) [] rfl (by as_aux_lemma=>kernel_rfl) (by as_aux_lemma=>kernel_rfl) (by as_aux_lemma=>kernel_rfl) (fun _ _ _ h=>h) (by as_aux_lemma=>kernel_rfl) (fun L u h e=>h (by rw [getD_set_ne true (by decide)]; exact e)) (Or.inl ⟨by rfl,?_⟩) (fun _=>hR) ?_
       rotate_left
       ·intro w hY; go_simp; try with_reducible rfl
       try simp only [ac]
       refine aa.take (i:=3) (o:=⟨some 50,_,_,_,_,_⟩) (v:=?_) [] rfl (by as_aux_lemma=>kernel_rfl) (by as_aux_lemma=>kernel_rfl) (by as_aux_lemma=>kernel_rfl) (fun _ _ _ h=>h) (by as_aux_lemma=>kernel_rfl) (fun L u h e=>h (by rw [getD_set_ne true (by decide)]; exact e)) (Or.inl ⟨by rfl,?_⟩) (fun _=>hR) ?_
       rotate_left
       ·intro w hY; go_simp; try with_reducible rfl
       try simp only [ac]
       refine aa.take (i:=4) (o:=⟨some 51,_,_,_,_,_⟩) (v:=?_) [] rfl (by as_aux_lemma=>kernel_rfl) (by as_aux_lemma=>kernel_rfl) (by as_aux_lemma=>kernel_rfl) (fun _ _ _ h=>h) (by as_aux_lemma=>kernel_rfl) (fun L u h e=>h (by rw [getD_set_ne true (by decide)]; exact e)) (Or.inl ⟨by rfl,?_⟩) (fun _=>hR) ?_
       rotate_left
       ·intro w hY; go_simp; try with_reducible rfl
       try simp only [ac]
       refine aa.take (i:=5) (o:=⟨some 52,_,_,_,_,_⟩) (v:=?_) [] rfl (by as_aux_lemma=>kernel_rfl) (by as_aux_lemma=>kernel_rfl) (by as_aux_lemma=>kernel_rfl) (fun _ _ _ h=>h) (by as_aux_lemma=>kernel_rfl) (fun L u h e=>h (by rw [getD_set_ne true (by decide)]; exact e)) (Or.inl ⟨by rfl,?_⟩) (fun _=>hR) ?_
       rotate_left
       ·intro w hY; go_simp; try with_reducible rfl
       try simp only [ac]
       refine aa.take (i:=6) (o:=⟨some 53,_,_,_,_,_⟩) (v:=?_) [] rfl (by as_aux_lemma=>kernel_rfl) (by as_aux_lemma=>kernel_rfl) (by as_aux_lemma=>kernel_rfl) (fun _ _ _ h=>h) (by as_aux_lemma=>kernel_rfl) (fun L u h e=>h (by rw [getD_set_ne true (by decide)]; exact e)) (Or.inl ⟨by rfl,?_⟩) (fun _=>hR) ?_
       rotate_left
       ·intro w hY; go_simp; try with_reducible rfl
       try simp only [ac]
       refine aa.one (i:=7) (o:=⟨some 54,_,_,_,_,_⟩) (by as_aux_lemma=>kernel_rfl) rfl (fun K hK=>?_)
       go_simp
       refine (block_any I ((full bs).drop O |>.take 64) ga O gt (c' - O) _ M.out cb.out aM.out co.out V.out.la V.out.k).mono ?_
       rintro e' wb ⟨rfl,bv⟩
       go_wp2_with fail
       have aU:=hid (V.out.drew.on bv)
       have aS:wb.rangeAt gh 0 (dv I):=aU.out.h.range
       refine hK.out _ _ (fun _=>aS) ?_
       clear hK K hR bv
       have hR:=aS
       clear aS
       try simp only [ac]
       refine aa.one (i:=8) (o:=⟨none,_,_,_,_,_⟩) (by as_aux_lemma=>kernel_rfl) rfl (fun K hK=>?_)
       refine step_store_mid rfl 71 (.tmp 6) (.tmp 54) rfl gh 0 (dv (comp I ((full bs).drop O |>.take 64))).toArray rfl rfl (by rw [dx,bT _ _ M.out]; exact aU.out.h.there 8 (by rw [M.out]; exact Nat.le_refl _)) (hi56 _ (bT _ _ M.out)).out (dv_all _) ?_
       refine hK.out _ _ (fun e=>absurd e (by as_aux_lemma=>decide +kernel)) ?_
       clear hK K
       try simp only [ac]
       refine aa.done (by as_aux_lemma=>kernel_rfl) ?_ _
       refine NoPanic.normal ?_
       go_wp2
       have ck:=hid (aU.out.cells (m:=comp I ((full bs).drop O |>.take 64)) (M.out.trans (bT _ _ M.out).symm))
       refine ⟨⟨q+1,an,comp I ((full bs).drop O |>.take 64),rfl,by rw [aW.out]; exact bP.out,hid (by rw [aW.out,ax.out]; omega),hid (by rw [eat,← ar.out,← ax.out]),ck⟩,?_⟩
       have Z:=bP.out
       have h2:=aW.out
       simp [intOf]
       omega
      ·obtain rfl:O=m:=by have:=cl.out; omega
       have bz:=hid (p:=I=eat hh (full bs) ((full bs).length / 64)) (by rw [ar.out]; congr 1; have Z:=ad.out; have h2:=ax.out; omega)
       have M:=hid (show I.length=8 by rw [bz.out]; exact so_length _ _)
       have J:=V.out.out
       clear V ar ax ab
       go_wp2_with fail
       generalize bQ:wr.alloc (.cells #[.int .u8 0,.int .u8 0,.int .u8 0,.int .u8 0,.int .u8 0,.int .u8 0,.int .u8 0,.int .u8 0,.int .u8 0,.int .u8 0,.int .u8 0,.int .u8 0,.int .u8 0,.int .u8 0,.int .u8 0,.int .u8 0,.int .u8 0,.int .u8 0,.int .u8 0,.int .u8 0,.int .u8 0,.int .u8 0,.int .u8 0,.int .u8 0,.int .u8 0,.int .u8 0,.int .u8 0,.int .u8 0,.int .u8 0,.int .u8 0,.int .u8 0,.int .u8 0] 28)=w4 at *
       generalize bV:wr.heap.size=go at *
       clear bQ bV
       go_loopw [10] (fun i wr=>∃ (k:Nat) (mm:List UInt8),k≤32∧i=.int .i64 k∧Hid (Lq w gh go I mm wr)∧Hid (mm.length=32)∧Hid (∀ j,j<k→mm[j]?=some (sb I j))) (fun i _=>32 - (intOf i).toNat)
       case atStart=>exact ⟨0,List.replicate 32 0,by omega,rfl,J,hid rfl,hid (fun j hj=>absurd hj (Nat.not_lt_zero _))⟩
       case round =>
        clear J
        obtain ⟨k,mm,hk,rfl,J,U,HA⟩:=hrel
        by_cases ab:k<32
        ·obtain ⟨q4,bk⟩:∃ q:Nat,q=k / 4:=⟨_,rfl⟩
         have cu:(k:Int) / 4=(q4:Int):=by omega
         have cv:q4<8:=by omega
         have aC:=hid bk
         clear bk
         have cB:=J.out.h.cell q4 (by have:=M.out; omega)
         have bX:=J.out.m.cell k (by have:=U.out; omega)
         have cA:=J.out.m.frozen k
         generalize (mm[k]'(by have:=U.out; omega)).toNat=old at bX
         rcases (show k % 4=0∨k % 4=1∨k % 4=2∨k % 4=3 by omega) with R | R | R | R
         ·have aN:(k:Int) % 4=0:=by omega
          have HV:=hid (sb_val I k 0 R)
          rw [← aC.out] at HV
          have HR:=hid R
          clear R
          go_wp2
          refine ⟨⟨k+1,mm.set k (sb I k),by omega,by go_num,?_,hid (by rw [List.length_set]; exact U.out),hid ?_⟩,by simp [intOf]; omega⟩
          ·have:=J.out.set k (sb I k)
           rw [HV.out] at this
           simpa using hid this
          ·intro j hj
           rw [List.getElem?_set]
           by_cases h:k=j
           ·subst h; rw [if_pos rfl,if_pos (by have:=U.out; omega)]
           ·rw [if_neg h]; exact HA.out j (by omega)
         ·have aN:(k:Int) % 4=1:=by omega
          have HV:=hid (sb_val I k 1 R)
          rw [← aC.out] at HV
          have HR:=hid R
          clear R
          go_wp2
          refine ⟨⟨k+1,mm.set k (sb I k),by omega,by go_num,?_,hid (by rw [List.length_set]; exact U.out),hid ?_⟩,by simp [intOf]; omega⟩
          ·have:=J.out.set k (sb I k)
           rw [HV.out] at this
           simpa using hid this
          ·intro j hj
           rw [List.getElem?_set]
           by_cases h:k=j
           ·subst h; rw [if_pos rfl,if_pos (by have:=U.out; omega)]
           ·rw [if_neg h]; exact HA.out j (by omega)
         ·have aN:(k:Int) % 4=2:=by omega
          have HV:=hid (sb_val I k 2 R)
          rw [← aC.out] at HV
          have HR:=hid R
          clear R
          go_wp2
          refine ⟨⟨k+1,mm.set k (sb I k),by omega,by go_num,?_,hid (by rw [List.length_set]; exact U.out),hid ?_⟩,by simp [intOf]; omega⟩
          ·have:=J.out.set k (sb I k)
           rw [HV.out] at this
           simpa using hid this
          ·intro j hj
           rw [List.getElem?_set]
           by_cases h:k=j
           ·subst h; rw [if_pos rfl,if_pos (by have:=U.out; omega)]
           ·rw [if_neg h]; exact HA.out j (by omega)
         ·have aN:(k:Int) % 4=3:=by omega
          have HV:=hid (sb_val I k 3 R)
          rw [← aC.out] at HV
          have HR:=hid R
          clear R
          go_wp2
          refine ⟨⟨k+1,mm.set k (sb I k),by omega,by go_num,?_,hid (by rw [List.length_set]; exact U.out),hid ?_⟩,by simp [intOf]; omega⟩
          ·have:=J.out.set k (sb I k)
           rw [HV.out] at this
           simpa using hid this
          ·intro j hj
           rw [List.getElem?_set]
           by_cases h:k=j
           ·subst h; rw [if_pos rfl,if_pos (by have:=U.out; omega)]
           ·rw [if_neg h]; exact HA.out j (by omega)
        ·obtain rfl:k=32:=by omega
         have bn:mm=spell I:=by
          apply List.ext_getElem?
          intro j
          rcases Nat.lt_or_ge j 32 with h | h
          ·rw [HA.out j h,spell_at I j (by have:=M.out; omega)]; rfl
          ·rw [List.getElem?_eq_none (by have:=U.out; omega),List.getElem?_eq_none (by rw [spell_length,M.out]; exact h)]
         have bm:mm=sha bs:=by rw [bn,bz.out]; rfl
         have aB:Hid (Lq w gh go I (sha bs) wr):=hid (bm ▸ J.out)
         have bO:=hid (dD bs)
         clear J U HA bn bm
         generalize R:sha bs=r at *
         have ca:=hid R
         clear R
         have HI:=hi44 r bO.out
         have cc:Hid ((au (List.replicate 32 0)).toArray.size=(au r).toArray.size):=hid (by rw [aw,aw,bO.out,List.length_replicate])
         have HZ:=hid (aB.out.z.row (m:=r))
         have cn:=hid (p:=Below w.heap.size w (wr.setRow w.heap.size (au r).toArray)) (below_setRow aB.out.below (Nat.le_refl _) _)
         go_upto_region 20 with fail
         have cm:=bF r
         have aA:=aB.out.m
         have az:=aB.out.z
         unfold Bt at aA az
         have aA:=hid aA
         have az:=hid az
         go_wp2_with (first | (refine wpList_load_row rfl 28 (.tmp 9) rfl go rfl 28 (au r).toArray (0,0) _ aA.out Tryz.underlying28 rfl HI.out ?_) | (refine wpList_store_row rfl 28 (.tmp 2) (.tmp 71) rfl w.heap.size (au r).toArray rfl rfl 28 _ az.out HI.out cc.out cm ?_))
         exact bodyPost_ret (v:=.agg (au r).toArray) (results_cell_row (p:=2) (ty:=28) Tryz.results91 _ _ w.heap.size 28 (au r).toArray (0,0) _ rfl HZ.out Tryz.underlying28 rfl HI.out) rfl ⟨by rw [ca.out],cn.out⟩
end
end Go.Proofs.YtmapkbdjnnionaaGreatDoor

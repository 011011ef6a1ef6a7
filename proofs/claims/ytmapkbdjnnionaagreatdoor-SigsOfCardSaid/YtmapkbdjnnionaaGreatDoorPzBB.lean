import Derived.Test.YtmapkbdjnnionaaGreatDoorPzAW
import Derived.Test.YtmapkbdjnnionaaGreatDoorPzAZ
import Derived.Test.YtmapkbdjnnionaaGreatDoorPzBA
set_option maxRecDepth 100000
set_option maxHeartbeats 8000000
set_option linter.all false
namespace Go.Proofs.YtmapkbdjnnionaaGreatDoor
section
open Go.RowKit
def flat (xs:Nat→List UInt8):Nat→List UInt8
 | 0=>[]
 | k+1=>flat xs k ++ (be (xs k).length 4 ++ xs k)
def cG (s:List UInt8) (n:Nat) (xs:Nat→List UInt8) (k:Nat):List UInt8:=((be s.length 4 ++ s) ++ be n 4) ++ flat xs k
theorem flat_length (f:Nat→List UInt8) (k:Nat) (h:∀ r,r<k→(f r).length≤1048576):(flat f k).length≤k * 1048580:=by
 induction k with
 | zero=>simp [flat]
 | succ k ih =>
  have E:=ih (fun r z=>h r (by omega))
  have D:=h k (by omega)
  rw [flat,List.length_append,List.length_append,aj]
  omega
theorem spelt_length (s:List UInt8) (n:Nat) (f:Nat→List UInt8) (k:Nat) (h:∀ r,r<k→(f r).length≤1048576):(cG s n f k).length≤s.length+8+k * 1048580:=by
 have:=flat_length f k h
 simp only [cG,List.length_append,aj]
 omega
theorem conv_str (s:ByteArray) (w:World):∃ D w2,Hid ((convert 9 66 (.string s)).run Tryz.prog w=.ok (.slice (some ⟨w.heap.size,0,none⟩) s.size D) w2)∧Hid (Rd w2 (some ⟨w.heap.size,0,none⟩) s.data.toList)∧Hid (Below w.heap.size w w2):=by
 refine ⟨_,_,hid (run_bytes_of_string w 9 66 5 s Tryz.underlying9 Tryz.underlying66 Tryz.underlying5),hid ?_,hid ((Below.refl w.heap.size w).drew.alloc (Nat.le_refl _) _)⟩
 intro F
 refine ⟨w.heap.size,0,rfl,by simp,fun j E=>?_⟩
 have hh:∀ o:Obj,(w.drew.alloc o).heap[w.heap.size]?=some o:=fun o=>heap_alloc_new w.drew o
 rw [cell_of_row _ _ _ _ 5 _ (hh _)]
 have f:j<s.data.size:=by simpa using E
 have z:j<s.size:=f
 simp [bytesRow,Array.getElem?_append,f,z]
theorem pb_at (B:Option Addr) (d n:Nat) (f:List UInt8) (w:World) (E:f.length=n) (z:Rd w B f) (D:n≤140737488351232) :
  Calls Tryz.prog 103 #[.slice none 0 0,.slice B n d] w fun e w'=>e=.returned (.slice (some ⟨w.heap.size,0,none⟩) (4+n) (4+n))∧Hid (Row w' w.heap.size (be n 4 ++ f))∧Hid (Below w.heap.size w w'):=by
 subst E
 refine (putBytes_any none B 0 d [] f w (Rd.nil _ _) z (by decide) D).mono ?_
 rintro e w1 ⟨rfl,G,F⟩
 exact ⟨by simp,hid (by simpa using G),hid F⟩
theorem pn_at (n:Nat) (w:World) (f:n<18446744073709551616) :
  Calls Tryz.prog 104 #[.slice none 0 0,.int .u64 (n:Int),.int .i64 4] w fun e w'=>e=.returned (.slice (some ⟨w.heap.size,0,none⟩) 4 4)∧Hid (Row w' w.heap.size (be n 4))∧Hid (Below w.heap.size w w'):=by
 refine (put_any none 0 n 4 4 [] w (Rd.nil _ _) (by decide) f (by decide)).mono ?_
 rintro e w1 ⟨rfl,D,z⟩
 exact ⟨by simp,hid (by simpa using D),hid z⟩
theorem add_cb {w wr:World} {g:Nat} {bs:List UInt8} {l:List (Nat×List UInt8)} (H:Hid (Cb w g bs l wr)) (A:Option Addr) (c n:Nat) (dR:List UInt8) (G:dR.length=n) (F:Rd wr A dR) (I:0<n→∀ E,A=some E→E.block≠g) (hc:n≤c) (f:bs.length+n≤140737488355328) :
  Calls Tryz.prog 102 #[.pointer (some ⟨g,0,none⟩),.slice A n c] wr fun e w'=>e=.returned (.tuple #[])∧Hid (Cb w g (bs ++ dR) l w'):=by
 refine (add_any g A c bs dR wr n G H.out.1.run F I hc H.out.1.kt H.out.1.n3 f).mono ?_
 rintro e w1 ⟨rfl,J,D⟩
 exact ⟨rfl,hid ⟨H.out.1.put J D,fun p z=>⟨(H.out.2 p z).1.grown D (H.out.2 p z).2,(H.out.2 p z).2⟩⟩⟩
theorem Cb.fresh {w wr:World} {g:Nat} {bs:List UInt8} {l:List (Nat×List UInt8)} (H:Cb w g bs l wr):wr.heap.size≠g:=Nat.ne_of_gt H.1.run.lt
theorem as_any (f:ByteArray) (a0:Option Addr) (z c0:Nat) (A:Nat→Option Addr) (L C:Nat→Nat) (E:Nat→List UInt8) (w:World) (hR:Rws w a0 z A L C E) (hK:Kt w) (hn:z≤1000) (hL:∀ r,r<z→L r≤1048576) (hs:f.size≤1000000) :
  Calls Tryz.prog 84 #[.string f,.slice a0 z c0] w fun e w'=>e=.returned (.agg (au (sha (cG f.data.toList z E z))).toArray)∧Below w.heap.size w w':=by
 have HR:=hid hR
 have HK:=hid hK
 have HL:=hid hL
 have HN:=hid hn
 have HS:=hid hs
 have D:=hid (show f.data.toList.length=f.size by rw [Array.length_toList]; rfl)
 clear hR hK hL hs
 go_enter Tryz.func84,Tryz.ntmps84
 go_wp2_with fail
 have bu:Hid (Bt (w.alloc (.cells #[.int .u8 0,.int .u8 0,.int .u8 0,.int .u8 0,.int .u8 0,.int .u8 0,.int .u8 0,.int .u8 0,.int .u8 0,.int .u8 0,.int .u8 0,.int .u8 0,.int .u8 0,.int .u8 0,.int .u8 0,.int .u8 0,.int .u8 0,.int .u8 0,.int .u8 0,.int .u8 0,.int .u8 0,.int .u8 0,.int .u8 0,.int .u8 0,.int .u8 0,.int .u8 0,.int .u8 0,.int .u8 0,.int .u8 0,.int .u8 0,.int .u8 0,.int .u8 0] 28)) w.heap.size 28 (List.replicate 32 0)):=hid (heap_alloc_new w _)
 have J:Hid (Below w.heap.size w (w.alloc (.cells #[.int .u8 0,.int .u8 0,.int .u8 0,.int .u8 0,.int .u8 0,.int .u8 0,.int .u8 0,.int .u8 0,.int .u8 0,.int .u8 0,.int .u8 0,.int .u8 0,.int .u8 0,.int .u8 0,.int .u8 0,.int .u8 0,.int .u8 0,.int .u8 0,.int .u8 0,.int .u8 0,.int .u8 0,.int .u8 0,.int .u8 0,.int .u8 0,.int .u8 0,.int .u8 0,.int .u8 0,.int .u8 0,.int .u8 0,.int .u8 0,.int .u8 0,.int .u8 0] 28))):=hid ((Below.refl _ _).alloc (Nat.le_refl _) _)
 have bv:Hid (w.heap.size<(w.alloc (.cells #[.int .u8 0,.int .u8 0,.int .u8 0,.int .u8 0,.int .u8 0,.int .u8 0,.int .u8 0,.int .u8 0,.int .u8 0,.int .u8 0,.int .u8 0,.int .u8 0,.int .u8 0,.int .u8 0,.int .u8 0,.int .u8 0,.int .u8 0,.int .u8 0,.int .u8 0,.int .u8 0,.int .u8 0,.int .u8 0,.int .u8 0,.int .u8 0,.int .u8 0,.int .u8 0,.int .u8 0,.int .u8 0,.int .u8 0,.int .u8 0,.int .u8 0,.int .u8 0] 28)).heap.size):=hid (by simp)
 generalize w.alloc (.cells #[.int .u8 0,.int .u8 0,.int .u8 0,.int .u8 0,.int .u8 0,.int .u8 0,.int .u8 0,.int .u8 0,.int .u8 0,.int .u8 0,.int .u8 0,.int .u8 0,.int .u8 0,.int .u8 0,.int .u8 0,.int .u8 0,.int .u8 0,.int .u8 0,.int .u8 0,.int .u8 0,.int .u8 0,.int .u8 0,.int .u8 0,.int .u8 0,.int .u8 0,.int .u8 0,.int .u8 0,.int .u8 0,.int .u8 0,.int .u8 0,.int .u8 0,.int .u8 0] 28)=w1 at *
 refine (new_at w1 (HK.out.on J.out)).mono ?_
 rintro e w2 ⟨g,rfl,H2⟩
 have bk:=H2.out.new
 have aT:=hid (p:=Cb w1 g [] [(w.heap.size,List.replicate 32 0)] w2) ⟨H2.out,fun p hp=>by
  obtain rfl:=List.mem_singleton.1 hp
  have hs:=bv.out
  exact ⟨bu.out.on H2.out.below,by show w.heap.size≠g; omega⟩⟩
 obtain ⟨bp,w3,RC,U,ba⟩:=conv_str f w2
 have ar:=hid (aT.out.on ba.out)
 have bm:=RC.out
 go_wp2_with fail
 clear bm RC bk H2 aT ba
 generalize w2.heap.size=gs at *
 refine (pb_at (some ⟨gs,0,none⟩) bp f.size f.data.toList w3 D.out U.out (by have:=HS.out; omega)).mono ?_
 rintro e w4 ⟨rfl,I,aB⟩
 have aS:=hid (ar.out.on aB.out)
 have aG:=hid I.out.rd0
 have aL:=hid ar.out.fresh
 clear I aB ar U
 go_wp2_with fail
 refine (add_cb aS (some ⟨w3.heap.size,0,none⟩) (4+f.size) (4+f.size) (be f.size 4 ++ f.data.toList) (by rw [List.length_append,aj,D.out]) aG.out (fun _ ad e=>by injection e with e; subst e; exact aL.out) (Nat.le_refl _) (by have:=HS.out; simp; omega)).mono ?_
 rintro e w5 ⟨rfl,ap⟩
 clear aS aG aL
 have hw:IntKind.u64.wrap (z:Int)=(z:Int):=by rw [IntKind.wrap_u64]; omega
 go_wp2_with fail
 refine (pn_at z w5 (by omega)).mono ?_
 rintro e w6 ⟨rfl,G,aA⟩
 have aR:=hid (ap.out.on aA.out)
 have aE:=hid G.out.rd0
 have aK:=hid ap.out.fresh
 clear G aA ap
 go_wp2_with fail
 refine (add_cb aR (some ⟨w5.heap.size,0,none⟩) 4 4 (be z 4) (aj _ _) aE.out (fun _ ad e=>by injection e with e; subst e; exact aK.out) (Nat.le_refl _) (by have:=HS.out; simp [aj,D.out]; omega)).mono ?_
 rintro e w7 ⟨rfl,aQ⟩
 have aN:=hid (p:=Cb w1 g (cG f.data.toList z E 0) [(w.heap.size,List.replicate 32 0)] w7) (by have:=aQ.out; simpa [cG,flat,D.out] using this)
 clear aR aE aK aQ hw
 go_wp2_with fail
 go_loopw [22] (fun i wr=>∃ k:Nat,k≤z∧i=.int .i64 k∧Hid (Cb w1 g (cG f.data.toList z E k) [(w.heap.size,List.replicate 32 0)] wr)) (fun i _=>z - (intOf i).toNat)
 case atStart=>exact ⟨0,Nat.zero_le _,rfl,aN⟩
 case round =>
  clear aN
  obtain ⟨k,hk,rfl,HC⟩:=hrel
  have aW:=hid (p:=Below w.heap.size w wr) (J.out.trans (HC.out.old.mono J.out.size))
  by_cases ab:k<z
  ·obtain ⟨⟨go,o,rfl,ay,cH⟩,ax,O,bd,bn,bo⟩:=HR.out k ab
   have K:=(aW.out.cell (p:=⟨go,o+k,none⟩) ay).trans cH
   have ao:=hid ax
   have bz:=hid (O.below aW.out (Nat.le_refl _))
   have aI:=hid (HL.out k ab)
   have an:=hid ab
   have al:=hid (spelt_length f.data.toList z E k (fun r hr=>by rw [(HR.out r (by omega)).2.1]; exact HL.out r (by omega)))
   clear cH ax O bd bn bo ay
   have bK:(k:Int)<(z:Int):=by omega
   go_wp2_with fail
   refine (pb_at (A k) (C k) (L k) (E k) wr ao.out bz.out (by have:=aI.out; omega)).mono ?_
   rintro e w9 ⟨rfl,F,az⟩
   have aM:=hid (HC.out.on az.out)
   have aC:=hid F.out.rd0
   have aJ:=hid HC.out.fresh
   clear F az K
   go_wp2_with fail
   refine (add_cb aM (some ⟨wr.heap.size,0,none⟩) (4+L k) (4+L k) (be (L k) 4 ++ E k) (by rw [List.length_append,aj,ao.out]) aC.out (fun _ ad e=>by injection e with e; subst e; exact aJ.out) (Nat.le_refl _) (by have h1:=al.out; have h2:=D.out; have h3:=HS.out; have h4:=aI.out; have h5:=an.out; rw [h2] at h1; omega)).mono ?_
   rintro e w10 ⟨rfl,Z⟩
   have aU:=hid (p:=Cb w1 g (cG f.data.toList z E (k+1)) [(w.heap.size,List.replicate 32 0)] w10) (by have:=Z.out; rw [← ao.out] at this; simpa [cG,flat] using this)
   clear aM aC aJ Z
   go_wp2
   exact ⟨⟨k+1,an.out,by go_num,aU⟩,by have:=an.out; simp [intOf]; omega⟩
  ·obtain rfl:k=z:=by omega
   have al:=hid (spelt_length f.data.toList k E k (fun r hr=>by rw [(HR.out r hr).2.1]; exact HL.out r hr))
   go_wp2_with fail
   refine (sum_cb HC (by have h1:=al.out; have h2:=D.out; have h3:=HS.out; rw [h2] at h1; omega)).mono ?_
   rintro e w12 ⟨rfl,Y⟩
   have bb:=hid (p:=Below w.heap.size w w12) (J.out.trans (Y.out.old.mono J.out.size))
   have R:=hid (Y.out.2 (w.heap.size,List.replicate 32 0) (by simp)).1
   have HQ:=hid (dD (cG f.data.toList k E k))
   generalize hr:sha (cG f.data.toList k E k)=r at *
   have bx:=hid hr
   clear hr
   have V:=hi44 r HQ.out
   have bA:Hid ((au (List.replicate 32 0)).toArray.size=(au r).toArray.size):=hid (by rw [aw,aw,HQ.out,List.length_replicate])
   have bq:=hid (R.out.row (m:=r))
   have bI:=hid (p:=Below w.heap.size w (w12.setRow w.heap.size (au r).toArray)) (below_setRow bb.out (Nat.le_refl _) _)
   have bG:=bF r
   have M:=R.out
   unfold Bt at M
   have M:=hid M
   go_wp2_with (refine wpList_store_row rfl 28 (.tmp 4) (.tmp 32) rfl w.heap.size (au r).toArray rfl rfl 28 _ M.out V.out bA.out bG ?_)
   exact bodyPost_ret (v:=.agg (au r).toArray) (results_cell_row (p:=4) (ty:=28) Tryz.results84 _ _ w.heap.size 28 (au r).toArray (0,0) _ rfl bq.out Tryz.underlying28 rfl V.out) rfl ⟨by rw [bx.out],bI.out⟩
theorem clip_any (z:Option Addr) (f D:Nat) (w:World) (hc:f≤D) (E:f≤1000) (F:z=none→D=0) :
  Calls Tryz.prog 85 #[.slice z f D] w fun e w'=>e=.returned (.slice z f f)∧w=w':=by
 go_enter Tryz.func85,Tryz.ntmps85
 go_wp2
 exact bodyPost_ret (v:=.slice z f f) (by simp [results,Tryz.results85,go_sem]) rfl ⟨rfl,rfl⟩
theorem row_info:(Tryz.prog.info? 66).map (fun i=>(i.zero,i.size,i.bytes))=some (some (.slice none 0 0),1,24):=by kernel_rfl
def nx {T:Type} (n:Nat) (f:Nat→T) (y:T):Nat→T:=fun r=>if r<n then f r else y
def cellsOf (n:Nat) (A:Nat→Option Addr) (L C:Nat→Nat):List Value:=(List.range n).map fun r=>Value.slice (A r) (L r) (C r)
theorem bE (n:Nat) (A:Nat→Option Addr) (L C:Nat→Nat):(cellsOf n A L C).length=n:=by simp [cellsOf]
theorem cellsOf_at {n r:Nat} (A:Nat→Option Addr) (L C:Nat→Nat) (h:r<n):(cellsOf n A L C)[r]?=some (.slice (A r) (L r) (C r)):=by simp [cellsOf,h]
theorem bL (w:World) (K:Option Addr) (f:Nat) (A:Nat→Option Addr) (L C:Nat→Nat) (xs:Nat→List UInt8) (hR:Rws w K f A L C xs) (hn:f≤1000) (h0:K=none→f=0)
  (b d b1:Nat) (x:UInt8) (hb:w.cell? ⟨b,0,none⟩=some (.slice (some ⟨b1,0,none⟩) 1 1)) (hr:Rd w (some ⟨b1,0,none⟩) [x]) :
  ∃ g c w',(Builtin.append_ #[79,79] 79 #[.slice K f f,.slice (some ⟨b,0,none⟩) 1 d]).run Tryz.prog w=.ok (.slice (some ⟨g,0,none⟩) (f+1) c) w'∧Below w.heap.size w w'∧w.heap.size≤g∧f+1≤c∧c≤9223372036854775807∧
   Rws w' (some ⟨g,0,none⟩) (f+1) (nx f A (some ⟨b1,0,none⟩)) (nx f L 1) (nx f C 1) (nx f xs [x]):=by
 obtain ⟨i0,hi,I,dG,G⟩:=info_parts row_info
 have R:∃ v' w',(Builtin.append_ #[79,79] 79 #[.slice K f f,.slice (some ⟨b,0,none⟩) 1 d]).run Tryz.prog w=.ok v' w'∧w'.ownsRow w.heap.size 66 1 v' (f+1) (cellsOf f A L C ++ [.slice (some ⟨b1,0,none⟩) 1 1])∧w.grownBy w' none:=by
  have F:∀ j u,([Value.slice (some ⟨b1,0,none⟩) 1 1]:List Value)[j]?=some u→w.cell? ((⟨b,0,none⟩:Addr).add j)=some u:=by
   intro j u z
   rcases j with _ | j
   ·simp only [List.getElem?_cons_zero,Option.some.injEq] at z
    subst z
    rw [Addr.add_lit]; exact hb
   ·simp at z
  rcases K with _ | ad
  ·obtain rfl:=h0 rfl
   obtain ⟨v',w',bb,h2,h3,_⟩:=run_append_own (P:=Tryz.prog) w w.heap.size 79 79 66 i0 (.slice none 0 0) 1 24 Tryz.underlying79 hi I dG G rfl (by omega) (.slice none 0 0) 0 [] (World.ownsRow_nil w _ 66 1) ⟨b,0,none⟩ 1 d _ rfl F (by simp [Value.oneCell']) (by simp only [maxLen]; omega) (by omega) (Nat.le_refl _)
   exact ⟨v',w',bb,h2,h3⟩
  ·exact run_append_arg_grows (P:=Tryz.prog) w 79 79 66 i0 (.slice none 0 0) 1 24 Tryz.underlying79 hi I dG G rfl (by omega) ad f f (cellsOf f A L C) (by rw [bE,Nat.mul_one])
    (fun j u z=>by
     have J:j<f:=by
      rcases Nat.lt_or_ge j f with h | h
      ·exact h
      ·rw [List.getElem?_eq_none (by rw [bE]; exact h)] at z; cases z
     rw [cellsOf_at A L C J] at z
     injection z with z; subst z
     obtain ⟨⟨go,o,Y,_,hc⟩,_⟩:=hR j J
     injection Y with Y; subst Y
     rw [Addr.add_lit]; exact hc) ⟨b,0,none⟩ 1 d _ rfl F (by omega) (by simp only [maxLen]; omega) (by omega)
 obtain ⟨v',w',bb,E,O⟩:=R
 have V:Below w.heap.size w w':=below_grown (Below.refl _ _) (O.but (some w.heap.size)) (Nat.le_refl _) (Nat.le_refl _)
 rcases E.2 with ⟨_,h⟩ | ⟨g,Z,an,rfl,U,hh,M,hm,hs,ht⟩
 ·omega
 ·refine ⟨g,Z,w',bb,V,U,M,hm,fun r ab=>?_⟩
  have cH:=World.ownsRow.cellAt E r (by omega)
  rcases Nat.lt_or_ge r f with D | al
  ·obtain ⟨_,k1,k2,k3,k4,k5⟩:=hR r D
   simp only [nx,D,if_true]
   refine ⟨⟨g,0,rfl,lt_of_block hh,?_⟩,k1,k2.below V (Nat.le_refl _),k3,k4,k5⟩
   rw [Nat.zero_add,cH,List.getElem?_append_left (by rw [bE]; exact D),cellsOf_at A L C D]
  ·obtain rfl:r=f:=by omega
   simp only [nx,Nat.lt_irrefl,if_false]
   refine ⟨⟨g,0,rfl,lt_of_block hh,?_⟩,rfl,hr.below V (Nat.le_refl _),Nat.le_refl _,by omega,fun h=>by cases h⟩
   rw [Nat.zero_add,cH,List.getElem?_append_right (by rw [bE]; exact Nat.le_refl _),bE]
   simp
end
end Go.Proofs.YtmapkbdjnnionaaGreatDoor

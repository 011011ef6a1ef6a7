import Derived.Test.YtmapkbdjnnionaaGreatDoorPzAV
import Derived.Test.YtmapkbdjnnionaaGreatDoorPzBD
import Derived.Test.YtmapkbdjnnionaaGreatDoorPzBE
set_option maxRecDepth 100000
set_option maxHeartbeats 8000000
set_option linter.all false
namespace Go.Proofs.YtmapkbdjnnionaaGreatDoor
section
open Go.RowKit
theorem wnum_num (x:Nat) (f:x<2 ^ 256):wnum [wd x 0,wd x 1,wd x 2,wd x 3]=x:=by
 simp only [wnum,wd]
 rw [show (2:Nat) ^ 256=115792089237316195423570985008687907853269984665640564039457584007913129639936 by decide] at f
 rw [show (18446744073709551616:Nat) ^ 0=1 by decide,show (18446744073709551616:Nat) ^ 1=18446744073709551616 by decide,show (18446744073709551616:Nat) ^ 2=340282366920938463463374607431768211456 by decide,show (18446744073709551616:Nat) ^ 3=6277101735386680763835789423207666416102355444464034512896 by decide]
 omega
def pts (l:List (List UInt8)) (bs:List UInt8):Nat→List UInt8:=fun r=>l.getD r bs
def Pt (W0:World) (v:Value) (ps:List (Nat×List UInt8)) (w:World):Prop :=
 Below W0.heap.size W0 w∧w.ownsRow W0.heap.size 66 1 v ps.length (ps.map fun p=>Value.slice (some ⟨p.1,0,none⟩) 32 32)∧∀ p∈ps,p.2.length=32∧Row w p.1 p.2∧v.ownBlock≠some p.1
theorem Pt.nil {f w:World} (h:Below f.heap.size f w):Pt f (.slice none 0 0) [] w:=⟨h,World.ownsRow_nil w _ 66 1,fun p z=>by cases z⟩
theorem Pt.old {f w:World} {v:Value} {z:List (Nat×List UInt8)} (h:Pt f v z w):Below f.heap.size f w:=h.1
theorem Pt.on {D w w':World} {v:Value} {z:List (Nat×List UInt8)} (h:Pt D v z w) (hb:Below w.heap.size w w'):Pt D v z w' :=
 ⟨h.1.trans (hb.mono h.1.size),rowo_below h.2.1 hb,fun p f=>⟨(h.2.2 p f).1,(h.2.2 p f).2.1.below hb (h.2.2 p f).2.1.lt,(h.2.2 p f).2.2⟩⟩
theorem Pt.free {z w:World} {v:Value} {f:List (Nat×List UInt8)} (h:Pt z v f w) (g:Nat) (D:w.heap.size≤g):v.ownBlock≠some g:=fun e=>by
 have:=(World.ownsRow.lt h.2.1 g e).2; omega
theorem pt_grown {D w w':World} {v v':Value} {G:List (Nat×List UInt8)} (h:Pt D v G w) (z:w.grownBy w' v.ownBlock):Below D.heap.size D w'∧∀ k,k<w.heap.size→v.ownBlock≠some k→w'.heap[k]?=w.heap[k]?:=by
 have f:∀ k,k<w.heap.size→v.ownBlock≠some k→w'.heap[k]?=w.heap[k]?:=fun k F I=>z.block k F (by intro e; exact I e.symm)
 have E:∀ k,v.ownBlock=some k→D.heap.size≤k∧k<w.heap.size:=World.ownsRow.lt h.2.1
 exact ⟨h.1.trans ⟨z.os,z.tape,z.output,z.size,fun k F=>f k (by have:=h.1.size; omega) (fun e=>by have:=(E k e).1; omega)⟩,f⟩
theorem pt_cell {w:World} {b:Nat} {u:Value} (hb:w.cell? ⟨b,0,none⟩=some u):∀ j x,([u]:List Value)[j]?=some x→w.cell? ((⟨b,0,none⟩:Addr).add j)=some x:=by
 intro j x f
 rcases j with _ | j
 ·simp only [List.getElem?_cons_zero,Option.some.injEq] at f
  subst f
  rw [Addr.add_lit]; exact hb
 ·simp at f
theorem Pt.put {L w:World} {v:Value} {E:List (Nat×List UInt8)} (h:Pt L v E w) (hn:E.length≤10) {g b:Nat} {bs:List UInt8} (d:Nat) (R:bs.length=32) (O:Row w g bs) (V:v.ownBlock≠some g) (hb:w.cell? ⟨b,0,none⟩=some (.slice (some ⟨g,0,none⟩) 32 32)) :
  ∃ v' w',Hid ((Builtin.append_ #[79,79] 79 #[v,.slice (some ⟨b,0,none⟩) 1 d]).run Tryz.prog w=.ok v' w')∧Hid (Pt L v' (E ++ [(g,bs)]) w'):=by
 obtain ⟨M,hi,G,Z,F⟩:=info_parts row_info
 obtain ⟨v',w',bb,D,K,_,I⟩:=run_append_own_at (P:=Tryz.prog) w L.heap.size 79 79 66 M (.slice none 0 0) 1 24 Tryz.underlying79 hi G Z F rfl (by omega) v E.length _ h.2.1 ⟨b,0,none⟩ 1 d [.slice (some ⟨g,0,none⟩) 32 32] rfl (pt_cell hb) (by simp [Value.oneCell']) (by simp only [maxLen]; omega) (by omega) h.1.size
 obtain ⟨Y,U⟩:=pt_grown (v':=v') h K
 refine ⟨v',w',hid bb,hid ⟨Y,by simpa using D,fun p z=>?_⟩⟩
 have f:p.2.length=32∧Row w p.1 p.2∧v.ownBlock≠some p.1:=by
  rcases List.mem_append.1 z with z | z
  ·exact h.2.2 p z
  ·obtain rfl:=List.mem_singleton.1 z; exact ⟨R,O,V⟩
 refine ⟨f.1,(U p.1 f.2.1.lt f.2.2).trans f.2.1,fun e=>?_⟩
 rcases I with J | J
 ·exact f.2.2 (J ▸ e)
 ·rw [J] at e
  injection e with e
  have:=f.2.1.lt
  omega
theorem Pt.last {G w:World} {v:Value} {f:List (Nat×List UInt8)} (h:Pt G v f w) (hn:f.length≤10) {D b:Nat} {bs:List UInt8} (d:Nat) (hl:bs.length=32) (hr:Rd G (some ⟨D,0,none⟩) bs) (hb:w.cell? ⟨b,0,none⟩=some (.slice (some ⟨D,0,none⟩) 32 32)) :
  ∃ g c w',Hid ((Builtin.append_ #[79,79] 79 #[v,.slice (some ⟨b,0,none⟩) 1 d]).run Tryz.prog w=.ok (.slice (some ⟨g,0,none⟩) (f.length+1) c) w')∧Hid (Below G.heap.size G w')∧Hid (f.length+1≤c)∧
   Hid (Rws w' (some ⟨g,0,none⟩) (f.length+1) (fun r=>some ⟨(f.map Prod.fst).getD r D,0,none⟩) (fun _=>32) (fun _=>32) (pts (f.map Prod.snd) bs))∧Hid (∀ k,k<w.heap.size→v.ownBlock≠some k→w'.heap[k]?=w.heap[k]?)∧Hid (w.heap.size≤w'.heap.size):=by
 obtain ⟨Z,hi,K,dG,J⟩:=info_parts row_info
 obtain ⟨v',w',bb,E,F,_,ad⟩:=run_append_own_at (P:=Tryz.prog) w G.heap.size 79 79 66 Z (.slice none 0 0) 1 24 Tryz.underlying79 hi K dG J rfl (by omega) v f.length _ h.2.1 ⟨b,0,none⟩ 1 d [.slice (some ⟨D,0,none⟩) 32 32] rfl (pt_cell hb) (by simp [Value.oneCell']) (by simp only [maxLen]; omega) (by omega) h.1.size
 obtain ⟨V,U⟩:=pt_grown (v':=v') h F
 rcases E.2 with ⟨_,h0⟩ | ⟨g,R,ao,rfl,an,hh,L,hm,hs,ht⟩
 ·omega
 refine ⟨g,R,w',hid bb,hid V,hid L,hid fun r ab=>?_,hid U,hid F.size⟩
 have Y:=World.ownsRow.cellAt E r (by omega)
 rcases Nat.lt_or_ge r f.length with z | al
 ·have I:=h.2.2 f[r] (List.getElem_mem z)
  have O:(f.map Prod.fst).getD r D=f[r].1:=by simp [List.getD_eq_getElem?_getD,z]
  have M:pts (f.map Prod.snd) bs r=f[r].2:=by simp [pts,List.getD_eq_getElem?_getD,z]
  rw [M]
  refine ⟨⟨g,0,rfl,lt_of_block hh,?_⟩,I.1,?_,Nat.le_refl _,by show 32≤_; omega,fun e=>by cases e⟩
  ·rw [Nat.zero_add,Y,List.getElem?_append_left (by simpa using z)]
   simp [z]
  ·show Rd w' (some ⟨(f.map Prod.fst).getD r D,0,none⟩) _
   rw [O]
   exact Row.rd0 ((U _ I.2.1.lt I.2.2).trans I.2.1)
 ·obtain rfl:r=f.length:=by omega
  have O:(f.map Prod.fst).getD f.length D=D:=by simp [List.getD_eq_getElem?_getD]
  have M:pts (f.map Prod.snd) bs f.length=bs:=by simp [pts,List.getD_eq_getElem?_getD]
  rw [M]
  refine ⟨⟨g,0,rfl,lt_of_block hh,?_⟩,hl,?_,Nat.le_refl _,by show 32≤_; omega,fun e=>by cases e⟩
  ·rw [Nat.zero_add,Y,List.getElem?_append_right (by simp)]
   simp
  ·show Rd w' (some ⟨(f.map Prod.fst).getD f.length D,0,none⟩) _
   rw [O]
   exact hr.below V (Nat.le_refl _)
theorem sp_append_rows {ops:Array Oper} {f:List Oper} {o:Oper} {a:Act} {w:World} {Q:Exit→Act→World→Prop} (D:o.guard=none) (s x:Operand)
  (J:o.op=.call { callee:=.builtin .append,args:=#[s,x],argTypes:=#[79,79] }) (z:o.type=79) (F E:Value) (I:a.eval s=F) (G:a.eval x=E) (v':Value) (w':World)
  (M:(Builtin.append_ #[79,79] 79 #[F,E]).run Tryz.prog w=.ok v' w') (h:wpList Tryz.prog ops Q f (a.put o.dst v') w'):wpList Tryz.prog ops Q (o :: f) a w:=by
 refine wpList_plain D fun K L=>?_
 unfold Oper.wp
 simp [execOp,J,z,resolve,invoke,builtin,I,G,M,Result.andThen]
 exact L _ _ h
theorem be32 (x:Nat):(be x 32).length=32:=aj x 32
theorem pl_any (x:Nat) (w:World) (z:x<2 ^ 256):Calls Tryz.prog 60 #[.slice none 0 0,af x] w fun e w'=>∃ g,e=.returned (.slice (some ⟨g,0,none⟩) 32 32)∧w.heap.size≤g∧Row w' g (be x 32)∧Below w.heap.size w w':=by
 refine (putLong_any none 0 (wd x 0) (wd x 1) (wd x 2) (wd x 3) [] w (Rd.nil _ _) (by simp) (aO x 0) (aO x 1) (aO x 2) (aO x 3)).mono ?_
 rintro e w' ⟨rfl,f,D⟩
 rw [wnum_num x z] at f
 exact ⟨_,rfl,Nat.le_succ _,f,D⟩
def nop (st:ByteArray) (l:List (List UInt8)) (bs:List UInt8) (q:Nat):Nat:=if q=0 then 0 else nof st.data.toList (l.length+1) (pts l bs) q
theorem nop_lt (f:ByteArray) (l:List (List UInt8)) (bs:List UInt8) (q:Nat) (z:q≠0):nop f l bs q<q:=by
 unfold nop nof wid
 rw [if_neg z]
 exact Nat.mod_lt _ (by omega)
theorem numb_any (f:ByteArray) (D:Option Addr) (z:Nat) (A:Nat→Option Addr) (l:List (List UInt8)) (bs:List UInt8) (n m s:Nat) (w:World) (G:l.length+1=n) (I:m<2 ^ 256) (J:Rws w D n A (fun _=>32) (fun _=>32) (pts l bs)) (K:Kt w) (M:l.length≤10) (F:f.size≤1000000) (hc:n≤z) (L:D=none→z=0)
  (E:nop f l bs m=s):Calls Tryz.prog 61 #[af m,.string f,.slice D n z] w fun r w'=>(∃ e,r=.returned (.tuple #[af s,.int .i64 e]))∧Below w.heap.size w w':=by
 subst G
 refine (number_any f D (l.length+1) z A _ _ _ m s _ w I J K (by omega) (fun r _=>by decide) F hc L E rfl).mono ?_
 rintro e w' ⟨rfl,hb⟩
 exact ⟨⟨_,rfl⟩,hb⟩
theorem on_pt {z w:World} {v:Value} {f:List (Nat×List UInt8)} (h:Pt z v f w):On w fun u=>Pt z v f u:=fun u D=>h.on D
theorem cD {w w':World} {l:List (Nat×Nat)} (h:ae w l w') {a x:Nat} (z:Nm w' a x):ae w ((a,x) :: l) w' :=
 ⟨h.1,fun p f=>by rcases List.mem_cons.1 f with rfl | f; exact z; exact h.2 p f⟩
theorem dS {w:World} {g x:Nat} (h:Nm w g x):On w fun u=>Nm u g x:=fun u f=>(f.block g (lt_of_block h)).trans h
theorem bt_rd {w:World} {g:Nat} {t:TypeId} {bs:List UInt8} (h:Bt w g t bs):Rd w (some ⟨g,0,none⟩) bs:=by
 intro z
 refine ⟨g,0,rfl,h.lt,fun j f=>?_⟩
 rw [Nat.zero_add,h.cell j f]
def Ld (w:World) (ty g o:Nat) (v:Value):Prop:=∀ u,Below w.heap.size w u→(Instr.loadAt ty (.pointer (some ⟨g,o,none⟩))).run Tryz.prog u=.ok v u
theorem Ld.on {w w':World} {ty g o:Nat} {v:Value} (h:Ld w ty g o v) (hb:Below w.heap.size w w'):Ld w' ty g o v:=fun u f=>h u (hb.trans (f.mono hb.size))
theorem Ld.here {w:World} {ty g o:Nat} {v:Value} (h:Ld w ty g o v):(Instr.loadAt ty (.pointer (some ⟨g,o,none⟩))).run Tryz.prog w=.ok v w:=h w (Below.refl _ _)
theorem rng_of {w:World} {g t:Nat} {z:Array Value} (h:w.heap[g]?=some (.cells z t (0,0))) (o:Nat) (f:List Value) (D:∀ j v,f[j]?=some v→z[o+j]?=some v):w.rangeAt g o f:=fun j v E=>by
 rw [cell_of_row w g (o+j) _ t (0,0) h]; exact D j v E
theorem ld_of {w:World} {g t:Nat} {D:Array Value} (h:w.heap[g]?=some (.cells D t (0,0))) (ty o:Nat) (f:List Value) (d:TypeDesc) (E:∀ j v,f[j]?=some v→D[o+j]?=some v)
  (F:Tryz.prog.underlying ty=some d) (hd:d.isRow=true) (hi:(Tryz.prog.info? ty).map (·.size)=some f.length):Ld w ty g o (.agg f.toArray):=fun u z =>
 run_loadAt_mid u g o ty f d (rng_of ((z.block g (lt_of_block h)).trans h) o f E) F hd hi
theorem ag (x:Nat) (z:Array Value) (o:Nat) (G:z[o]?=some (.int .u64 (wd x 0:Int))) (F:z[o+1]?=some (.int .u64 (wd x 1:Int))) (E:z[o+2]?=some (.int .u64 (wd x 2:Int))) (D:z[o+3]?=some (.int .u64 (wd x 3:Int))):∀ j v,(ai x).toList[j]?=some v→z[o+j]?=some v:=by
 intro j v f
 match j,f with
 | 0,f=>rw [← f]; exact G
 | 1,f=>rw [← f]; exact F
 | 2,f=>rw [← f]; exact E
 | 3,f=>rw [← f]; exact D
 | n+4,f=>simp at f
theorem aP {w:World} {g t:Nat} {f:Array Value} (x o:Nat) (h:w.heap[g]?=some (.cells f t (0,0))) (z:∀ j v,(ai x).toList[j]?=some v→f[o+j]?=some v):Ld w 24 g o (af x) :=
 ld_of h 24 o (ai x).toList _ z Tryz.underlying24 rfl (by kernel_rfl)
theorem ldG {w:World} {g t:Nat} {z:Array Value} (p q f o:Nat) (h:w.heap[g]?=some (.cells z t (0,0))) (D:∀ j v,(aY p q f).toList[j]?=some v→z[o+j]?=some v):Ld w 26 g o (gv p q f) :=
 ld_of h 26 o (aY p q f).toList _ D Tryz.underlying26 rfl (by kernel_rfl)
theorem ldS {w:World} {g t:Nat} {f:Array Value} (bs:List UInt8) (D:bs.length=32) (o:Nat) (h:w.heap[g]?=some (.cells f t (0,0))) (z:∀ j v,(au bs)[j]?=some v→f[o+j]?=some v):Ld w 28 g o (.agg (au bs).toArray) :=
 ld_of h 28 o (au bs) _ z Tryz.underlying28 rfl (by rw [aX,D]; kernel_rfl)
abbrev dl (c s:Nat):Array Value:=#[.int .u64 (wd c 0:Int),.int .u64 (wd c 1:Int),.int .u64 (wd c 2:Int),.int .u64 (wd c 3:Int),.int .u64 (wd s 0:Int),.int .u64 (wd s 1:Int),.int .u64 (wd s 2:Int),.int .u64 (wd s 3:Int)]
abbrev sgv (c s:Nat):Value:=.agg (dl c s)
theorem ldX {w:World} {g t:Nat} {f:Array Value} (c s o:Nat) (h:w.heap[g]?=some (.cells f t (0,0))) (z:∀ j v,(dl c s).toList[j]?=some v→f[o+j]?=some v):Ld w 30 g o (sgv c s) :=
 ld_of h 30 o (dl c s).toList _ z Tryz.underlying30 rfl (by kernel_rfl)
theorem ak (f:Array Value):∀ j v,f.toList[j]?=some v→f[0+j]?=some v:=fun j v h=>by rw [Nat.zero_add]; simpa using h
theorem du {ops:Array Oper} {f:List Oper} {o:Oper} {a:Act} {w:World} {Q:Exit→Act→World→Prop} (z:o.guard=none) (ty:TypeId) (x:Operand) (E:o.op=.load ty x) (p:Value) (D:a.eval x=p) (v:Value) (F:(Instr.loadAt ty p).run Tryz.prog w=.ok v w)
  (h:wpList Tryz.prog ops Q f (a.put o.dst v) w):wpList Tryz.prog ops Q (o :: f) a w:=by
 refine wpList_plain z fun K G=>?_
 unfold Oper.wp execOp
 simp only [E,D,Sem.run_bind,Result.andThen_ok,F]
 exact G _ _ h
theorem cr {w:World} {g:Nat} (h:w.heap[g]?=some (.cells #[.int .u64 0,.int .u64 0,.int .u64 0,.int .u64 0] 24 (0,0))):Nm w g 0:=by unfold Nm; rw [← bH]; exact h
theorem bw {f w:World} {g x:Nat} (h:Below f.heap.size f w) (D:Nm w g x):ae f [(g,x)] w:=⟨h,fun p z=>by obtain rfl:=List.mem_singleton.1 z; exact D⟩
theorem summed1_any (p q g x:Nat) (st:ByteArray) (bs:List UInt8) (gl r:Nat) (w:World) (hq:q<2 ^ 256) (hx:x<2 ^ 256) (bS:bs.length=32) (D:Kt w) (G:st.size≤1000000) (hS:Sl1 w gl x) (hv:nop st [be x 32] bs q=r) :
  Calls Tryz.prog 41 #[gv p q g,.string st,.agg (au bs).toArray,.slice (some ⟨gl,0,none⟩) 1 1] w fun e w'=>e=.returned (af r)∧Below w.heap.size w w':=by
 have QL:=hid hq
 have XL:=hid hx
 have HL:=hid bS
 have HS:=hid G
 have HV:=hid hv
 obtain ⟨bA,bI,aJ,aG⟩:=boxes2 w (aY p q g) (au bs).toArray 26 28
 have ay:Sl1 ((w.alloc (.cells (aY p q g) 26)).alloc (.cells (au bs).toArray 28)) gl x:=(bA.block gl (lt_of_block hS)).trans hS
 have aI:=D.on bA
 clear hq hx bS G hv hS D
 have aA:Hid (∀ u,Below ((w.alloc (.cells (aY p q g) 26)).alloc (.cells (au bs).toArray 28)).heap.size ((w.alloc (.cells (aY p q g) 26)).alloc (.cells (au bs).toArray 28)) u→Below w.heap.size w u):=hid (fun u hu=>bA.trans (hu.mono bA.size))
 go_enter Tryz.func41,Tryz.ntmps41
 go_wp2_with fail
 generalize (w.alloc (.cells (aY p q g) 26)).alloc (.cells (au bs).toArray 28)=W0 at *
 have hE:=(ae.refl W0).zero
 rw [bI] at hE
 have ab:=(Below.refl W0.heap.size W0).alloc (Nat.le_refl _) (.cells #[.int .u64 0,.int .u64 0,.int .u64 0,.int .u64 0] 24)
 have ap:=hid ab.size
 have aQ:Hid (W0.heap.size=w.heap.size+1+1):=hid bI
 have an:=hid (hE.lt (w.heap.size+1+1) 0 (by simp))
 have H0:=hid hE
 have E:Hid (Gm _ w.heap.size 26 p q g):=hid (Gm.on aJ ab)
 have aE:Bt _ (w.heap.size+1) 28 bs:=Bt.on aG ab
 have az:=hid (bt_rd aE)
 have ar:=hid (aI.on ab)
 have aK:Hid (Sl1 _ gl x):=hid ((ab.block gl (lt_of_block ay)).trans ay)
 clear hE ab aE bA bI aJ aG ay aI
 generalize W0.alloc (.cells #[.int .u64 0,.int .u64 0,.int .u64 0,.int .u64 0] 24)=w0 at *
 generalize w.heap.size+1+1=I at *
 generalize w.heap.size+1=O at *
 generalize aN:w.heap.size=U at *
 have aB:=hid (Pt.nil (Below.refl w0.heap.size w0))
 refine wp_loop_rounds 2 ?_
 rw [rounds_succ]
 obtain ⟨s0,s1,s2,s3,sl⟩:=aK.out.at aB.out.old
 go_wp2_with fail
 clear s0 s1 s2 s3 sl
 have al:=hid (aB.out.on ((Below.refl _ _).alloc (Nat.le_refl _) (.cells (ai x) 24)))
 clear aB
 generalize w0.alloc (.cells (ai x) 24)=aR at *
 refine (pl_any x _ XL.out).mono ?_
 rintro e aM ⟨h0,rfl,aC,ax,hb⟩
 obtain ⟨v1,w1,R,aL⟩:=Pt.put ((al.out.on hb).on ((Below.refl _ _).alloc (Nat.le_refl _) (.cells #[.slice (some ⟨h0,0,none⟩) 32 32] 66))) (by simp) 1 (be32 x) (ax.alloc (.cells #[.slice (some ⟨h0,0,none⟩) 32 32] 66)) (al.out.free h0 aC) (by rw [cell_of_row _ _ 0 _ 66 (0,0) (heap_alloc_new aM (.cells #[.slice (some ⟨h0,0,none⟩) 32 32] 66))]; rfl)
 clear aC ax hb al
 go_wp2_with (at_builtin; refine sp_append_rows rfl (.tmp 20) (.tmp 23) rfl rfl _ _ rfl rfl _ _ R.out ?_)
 clear R
 rw [rounds_succ]
 go_upto_region 7 with fail
 go_cut [12] (fun s12 wx=>∃ g12:Nat,s12=.pointer (some ⟨g12,0,none⟩)∧Hid (ae W0 [(g12,r),(I,0)] wx))
 case first =>
  have F:=hid (on_pt aL.out)
  have hb:=(Below.refl w1.heap.size w1).drew
  have F:=hid (F.out.on hb)
  clear hb aL aK
  refine wp_region_noPanic ?_
  refine aa.region (fun (L:Array Bool) (u:World)=>u.cell? ⟨U,4,none⟩=some (.int .u64 (wd q 0:Int))∧u.cell? ⟨U,5,none⟩=some (.int .u64 (wd q 1:Int))∧u.cell? ⟨U,6,none⟩=some (.int .u64 (wd q 2:Int))∧u.cell? ⟨U,7,none⟩=some (.int .u64 (wd q 3:Int))) (by kernel_rfl) ?_
  generalize w1.drew=ud at *
  refine aa.q 0 ⟨some 27,_,_,_,_,_⟩ ((E.out.on F.out.here.old).q) ?_
  try simp only [ac]
  refine aa.tk (i:=1) (o:=⟨some 28,_,_,_,_,_⟩) (v:=?_) [] (y:=Or.inl ⟨by rfl,?_⟩) (s:=(E.out.on F.out.here.old).q) (H:=?_)
  rotate_left
  ·rintro u ⟨up,-,hX⟩; (try dsimp only at hX); obtain ⟨x0,x1,x2,x3⟩:=hX; go_simp; try with_reducible rfl
  try simp only [ac]
  refine aa.q 2 ⟨some 29,_,_,_,_,_⟩ ((E.out.on F.out.here.old).q) ?_
  try simp only [ac]
  refine aa.q 3 ⟨some 30,_,_,_,_,_⟩ ((E.out.on F.out.here.old).q) ?_
  try simp only [ac]
  refine aa.q 4 ⟨some 31,_,_,_,_,_⟩ ((E.out.on F.out.here.old).q) ?_
  try simp only [ac]
  refine aa.two (i:=5) (j:=11) (o:=⟨some 32,_,_,_,_,_⟩) (p:=⟨some 12,_,_,_,_,_⟩) (by kernel_rfl) rfl rfl (fun K D=>?_) (fun K D=>?_)
  ·skip
   go_simp
   have hb:=(Below.refl ud.heap.size ud).alloc (Nat.le_refl _) (.cells #[.slice (some ⟨O,0,none⟩) 32 32] 66)
   have hh:=heap_alloc_new ud (.cells #[.slice (some ⟨O,0,none⟩) 32 32] 66)
   have f:=F.out.here.old.trans (hb.mono F.out.here.old.size)
   refine D.out _ _ ((E.out.on f).q) ?_
   clear D K
   try simp only [ac]
   have F:=hid (F.out.on hb)
   have F2:=hid (ce (i:=0) (lt_of_block hh) (by rw [cell_of_row _ _ _ _ 66 _ hh]; rfl))
   clear hb hh f
   generalize ud.alloc (.cells #[.slice (some ⟨O,0,none⟩) 32 32] 66)=u0 at *
   generalize ud.heap.size=gb at *
   refine aa.two (i:=6) (j:=11) (o:=⟨some 33,_,_,_,_,_⟩) (p:=⟨some 12,_,_,_,_,_⟩) (by kernel_rfl) rfl rfl (fun K D=>?_) (fun K D=>?_)
   ·skip
    rw [if_pos (by rfl)]
    obtain ⟨gA,cA,u1,R,HB,HC,Z,V,ad⟩:=Pt.last F.out.here (by simp) 1 HL.out az.out F2.out.here
    have HC:Hid (2≤cA):=HC
    have Z:Hid (Rws u1 (some ⟨gA,0,none⟩) 2 (fun r=>some ⟨([h0]:List Nat).getD r O,0,none⟩) (fun _=>32) (fun _=>32) (pts [be x 32] bs)):=Z
    have R:Hid ((Builtin.append_ #[79,79] 79 #[v1,.slice (some ⟨gb,0,none⟩) 1 1]).run Tryz.prog u0=.ok (.slice (some ⟨gA,0,none⟩) 2 cA) u1):=R
    refine bh 79 (.tmp 30) (.tmp 32) (by rfl) (by rfl) _ _ (by rfl) (by rfl) _ _ R.out ?_
    refine D.out _ _ ((E.out.on HB.out).q) ?_
    clear D K
    try simp only [ac]
    have z:=hid (bf HB.out)
    have FR:=hid (bB Z.out)
    clear R HB Z V ad F F2
    refine aa.two (i:=7) (j:=11) (o:=⟨some 34,_,_,_,_,_⟩) (p:=⟨some 12,_,_,_,_,_⟩) (by kernel_rfl) rfl rfl (fun K D=>?_) (fun K D=>?_)
    ·skip
     go_simp
     with_reducible refine (numb_any st (some ⟨gA,0,none⟩) cA _ [be x 32] bs 2 q r _ rfl QL.out FR.out.here (ar.out.on z.out.here) (by simp) HS.out HC.out (fun e=>by cases e) HV.out).mono ?_
     rintro e u2 ⟨⟨e5,rfl⟩,hb⟩
     go_wp2_with fail
     have f:=z.out.here.trans (hb.mono z.out.here.size)
     refine D.out _ _ ((E.out.on f).q) ?_
     clear D K
     try simp only [ac]
     have z:=hid (z.out.on hb)
     clear hb f FR
     refine aa.q 8 ⟨some 26,_,_,_,_,_⟩ ((E.out.on z.out.here).q) ?_
     try simp only [ac]
     refine aa.q 9 ⟨some 35,_,_,_,_,_⟩ ((E.out.on z.out.here).q) ?_
     try simp only [ac]
     refine aa.q 10 ⟨some 36,_,_,_,_,_⟩ ((E.out.on z.out.here).q) ?_
     try simp only [ac]
     refine aa.one (i:=11) (o:=⟨some 12,_,_,_,_,_⟩) (by kernel_rfl) rfl (fun K D=>?_)
     go_simp
     have hb:=(Below.refl u2.heap.size u2).alloc (Nat.le_refl _) (.cells #[.int .u64 0,.int .u64 0,.int .u64 0,.int .u64 0] 24)
     have hh:=heap_alloc_new u2 (.cells #[.int .u64 0,.int .u64 0,.int .u64 0,.int .u64 0] 24)
     rw [bH] at hh
     have f:=z.out.here.trans (hb.mono z.out.here.size)
     refine D.out _ _ ((E.out.on f).q) ?_
     clear D K
     try simp only [ac]
     have Y:=hid (z.out.here.size)
     have z:=hid (z.out.on hb)
     have J:=hid (dS (show Nm (u2.alloc (.cells #[.int .u64 0,.int .u64 0,.int .u64 0,.int .u64 0] 24)) u2.heap.size 0 from by rw [bH]; exact hh))
     clear hb hh f
     generalize u2.alloc (.cells #[.int .u64 0,.int .u64 0,.int .u64 0,.int .u64 0] 24)=u3 at *
     generalize u2.heap.size=g12 at *
     have G:=cD (H0.out.on z.out.here) J.out.here
     obtain ⟨z0,z1,z2,z3⟩:=G.cell g12 0 (by simp)
     have zl:=G.lt g12 0 (by simp)
     have zf:=G.frozen g12 0 (by simp)
     have ao:=G.set g12 0 r [(I,0)] (by simp) (Nat.le_trans ap.out Y.out) (fun p hp=>by obtain rfl:=List.mem_singleton.1 hp; exact ⟨by simp,fun e=>by have:=Y.out; have:=an.out; simp at e; omega⟩)
     have M:=(Gm.fil (g':=g12) (E.out.on z.out.here) r (show U≠g12 from fun e=>by have:=Y.out; have:=E.out.lt; omega)).q
     refine aa.one (i:=12) (o:=⟨none,_,_,_,_,_⟩) (by kernel_rfl) rfl (fun K D=>?_)
     go_simp
     refine D.out _ _ M ?_
     clear D K
     try simp only [ac]
     clear G z0 z1 z2 z3 zl zf J z
     change aa _ _ _ _ _ _ _ _ (fil u3 g12 r)
     generalize fil u3 g12 r=u99 at *
     refine aa.q 13 ⟨some 13,_,_,_,_,_⟩ M ?_
     try simp only [ac]
     refine aa.done (by kernel_rfl) ?_ _
     refine NoPanic.normal ?_
     go_wp2_with fail
     go_meet
     exact ⟨_,rfl,hid ao⟩
    ·skip
     go_simp
     have hb:=(Below.refl u1.heap.size u1).alloc (Nat.le_refl _) (.cells #[.int .u64 0,.int .u64 0,.int .u64 0,.int .u64 0] 24)
     have hh:=heap_alloc_new u1 (.cells #[.int .u64 0,.int .u64 0,.int .u64 0,.int .u64 0] 24)
     rw [bH] at hh
     have f:=z.out.here.trans (hb.mono z.out.here.size)
     refine D.out _ _ ((E.out.on f).q) ?_
     clear D K
     try simp only [ac]
     have Y:=hid (z.out.here.size)
     have z:=hid (z.out.on hb)
     have FR:=hid (FR.out.on hb)
     have J:=hid (dS (show Nm (u1.alloc (.cells #[.int .u64 0,.int .u64 0,.int .u64 0,.int .u64 0] 24)) u1.heap.size 0 from by rw [bH]; exact hh))
     clear hb hh f
     generalize u1.alloc (.cells #[.int .u64 0,.int .u64 0,.int .u64 0,.int .u64 0] 24)=u4 at *
     generalize u1.heap.size=g12 at *
     refine aa.one (i:=7) (o:=⟨some 34,_,_,_,_,_⟩) (by kernel_rfl) rfl (fun K D=>?_)
     go_simp
     with_reducible refine (numb_any st (some ⟨gA,0,none⟩) cA _ [be x 32] bs 2 q r _ rfl QL.out FR.out.here (ar.out.on z.out.here) (by simp) HS.out HC.out (fun e=>by cases e) HV.out).mono ?_
     rintro e u5 ⟨⟨e5,rfl⟩,hb⟩
     go_wp2_with fail
     have f:=z.out.here.trans (hb.mono z.out.here.size)
     refine D.out _ _ ((E.out.on f).q) ?_
     clear D K
     try simp only [ac]
     have z:=hid (z.out.on hb)
     have J:=hid (J.out.on hb)
     clear hb f FR
     refine aa.q 8 ⟨some 26,_,_,_,_,_⟩ ((E.out.on z.out.here).q) ?_
     try simp only [ac]
     refine aa.q 9 ⟨some 35,_,_,_,_,_⟩ ((E.out.on z.out.here).q) ?_
     try simp only [ac]
     refine aa.q 10 ⟨some 36,_,_,_,_,_⟩ ((E.out.on z.out.here).q) ?_
     try simp only [ac]
     have G:=cD (H0.out.on z.out.here) J.out.here
     obtain ⟨z0,z1,z2,z3⟩:=G.cell g12 0 (by simp)
     have zl:=G.lt g12 0 (by simp)
     have zf:=G.frozen g12 0 (by simp)
     have ao:=G.set g12 0 r [(I,0)] (by simp) (Nat.le_trans ap.out Y.out) (fun p hp=>by obtain rfl:=List.mem_singleton.1 hp; exact ⟨by simp,fun e=>by have:=Y.out; have:=an.out; simp at e; omega⟩)
     have M:=(Gm.fil (g':=g12) (E.out.on z.out.here) r (show U≠g12 from fun e=>by have:=Y.out; have:=E.out.lt; omega)).q
     refine aa.one (i:=12) (o:=⟨none,_,_,_,_,_⟩) (by kernel_rfl) rfl (fun K D=>?_)
     go_simp
     refine D.out _ _ M ?_
     clear D K
     try simp only [ac]
     clear G z0 z1 z2 z3 zl zf J z
     change aa _ _ _ _ _ _ _ _ (fil u5 g12 r)
     generalize fil u5 g12 r=u99 at *
     refine aa.q 13 ⟨some 13,_,_,_,_,_⟩ M ?_
     try simp only [ac]
     refine aa.done (by kernel_rfl) ?_ _
     refine NoPanic.normal ?_
     go_wp2_with fail
     go_meet
     exact ⟨_,rfl,hid ao⟩
   ·skip
    go_simp
    have hb:=(Below.refl u0.heap.size u0).alloc (Nat.le_refl _) (.cells #[.int .u64 0,.int .u64 0,.int .u64 0,.int .u64 0] 24)
    have hh:=heap_alloc_new u0 (.cells #[.int .u64 0,.int .u64 0,.int .u64 0,.int .u64 0] 24)
    rw [bH] at hh
    have f:=F.out.here.old.trans (hb.mono F.out.here.old.size)
    refine D.out _ _ ((E.out.on f).q) ?_
    clear D K
    try simp only [ac]
    have Y:=hid (F.out.here.old.size)
    have FF:=hid (F.out.here.free u0.heap.size (Nat.le_refl _))
    have F:=hid (F.out.on hb)
    have F2:=hid (F2.out.on hb)
    have J:=hid (dS (show Nm (u0.alloc (.cells #[.int .u64 0,.int .u64 0,.int .u64 0,.int .u64 0] 24)) u0.heap.size 0 from by rw [bH]; exact hh))
    clear hb hh f
    generalize u0.alloc (.cells #[.int .u64 0,.int .u64 0,.int .u64 0,.int .u64 0] 24)=u6 at *
    generalize u0.heap.size=g12 at *
    refine aa.one (i:=6) (o:=⟨some 33,_,_,_,_,_⟩) (by kernel_rfl) rfl (fun K D=>?_)
    rw [if_pos (by rfl)]
    obtain ⟨gA,cA,u7,R,HB,HC,Z,V,ad⟩:=Pt.last F.out.here (by simp) 1 HL.out az.out F2.out.here
    have HC:Hid (2≤cA):=HC
    have Z:Hid (Rws u7 (some ⟨gA,0,none⟩) 2 (fun r=>some ⟨([h0]:List Nat).getD r O,0,none⟩) (fun _=>32) (fun _=>32) (pts [be x 32] bs)):=Z
    have R:Hid ((Builtin.append_ #[79,79] 79 #[v1,.slice (some ⟨gb,0,none⟩) 1 1]).run Tryz.prog u6=.ok (.slice (some ⟨gA,0,none⟩) 2 cA) u7):=R
    refine bh 79 (.tmp 30) (.tmp 32) (by rfl) (by rfl) _ _ (by rfl) (by rfl) _ _ R.out ?_
    refine D.out _ _ ((E.out.on HB.out).q) ?_
    clear D K
    try simp only [ac]
    have J:=hid (dS (show Nm u7 g12 0 from (V.out g12 (lt_of_block J.out.here) FF.out).trans J.out.here))
    have z:=hid (bf HB.out)
    have FR:=hid (bB Z.out)
    clear R HB Z V ad F F2
    refine aa.one (i:=7) (o:=⟨some 34,_,_,_,_,_⟩) (by kernel_rfl) rfl (fun K D=>?_)
    go_simp
    with_reducible refine (numb_any st (some ⟨gA,0,none⟩) cA _ [be x 32] bs 2 q r _ rfl QL.out FR.out.here (ar.out.on z.out.here) (by simp) HS.out HC.out (fun e=>by cases e) HV.out).mono ?_
    rintro e u8 ⟨⟨e5,rfl⟩,hb⟩
    go_wp2_with fail
    have f:=z.out.here.trans (hb.mono z.out.here.size)
    refine D.out _ _ ((E.out.on f).q) ?_
    clear D K
    try simp only [ac]
    have z:=hid (z.out.on hb)
    have J:=hid (J.out.on hb)
    clear hb f FR
    refine aa.q 8 ⟨some 26,_,_,_,_,_⟩ ((E.out.on z.out.here).q) ?_
    try simp only [ac]
    refine aa.q 9 ⟨some 35,_,_,_,_,_⟩ ((E.out.on z.out.here).q) ?_
    try simp only [ac]
    refine aa.q 10 ⟨some 36,_,_,_,_,_⟩ ((E.out.on z.out.here).q) ?_
    try simp only [ac]
    have G:=cD (H0.out.on z.out.here) J.out.here
    obtain ⟨z0,z1,z2,z3⟩:=G.cell g12 0 (by simp)
    have zl:=G.lt g12 0 (by simp)
    have zf:=G.frozen g12 0 (by simp)
    have ao:=G.set g12 0 r [(I,0)] (by simp) (Nat.le_trans ap.out Y.out) (fun p hp=>by obtain rfl:=List.mem_singleton.1 hp; exact ⟨by simp,fun e=>by have:=Y.out; have:=an.out; simp at e; omega⟩)
    have M:=(Gm.fil (g':=g12) (E.out.on z.out.here) r (show U≠g12 from fun e=>by have:=Y.out; have:=E.out.lt; omega)).q
    refine aa.one (i:=12) (o:=⟨none,_,_,_,_,_⟩) (by kernel_rfl) rfl (fun K D=>?_)
    go_simp
    refine D.out _ _ M ?_
    clear D K
    try simp only [ac]
    clear G z0 z1 z2 z3 zl zf J z
    change aa _ _ _ _ _ _ _ _ (fil u8 g12 r)
    generalize fil u8 g12 r=u99 at *
    refine aa.q 13 ⟨some 13,_,_,_,_,_⟩ M ?_
    try simp only [ac]
    refine aa.done (by kernel_rfl) ?_ _
    refine NoPanic.normal ?_
    go_wp2_with fail
    go_meet
    exact ⟨_,rfl,hid ao⟩
  ·skip
   go_simp
   have hb:=(Below.refl ud.heap.size ud).alloc (Nat.le_refl _) (.cells #[.int .u64 0,.int .u64 0,.int .u64 0,.int .u64 0] 24)
   have hh:=heap_alloc_new ud (.cells #[.int .u64 0,.int .u64 0,.int .u64 0,.int .u64 0] 24)
   rw [bH] at hh
   have f:=F.out.here.old.trans (hb.mono F.out.here.old.size)
   refine D.out _ _ ((E.out.on f).q) ?_
   clear D K
   try simp only [ac]
   have Y:=hid (F.out.here.old.size)
   have FF:=hid (F.out.here.free ud.heap.size (Nat.le_refl _))
   have F:=hid (F.out.on hb)
   have J:=hid (dS (show Nm (ud.alloc (.cells #[.int .u64 0,.int .u64 0,.int .u64 0,.int .u64 0] 24)) ud.heap.size 0 from by rw [bH]; exact hh))
   clear hb hh f
   generalize ud.alloc (.cells #[.int .u64 0,.int .u64 0,.int .u64 0,.int .u64 0] 24)=u9 at *
   generalize ud.heap.size=g12 at *
   refine aa.one (i:=5) (o:=⟨some 32,_,_,_,_,_⟩) (by kernel_rfl) rfl (fun K D=>?_)
   go_simp
   have hb:=(Below.refl u9.heap.size u9).alloc (Nat.le_refl _) (.cells #[.slice (some ⟨O,0,none⟩) 32 32] 66)
   have hh:=heap_alloc_new u9 (.cells #[.slice (some ⟨O,0,none⟩) 32 32] 66)
   have f:=F.out.here.old.trans (hb.mono F.out.here.old.size)
   refine D.out _ _ ((E.out.on f).q) ?_
   clear D K
   try simp only [ac]
   have F:=hid (F.out.on hb)
   have J:=hid (J.out.on hb)
   have F2:=hid (ce (i:=0) (lt_of_block hh) (by rw [cell_of_row _ _ _ _ 66 _ hh]; rfl))
   clear hb hh f
   generalize u9.alloc (.cells #[.slice (some ⟨O,0,none⟩) 32 32] 66)=u10 at *
   generalize u9.heap.size=gb at *
   refine aa.one (i:=6) (o:=⟨some 33,_,_,_,_,_⟩) (by kernel_rfl) rfl (fun K D=>?_)
   rw [if_pos (by rfl)]
   obtain ⟨gA,cA,u11,R,HB,HC,Z,V,ad⟩:=Pt.last F.out.here (by simp) 1 HL.out az.out F2.out.here
   have HC:Hid (2≤cA):=HC
   have Z:Hid (Rws u11 (some ⟨gA,0,none⟩) 2 (fun r=>some ⟨([h0]:List Nat).getD r O,0,none⟩) (fun _=>32) (fun _=>32) (pts [be x 32] bs)):=Z
   have R:Hid ((Builtin.append_ #[79,79] 79 #[v1,.slice (some ⟨gb,0,none⟩) 1 1]).run Tryz.prog u10=.ok (.slice (some ⟨gA,0,none⟩) 2 cA) u11):=R
   refine bh 79 (.tmp 30) (.tmp 32) (by rfl) (by rfl) _ _ (by rfl) (by rfl) _ _ R.out ?_
   refine D.out _ _ ((E.out.on HB.out).q) ?_
   clear D K
   try simp only [ac]
   have J:=hid (dS (show Nm u11 g12 0 from (V.out g12 (lt_of_block J.out.here) FF.out).trans J.out.here))
   have z:=hid (bf HB.out)
   have FR:=hid (bB Z.out)
   clear R HB Z V ad F F2
   refine aa.one (i:=7) (o:=⟨some 34,_,_,_,_,_⟩) (by kernel_rfl) rfl (fun K D=>?_)
   go_simp
   with_reducible refine (numb_any st (some ⟨gA,0,none⟩) cA _ [be x 32] bs 2 q r _ rfl QL.out FR.out.here (ar.out.on z.out.here) (by simp) HS.out HC.out (fun e=>by cases e) HV.out).mono ?_
   rintro e u12 ⟨⟨e5,rfl⟩,hb⟩
   go_wp2_with fail
   have f:=z.out.here.trans (hb.mono z.out.here.size)
   refine D.out _ _ ((E.out.on f).q) ?_
   clear D K
   try simp only [ac]
   have z:=hid (z.out.on hb)
   have J:=hid (J.out.on hb)
   clear hb f FR
   refine aa.q 8 ⟨some 26,_,_,_,_,_⟩ ((E.out.on z.out.here).q) ?_
   try simp only [ac]
   refine aa.q 9 ⟨some 35,_,_,_,_,_⟩ ((E.out.on z.out.here).q) ?_
   try simp only [ac]
   refine aa.q 10 ⟨some 36,_,_,_,_,_⟩ ((E.out.on z.out.here).q) ?_
   try simp only [ac]
   have G:=cD (H0.out.on z.out.here) J.out.here
   obtain ⟨z0,z1,z2,z3⟩:=G.cell g12 0 (by simp)
   have zl:=G.lt g12 0 (by simp)
   have zf:=G.frozen g12 0 (by simp)
   have ao:=G.set g12 0 r [(I,0)] (by simp) (Nat.le_trans ap.out Y.out) (fun p hp=>by obtain rfl:=List.mem_singleton.1 hp; exact ⟨by simp,fun e=>by have:=Y.out; have:=an.out; simp at e; omega⟩)
   have M:=(Gm.fil (g':=g12) (E.out.on z.out.here) r (show U≠g12 from fun e=>by have:=Y.out; have:=E.out.lt; omega)).q
   refine aa.one (i:=12) (o:=⟨none,_,_,_,_,_⟩) (by kernel_rfl) rfl (fun K D=>?_)
   go_simp
   refine D.out _ _ M ?_
   clear D K
   try simp only [ac]
   clear G z0 z1 z2 z3 zl zf J z
   change aa _ _ _ _ _ _ _ _ (fil u12 g12 r)
   generalize fil u12 g12 r=u99 at *
   refine aa.q 13 ⟨some 13,_,_,_,_,_⟩ M ?_
   try simp only [ac]
   refine aa.done (by kernel_rfl) ?_ _
   refine NoPanic.normal ?_
   go_wp2_with fail
   go_meet
   exact ⟨_,rfl,hid ao⟩
 case rest =>
  obtain ⟨g12,rfl,H9⟩:=hcut
  obtain ⟨c0,c1,c2,c3⟩:=H9.out.cell g12 r (by simp)
  have cl:=H9.out.lt g12 r (by simp)
  have cm:=Nat.le_of_lt cl
  obtain ⟨z0,z1,z2,z3⟩:=H9.out.cell I 0 (by simp)
  have zl:=H9.out.lt I 0 (by simp)
  have zf:=H9.out.frozen I 0 (by simp)
  have HZ:=hid (H9.out.set I 0 r [] (by simp) (Nat.le_of_eq aQ.out) (by simp))
  go_wp2
  clear z0 z1 z2 z3 zl zf c0 c1 c2 c3 cl cm
  try rw [Exit.noGoto_ret]
  change bodyPost _ _ _ _ _ (fil wc I r)
  generalize fil wc I r=wz at *
  obtain ⟨k0,k1,k2,k3⟩:=HZ.out.cell I r (by simp)
  exact bodyPost_ret (v:=af r) (by simp [results,Tryz.results41,go_sem,k0,k1,k2,k3]) rfl ⟨rfl,by rw [aN]; exact aA.out _ HZ.out.1⟩
theorem summed2_any (p q g x y:Nat) (st:ByteArray) (bs:List UInt8) (gl r:Nat) (w:World) (hq:q<2 ^ 256) (hx:x<2 ^ 256) (hy:y<2 ^ 256) (bS:bs.length=32) (D:Kt w) (G:st.size≤1000000) (hS:Sl2 w gl x y) (hv:nop st [be x 32,be y 32] bs q=r) :
  Calls Tryz.prog 41 #[gv p q g,.string st,.agg (au bs).toArray,.slice (some ⟨gl,0,none⟩) 2 2] w fun e w'=>e=.returned (af r)∧Below w.heap.size w w':=by
 have QL:=hid hq
 have XL:=hid hx
 have YL:=hid hy
 have HL:=hid bS
 have HS:=hid G
 have HV:=hid hv
 obtain ⟨bA,bI,aL,aJ⟩:=boxes2 w (aY p q g) (au bs).toArray 26 28
 have az:Sl2 ((w.alloc (.cells (aY p q g) 26)).alloc (.cells (au bs).toArray 28)) gl x y:=(bA.block gl (lt_of_block hS)).trans hS
 have aK:=D.on bA
 clear hq hx hy bS G hv hS D
 have aA:Hid (∀ u,Below ((w.alloc (.cells (aY p q g) 26)).alloc (.cells (au bs).toArray 28)).heap.size ((w.alloc (.cells (aY p q g) 26)).alloc (.cells (au bs).toArray 28)) u→Below w.heap.size w u):=hid (fun u hu=>bA.trans (hu.mono bA.size))
 go_enter Tryz.func41,Tryz.ntmps41
 go_wp2_with fail
 generalize (w.alloc (.cells (aY p q g) 26)).alloc (.cells (au bs).toArray 28)=W0 at *
 have hE:=(ae.refl W0).zero
 rw [bI] at hE
 have ab:=(Below.refl W0.heap.size W0).alloc (Nat.le_refl _) (.cells #[.int .u64 0,.int .u64 0,.int .u64 0,.int .u64 0] 24)
 have ax:=hid ab.size
 have aS:Hid (W0.heap.size=w.heap.size+1+1):=hid bI
 have ar:=hid (hE.lt (w.heap.size+1+1) 0 (by simp))
 have H0:=hid hE
 have E:Hid (Gm _ w.heap.size 26 p q g):=hid (Gm.on aL ab)
 have aI:Bt _ (w.heap.size+1) 28 bs:=Bt.on aJ ab
 have aC:=hid (bt_rd aI)
 have ay:=hid (aK.on ab)
 have aB:Hid (Sl2 _ gl x y):=hid ((ab.block gl (lt_of_block az)).trans az)
 clear hE ab aI bA bI aL aJ az aK
 generalize W0.alloc (.cells #[.int .u64 0,.int .u64 0,.int .u64 0,.int .u64 0] 24)=w0 at *
 generalize w.heap.size+1+1=I at *
 generalize w.heap.size+1=O at *
 generalize aR:w.heap.size=V at *
 have aG:=hid (Pt.nil (Below.refl w0.heap.size w0))
 refine wp_loop_rounds 3 ?_
 rw [rounds_succ]
 obtain ⟨s0,s1,s2,s3,s4,s5,s6,s7,sl⟩:=aB.out.at aG.out.old
 go_wp2_with fail
 clear s0 s1 s2 s3 s4 s5 s6 s7 sl
 have ap:=hid (aG.out.on ((Below.refl _ _).alloc (Nat.le_refl _) (.cells (ai x) 24)))
 clear aG
 generalize w0.alloc (.cells (ai x) 24)=aU at *
 refine (pl_any x _ XL.out).mono ?_
 rintro e aQ ⟨h0,rfl,ad,U,hb⟩
 obtain ⟨v1,w1,R,aE⟩:=Pt.put ((ap.out.on hb).on ((Below.refl _ _).alloc (Nat.le_refl _) (.cells #[.slice (some ⟨h0,0,none⟩) 32 32] 66))) (by simp) 1 (be32 x) (U.alloc (.cells #[.slice (some ⟨h0,0,none⟩) 32 32] 66)) (ap.out.free h0 ad) (by rw [cell_of_row _ _ 0 _ 66 (0,0) (heap_alloc_new aQ (.cells #[.slice (some ⟨h0,0,none⟩) 32 32] 66))]; rfl)
 clear ad U hb ap
 go_wp2_with (at_builtin; refine sp_append_rows rfl (.tmp 20) (.tmp 23) rfl rfl _ _ rfl rfl _ _ R.out ?_)
 clear R
 rw [rounds_succ]
 obtain ⟨s0,s1,s2,s3,s4,s5,s6,s7,sl⟩:=aB.out.at aE.out.old
 go_wp2_with fail
 clear s0 s1 s2 s3 s4 s5 s6 s7 sl
 have an:=hid (aE.out.on ((Below.refl _ _).alloc (Nat.le_refl _) (.cells (ai y) 24)))
 clear aE
 generalize w1.alloc (.cells (ai y) 24)=aT at *
 refine (pl_any y _ YL.out).mono ?_
 rintro e aN ⟨h1,rfl,ad,U,hb⟩
 obtain ⟨v2,w2,R,aM⟩:=Pt.put ((an.out.on hb).on ((Below.refl _ _).alloc (Nat.le_refl _) (.cells #[.slice (some ⟨h1,0,none⟩) 32 32] 66))) (by simp) 1 (be32 y) (U.alloc (.cells #[.slice (some ⟨h1,0,none⟩) 32 32] 66)) (an.out.free h1 ad) (by rw [cell_of_row _ _ 0 _ 66 (0,0) (heap_alloc_new aN (.cells #[.slice (some ⟨h1,0,none⟩) 32 32] 66))]; rfl)
 clear ad U hb an
 go_wp2_with (at_builtin; refine sp_append_rows rfl (.tmp 20) (.tmp 23) rfl rfl _ _ rfl rfl _ _ R.out ?_)
 clear R
 rw [rounds_succ]
 go_upto_region 7 with fail
 go_cut [12] (fun s12 wx=>∃ g12:Nat,s12=.pointer (some ⟨g12,0,none⟩)∧Hid (ae W0 [(g12,r),(I,0)] wx))
 case first =>
  have F:=hid (on_pt aM.out)
  have hb:=(Below.refl w2.heap.size w2).drew
  have F:=hid (F.out.on hb)
  clear hb aM aB
  refine wp_region_noPanic ?_
  refine aa.region (fun (L:Array Bool) (u:World)=>u.cell? ⟨V,4,none⟩=some (.int .u64 (wd q 0:Int))∧u.cell? ⟨V,5,none⟩=some (.int .u64 (wd q 1:Int))∧u.cell? ⟨V,6,none⟩=some (.int .u64 (wd q 2:Int))∧u.cell? ⟨V,7,none⟩=some (.int .u64 (wd q 3:Int))) (by kernel_rfl) ?_
  generalize w2.drew=ud at *
  refine aa.q 0 ⟨some 27,_,_,_,_,_⟩ ((E.out.on F.out.here.old).q) ?_
  try simp only [ac]
  refine aa.tk (i:=1) (o:=⟨some 28,_,_,_,_,_⟩) (v:=?_) [] (y:=Or.inl ⟨by rfl,?_⟩) (s:=(E.out.on F.out.here.old).q) (H:=?_)
  rotate_left
  ·rintro u ⟨up,-,hX⟩; (try dsimp only at hX); obtain ⟨x0,x1,x2,x3⟩:=hX; go_simp; try with_reducible rfl
  try simp only [ac]
  refine aa.q 2 ⟨some 29,_,_,_,_,_⟩ ((E.out.on F.out.here.old).q) ?_
  try simp only [ac]
  refine aa.q 3 ⟨some 30,_,_,_,_,_⟩ ((E.out.on F.out.here.old).q) ?_
  try simp only [ac]
  refine aa.q 4 ⟨some 31,_,_,_,_,_⟩ ((E.out.on F.out.here.old).q) ?_
  try simp only [ac]
  refine aa.two (i:=5) (j:=11) (o:=⟨some 32,_,_,_,_,_⟩) (p:=⟨some 12,_,_,_,_,_⟩) (by kernel_rfl) rfl rfl (fun K D=>?_) (fun K D=>?_)
  ·skip
   go_simp
   have hb:=(Below.refl ud.heap.size ud).alloc (Nat.le_refl _) (.cells #[.slice (some ⟨O,0,none⟩) 32 32] 66)
   have hh:=heap_alloc_new ud (.cells #[.slice (some ⟨O,0,none⟩) 32 32] 66)
   have f:=F.out.here.old.trans (hb.mono F.out.here.old.size)
   refine D.out _ _ ((E.out.on f).q) ?_
   clear D K
   try simp only [ac]
   have F:=hid (F.out.on hb)
   have F2:=hid (ce (i:=0) (lt_of_block hh) (by rw [cell_of_row _ _ _ _ 66 _ hh]; rfl))
   clear hb hh f
   generalize ud.alloc (.cells #[.slice (some ⟨O,0,none⟩) 32 32] 66)=u0 at *
   generalize ud.heap.size=gb at *
   refine aa.two (i:=6) (j:=11) (o:=⟨some 33,_,_,_,_,_⟩) (p:=⟨some 12,_,_,_,_,_⟩) (by kernel_rfl) rfl rfl (fun K D=>?_) (fun K D=>?_)
   ·skip
    rw [if_pos (by rfl)]
    obtain ⟨gA,cA,u1,R,HB,HC,HR,Y,al⟩:=Pt.last F.out.here (by simp) 1 HL.out aC.out F2.out.here
    have HC:Hid (3≤cA):=HC
    have HR:Hid (Rws u1 (some ⟨gA,0,none⟩) 3 (fun r=>some ⟨([h0,h1]:List Nat).getD r O,0,none⟩) (fun _=>32) (fun _=>32) (pts [be x 32,be y 32] bs)):=HR
    have R:Hid ((Builtin.append_ #[79,79] 79 #[v2,.slice (some ⟨gb,0,none⟩) 1 1]).run Tryz.prog u0=.ok (.slice (some ⟨gA,0,none⟩) 3 cA) u1):=R
    refine bh 79 (.tmp 30) (.tmp 32) (by rfl) (by rfl) _ _ (by rfl) (by rfl) _ _ R.out ?_
    refine D.out _ _ ((E.out.on HB.out).q) ?_
    clear D K
    try simp only [ac]
    have z:=hid (bf HB.out)
    have FR:=hid (bB HR.out)
    clear R HB HR Y al F F2
    refine aa.two (i:=7) (j:=11) (o:=⟨some 34,_,_,_,_,_⟩) (p:=⟨some 12,_,_,_,_,_⟩) (by kernel_rfl) rfl rfl (fun K D=>?_) (fun K D=>?_)
    ·skip
     go_simp
     with_reducible refine (numb_any st (some ⟨gA,0,none⟩) cA _ [be x 32,be y 32] bs 3 q r _ rfl QL.out FR.out.here (ay.out.on z.out.here) (by simp) HS.out HC.out (fun e=>by cases e) HV.out).mono ?_
     rintro e u2 ⟨⟨e5,rfl⟩,hb⟩
     go_wp2_with fail
     have f:=z.out.here.trans (hb.mono z.out.here.size)
     refine D.out _ _ ((E.out.on f).q) ?_
     clear D K
     try simp only [ac]
     have z:=hid (z.out.on hb)
     clear hb f FR
     refine aa.q 8 ⟨some 26,_,_,_,_,_⟩ ((E.out.on z.out.here).q) ?_
     try simp only [ac]
     refine aa.q 9 ⟨some 35,_,_,_,_,_⟩ ((E.out.on z.out.here).q) ?_
     try simp only [ac]
     refine aa.q 10 ⟨some 36,_,_,_,_,_⟩ ((E.out.on z.out.here).q) ?_
     try simp only [ac]
     refine aa.one (i:=11) (o:=⟨some 12,_,_,_,_,_⟩) (by kernel_rfl) rfl (fun K D=>?_)
     go_simp
     have hb:=(Below.refl u2.heap.size u2).alloc (Nat.le_refl _) (.cells #[.int .u64 0,.int .u64 0,.int .u64 0,.int .u64 0] 24)
     have hh:=heap_alloc_new u2 (.cells #[.int .u64 0,.int .u64 0,.int .u64 0,.int .u64 0] 24)
     rw [bH] at hh
     have f:=z.out.here.trans (hb.mono z.out.here.size)
     refine D.out _ _ ((E.out.on f).q) ?_
     clear D K
     try simp only [ac]
     have Z:=hid (z.out.here.size)
     have z:=hid (z.out.on hb)
     have J:=hid (dS (show Nm (u2.alloc (.cells #[.int .u64 0,.int .u64 0,.int .u64 0,.int .u64 0] 24)) u2.heap.size 0 from by rw [bH]; exact hh))
     clear hb hh f
     generalize u2.alloc (.cells #[.int .u64 0,.int .u64 0,.int .u64 0,.int .u64 0] 24)=u3 at *
     generalize u2.heap.size=g12 at *
     have G:=cD (H0.out.on z.out.here) J.out.here
     obtain ⟨z0,z1,z2,z3⟩:=G.cell g12 0 (by simp)
     have zl:=G.lt g12 0 (by simp)
     have zf:=G.frozen g12 0 (by simp)
     have ao:=G.set g12 0 r [(I,0)] (by simp) (Nat.le_trans ax.out Z.out) (fun p hp=>by obtain rfl:=List.mem_singleton.1 hp; exact ⟨by simp,fun e=>by have:=Z.out; have:=ar.out; simp at e; omega⟩)
     have M:=(Gm.fil (g':=g12) (E.out.on z.out.here) r (show V≠g12 from fun e=>by have:=Z.out; have:=E.out.lt; omega)).q
     refine aa.one (i:=12) (o:=⟨none,_,_,_,_,_⟩) (by kernel_rfl) rfl (fun K D=>?_)
     go_simp
     refine D.out _ _ M ?_
     clear D K
     try simp only [ac]
     clear G z0 z1 z2 z3 zl zf J z
     change aa _ _ _ _ _ _ _ _ (fil u3 g12 r)
     generalize fil u3 g12 r=u99 at *
     refine aa.q 13 ⟨some 13,_,_,_,_,_⟩ M ?_
     try simp only [ac]
     refine aa.done (by kernel_rfl) ?_ _
     refine NoPanic.normal ?_
     go_wp2_with fail
     go_meet
     exact ⟨_,rfl,hid ao⟩
    ·skip
     go_simp
     have hb:=(Below.refl u1.heap.size u1).alloc (Nat.le_refl _) (.cells #[.int .u64 0,.int .u64 0,.int .u64 0,.int .u64 0] 24)
     have hh:=heap_alloc_new u1 (.cells #[.int .u64 0,.int .u64 0,.int .u64 0,.int .u64 0] 24)
     rw [bH] at hh
     have f:=z.out.here.trans (hb.mono z.out.here.size)
     refine D.out _ _ ((E.out.on f).q) ?_
     clear D K
     try simp only [ac]
     have Z:=hid (z.out.here.size)
     have z:=hid (z.out.on hb)
     have FR:=hid (FR.out.on hb)
     have J:=hid (dS (show Nm (u1.alloc (.cells #[.int .u64 0,.int .u64 0,.int .u64 0,.int .u64 0] 24)) u1.heap.size 0 from by rw [bH]; exact hh))
     clear hb hh f
     generalize u1.alloc (.cells #[.int .u64 0,.int .u64 0,.int .u64 0,.int .u64 0] 24)=u4 at *
     generalize u1.heap.size=g12 at *
     refine aa.one (i:=7) (o:=⟨some 34,_,_,_,_,_⟩) (by kernel_rfl) rfl (fun K D=>?_)
     go_simp
     with_reducible refine (numb_any st (some ⟨gA,0,none⟩) cA _ [be x 32,be y 32] bs 3 q r _ rfl QL.out FR.out.here (ay.out.on z.out.here) (by simp) HS.out HC.out (fun e=>by cases e) HV.out).mono ?_
     rintro e u5 ⟨⟨e5,rfl⟩,hb⟩
     go_wp2_with fail
     have f:=z.out.here.trans (hb.mono z.out.here.size)
     refine D.out _ _ ((E.out.on f).q) ?_
     clear D K
     try simp only [ac]
     have z:=hid (z.out.on hb)
     have J:=hid (J.out.on hb)
     clear hb f FR
     refine aa.q 8 ⟨some 26,_,_,_,_,_⟩ ((E.out.on z.out.here).q) ?_
     try simp only [ac]
     refine aa.q 9 ⟨some 35,_,_,_,_,_⟩ ((E.out.on z.out.here).q) ?_
     try simp only [ac]
     refine aa.q 10 ⟨some 36,_,_,_,_,_⟩ ((E.out.on z.out.here).q) ?_
     try simp only [ac]
     have G:=cD (H0.out.on z.out.here) J.out.here
     obtain ⟨z0,z1,z2,z3⟩:=G.cell g12 0 (by simp)
     have zl:=G.lt g12 0 (by simp)
     have zf:=G.frozen g12 0 (by simp)
     have ao:=G.set g12 0 r [(I,0)] (by simp) (Nat.le_trans ax.out Z.out) (fun p hp=>by obtain rfl:=List.mem_singleton.1 hp; exact ⟨by simp,fun e=>by have:=Z.out; have:=ar.out; simp at e; omega⟩)
     have M:=(Gm.fil (g':=g12) (E.out.on z.out.here) r (show V≠g12 from fun e=>by have:=Z.out; have:=E.out.lt; omega)).q
     refine aa.one (i:=12) (o:=⟨none,_,_,_,_,_⟩) (by kernel_rfl) rfl (fun K D=>?_)
     go_simp
     refine D.out _ _ M ?_
     clear D K
     try simp only [ac]
     clear G z0 z1 z2 z3 zl zf J z
     change aa _ _ _ _ _ _ _ _ (fil u5 g12 r)
     generalize fil u5 g12 r=u99 at *
     refine aa.q 13 ⟨some 13,_,_,_,_,_⟩ M ?_
     try simp only [ac]
     refine aa.done (by kernel_rfl) ?_ _
     refine NoPanic.normal ?_
     go_wp2_with fail
     go_meet
     exact ⟨_,rfl,hid ao⟩
   ·skip
    go_simp
    have hb:=(Below.refl u0.heap.size u0).alloc (Nat.le_refl _) (.cells #[.int .u64 0,.int .u64 0,.int .u64 0,.int .u64 0] 24)
    have hh:=heap_alloc_new u0 (.cells #[.int .u64 0,.int .u64 0,.int .u64 0,.int .u64 0] 24)
    rw [bH] at hh
    have f:=F.out.here.old.trans (hb.mono F.out.here.old.size)
    refine D.out _ _ ((E.out.on f).q) ?_
    clear D K
    try simp only [ac]
    have Z:=hid (F.out.here.old.size)
    have FF:=hid (F.out.here.free u0.heap.size (Nat.le_refl _))
    have F:=hid (F.out.on hb)
    have F2:=hid (F2.out.on hb)
    have J:=hid (dS (show Nm (u0.alloc (.cells #[.int .u64 0,.int .u64 0,.int .u64 0,.int .u64 0] 24)) u0.heap.size 0 from by rw [bH]; exact hh))
    clear hb hh f
    generalize u0.alloc (.cells #[.int .u64 0,.int .u64 0,.int .u64 0,.int .u64 0] 24)=u6 at *
    generalize u0.heap.size=g12 at *
    refine aa.one (i:=6) (o:=⟨some 33,_,_,_,_,_⟩) (by kernel_rfl) rfl (fun K D=>?_)
    rw [if_pos (by rfl)]
    obtain ⟨gA,cA,u7,R,HB,HC,HR,Y,al⟩:=Pt.last F.out.here (by simp) 1 HL.out aC.out F2.out.here
    have HC:Hid (3≤cA):=HC
    have HR:Hid (Rws u7 (some ⟨gA,0,none⟩) 3 (fun r=>some ⟨([h0,h1]:List Nat).getD r O,0,none⟩) (fun _=>32) (fun _=>32) (pts [be x 32,be y 32] bs)):=HR
    have R:Hid ((Builtin.append_ #[79,79] 79 #[v2,.slice (some ⟨gb,0,none⟩) 1 1]).run Tryz.prog u6=.ok (.slice (some ⟨gA,0,none⟩) 3 cA) u7):=R
    refine bh 79 (.tmp 30) (.tmp 32) (by rfl) (by rfl) _ _ (by rfl) (by rfl) _ _ R.out ?_
    refine D.out _ _ ((E.out.on HB.out).q) ?_
    clear D K
    try simp only [ac]
    have J:=hid (dS (show Nm u7 g12 0 from (Y.out g12 (lt_of_block J.out.here) FF.out).trans J.out.here))
    have z:=hid (bf HB.out)
    have FR:=hid (bB HR.out)
    clear R HB HR Y al F F2
    refine aa.one (i:=7) (o:=⟨some 34,_,_,_,_,_⟩) (by kernel_rfl) rfl (fun K D=>?_)
    go_simp
    with_reducible refine (numb_any st (some ⟨gA,0,none⟩) cA _ [be x 32,be y 32] bs 3 q r _ rfl QL.out FR.out.here (ay.out.on z.out.here) (by simp) HS.out HC.out (fun e=>by cases e) HV.out).mono ?_
    rintro e u8 ⟨⟨e5,rfl⟩,hb⟩
    go_wp2_with fail
    have f:=z.out.here.trans (hb.mono z.out.here.size)
    refine D.out _ _ ((E.out.on f).q) ?_
    clear D K
    try simp only [ac]
    have z:=hid (z.out.on hb)
    have J:=hid (J.out.on hb)
    clear hb f FR
    refine aa.q 8 ⟨some 26,_,_,_,_,_⟩ ((E.out.on z.out.here).q) ?_
    try simp only [ac]
    refine aa.q 9 ⟨some 35,_,_,_,_,_⟩ ((E.out.on z.out.here).q) ?_
    try simp only [ac]
    refine aa.q 10 ⟨some 36,_,_,_,_,_⟩ ((E.out.on z.out.here).q) ?_
    try simp only [ac]
    have G:=cD (H0.out.on z.out.here) J.out.here
    obtain ⟨z0,z1,z2,z3⟩:=G.cell g12 0 (by simp)
    have zl:=G.lt g12 0 (by simp)
    have zf:=G.frozen g12 0 (by simp)
    have ao:=G.set g12 0 r [(I,0)] (by simp) (Nat.le_trans ax.out Z.out) (fun p hp=>by obtain rfl:=List.mem_singleton.1 hp; exact ⟨by simp,fun e=>by have:=Z.out; have:=ar.out; simp at e; omega⟩)
    have M:=(Gm.fil (g':=g12) (E.out.on z.out.here) r (show V≠g12 from fun e=>by have:=Z.out; have:=E.out.lt; omega)).q
    refine aa.one (i:=12) (o:=⟨none,_,_,_,_,_⟩) (by kernel_rfl) rfl (fun K D=>?_)
    go_simp
    refine D.out _ _ M ?_
    clear D K
    try simp only [ac]
    clear G z0 z1 z2 z3 zl zf J z
    change aa _ _ _ _ _ _ _ _ (fil u8 g12 r)
    generalize fil u8 g12 r=u99 at *
    refine aa.q 13 ⟨some 13,_,_,_,_,_⟩ M ?_
    try simp only [ac]
    refine aa.done (by kernel_rfl) ?_ _
    refine NoPanic.normal ?_
    go_wp2_with fail
    go_meet
    exact ⟨_,rfl,hid ao⟩
  ·skip
   go_simp
   have hb:=(Below.refl ud.heap.size ud).alloc (Nat.le_refl _) (.cells #[.int .u64 0,.int .u64 0,.int .u64 0,.int .u64 0] 24)
   have hh:=heap_alloc_new ud (.cells #[.int .u64 0,.int .u64 0,.int .u64 0,.int .u64 0] 24)
   rw [bH] at hh
   have f:=F.out.here.old.trans (hb.mono F.out.here.old.size)
   refine D.out _ _ ((E.out.on f).q) ?_
   clear D K
   try simp only [ac]
   have Z:=hid (F.out.here.old.size)
   have FF:=hid (F.out.here.free ud.heap.size (Nat.le_refl _))
   have F:=hid (F.out.on hb)
   have J:=hid (dS (show Nm (ud.alloc (.cells #[.int .u64 0,.int .u64 0,.int .u64 0,.int .u64 0] 24)) ud.heap.size 0 from by rw [bH]; exact hh))
   clear hb hh f
   generalize ud.alloc (.cells #[.int .u64 0,.int .u64 0,.int .u64 0,.int .u64 0] 24)=u9 at *
   generalize ud.heap.size=g12 at *
   refine aa.one (i:=5) (o:=⟨some 32,_,_,_,_,_⟩) (by kernel_rfl) rfl (fun K D=>?_)
   go_simp
   have hb:=(Below.refl u9.heap.size u9).alloc (Nat.le_refl _) (.cells #[.slice (some ⟨O,0,none⟩) 32 32] 66)
   have hh:=heap_alloc_new u9 (.cells #[.slice (some ⟨O,0,none⟩) 32 32] 66)
   have f:=F.out.here.old.trans (hb.mono F.out.here.old.size)
   refine D.out _ _ ((E.out.on f).q) ?_
   clear D K
   try simp only [ac]
   have F:=hid (F.out.on hb)
   have J:=hid (J.out.on hb)
   have F2:=hid (ce (i:=0) (lt_of_block hh) (by rw [cell_of_row _ _ _ _ 66 _ hh]; rfl))
   clear hb hh f
   generalize u9.alloc (.cells #[.slice (some ⟨O,0,none⟩) 32 32] 66)=u10 at *
   generalize u9.heap.size=gb at *
   refine aa.one (i:=6) (o:=⟨some 33,_,_,_,_,_⟩) (by kernel_rfl) rfl (fun K D=>?_)
   rw [if_pos (by rfl)]
   obtain ⟨gA,cA,u11,R,HB,HC,HR,Y,al⟩:=Pt.last F.out.here (by simp) 1 HL.out aC.out F2.out.here
   have HC:Hid (3≤cA):=HC
   have HR:Hid (Rws u11 (some ⟨gA,0,none⟩) 3 (fun r=>some ⟨([h0,h1]:List Nat).getD r O,0,none⟩) (fun _=>32) (fun _=>32) (pts [be x 32,be y 32] bs)):=HR
   have R:Hid ((Builtin.append_ #[79,79] 79 #[v2,.slice (some ⟨gb,0,none⟩) 1 1]).run Tryz.prog u10=.ok (.slice (some ⟨gA,0,none⟩) 3 cA) u11):=R
   refine bh 79 (.tmp 30) (.tmp 32) (by rfl) (by rfl) _ _ (by rfl) (by rfl) _ _ R.out ?_
   refine D.out _ _ ((E.out.on HB.out).q) ?_
   clear D K
   try simp only [ac]
   have J:=hid (dS (show Nm u11 g12 0 from (Y.out g12 (lt_of_block J.out.here) FF.out).trans J.out.here))
   have z:=hid (bf HB.out)
   have FR:=hid (bB HR.out)
   clear R HB HR Y al F F2
   refine aa.one (i:=7) (o:=⟨some 34,_,_,_,_,_⟩) (by kernel_rfl) rfl (fun K D=>?_)
   go_simp
   with_reducible refine (numb_any st (some ⟨gA,0,none⟩) cA _ [be x 32,be y 32] bs 3 q r _ rfl QL.out FR.out.here (ay.out.on z.out.here) (by simp) HS.out HC.out (fun e=>by cases e) HV.out).mono ?_
   rintro e u12 ⟨⟨e5,rfl⟩,hb⟩
   go_wp2_with fail
   have f:=z.out.here.trans (hb.mono z.out.here.size)
   refine D.out _ _ ((E.out.on f).q) ?_
   clear D K
   try simp only [ac]
   have z:=hid (z.out.on hb)
   have J:=hid (J.out.on hb)
   clear hb f FR
   refine aa.q 8 ⟨some 26,_,_,_,_,_⟩ ((E.out.on z.out.here).q) ?_
   try simp only [ac]
   refine aa.q 9 ⟨some 35,_,_,_,_,_⟩ ((E.out.on z.out.here).q) ?_
   try simp only [ac]
   refine aa.q 10 ⟨some 36,_,_,_,_,_⟩ ((E.out.on z.out.here).q) ?_
   try simp only [ac]
   have G:=cD (H0.out.on z.out.here) J.out.here
   obtain ⟨z0,z1,z2,z3⟩:=G.cell g12 0 (by simp)
   have zl:=G.lt g12 0 (by simp)
   have zf:=G.frozen g12 0 (by simp)
   have ao:=G.set g12 0 r [(I,0)] (by simp) (Nat.le_trans ax.out Z.out) (fun p hp=>by obtain rfl:=List.mem_singleton.1 hp; exact ⟨by simp,fun e=>by have:=Z.out; have:=ar.out; simp at e; omega⟩)
   have M:=(Gm.fil (g':=g12) (E.out.on z.out.here) r (show V≠g12 from fun e=>by have:=Z.out; have:=E.out.lt; omega)).q
   refine aa.one (i:=12) (o:=⟨none,_,_,_,_,_⟩) (by kernel_rfl) rfl (fun K D=>?_)
   go_simp
   refine D.out _ _ M ?_
   clear D K
   try simp only [ac]
   clear G z0 z1 z2 z3 zl zf J z
   change aa _ _ _ _ _ _ _ _ (fil u12 g12 r)
   generalize fil u12 g12 r=u99 at *
   refine aa.q 13 ⟨some 13,_,_,_,_,_⟩ M ?_
   try simp only [ac]
   refine aa.done (by kernel_rfl) ?_ _
   refine NoPanic.normal ?_
   go_wp2_with fail
   go_meet
   exact ⟨_,rfl,hid ao⟩
 case rest =>
  obtain ⟨g12,rfl,H9⟩:=hcut
  obtain ⟨c0,c1,c2,c3⟩:=H9.out.cell g12 r (by simp)
  have cl:=H9.out.lt g12 r (by simp)
  have cm:=Nat.le_of_lt cl
  obtain ⟨z0,z1,z2,z3⟩:=H9.out.cell I 0 (by simp)
  have zl:=H9.out.lt I 0 (by simp)
  have zf:=H9.out.frozen I 0 (by simp)
  have HZ:=hid (H9.out.set I 0 r [] (by simp) (Nat.le_of_eq aS.out) (by simp))
  go_wp2
  clear z0 z1 z2 z3 zl zf c0 c1 c2 c3 cl cm
  try rw [Exit.noGoto_ret]
  change bodyPost _ _ _ _ _ (fil wc I r)
  generalize fil wc I r=wz at *
  obtain ⟨k0,k1,k2,k3⟩:=HZ.out.cell I r (by simp)
  exact bodyPost_ret (v:=af r) (by simp [results,Tryz.results41,go_sem,k0,k1,k2,k3]) rfl ⟨rfl,by rw [aR]; exact aA.out _ HZ.out.1⟩
theorem chal_any (p q g a b:Nat) (bs:List UInt8) (r:Nat) (w:World) (hq:q<2 ^ 256) (ha:a<2 ^ 256) (hb:b<2 ^ 256) (R:bs.length=32) (hK:Kt w) (hv:nop ⟨#[115,105,103,110]⟩ [be a 32,be b 32] bs q=r) :
  Calls Tryz.prog 19 #[gv p q g,af a,af b,.agg (au bs).toArray] w fun e w'=>e=.returned (af r)∧Below w.heap.size w w':=by
 have QL:=hid hq
 have AL:=hid ha
 have BL:=hid hb
 have HL:=hid R
 have HV:=hid hv
 clear hq ha hb hv
 obtain ⟨K,U,G,f1,f2,f3⟩:=boxes4 w (aY p q g) (ai a) (ai b) ((au bs).toArray) 26 24 24 28 _ rfl
 have aA:Hid (∀ u,Below ((((w.alloc (.cells (aY p q g) 26)).alloc (.cells (ai a) 24)).alloc (.cells (ai b) 24)).alloc (.cells ((au bs).toArray) 28)).heap.size ((((w.alloc (.cells (aY p q g) 26)).alloc (.cells (ai a) 24)).alloc (.cells (ai b) 24)).alloc (.cells ((au bs).toArray) 28)) u→Below w.heap.size w u):=hid (fun u hu=>K.trans (hu.mono K.size))
 have I:=hid (hK.on K)
 clear hK
 go_enter Tryz.func19,Tryz.ntmps19
 go_upto_region 1 with fail
 generalize (((w.alloc (.cells (aY p q g) 26)).alloc (.cells (ai a) 24)).alloc (.cells (ai b) 24)).alloc (.cells ((au bs).toArray) 28)=E at *
 have f:=(Below.refl E.heap.size E).alloc (Nat.le_refl _) (.cells #[.int .u64 0,.int .u64 0,.int .u64 0,.int .u64 0] 24)
 have O:=heap_alloc_new E (.cells #[.int .u64 0,.int .u64 0,.int .u64 0,.int .u64 0] 24)
 rw [U] at O
 have D:=hid f
 have V:Hid (E.heap.size=w.heap.size+1+1+1+1):=hid U
 have FG:=hid ((ldG p q g 0 G (ak _)).on f)
 have ao:=hid ((aP p 0 G (ag p _ 0 rfl rfl rfl rfl)).on f)
 have aB:=hid ((aP q 4 G (ag q _ 4 rfl rfl rfl rfl)).on f)
 have dO:=hid ((aP g 8 G (ag g _ 8 rfl rfl rfl rfl)).on f)
 have dc:=hid ((aP a 0 f1 (ak _)).on f)
 have db:=hid ((aP b 0 f2 (ak _)).on f)
 have Fs:=hid ((ldS bs R 0 f3 (fun j v h=>by rw [Nat.zero_add]; simpa using h)).on f)
 have FK:=hid (I.out.on f)
 clear I
 have J:Hid (On (E.alloc (.cells #[.int .u64 0,.int .u64 0,.int .u64 0,.int .u64 0] 24)) fun u=>Nm u (w.heap.size+1+1+1+1) 0):=hid (dS (cr O))
 clear O
 generalize E.alloc (.cells #[.int .u64 0,.int .u64 0,.int .u64 0,.int .u64 0] 24)=w0 at *
 clear K U f G f1 f2 f3
 generalize w.heap.size+1+1+1+1=z at *
 generalize w.heap.size+1+1+1=ab at *
 generalize w.heap.size+1+1=al at *
 generalize w.heap.size+1=an at *
 generalize L:w.heap.size=ad at *
 clear R
 have l1:=FG.out.here
 have l2:=Fs.out.here
 have l3:=dc.out.here
 have l4:=db.out.here
 go_wp2_with (first | (refine du rfl _ _ rfl _ rfl _ (by first | exact l1 | exact l2 | exact l3 | exact l4) ?_))
 clear l1 l2 l3 l4
 have hb:=(Below.refl w0.heap.size w0).alloc (Nat.le_refl _) (.cells #[.int .u64 (wd a 0:Int),.int .u64 (wd a 1:Int),.int .u64 (wd a 2:Int),.int .u64 (wd a 3:Int),.int .u64 (wd b 0:Int),.int .u64 (wd b 1:Int),.int .u64 (wd b 2:Int),.int .u64 (wd b 3:Int)] 24)
 have hn:Sl2 _ _ a b:=heap_alloc_new w0 (.cells #[.int .u64 (wd a 0:Int),.int .u64 (wd a 1:Int),.int .u64 (wd a 2:Int),.int .u64 (wd a 3:Int),.int .u64 (wd b 0:Int),.int .u64 (wd b 1:Int),.int .u64 (wd b 2:Int),.int .u64 (wd b 3:Int)] 24)
 have D:=hid (D.out.trans (hb.mono D.out.size))
 have FK:=hid (FK.out.on hb)
 have J:=hid (J.out.on hb)
 clear hb
 have Z:=hid hn
 clear hn
 generalize w0.alloc (.cells #[.int .u64 (wd a 0:Int),.int .u64 (wd a 1:Int),.int .u64 (wd a 2:Int),.int .u64 (wd a 3:Int),.int .u64 (wd b 0:Int),.int .u64 (wd b 1:Int),.int .u64 (wd b 2:Int),.int .u64 (wd b 3:Int)] 24)=w1 at *
 generalize w0.heap.size=M at *
 refine (summed2_any p q g a b ⟨#[115,105,103,110]⟩ bs M r _ QL.out AL.out BL.out HL.out FK.out (by decide) Z.out HV.out).mono ?_
 rintro e w2 ⟨rfl,hb⟩
 have D:=hid (D.out.trans (hb.mono D.out.size))
 have J:=hid (J.out.on hb)
 clear hb
 have F:=bw D.out J.out.here
 obtain ⟨z0,z1,z2,z3⟩:=F.cell z 0 (by simp)
 have zl:=F.lt z 0 (by simp)
 have zf:=F.frozen z 0 (by simp)
 have Y:=hid (F.set z 0 (r) [] (by simp) (Nat.le_of_eq V.out) (by simp))
 go_wp2
 clear F z0 z1 z2 z3 zl zf
 try rw [Exit.noGoto_ret]
 change bodyPost _ _ _ _ _ (fil w2 z (r))
 generalize fil w2 z (r)=wz at *
 obtain ⟨k0,k1,k2,k3⟩:=Y.out.cell z (r) (by simp)
 exact bodyPost_ret (v:=af (r)) (by simp [results,Tryz.results19,go_sem,k0,k1,k2,k3]) rfl ⟨rfl,by first | exact aA.out _ Y.out.1 | (rw [L]; exact aA.out _ Y.out.1)⟩
theorem drawn_zero (p q g x n:Nat) (bs:List UInt8) (w:World) (hq:q<2 ^ 256) (hx:x<2 ^ 256) (V:bs.length=32) (hK:Kt w) (hv:nop ⟨#[100,114,97,119]⟩ [be x 32] bs q=n) (O:n=0) :
  Calls Tryz.prog 18 #[gv p q g,af x,.agg (au bs).toArray] w fun e w'=>e=.returned (af 1)∧Below w.heap.size w w':=by
 have QL:=hid hq
 have XL:=hid hx
 have HL:=hid V
 have HV:=hid hv
 have EN:Hid ((aq n:Int)=0):=hid (by rw [O]; rfl)
 have NL:Hid (n<2 ^ 256):=hid (by rw [O]; decide)
 clear hq hx hv O
 obtain ⟨L,Y,J,f1,f2⟩:=boxes3 w (aY p q g) (ai x) ((au bs).toArray) 26 24 28 _ rfl
 have aA:Hid (∀ u,Below (((w.alloc (.cells (aY p q g) 26)).alloc (.cells (ai x) 24)).alloc (.cells ((au bs).toArray) 28)).heap.size (((w.alloc (.cells (aY p q g) 26)).alloc (.cells (ai x) 24)).alloc (.cells ((au bs).toArray) 28)) u→Below w.heap.size w u):=hid (fun u hu=>L.trans (hu.mono L.size))
 have K:=hid (hK.on L)
 clear hK
 go_enter Tryz.func18,Tryz.ntmps18
 go_upto_region 1 with fail
 generalize ((w.alloc (.cells (aY p q g) 26)).alloc (.cells (ai x) 24)).alloc (.cells ((au bs).toArray) 28)=F at *
 have f:=(Below.refl F.heap.size F).alloc (Nat.le_refl _) (.cells #[.int .u64 0,.int .u64 0,.int .u64 0,.int .u64 0] 24)
 have U:=heap_alloc_new F (.cells #[.int .u64 0,.int .u64 0,.int .u64 0,.int .u64 0] 24)
 rw [Y] at U
 have z:=hid f
 have Z:Hid (F.heap.size=w.heap.size+1+1+1):=hid Y
 have FG:=hid ((ldG p q g 0 J (ak _)).on f)
 have ap:=hid ((aP p 0 J (ag p _ 0 rfl rfl rfl rfl)).on f)
 have aB:=hid ((aP q 4 J (ag q _ 4 rfl rfl rfl rfl)).on f)
 have dO:=hid ((aP g 8 J (ag g _ 8 rfl rfl rfl rfl)).on f)
 have bu:=hid ((aP x 0 f1 (ak _)).on f)
 have Fs:=hid ((ldS bs V 0 f2 (fun j v h=>by rw [Nat.zero_add]; simpa using h)).on f)
 have FK:=hid (K.out.on f)
 clear K
 have E:Hid (On (F.alloc (.cells #[.int .u64 0,.int .u64 0,.int .u64 0,.int .u64 0] 24)) fun u=>Nm u (w.heap.size+1+1+1) 0):=hid (dS (cr U))
 clear U
 generalize F.alloc (.cells #[.int .u64 0,.int .u64 0,.int .u64 0,.int .u64 0] 24)=w0 at *
 clear L Y f J f1 f2
 generalize w.heap.size+1+1+1=D at *
 generalize w.heap.size+1+1=ad at *
 generalize w.heap.size+1=an at *
 generalize M:w.heap.size=al at *
 clear V
 have l1:=FG.out.here
 have l2:=Fs.out.here
 have l3:=bu.out.here
 go_wp2_with (first | (refine du rfl _ _ rfl _ rfl _ (by first | exact l1 | exact l2 | exact l3) ?_))
 clear l1 l2 l3
 have hb:=(Below.refl w0.heap.size w0).alloc (Nat.le_refl _) (.cells #[.int .u64 (wd x 0:Int),.int .u64 (wd x 1:Int),.int .u64 (wd x 2:Int),.int .u64 (wd x 3:Int)] 24)
 have G:Sl1 _ _ x:=heap_alloc_new w0 (.cells #[.int .u64 (wd x 0:Int),.int .u64 (wd x 1:Int),.int .u64 (wd x 2:Int),.int .u64 (wd x 3:Int)] 24)
 have z:=hid (z.out.trans (hb.mono z.out.size))
 have FK:=hid (FK.out.on hb)
 have E:=hid (E.out.on hb)
 clear hb
 have ab:=hid G
 clear G
 generalize w0.alloc (.cells #[.int .u64 (wd x 0:Int),.int .u64 (wd x 1:Int),.int .u64 (wd x 2:Int),.int .u64 (wd x 3:Int)] 24)=w1 at *
 generalize w0.heap.size=R at *
 refine (summed1_any p q g x ⟨#[100,114,97,119]⟩ bs R n _ QL.out XL.out HL.out FK.out (by decide) ab.out HV.out).mono ?_
 rintro e w2 ⟨rfl,hb⟩
 have z:=hid (z.out.trans (hb.mono z.out.size))
 have E:=hid (E.out.on hb)
 clear hb
 go_upto_region 2 with fail
 have hb:=(Below.refl w2.heap.size w2).alloc (Nat.le_refl _) (.cells (ai n) 24)
 have G:=heap_alloc_new w2 (.cells (ai n) 24)
 have z:=hid (z.out.trans (hb.mono z.out.size))
 have E:=hid (E.out.on hb)
 have cu:=hid (aP n 0 G (ak _))
 clear hb G
 generalize w2.alloc (.cells (ai n) 24)=w3 at *
 generalize w2.heap.size=ao at *
 have l4:=cu.out.here
 go_wp2_with (first | (refine du rfl _ _ rfl _ rfl _ (by first | exact l4) ?_))
 clear l4
 refine (b8 n 0 (ae.refl _) NL.out EN.out).mono ?_
 rintro e w4 ⟨rfl,hb⟩
 have hb:=hb.1
 have z:=hid (z.out.trans (hb.mono z.out.size))
 have E:=hid (E.out.on hb)
 clear hb
 go_wp2_with fail
 refine (dh 1 1 (ae.refl _) (by decide) rfl).mono ?_
 rintro e w5 ⟨rfl,hb⟩
 have hb:=hb.1
 have z:=hid (z.out.trans (hb.mono z.out.size))
 have E:=hid (E.out.on hb)
 clear hb
 have I:=bw z.out E.out.here
 obtain ⟨z0,z1,z2,z3⟩:=I.cell D 0 (by simp)
 have zl:=I.lt D 0 (by simp)
 have zf:=I.frozen D 0 (by simp)
 have HZ:=hid (I.set D 0 (1) [] (by simp) (Nat.le_of_eq Z.out) (by simp))
 go_wp2
 clear I z0 z1 z2 z3 zl zf
 try rw [Exit.noGoto_ret]
 change bodyPost _ _ _ _ _ (fil w5 D (1))
 generalize fil w5 D (1)=wz at *
 obtain ⟨k0,k1,k2,k3⟩:=HZ.out.cell D (1) (by simp)
 exact bodyPost_ret (v:=af (1)) (by simp [results,Tryz.results18,go_sem,k0,k1,k2,k3]) rfl ⟨rfl,by first | exact aA.out _ HZ.out.1 | (rw [M]; exact aA.out _ HZ.out.1)⟩
theorem drawn_some (p q g x n:Nat) (bs:List UInt8) (w:World) (hq:q<2 ^ 256) (hx:x<2 ^ 256) (F:n<2 ^ 256) (Y:bs.length=32) (hK:Kt w) (hv:nop ⟨#[100,114,97,119]⟩ [be x 32] bs q=n) (h0:n≠0) :
  Calls Tryz.prog 18 #[gv p q g,af x,.agg (au bs).toArray] w fun e w'=>e=.returned (af n)∧Below w.heap.size w w':=by
 have QL:=hid hq
 have XL:=hid hx
 have HL:=hid Y
 have HV:=hid hv
 have NL:=hid F
 obtain ⟨m,U⟩:∃ m,aq n=m:=⟨_,rfl⟩
 have hm:0<m:=by rw [← U]; exact cL n (by omega)
 have EN:=hid (show (aq n:Int)=(m:Int) by rw [U])
 have c1:¬ (m:Int)=0:=by omega
 have c2:¬ m=0:=by omega
 have cb:decide ((m:Int)=0)=false:=decide_eq_false c1
 clear U hm F
 clear hq hx hv h0
 obtain ⟨M,Z,J,f1,f2⟩:=boxes3 w (aY p q g) (ai x) ((au bs).toArray) 26 24 28 _ rfl
 have aA:Hid (∀ u,Below (((w.alloc (.cells (aY p q g) 26)).alloc (.cells (ai x) 24)).alloc (.cells ((au bs).toArray) 28)).heap.size (((w.alloc (.cells (aY p q g) 26)).alloc (.cells (ai x) 24)).alloc (.cells ((au bs).toArray) 28)) u→Below w.heap.size w u):=hid (fun u hu=>M.trans (hu.mono M.size))
 have K:=hid (hK.on M)
 clear hK
 go_enter Tryz.func18,Tryz.ntmps18
 go_upto_region 1 with fail
 generalize ((w.alloc (.cells (aY p q g) 26)).alloc (.cells (ai x) 24)).alloc (.cells ((au bs).toArray) 28)=G at *
 have f:=(Below.refl G.heap.size G).alloc (Nat.le_refl _) (.cells #[.int .u64 0,.int .u64 0,.int .u64 0,.int .u64 0] 24)
 have V:=heap_alloc_new G (.cells #[.int .u64 0,.int .u64 0,.int .u64 0,.int .u64 0] 24)
 rw [Z] at V
 have D:=hid f
 have ab:Hid (G.heap.size=w.heap.size+1+1+1):=hid Z
 have FG:=hid ((ldG p q g 0 J (ak _)).on f)
 have ar:=hid ((aP p 0 J (ag p _ 0 rfl rfl rfl rfl)).on f)
 have aB:=hid ((aP q 4 J (ag q _ 4 rfl rfl rfl rfl)).on f)
 have dO:=hid ((aP g 8 J (ag g _ 8 rfl rfl rfl rfl)).on f)
 have bu:=hid ((aP x 0 f1 (ak _)).on f)
 have Fs:=hid ((ldS bs Y 0 f2 (fun j v h=>by rw [Nat.zero_add]; simpa using h)).on f)
 have FK:=hid (K.out.on f)
 clear K
 have E:Hid (On (G.alloc (.cells #[.int .u64 0,.int .u64 0,.int .u64 0,.int .u64 0] 24)) fun u=>Nm u (w.heap.size+1+1+1) 0):=hid (dS (cr V))
 clear V
 generalize G.alloc (.cells #[.int .u64 0,.int .u64 0,.int .u64 0,.int .u64 0] 24)=w0 at *
 clear M Z f J f1 f2
 generalize w.heap.size+1+1+1=z at *
 generalize w.heap.size+1+1=al at *
 generalize w.heap.size+1=ao at *
 generalize O:w.heap.size=an at *
 clear Y
 have l1:=FG.out.here
 have l2:=Fs.out.here
 have l3:=bu.out.here
 go_wp2_with (first | (refine du rfl _ _ rfl _ rfl _ (by first | exact l1 | exact l2 | exact l3) ?_))
 clear l1 l2 l3
 have hb:=(Below.refl w0.heap.size w0).alloc (Nat.le_refl _) (.cells #[.int .u64 (wd x 0:Int),.int .u64 (wd x 1:Int),.int .u64 (wd x 2:Int),.int .u64 (wd x 3:Int)] 24)
 have F:Sl1 _ _ x:=heap_alloc_new w0 (.cells #[.int .u64 (wd x 0:Int),.int .u64 (wd x 1:Int),.int .u64 (wd x 2:Int),.int .u64 (wd x 3:Int)] 24)
 have D:=hid (D.out.trans (hb.mono D.out.size))
 have FK:=hid (FK.out.on hb)
 have E:=hid (E.out.on hb)
 clear hb
 have ad:=hid F
 clear F
 generalize w0.alloc (.cells #[.int .u64 (wd x 0:Int),.int .u64 (wd x 1:Int),.int .u64 (wd x 2:Int),.int .u64 (wd x 3:Int)] 24)=w1 at *
 generalize w0.heap.size=R at *
 refine (summed1_any p q g x ⟨#[100,114,97,119]⟩ bs R n _ QL.out XL.out HL.out FK.out (by decide) ad.out HV.out).mono ?_
 rintro e w2 ⟨rfl,hb⟩
 have D:=hid (D.out.trans (hb.mono D.out.size))
 have E:=hid (E.out.on hb)
 clear hb
 go_upto_region 2 with fail
 have hb:=(Below.refl w2.heap.size w2).alloc (Nat.le_refl _) (.cells (ai n) 24)
 have F:=heap_alloc_new w2 (.cells (ai n) 24)
 have D:=hid (D.out.trans (hb.mono D.out.size))
 have E:=hid (E.out.on hb)
 have L:=hid (aP n 0 F (ak _))
 clear hb F
 generalize w2.alloc (.cells (ai n) 24)=w3 at *
 generalize w2.heap.size=ap at *
 have l4:=L.out.here
 go_wp2_with (first | (refine du rfl _ _ rfl _ rfl _ (by first | exact l4) ?_))
 clear l4
 refine (b8 n (m:Int) (ae.refl _) NL.out EN.out).mono ?_
 rintro e w4 ⟨rfl,hb⟩
 have hb:=hb.1
 have D:=hid (D.out.trans (hb.mono D.out.size))
 have L:=hid (L.out.on hb)
 have E:=hid (E.out.on hb)
 clear hb
 have I:=bw D.out E.out.here
 obtain ⟨z0,z1,z2,z3⟩:=I.cell z 0 (by simp)
 have zl:=I.lt z 0 (by simp)
 have zf:=I.frozen z 0 (by simp)
 have HZ:=hid (I.set z 0 (n) [] (by simp) (Nat.le_of_eq ab.out) (by simp))
 have l5:=L.out.here
 go_wp2_with (first | (refine du rfl _ _ rfl _ rfl _ (by first | exact l5) ?_))
 clear I z0 z1 z2 z3 zl zf l5
 try rw [Exit.noGoto_ret]
 change bodyPost _ _ _ _ _ (fil w4 z (n))
 generalize fil w4 z (n)=wz at *
 obtain ⟨k0,k1,k2,k3⟩:=HZ.out.cell z (n) (by simp)
 exact bodyPost_ret (v:=af (n)) (by simp [results,Tryz.results18,go_sem,k0,k1,k2,k3]) rfl ⟨rfl,by first | exact aA.out _ HZ.out.1 | (rw [O]; exact aA.out _ HZ.out.1)⟩
def chl (q a b:Nat) (bs:List UInt8):Nat:=nop ⟨#[115,105,103,110]⟩ [be a 32,be b 32] bs q
def drw (q x:Nat) (bs:List UInt8):Nat:=if nop ⟨#[100,114,97,119]⟩ [be x 32] bs q=0 then 1 else nop ⟨#[100,114,97,119]⟩ [be x 32] bs q
theorem chl_lt (q a b:Nat) (bs:List UInt8) (f:q≠0):chl q a b bs<q:=nop_lt _ _ _ _ f
theorem drw_lt (q x:Nat) (bs:List UInt8) (f:1<q):drw q x bs<q:=by
 unfold drw
 split
 ·exact f
 ·exact nop_lt _ _ _ _ (by omega)
theorem drawn_any (p q g x d:Nat) (bs:List UInt8) (w:World) (z:q<2 ^ 256) (I:1<q) (f:x<2 ^ 256) (E:bs.length=32) (D:Kt w) (F:drw q x bs=d) :
  Calls Tryz.prog 18 #[gv p q g,af x,.agg (au bs).toArray] w fun e w'=>e=.returned (af d)∧Below w.heap.size w w':=by
 subst F
 unfold drw
 have G:=nop_lt ⟨#[100,114,97,119]⟩ [be x 32] bs q (by omega)
 split
 ·exact drawn_zero p q g x _ bs w z f E D rfl ‹_›
 ·exact drawn_some p q g x _ bs w z f (by omega) E D rfl ‹_›
theorem isKey_one (p q g a:Nat) (w:World) (M:p<2 ^ 256) (J:q<2 ^ 256) (O:a<2 ^ 256) (Y:a=1):Calls Tryz.prog 26 #[gv p q g,af a] w fun e w'=>e=.returned (.bool false)∧Below w.heap.size w w':=by
 have q1:=eq_yes a 1 Y
 clear Y
 have PL:=hid M
 have QL:=hid J
 have AL:=hid O
 clear M J O
 have H0:=hid ((((Eg.of (ae.refl w) p q g 26)).new a).perm (l':=[(w.heap.size+1,a)]) (by simp))
 go_enter Tryz.func26,Tryz.ntmps26
 go_upto_region 1 with fail
 generalize (w.alloc (.cells (aY p q g) 26)).alloc (.cells (ai a) 24)=w0 at *
 generalize w.heap.size+1=z at *
 generalize G:w.heap.size=f at *
 have D:=H0.out.drew
 refine wp_region_noPanic ?_
 refine aa.region (fun (L:Array Bool) (w':World)=>w'.cell? ⟨z,0,none⟩=some (.int .u64 (wd (a) 0:Int))∧w'.cell? ⟨z,1,none⟩=some (.int .u64 (wd (a) 1:Int))∧w'.cell? ⟨z,2,none⟩=some (.int .u64 (wd (a) 2:Int))∧w'.cell? ⟨z,3,none⟩=some (.int .u64 (wd (a) 3:Int))∧w'.cell? ⟨f,0,none⟩=some (.int .u64 (wd p 0:Int))∧w'.cell? ⟨f,1,none⟩=some (.int .u64 (wd p 1:Int))∧w'.cell? ⟨f,2,none⟩=some (.int .u64 (wd p 2:Int))∧w'.cell? ⟨f,3,none⟩=some (.int .u64 (wd p 3:Int))∧w'.cell? ⟨f,4,none⟩=some (.int .u64 (wd q 0:Int))∧w'.cell? ⟨f,5,none⟩=some (.int .u64 (wd q 1:Int))∧w'.cell? ⟨f,6,none⟩=some (.int .u64 (wd q 2:Int))∧w'.cell? ⟨f,7,none⟩=some (.int .u64 (wd q 3:Int))∧w'.cell? ⟨f,8,none⟩=some (.int .u64 (wd g 0:Int))∧w'.cell? ⟨f,9,none⟩=some (.int .u64 (wd g 1:Int))∧w'.cell? ⟨f,10,none⟩=some (.int .u64 (wd g 2:Int))∧w'.cell? ⟨f,11,none⟩=some (.int .u64 (wd g 3:Int))) (by kernel_rfl) ?_
 generalize w0.drew=ar at *
 have F:=hid (And.intro (Eg.cell D z (a) (by simp)).1 (And.intro (Eg.cell D z (a) (by simp)).2.1 (And.intro (Eg.cell D z (a) (by simp)).2.2.1 (And.intro (Eg.cell D z (a) (by simp)).2.2.2 (And.intro (Eg.gp D).1 (And.intro (Eg.gp D).2.1 (And.intro (Eg.gp D).2.2.1 (And.intro (Eg.gp D).2.2.2 (And.intro (Eg.gq D).1 (And.intro (Eg.gq D).2.1 (And.intro (Eg.gq D).2.2.1 (And.intro (Eg.gq D).2.2.2 (And.intro (Eg.gg D).1 (And.intro (Eg.gg D).2.1 (And.intro (Eg.gg D).2.2.1 (Eg.gg D).2.2.2)))))))))))))))
 refine aa.take (i:=0) (o:=⟨some 5,_,_,_,_,_⟩) (v:=?_) [] rfl (by kernel_rfl) (by kernel_rfl) (by kernel_rfl) (fun _ _ _ h=>h) (by kernel_rfl) (fun L u h=>h) (Or.inl ⟨by rfl,?_⟩) (F.out) ?_
 rotate_left
 ·intro w I; obtain ⟨up,U⟩:=I; have R:=U.2; clear U; (try dsimp only at R); obtain ⟨x0,x1,x2,x3,x4,x5,x6,x7,x8,x9,ao,an,al,ad,ab,Z⟩:=R; go_simp; try with_reducible rfl
 try simp only [ac]
 refine aa.one (i:=1) (o:=⟨some 6,_,_,_,_,_⟩) (by kernel_rfl) rfl (fun K V=>?_)
 go_simp
 with_reducible refine (dL (dh 1 1 (ae.refl _) (by decide) rfl) D).mono ?_
 rintro e ap ⟨rfl,E⟩
 go_wp2_with fail
 clear F
 have F:=hid (And.intro (Eg.cell E z (a) (by simp)).1 (And.intro (Eg.cell E z (a) (by simp)).2.1 (And.intro (Eg.cell E z (a) (by simp)).2.2.1 (And.intro (Eg.cell E z (a) (by simp)).2.2.2 (And.intro (Eg.gp E).1 (And.intro (Eg.gp E).2.1 (And.intro (Eg.gp E).2.2.1 (And.intro (Eg.gp E).2.2.2 (And.intro (Eg.gq E).1 (And.intro (Eg.gq E).2.1 (And.intro (Eg.gq E).2.2.1 (And.intro (Eg.gq E).2.2.2 (And.intro (Eg.gg E).1 (And.intro (Eg.gg E).2.1 (And.intro (Eg.gg E).2.2.1 (Eg.gg E).2.2.2)))))))))))))))
 refine V.out _ _ (F.out) ?_
 clear V K
 try simp only [ac]
 clear D
 have D:=E
 clear E
 refine aa.take (i:=2) (o:=⟨some 7,_,_,_,_,_⟩) (v:=?_) [] rfl (by kernel_rfl) (by kernel_rfl) (by kernel_rfl) (fun _ _ _ h=>h) (by kernel_rfl) (fun L u h=>h) (Or.inl ⟨by rfl,?_⟩) (F.out) ?_
 rotate_left
 ·intro w I; go_simp; try with_reducible rfl
 try simp only [ac]
 refine aa.take (i:=3) (o:=⟨some 8,_,_,_,_,_⟩) (v:=?_) [] rfl (by kernel_rfl) (by kernel_rfl) (by kernel_rfl) (fun _ _ _ h=>h) (by kernel_rfl) (fun L u h=>h) (Or.inl ⟨by rfl,?_⟩) (F.out) ?_
 rotate_left
 ·intro w I; go_simp; try with_reducible rfl
 try simp only [ac]
 refine aa.take (i:=4) (o:=⟨some 9,_,_,_,_,_⟩) [] rfl (by kernel_rfl) (by kernel_rfl) (by kernel_rfl) (fun _ _ _ h=>h) (by kernel_rfl) (fun L u h=>h) (Or.inr ⟨by rfl,rfl⟩) (F.out) ?_
 try simp only [ac]
 refine aa.take (i:=5) (o:=⟨some 10,_,_,_,_,_⟩) [] rfl (by kernel_rfl) (by kernel_rfl) (by kernel_rfl) (fun _ _ _ h=>h) (by kernel_rfl) (fun L u h=>h) (Or.inr ⟨by rfl,rfl⟩) (F.out) ?_
 try simp only [ac]
 refine aa.take (i:=6) (o:=⟨some 11,_,_,_,_,_⟩) [] rfl (by kernel_rfl) (by kernel_rfl) (by kernel_rfl) (fun _ _ _ h=>h) (by kernel_rfl) (fun L u h=>h) (Or.inr ⟨by rfl,rfl⟩) (F.out) ?_
 try simp only [ac]
 refine aa.take (i:=7) (o:=⟨some 12,_,_,_,_,_⟩) (v:=?_) [] rfl (by kernel_rfl) (by kernel_rfl) (by kernel_rfl) (fun _ _ _ h=>h) (by kernel_rfl) (fun L u h=>h) (Or.inl ⟨by rfl,?_⟩) (F.out) ?_
 rotate_left
 ·intro w I; go_simp; try with_reducible rfl
 try simp only [ac]
 refine aa.take (i:=8) (o:=⟨some 4,_,_,_,_,_⟩) (v:=?_) [] rfl (by kernel_rfl) (by kernel_rfl) (by kernel_rfl) (fun _ _ _ h=>h) (by kernel_rfl) (fun L u h=>h) (Or.inl ⟨by rfl,?_⟩) (F.out) ?_
 rotate_left
 ·intro w I; go_simp; try with_reducible rfl
 try simp only [ac]
 clear F
 refine aa.done (by kernel_rfl) ?_ _
 refine NoPanic.normal ?_
 go_wp2_with fail
 exact bodyPost_ret (v:=.bool false) (by simp [results,Tryz.results26,go_sem]) rfl ⟨rfl,by first | exact D.1.1 | (rw [← G]; exact D.1.1) | (rw [G]; exact D.1.1)⟩
theorem isKey_some (p q g a:Nat) (v:Bool) (w:World) (hp:p<2 ^ 256) (hq:q<2 ^ 256) (ha:a<2 ^ 256) (h1:a≠1) (hv:decide ((0<a∧a<p)∧a ^ q % p=1)=v):Calls Tryz.prog 26 #[gv p q g,af a] w fun e w'=>e=.returned (.bool v)∧Below w.heap.size w w':=by
 have q1:=eq_no a 1 ha (by decide) h1
 have VV:=hid hv
 clear hv
 clear h1
 have PL:=hid hp
 have QL:=hid hq
 have AL:=hid ha
 clear hp hq ha
 have H0:=hid ((((Eg.of (ae.refl w) p q g 26)).new a).perm (l':=[(w.heap.size+1,a)]) (by simp))
 go_enter Tryz.func26,Tryz.ntmps26
 go_upto_region 1 with fail
 generalize (w.alloc (.cells (aY p q g) 26)).alloc (.cells (ai a) 24)=w0 at *
 generalize w.heap.size+1=f at *
 generalize I:w.heap.size=D at *
 have z:=H0.out.drew
 refine wp_region_noPanic ?_
 refine aa.region (fun (L:Array Bool) (w':World)=>w'.cell? ⟨f,0,none⟩=some (.int .u64 (wd (a) 0:Int))∧w'.cell? ⟨f,1,none⟩=some (.int .u64 (wd (a) 1:Int))∧w'.cell? ⟨f,2,none⟩=some (.int .u64 (wd (a) 2:Int))∧w'.cell? ⟨f,3,none⟩=some (.int .u64 (wd (a) 3:Int))∧w'.cell? ⟨D,0,none⟩=some (.int .u64 (wd p 0:Int))∧w'.cell? ⟨D,1,none⟩=some (.int .u64 (wd p 1:Int))∧w'.cell? ⟨D,2,none⟩=some (.int .u64 (wd p 2:Int))∧w'.cell? ⟨D,3,none⟩=some (.int .u64 (wd p 3:Int))∧w'.cell? ⟨D,4,none⟩=some (.int .u64 (wd q 0:Int))∧w'.cell? ⟨D,5,none⟩=some (.int .u64 (wd q 1:Int))∧w'.cell? ⟨D,6,none⟩=some (.int .u64 (wd q 2:Int))∧w'.cell? ⟨D,7,none⟩=some (.int .u64 (wd q 3:Int))∧w'.cell? ⟨D,8,none⟩=some (.int .u64 (wd g 0:Int))∧w'.cell? ⟨D,9,none⟩=some (.int .u64 (wd g 1:Int))∧w'.cell? ⟨D,10,none⟩=some (.int .u64 (wd g 2:Int))∧w'.cell? ⟨D,11,none⟩=some (.int .u64 (wd g 3:Int))) (by kernel_rfl) ?_
 generalize w0.drew=an at *
 have G:=hid (And.intro (Eg.cell z f (a) (by simp)).1 (And.intro (Eg.cell z f (a) (by simp)).2.1 (And.intro (Eg.cell z f (a) (by simp)).2.2.1 (And.intro (Eg.cell z f (a) (by simp)).2.2.2 (And.intro (Eg.gp z).1 (And.intro (Eg.gp z).2.1 (And.intro (Eg.gp z).2.2.1 (And.intro (Eg.gp z).2.2.2 (And.intro (Eg.gq z).1 (And.intro (Eg.gq z).2.1 (And.intro (Eg.gq z).2.2.1 (And.intro (Eg.gq z).2.2.2 (And.intro (Eg.gg z).1 (And.intro (Eg.gg z).2.1 (And.intro (Eg.gg z).2.2.1 (Eg.gg z).2.2.2)))))))))))))))
 refine aa.take (i:=0) (o:=⟨some 5,_,_,_,_,_⟩) (v:=?_) [] rfl (by kernel_rfl) (by kernel_rfl) (by kernel_rfl) (fun _ _ _ h=>h) (by kernel_rfl) (fun L u h=>h) (Or.inl ⟨by rfl,?_⟩) (G.out) ?_
 rotate_left
 ·intro w J; obtain ⟨up,O⟩:=J; have M:=O.2; clear O; (try dsimp only at M); obtain ⟨x0,x1,x2,x3,x4,x5,x6,x7,x8,x9,ab,Z,Y,V,U,R⟩:=M; go_simp; try with_reducible rfl
 try simp only [ac]
 refine aa.one (i:=1) (o:=⟨some 6,_,_,_,_,_⟩) (by kernel_rfl) rfl (fun K hK=>?_)
 go_simp
 with_reducible refine (dL (dh 1 1 (ae.refl _) (by decide) rfl) z).mono ?_
 rintro e al ⟨rfl,F⟩
 go_wp2_with fail
 clear G
 have G:=hid (And.intro (Eg.cell F f (a) (by simp)).1 (And.intro (Eg.cell F f (a) (by simp)).2.1 (And.intro (Eg.cell F f (a) (by simp)).2.2.1 (And.intro (Eg.cell F f (a) (by simp)).2.2.2 (And.intro (Eg.gp F).1 (And.intro (Eg.gp F).2.1 (And.intro (Eg.gp F).2.2.1 (And.intro (Eg.gp F).2.2.2 (And.intro (Eg.gq F).1 (And.intro (Eg.gq F).2.1 (And.intro (Eg.gq F).2.2.1 (And.intro (Eg.gq F).2.2.2 (And.intro (Eg.gg F).1 (And.intro (Eg.gg F).2.1 (And.intro (Eg.gg F).2.2.1 (Eg.gg F).2.2.2)))))))))))))))
 refine hK.out _ _ (G.out) ?_
 clear hK K
 try simp only [ac]
 clear z
 have z:=F
 clear F
 refine aa.take (i:=2) (o:=⟨some 7,_,_,_,_,_⟩) (v:=?_) [] rfl (by kernel_rfl) (by kernel_rfl) (by kernel_rfl) (fun _ _ _ h=>h) (by kernel_rfl) (fun L u h=>h) (Or.inl ⟨by rfl,?_⟩) (G.out) ?_
 rotate_left
 ·intro w J; go_simp; try with_reducible rfl
 try simp only [ac]
 refine aa.take (i:=3) (o:=⟨some 8,_,_,_,_,_⟩) (v:=?_) [] rfl (by kernel_rfl) (by kernel_rfl) (by kernel_rfl) (fun _ _ _ h=>h) (by kernel_rfl) (fun L u h=>h) (Or.inl ⟨by rfl,?_⟩) (G.out) ?_
 rotate_left
 ·intro w J; go_simp; try with_reducible rfl
 try simp only [ac]
 refine aa.take (i:=4) (o:=⟨some 9,_,_,_,_,_⟩) (v:=?_) [] rfl (by kernel_rfl) (by kernel_rfl) (by kernel_rfl) (fun _ _ _ h=>h) (by kernel_rfl) (fun L u h=>h) (Or.inl ⟨by rfl,?_⟩) (G.out) ?_
 rotate_left
 ·intro w J; obtain ⟨up,O⟩:=J; have M:=O.2; clear O; (try dsimp only at M); obtain ⟨x0,x1,x2,x3,x4,x5,x6,x7,x8,x9,ab,Z,Y,V,U,R⟩:=M; go_simp; try with_reducible rfl
 try simp only [ac]
 refine aa.take (i:=5) (o:=⟨some 10,_,_,_,_,_⟩) (v:=?_) [] rfl (by kernel_rfl) (by kernel_rfl) (by kernel_rfl) (fun _ _ _ h=>h) (by kernel_rfl) (fun L u h=>h) (Or.inl ⟨by rfl,?_⟩) (G.out) ?_
 rotate_left
 ·intro w J; obtain ⟨up,O⟩:=J; have M:=O.2; clear O; (try dsimp only at M); obtain ⟨x0,x1,x2,x3,x4,x5,x6,x7,x8,x9,ab,Z,Y,V,U,R⟩:=M; go_simp; try with_reducible rfl
 try simp only [ac]
 refine aa.one (i:=6) (o:=⟨some 11,_,_,_,_,_⟩) (by kernel_rfl) rfl (fun K hK=>?_)
 go_simp
 with_reducible refine (bc (in_any p q g a v _ PL.out QL.out AL.out VV.out) z).mono ?_
 rintro e ad ⟨rfl,E⟩
 go_wp2_with fail
 clear G
 have G:=hid (And.intro (Eg.cell E f (a) (by simp)).1 (And.intro (Eg.cell E f (a) (by simp)).2.1 (And.intro (Eg.cell E f (a) (by simp)).2.2.1 (And.intro (Eg.cell E f (a) (by simp)).2.2.2 (And.intro (Eg.gp E).1 (And.intro (Eg.gp E).2.1 (And.intro (Eg.gp E).2.2.1 (And.intro (Eg.gp E).2.2.2 (And.intro (Eg.gq E).1 (And.intro (Eg.gq E).2.1 (And.intro (Eg.gq E).2.2.1 (And.intro (Eg.gq E).2.2.2 (And.intro (Eg.gg E).1 (And.intro (Eg.gg E).2.1 (And.intro (Eg.gg E).2.2.1 (Eg.gg E).2.2.2)))))))))))))))
 refine hK.out _ _ (G.out) ?_
 clear hK K
 try simp only [ac]
 clear z
 have z:=E
 clear E
 refine aa.take (i:=7) (o:=⟨some 12,_,_,_,_,_⟩) (v:=?_) [] rfl (by kernel_rfl) (by kernel_rfl) (by kernel_rfl) (fun _ _ _ h=>h) (by kernel_rfl) (fun L u h=>h) (Or.inl ⟨by rfl,?_⟩) (G.out) ?_
 rotate_left
 ·intro w J; go_simp; try with_reducible rfl
 try simp only [ac]
 refine aa.take (i:=8) (o:=⟨some 4,_,_,_,_,_⟩) (v:=?_) [] rfl (by kernel_rfl) (by kernel_rfl) (by kernel_rfl) (fun _ _ _ h=>h) (by kernel_rfl) (fun L u h=>h) (Or.inl ⟨by rfl,?_⟩) (G.out) ?_
 rotate_left
 ·intro w J; go_simp; try with_reducible rfl
 try simp only [ac]
 clear G
 refine aa.done (by kernel_rfl) ?_ _
 refine NoPanic.normal ?_
 go_wp2_with fail
 exact bodyPost_ret (v:=.bool v) (by simp [results,Tryz.results26,go_sem]) rfl ⟨rfl,by first | exact z.1.1 | (rw [← I]; exact z.1.1) | (rw [I]; exact z.1.1)⟩
theorem isKey_any (p q g a:Nat) (v:Bool) (w:World) (z:p<2 ^ 256) (f:q<2 ^ 256) (D:a<2 ^ 256) (E:decide (a≠1∧(0<a∧a<p)∧a ^ q % p=1)=v):Calls Tryz.prog 26 #[gv p q g,af a] w fun e w'=>e=.returned (.bool v)∧Below w.heap.size w w':=by
 subst E
 by_cases h:a=1
 ·rw [decide_eq_false (fun x=>x.1 h)]; exact isKey_one p q g a w z f D h
 ·exact isKey_some p q g a _ w z f D h (decide_eq_decide.2 ⟨fun x=>⟨h,x⟩,fun x=>x.2⟩)
theorem shownBy_any (p q g k c s r:Nat) (w:World) (hp:p<2 ^ 256) (hq:q<2 ^ 256) (L:q≠0) (hs:s<2 ^ 256) (hc:c<q) (hG:(0<g∧g<p)∧g ^ q % p=1) (hk:(0<k∧k<p)∧k ^ q % p=1) (hv:g ^ s % p * (k ^ (q - c) % p) % p=r) :
  Calls Tryz.prog 27 #[gv p q g,af k,sgv c s] w fun e w'=>e=.returned (af r)∧Below w.heap.size w w':=by
 have G:1<p:=by omega
 obtain ⟨a,ea⟩:∃ a,g ^ s % p=a:=⟨_,rfl⟩
 obtain ⟨m,em⟩:∃ m,q - c=m:=⟨_,rfl⟩
 obtain ⟨b,eb⟩:∃ b,k ^ m % p=b:=⟨_,rfl⟩
 have va:0<a∧a<p:=ea ▸ grp_pos G L (grp_pow (n:=s) G hG.2) (Nat.mod_lt _ (by omega))
 have vb:0<b∧b<p:=eb ▸ grp_pos G L (grp_pow (n:=m) G hk.2) (Nat.mod_lt _ (by omega))
 rw [em,ea,eb] at hv
 have PL:=hid hp
 have QL:=hid hq
 have CL:=hid (show c<2 ^ 256 by omega)
 have SL:=hid hs
 have ML:=hid (show m<2 ^ 256 by omega)
 have VG:=hid hG.1
 have VK:=hid hk.1
 have EA:=hid ea
 have EB:=hid eb
 have VA:=hid va
 have VB:=hid vb
 have HV:=hid hv
 have ED:Hid (dif q c=m):=hid (by unfold dif; rw [if_neg (by omega)]; exact em)
 have EL:Hid (((cM q c:Nat):Int)=0):=hid (by unfold cM; rw [if_neg (by omega)]; rfl)
 clear G ea em eb va vb hv hp hq hs hG hk L hc
 obtain ⟨bA,bI,Y,f1,f2⟩:=boxes3 w (aY p q g) (ai k) (dl c s) 26 24 30 _ rfl
 have aA:Hid (∀ u,Below (((w.alloc (.cells (aY p q g) 26)).alloc (.cells (ai k) 24)).alloc (.cells (dl c s) 30)).heap.size (((w.alloc (.cells (aY p q g) 26)).alloc (.cells (ai k) 24)).alloc (.cells (dl c s) 30)) u→Below w.heap.size w u):=hid (fun u hu=>bA.trans (hu.mono bA.size))
 go_enter Tryz.func27,Tryz.ntmps27
 go_upto_region 1 with fail
 generalize ((w.alloc (.cells (aY p q g) 26)).alloc (.cells (ai k) 24)).alloc (.cells (dl c s) 30)=M at *
 have z:=(Below.refl M.heap.size M).alloc (Nat.le_refl _) (.cells #[.int .u64 0,.int .u64 0,.int .u64 0,.int .u64 0] 24)
 have dG:=heap_alloc_new M (.cells #[.int .u64 0,.int .u64 0,.int .u64 0,.int .u64 0] 24)
 rw [bI] at dG
 have f:=hid z
 have an:Hid (M.heap.size=w.heap.size+1+1+1):=hid bI
 have F:=hid ((ldG p q g 0 Y (ak _)).on z)
 have aI:=hid ((aP p 0 Y (ag p _ 0 rfl rfl rfl rfl)).on z)
 have aB:=hid ((aP q 4 Y (ag q _ 4 rfl rfl rfl rfl)).on z)
 have dO:=hid ((aP g 8 Y (ag g _ 8 rfl rfl rfl rfl)).on z)
 have K:=hid ((aP k 0 f1 (ak _)).on z)
 have FX:=hid ((ldX c s 0 f2 (ak _)).on z)
 have Z:=hid ((aP c 0 f2 (ag c _ 0 rfl rfl rfl rfl)).on z)
 have ao:=hid ((aP s 4 f2 (ag s _ 4 rfl rfl rfl rfl)).on z)
 have D:Hid (On (M.alloc (.cells #[.int .u64 0,.int .u64 0,.int .u64 0,.int .u64 0] 24)) fun u=>Nm u (w.heap.size+1+1+1) 0):=hid (dS (cr dG))
 clear dG
 generalize M.alloc (.cells #[.int .u64 0,.int .u64 0,.int .u64 0,.int .u64 0] 24)=w0 at *
 clear bA bI z Y f1 f2
 generalize w.heap.size+1+1+1=E at *
 generalize w.heap.size+1+1=ax at *
 generalize w.heap.size+1=az at *
 generalize al:w.heap.size=ay at *
 have l1:=F.out.here
 have l2:=dO.out.here
 have l3:=ao.out.here
 go_wp2_with (first | (refine du rfl _ _ rfl _ rfl _ (by first | exact l1 | exact l2 | exact l3) ?_))
 clear l1 l2 l3
 refine (gexp_any p q g g s a _ PL.out SL.out VG.out EA.out).mono ?_
 rintro e w1 ⟨rfl,hb⟩
 have f:=hid (f.out.trans (hb.mono f.out.size))
 have F:=hid (F.out.on hb)
 have aB:=hid (aB.out.on hb)
 have K:=hid (K.out.on hb)
 have Z:=hid (Z.out.on hb)
 have D:=hid (D.out.on hb)
 clear hb
 go_upto_region 2 with fail
 have hb:=(Below.refl w1.heap.size w1).alloc (Nat.le_refl _) (.cells (ai a) 24)
 have I:=heap_alloc_new w1 (.cells (ai a) 24)
 have f:=hid (f.out.trans (hb.mono f.out.size))
 have F:=hid (F.out.on hb)
 have aB:=hid (aB.out.on hb)
 have K:=hid (K.out.on hb)
 have Z:=hid (Z.out.on hb)
 have D:=hid (D.out.on hb)
 have J:=hid (aP a 0 I (ak _))
 clear hb I
 generalize w1.alloc (.cells (ai a) 24)=w2 at *
 generalize w1.heap.size=aE at *
 have l4:=aB.out.here
 have l5:=Z.out.here
 go_wp2_with (first | (refine du rfl _ _ rfl _ rfl _ (by first | exact l4 | exact l5) ?_))
 clear l4 l5
 refine (sub_at q c m 0 (ae.refl _) QL.out CL.out ED.out EL.out).mono ?_
 rintro e w3 ⟨rfl,hb⟩
 have hb:=hb.1
 have f:=hid (f.out.trans (hb.mono f.out.size))
 have F:=hid (F.out.on hb)
 have K:=hid (K.out.on hb)
 have J:=hid (J.out.on hb)
 have D:=hid (D.out.on hb)
 clear hb
 go_upto_region 3 with fail
 have hb:=(Below.refl w3.heap.size w3).alloc (Nat.le_refl _) (.cells (ai m) 24)
 have I:=heap_alloc_new w3 (.cells (ai m) 24)
 have f:=hid (f.out.trans (hb.mono f.out.size))
 have F:=hid (F.out.on hb)
 have K:=hid (K.out.on hb)
 have J:=hid (J.out.on hb)
 have D:=hid (D.out.on hb)
 have dd:=hid (aP m 0 I (ak _))
 clear hb I
 generalize w3.alloc (.cells (ai m) 24)=w4 at *
 generalize w3.heap.size=aC at *
 have l6:=F.out.here
 have l7:=K.out.here
 have l8:=dd.out.here
 go_wp2_with (first | (refine du rfl _ _ rfl _ rfl _ (by first | exact l6 | exact l7 | exact l8) ?_))
 clear l6 l7 l8
 refine (gexp_any p q g k m b _ PL.out ML.out VK.out EB.out).mono ?_
 rintro e w5 ⟨rfl,hb⟩
 have f:=hid (f.out.trans (hb.mono f.out.size))
 have F:=hid (F.out.on hb)
 have J:=hid (J.out.on hb)
 have D:=hid (D.out.on hb)
 clear hb
 go_upto_region 4 with fail
 have hb:=(Below.refl w5.heap.size w5).alloc (Nat.le_refl _) (.cells (ai b) 24)
 have I:=heap_alloc_new w5 (.cells (ai b) 24)
 have f:=hid (f.out.trans (hb.mono f.out.size))
 have F:=hid (F.out.on hb)
 have J:=hid (J.out.on hb)
 have D:=hid (D.out.on hb)
 have ad:=hid (aP b 0 I (ak _))
 clear hb I
 generalize w5.alloc (.cells (ai b) 24)=w6 at *
 generalize w5.heap.size=ar at *
 have l9:=F.out.here
 have U:=J.out.here
 have R:=ad.out.here
 go_wp2_with (first | (refine du rfl _ _ rfl _ rfl _ (by first | exact l9 | exact U | exact R) ?_))
 clear l9 U R
 refine (gmul_at p q g a b r _ PL.out VA.out VB.out HV.out).mono ?_
 rintro e w7 ⟨rfl,hb⟩
 have f:=hid (f.out.trans (hb.mono f.out.size))
 have D:=hid (D.out.on hb)
 clear hb
 go_upto_region 5 with fail
 have hb:=(Below.refl w7.heap.size w7).alloc (Nat.le_refl _) (.cells (ai r) 24)
 have I:=heap_alloc_new w7 (.cells (ai r) 24)
 have f:=hid (f.out.trans (hb.mono f.out.size))
 have D:=hid (D.out.on hb)
 have ab:=hid (aP r 0 I (ak _))
 clear hb I
 generalize w7.alloc (.cells (ai r) 24)=w8 at *
 generalize w7.heap.size=ap at *
 have V:=bw f.out D.out.here
 obtain ⟨z0,z1,z2,z3⟩:=V.cell E 0 (by simp)
 have zl:=V.lt E 0 (by simp)
 have zf:=V.frozen E 0 (by simp)
 have HZ:=hid (V.set E 0 (r) [] (by simp) (Nat.le_of_eq an.out) (by simp))
 have O:=ab.out.here
 go_wp2_with (first | (refine du rfl _ _ rfl _ rfl _ (by first | exact O) ?_))
 clear V z0 z1 z2 z3 zl zf O
 try rw [Exit.noGoto_ret]
 change bodyPost _ _ _ _ _ (fil w8 E (r))
 generalize fil w8 E (r)=wz at *
 obtain ⟨k0,k1,k2,k3⟩:=HZ.out.cell E (r) (by simp)
 exact bodyPost_ret (v:=af (r)) (by simp [results,Tryz.results27,go_sem,k0,k1,k2,k3]) rfl ⟨rfl,by first | exact aA.out _ HZ.out.1 | (rw [al]; exact aA.out _ HZ.out.1)⟩
theorem dE {w:World} {b c s:Nat} (h:w.heap[b]?=some (.cells (dl c s) 30 (0,0))):w.cell? ⟨b,0,none⟩=some (.int .u64 (wd c 0:Int))∧w.cell? ⟨b,1,none⟩=some (.int .u64 (wd c 1:Int))∧w.cell? ⟨b,2,none⟩=some (.int .u64 (wd c 2:Int))∧w.cell? ⟨b,3,none⟩=some (.int .u64 (wd c 3:Int))∧w.cell? ⟨b,4,none⟩=some (.int .u64 (wd s 0:Int))∧w.cell? ⟨b,5,none⟩=some (.int .u64 (wd s 1:Int))∧w.cell? ⟨b,6,none⟩=some (.int .u64 (wd s 2:Int))∧w.cell? ⟨b,7,none⟩=some (.int .u64 (wd s 3:Int)):=by
 refine ⟨?_,?_,?_,?_,?_,?_,?_,?_⟩ <;> (rw [cell_of_row w b _ _ 30 (0,0) h]; rfl)
theorem sg_zeros {w:World} {b:Nat} (h:w.heap[b]?=some (.cells #[.int .u64 0,.int .u64 0,.int .u64 0,.int .u64 0,.int .u64 0,.int .u64 0,.int .u64 0,.int .u64 0] 30 (0,0))):w.cell? ⟨b,0,none⟩=some (.int .u64 0)∧w.cell? ⟨b,1,none⟩=some (.int .u64 0)∧w.cell? ⟨b,2,none⟩=some (.int .u64 0)∧w.cell? ⟨b,3,none⟩=some (.int .u64 0)∧w.cell? ⟨b,4,none⟩=some (.int .u64 0)∧w.cell? ⟨b,5,none⟩=some (.int .u64 0)∧w.cell? ⟨b,6,none⟩=some (.int .u64 0)∧w.cell? ⟨b,7,none⟩=some (.int .u64 0):=by
 refine ⟨?_,?_,?_,?_,?_,?_,?_,?_⟩ <;> (rw [cell_of_row w b _ _ 30 (0,0) h]; rfl)
theorem dn {o:Oper} {a:Act} {u:World} (ty:TypeId) (x:Operand) (z:o.op=.load ty x) (p v:Value) (f:a.eval x=p) (D:(Instr.loadAt ty p).run Tryz.prog u=.ok v u):(execOp a.eval o).run Tryz.prog u=.ok (.value v) u:=by
 unfold execOp
 simp only [z,f,Sem.run_bind,Sem.run_pure,Result.andThen_ok,D]
def sigC (p q g x:Nat) (bs:List UInt8):Nat:=chl q (g ^ x % p) (g ^ drw q x bs % p) bs
def sigS (p q g x:Nat) (bs:List UInt8):Nat:=(drw q x bs+x * sigC p q g x bs % q) % q
theorem sigC_lt (p q g x:Nat) (bs:List UInt8) (f:q≠0):sigC p q g x bs<q:=chl_lt _ _ _ _ f
theorem sigS_lt (p q g x:Nat) (bs:List UInt8) (f:q≠0):sigS p q g x bs<q:=Nat.mod_lt _ (by omega)
theorem sign_none (p q g x:Nat) (bs:List UInt8) (w:World) (hp:p<2 ^ 256) (hq:q<2 ^ 256) (hg:g<2 ^ 256) (hx:x<2 ^ 256) (bS:bs.length=32) (hv:¬ Sec p q g x):Calls Tryz.prog 6 #[gv p q g,af x,.agg (au bs).toArray] w fun e w'=>e=.returned (.tuple #[sgv 0 0,.int .i64 1])∧Below w.heap.size w w':=by
 have VV:=hid hv
 have PL:=hid hp
 have QL:=hid hq
 have GL:=hid hg
 have XL:=hid hx
 clear hv hp hq hg hx
 obtain ⟨O,M,E,f1,f2⟩:=boxes3 w (aY p q g) (ai x) ((au bs).toArray) 26 24 28 _ rfl
 have aA:Hid (∀ u,Below (((w.alloc (.cells (aY p q g) 26)).alloc (.cells (ai x) 24)).alloc (.cells ((au bs).toArray) 28)).heap.size (((w.alloc (.cells (aY p q g) 26)).alloc (.cells (ai x) 24)).alloc (.cells ((au bs).toArray) 28)) u→Below w.heap.size w u):=hid (fun u hu=>O.trans (hu.mono O.size))
 go_enter Tryz.func6,Tryz.ntmps6
 go_upto_region 1 with fail
 generalize ((w.alloc (.cells (aY p q g) 26)).alloc (.cells (ai x) 24)).alloc (.cells ((au bs).toArray) 28)=F at *
 have f:=(Below.refl F.heap.size F).alloc (Nat.le_refl _) (.cells #[.int .u64 0,.int .u64 0,.int .u64 0,.int .u64 0,.int .u64 0,.int .u64 0,.int .u64 0,.int .u64 0] 30)
 have L:=heap_alloc_new F (.cells #[.int .u64 0,.int .u64 0,.int .u64 0,.int .u64 0,.int .u64 0,.int .u64 0,.int .u64 0,.int .u64 0] 30)
 rw [M] at L
 have D:=hid f
 have R:Hid (F.heap.size=w.heap.size+1+1+1):=hid M
 have FG:=hid ((ldG p q g 0 E (ak _)).on f)
 have ap:=hid ((aP p 0 E (ag p _ 0 rfl rfl rfl rfl)).on f)
 have aB:=hid ((aP q 4 E (ag q _ 4 rfl rfl rfl rfl)).on f)
 have dO:=hid ((aP g 8 E (ag g _ 8 rfl rfl rfl rfl)).on f)
 have bu:=hid ((aP x 0 f1 (ak _)).on f)
 have Fs:=hid ((ldS bs bS 0 f2 (fun j v h=>by rw [Nat.zero_add]; simpa using h)).on f)
 have I:=hid (av L)
 clear L
 generalize F.alloc (.cells #[.int .u64 0,.int .u64 0,.int .u64 0,.int .u64 0,.int .u64 0,.int .u64 0,.int .u64 0,.int .u64 0] 30)=w0 at *
 clear O M f E f1 f2
 generalize w.heap.size+1+1+1=z at *
 generalize w.heap.size+1+1=ab at *
 generalize w.heap.size+1=al at *
 generalize K:w.heap.size=ad at *
 clear bS
 have l1:=FG.out.here
 have Z:=bu.out.here
 go_wp2_with (first | (refine du rfl _ _ rfl _ rfl _ (by first | exact l1 | exact Z) ?_))
 clear l1 Z
 refine (key_none p q g x _ PL.out QL.out GL.out XL.out VV.out).mono ?_
 rintro e w1 ⟨rfl,hb⟩
 have D:=hid (D.out.trans (hb.mono D.out.size))
 have I:=hid (I.out.on hb)
 clear hb
 go_upto_region 2 with fail
 have hb:=(Below.refl w1.heap.size w1).alloc (Nat.le_refl _) (.cells (ai 0) 24)
 have hn:=heap_alloc_new w1 (.cells (ai 0) 24)
 have D:=hid (D.out.trans (hb.mono D.out.size))
 have I:=hid (I.out.on hb)
 have ao:=hid (aP 0 0 hn (ak _))
 clear hb hn
 generalize w1.alloc (.cells (ai 0) 24)=w2 at *
 generalize w1.heap.size=an at *
 have J:=I.out.here
 have HZ:=hid (setRow_heap w2 z _ (#[.int .u64 0,.int .u64 0,.int .u64 0,.int .u64 0,.int .u64 0,.int .u64 0,.int .u64 0,.int .u64 0]) 30 _ J)
 have G:=hid (below_setRow D.out (Nat.le_of_eq R.out) (#[.int .u64 0,.int .u64 0,.int .u64 0,.int .u64 0,.int .u64 0,.int .u64 0,.int .u64 0,.int .u64 0]))
 have V:Hid ((Tryz.prog.info? 30).map (·.size)=some (#[.int .u64 0,.int .u64 0,.int .u64 0,.int .u64 0,.int .u64 0,.int .u64 0,.int .u64 0,.int .u64 0]:Array Value).size):=hid (by kernel_rfl)
 have U:Hid ((#[.int .u64 0,.int .u64 0,.int .u64 0,.int .u64 0,.int .u64 0,.int .u64 0,.int .u64 0,.int .u64 0]:Array Value).size=(#[.int .u64 0,.int .u64 0,.int .u64 0,.int .u64 0,.int .u64 0,.int .u64 0,.int .u64 0,.int .u64 0]:Array Value).size):=hid rfl
 have Y:Hid ((#[.int .u64 0,.int .u64 0,.int .u64 0,.int .u64 0,.int .u64 0,.int .u64 0,.int .u64 0,.int .u64 0]:Array Value).all (·.oneCell')=true):=hid (by simp [Value.oneCell'])
 go_wp2_with (first | (refine wpList_store_row rfl 30 (.tmp 6) (.tmp 26) rfl z (#[.int .u64 0,.int .u64 0,.int .u64 0,.int .u64 0,.int .u64 0,.int .u64 0,.int .u64 0,.int .u64 0]) rfl rfl 30 _ J V.out U.out Y.out ?_))
 clear J
 try rw [Exit.noGoto_ret]
 change bodyPost _ _ _ _ _ (w2.setRow z (#[.int .u64 0,.int .u64 0,.int .u64 0,.int .u64 0,.int .u64 0,.int .u64 0,.int .u64 0,.int .u64 0]))
 generalize w2.setRow z (#[.int .u64 0,.int .u64 0,.int .u64 0,.int .u64 0,.int .u64 0,.int .u64 0,.int .u64 0,.int .u64 0])=wz at *
 obtain ⟨k0,k1,k2,k3,k4,k5,k6,k7⟩:=sg_zeros HZ.out
 exact bodyPost_ret (v:=.tuple #[.agg (#[.int .u64 0,.int .u64 0,.int .u64 0,.int .u64 0,.int .u64 0,.int .u64 0,.int .u64 0,.int .u64 0]),.int .i64 1]) (by simp [results,Tryz.results6,go_sem,k0,k1,k2,k3,k4,k5,k6,k7]) rfl ⟨rfl,by first | exact aA.out _ G.out | (rw [K]; exact aA.out _ G.out)⟩
theorem sign_ok (p q g x c t:Nat) (bs:List UInt8) (w:World) (hp:p<2 ^ 256) (hq:q<2 ^ 256) (hg:g<2 ^ 256) (hx:x<2 ^ 256) (bS:bs.length=32) (hK:Kt w) (hv:Sec p q g x) (hc:sigC p q g x bs=c) (ht:sigS p q g x bs=t):Calls Tryz.prog 6 #[gv p q g,af x,.agg (au bs).toArray] w fun e w'=>e=.returned (.tuple #[sgv c t,.int .i64 0])∧Below w.heap.size w w':=by
 obtain ⟨v1,v2,v3,v4,v5,v6⟩:=hv
 have aJ:1<p:=by omega
 have ay:q≠0:=by omega
 obtain ⟨k,ek⟩:∃ k,g ^ x % p=k:=⟨_,rfl⟩
 obtain ⟨d,ed⟩:∃ d,drw q x bs=d:=⟨_,rfl⟩
 obtain ⟨r,er⟩:∃ r,g ^ d % p=r:=⟨_,rfl⟩
 obtain ⟨m,em⟩:∃ m,x * c % q=m:=⟨_,rfl⟩
 have lc:c<q:=hc ▸ sigC_lt p q g x bs ay
 have ld:d<q:=ed ▸ drw_lt q x bs v3
 have lm:m<q:=em ▸ Nat.mod_lt _ (by omega)
 unfold sigS at ht
 rw [hc,ed,em] at ht
 unfold sigC at hc
 rw [ek,ed,er] at hc
 unfold chl at hc
 have lk:k<2 ^ 256:=Nat.lt_trans (ek ▸ Nat.mod_lt _ (by omega)) hp
 have lr:r<2 ^ 256:=Nat.lt_trans (er ▸ Nat.mod_lt _ (by omega)) hp
 have VV:=hid (show x≠0∧x<q∧1<q∧g≠1∧(0<g∧g<p)∧g ^ q % p=1 from ⟨v1,v2,v3,v4,v5,v6⟩)
 have VG:=hid v5
 have PL:=hid hp
 have QL:=hid hq
 have GL:=hid hg
 have XL:=hid hx
 have BL:=hid bS
 have EK:=hid ek
 have ED:=hid ed
 have ER:=hid er
 have EM:=hid em
 have EC:=hid hc
 have ET:=hid ht
 have LC:=hid lc
 have LD:=hid ld
 have LM:=hid lm
 have LK:=hid lk
 have LR:=hid lr
 have Q1:=hid v3
 have XQ:=hid v2
 have DL:=hid (show d<2 ^ 256 by omega)
 clear v1 v2 v3 v4 v5 v6 aJ ay ek ed er em hc ht lc ld lm lk lr hp hq hg hx
 obtain ⟨bA,bI,f0,f1,f2⟩:=boxes3 w (aY p q g) (ai x) ((au bs).toArray) 26 24 28 _ rfl
 have aA:Hid (∀ u,Below (((w.alloc (.cells (aY p q g) 26)).alloc (.cells (ai x) 24)).alloc (.cells ((au bs).toArray) 28)).heap.size (((w.alloc (.cells (aY p q g) 26)).alloc (.cells (ai x) 24)).alloc (.cells ((au bs).toArray) 28)) u→Below w.heap.size w u):=hid (fun u hu=>bA.trans (hu.mono bA.size))
 have az:=hid (hK.on bA)
 clear hK
 go_enter Tryz.func6,Tryz.ntmps6
 go_upto_region 1 with fail
 generalize ((w.alloc (.cells (aY p q g) 26)).alloc (.cells (ai x) 24)).alloc (.cells ((au bs).toArray) 28)=W0 at *
 have G:=(Below.refl W0.heap.size W0).alloc (Nat.le_refl _) (.cells #[.int .u64 0,.int .u64 0,.int .u64 0,.int .u64 0,.int .u64 0,.int .u64 0,.int .u64 0,.int .u64 0] 30)
 have dG:=heap_alloc_new W0 (.cells #[.int .u64 0,.int .u64 0,.int .u64 0,.int .u64 0,.int .u64 0,.int .u64 0,.int .u64 0,.int .u64 0] 30)
 rw [bI] at dG
 have z:=hid G
 have aL:Hid (W0.heap.size=w.heap.size+1+1+1):=hid bI
 have L:=hid ((ldG p q g 0 f0 (ak _)).on G)
 have bm:=hid ((aP p 0 f0 (ag p _ 0 rfl rfl rfl rfl)).on G)
 have F:=hid ((aP q 4 f0 (ag q _ 4 rfl rfl rfl rfl)).on G)
 have U:=hid ((aP g 8 f0 (ag g _ 8 rfl rfl rfl rfl)).on G)
 have I:=hid ((aP x 0 f1 (ak _)).on G)
 have M:=hid ((ldS bs bS 0 f2 (fun j v h=>by rw [Nat.zero_add]; simpa using h)).on G)
 have O:=hid (az.out.on G)
 clear az
 have E:=hid (av dG)
 clear dG
 generalize W0.alloc (.cells #[.int .u64 0,.int .u64 0,.int .u64 0,.int .u64 0,.int .u64 0,.int .u64 0,.int .u64 0,.int .u64 0] 30)=w0 at *
 clear bA bI G f0 f1 f2
 generalize w.heap.size+1+1+1=R at *
 generalize w.heap.size+1+1=ba at *
 generalize w.heap.size+1=bd at *
 generalize aK:w.heap.size=bb at *
 clear bS
 have l1:=L.out.here
 have l2:=I.out.here
 go_wp2_with (first | (refine du rfl _ _ rfl _ rfl _ (by first | exact l1 | exact l2) ?_))
 clear l1 l2
 refine (key_ok p q g x k _ PL.out QL.out GL.out XL.out VV.out EK.out).mono ?_
 rintro e w1 ⟨rfl,hb⟩
 have z:=hid (z.out.trans (hb.mono z.out.size))
 have L:=hid (L.out.on hb)
 have F:=hid (F.out.on hb)
 have U:=hid (U.out.on hb)
 have I:=hid (I.out.on hb)
 have M:=hid (M.out.on hb)
 have O:=hid (O.out.on hb)
 have E:=hid (E.out.on hb)
 clear hb
 go_upto_region 2 with fail
 have hb:=(Below.refl w1.heap.size w1).alloc (Nat.le_refl _) (.cells (ai k) 24)
 have K:=heap_alloc_new w1 (.cells (ai k) 24)
 have z:=hid (z.out.trans (hb.mono z.out.size))
 have L:=hid (L.out.on hb)
 have F:=hid (F.out.on hb)
 have U:=hid (U.out.on hb)
 have I:=hid (I.out.on hb)
 have M:=hid (M.out.on hb)
 have O:=hid (O.out.on hb)
 have E:=hid (E.out.on hb)
 have J:=hid (aP k 0 K (ak _))
 clear hb K
 generalize w1.alloc (.cells (ai k) 24)=w2 at *
 generalize w1.heap.size=bk at *
 have l3:=L.out.here
 have l4:=I.out.here
 have l5:=M.out.here
 go_wp2_with (first | (refine du rfl _ _ rfl _ rfl _ (by first | exact l3 | exact l4 | exact l5) ?_))
 clear l3 l4 l5
 refine (drawn_any p q g x d bs _ QL.out Q1.out XL.out BL.out O.out ED.out).mono ?_
 rintro e w3 ⟨rfl,hb⟩
 have z:=hid (z.out.trans (hb.mono z.out.size))
 have L:=hid (L.out.on hb)
 have F:=hid (F.out.on hb)
 have U:=hid (U.out.on hb)
 have I:=hid (I.out.on hb)
 have M:=hid (M.out.on hb)
 have J:=hid (J.out.on hb)
 have O:=hid (O.out.on hb)
 have E:=hid (E.out.on hb)
 clear hb
 go_upto_region 5 with fail
 have hb:=(Below.refl w3.heap.size w3).alloc (Nat.le_refl _) (.cells (ai d) 24)
 have K:=heap_alloc_new w3 (.cells (ai d) 24)
 have z:=hid (z.out.trans (hb.mono z.out.size))
 have L:=hid (L.out.on hb)
 have F:=hid (F.out.on hb)
 have U:=hid (U.out.on hb)
 have I:=hid (I.out.on hb)
 have M:=hid (M.out.on hb)
 have J:=hid (J.out.on hb)
 have O:=hid (O.out.on hb)
 have E:=hid (E.out.on hb)
 have f:=hid (aP d 0 K (ak _))
 clear hb K
 generalize w3.alloc (.cells (ai d) 24)=w4 at *
 generalize w3.heap.size=aW at *
 have l6:=L.out.here
 have l7:=U.out.here
 have l8:=f.out.here
 go_wp2_with (first | (refine du rfl _ _ rfl _ rfl _ (by first | exact l6 | exact l7 | exact l8) ?_))
 clear l6 l7 l8
 refine (gexp_any p q g g d r _ PL.out DL.out VG.out ER.out).mono ?_
 rintro e w5 ⟨rfl,hb⟩
 have z:=hid (z.out.trans (hb.mono z.out.size))
 have L:=hid (L.out.on hb)
 have F:=hid (F.out.on hb)
 have I:=hid (I.out.on hb)
 have M:=hid (M.out.on hb)
 have J:=hid (J.out.on hb)
 have f:=hid (f.out.on hb)
 have O:=hid (O.out.on hb)
 have E:=hid (E.out.on hb)
 clear hb
 go_upto_region 6 with fail
 have hb:=(Below.refl w5.heap.size w5).alloc (Nat.le_refl _) (.cells (ai r) 24)
 have K:=heap_alloc_new w5 (.cells (ai r) 24)
 have z:=hid (z.out.trans (hb.mono z.out.size))
 have L:=hid (L.out.on hb)
 have F:=hid (F.out.on hb)
 have I:=hid (I.out.on hb)
 have M:=hid (M.out.on hb)
 have J:=hid (J.out.on hb)
 have f:=hid (f.out.on hb)
 have O:=hid (O.out.on hb)
 have E:=hid (E.out.on hb)
 have aI:=hid (aP r 0 K (ak _))
 clear hb K
 generalize w5.alloc (.cells (ai r) 24)=w6 at *
 generalize w5.heap.size=aU at *
 have l9:=L.out.here
 have ax:=J.out.here
 have ar:=aI.out.here
 have ap:=M.out.here
 go_wp2_with (first | (refine du rfl _ _ rfl _ rfl _ (by first | exact l9 | exact ax | exact ar | exact ap) ?_))
 clear l9 ax ar ap
 refine (chal_any p q g k r bs c _ QL.out LK.out LR.out BL.out O.out EC.out).mono ?_
 rintro e w7 ⟨rfl,hb⟩
 have z:=hid (z.out.trans (hb.mono z.out.size))
 have F:=hid (F.out.on hb)
 have I:=hid (I.out.on hb)
 have f:=hid (f.out.on hb)
 have E:=hid (E.out.on hb)
 clear hb
 go_upto_region 7 with fail
 have hb:=(Below.refl w7.heap.size w7).alloc (Nat.le_refl _) (.cells (ai c) 24)
 have K:=heap_alloc_new w7 (.cells (ai c) 24)
 have z:=hid (z.out.trans (hb.mono z.out.size))
 have F:=hid (F.out.on hb)
 have I:=hid (I.out.on hb)
 have f:=hid (f.out.on hb)
 have E:=hid (E.out.on hb)
 have D:=hid (aP c 0 K (ak _))
 clear hb K
 generalize w7.alloc (.cells (ai c) 24)=w8 at *
 generalize w7.heap.size=aT at *
 have ao:=I.out.here
 have an:=D.out.here
 have al:=F.out.here
 go_wp2_with (first | (refine du rfl _ _ rfl _ rfl _ (by first | exact ao | exact an | exact al) ?_))
 clear ao an al
 refine (mmul_at x c q m (ae.refl _) QL.out Q1.out XQ.out LC.out EM.out).mono ?_
 rintro e w9 ⟨rfl,hb⟩
 have hb:=hb.1
 have z:=hid (z.out.trans (hb.mono z.out.size))
 have F:=hid (F.out.on hb)
 have f:=hid (f.out.on hb)
 have D:=hid (D.out.on hb)
 have E:=hid (E.out.on hb)
 clear hb
 go_upto_region 8 with fail
 have hb:=(Below.refl w9.heap.size w9).alloc (Nat.le_refl _) (.cells (ai m) 24)
 have K:=heap_alloc_new w9 (.cells (ai m) 24)
 have z:=hid (z.out.trans (hb.mono z.out.size))
 have F:=hid (F.out.on hb)
 have f:=hid (f.out.on hb)
 have D:=hid (D.out.on hb)
 have E:=hid (E.out.on hb)
 have aG:=hid (aP m 0 K (ak _))
 clear hb K
 generalize w9.alloc (.cells (ai m) 24)=w10 at *
 generalize w9.heap.size=aS at *
 have ad:=f.out.here
 have ab:=aG.out.here
 have Z:=F.out.here
 go_wp2_with (first | (refine du rfl _ _ rfl _ rfl _ (by first | exact ad | exact ab | exact Z) ?_))
 clear ad ab Z
 refine (madd_at d m q t (ae.refl _) QL.out Q1.out LD.out LM.out ET.out).mono ?_
 rintro e w11 ⟨rfl,hb⟩
 have hb:=hb.1
 have z:=hid (z.out.trans (hb.mono z.out.size))
 have D:=hid (D.out.on hb)
 have E:=hid (E.out.on hb)
 clear hb
 go_upto_region 9 with fail
 have hb:=(Below.refl w11.heap.size w11).alloc (Nat.le_refl _) (.cells (ai t) 24)
 have K:=heap_alloc_new w11 (.cells (ai t) 24)
 have z:=hid (z.out.trans (hb.mono z.out.size))
 have D:=hid (D.out.on hb)
 have E:=hid (E.out.on hb)
 have aE:=hid (aP t 0 K (ak _))
 clear hb K
 generalize w11.alloc (.cells (ai t) 24)=w12 at *
 generalize w11.heap.size=aR at *
 have hz:=E.out.here
 have HZ:=hid (setRow_heap w12 R _ (dl c t) 30 _ hz)
 have aC:=hid (below_setRow z.out (Nat.le_of_eq aL.out) (dl c t))
 have aN:Hid ((Tryz.prog.info? 30).map (·.size)=some (dl c t:Array Value).size):=hid (by kernel_rfl)
 have aM:Hid ((#[.int .u64 0,.int .u64 0,.int .u64 0,.int .u64 0,.int .u64 0,.int .u64 0,.int .u64 0,.int .u64 0]:Array Value).size=(dl c t:Array Value).size):=hid rfl
 have aQ:Hid ((dl c t:Array Value).all (·.oneCell')=true):=hid (by simp [Value.oneCell'])
 have Y:=D.out.here
 have V:=aE.out.here
 go_wp2_with (first | (refine du rfl _ _ rfl _ rfl _ (by first | exact Y | exact V) ?_) | (refine wpList_store_row rfl 30 (.tmp 6) (.tmp 63) rfl R (dl c t) rfl rfl 30 _ hz aN.out aM.out aQ.out ?_))
 clear hz Y V
 try rw [Exit.noGoto_ret]
 change bodyPost _ _ _ _ _ (w12.setRow R (dl c t))
 generalize w12.setRow R (dl c t)=wz at *
 obtain ⟨k0,k1,k2,k3,k4,k5,k6,k7⟩:=dE HZ.out
 exact bodyPost_ret (v:=.tuple #[.agg (dl c t),.int .i64 0]) (by simp [results,Tryz.results6,go_sem,k0,k1,k2,k3,k4,k5,k6,k7]) rfl ⟨rfl,by first | exact aA.out _ aC.out | (rw [aK]; exact aA.out _ aC.out)⟩
theorem check_c (p q g k c s:Nat) (bs:List UInt8) (w:World) (hp:p<2 ^ 256) (hq:q<2 ^ 256) (hg:g<2 ^ 256) (hk:k<2 ^ 256) (hc:c<2 ^ 256) (hs:s<2 ^ 256) (bS:bs.length=32) (hv:¬ (c<q)):Calls Tryz.prog 8 #[gv p q g,af k,.agg (au bs).toArray,sgv c s] w fun e w'=>e=.returned (.bool false)∧Below w.heap.size w w':=by
 have v0:=hv
 have VC:Hid (decide (c<q)=false):=hid (decide_eq_false v0)
 clear hv v0
 have PL:=hid hp
 have QL:=hid hq
 have GL:=hid hg
 have KL:=hid hk
 have CL:=hid hc
 have SL:=hid hs
 clear hp hq hg hk hc hs
 obtain ⟨Y,bI,D,V,f2,G⟩:=boxes4 w (aY p q g) (ai k) ((au bs).toArray) (dl c s) 26 24 28 30 _ rfl
 have Z:Hid (∀ u,Below ((((w.alloc (.cells (aY p q g) 26)).alloc (.cells (ai k) 24)).alloc (.cells ((au bs).toArray) 28)).alloc (.cells (dl c s) 30)).heap.size ((((w.alloc (.cells (aY p q g) 26)).alloc (.cells (ai k) 24)).alloc (.cells ((au bs).toArray) 28)).alloc (.cells (dl c s) 30)) u→Below w.heap.size w u):=hid (fun u hu=>Y.trans (hu.mono Y.size))
 go_enter Tryz.func8,Tryz.ntmps8
 go_upto_region 1 with fail
 generalize (((w.alloc (.cells (aY p q g) 26)).alloc (.cells (ai k) 24)).alloc (.cells ((au bs).toArray) 28)).alloc (.cells (dl c s) 30)=W0 at *
 have f:=Below.refl W0.heap.size W0
 have z:=hid f
 have ao:Hid (W0.heap.size=w.heap.size+1+1+1+1):=hid bI
 have FG:=hid ((ldG p q g 0 D (ak _)).on f)
 have ar:=hid ((aP p 0 D (ag p _ 0 rfl rfl rfl rfl)).on f)
 have aB:=hid ((aP q 4 D (ag q _ 4 rfl rfl rfl rfl)).on f)
 have dO:=hid ((aP g 8 D (ag g _ 8 rfl rfl rfl rfl)).on f)
 have Fbp:=hid ((av D).on f)
 have aG:=hid ((aP k 0 V (ak _)).on f)
 have Fba:=hid ((av V).on f)
 have Fs:=hid ((ldS bs bS 0 f2 (fun j v h=>by rw [Nat.zero_add]; simpa using h)).on f)
 have FX:=hid ((ldX c s 0 G (ak _)).on f)
 have ct:=hid ((aP c 0 G (ag c _ 0 rfl rfl rfl rfl)).on f)
 have ap:=hid ((aP s 4 G (ag s _ 4 rfl rfl rfl rfl)).on f)
 have Fbx:=hid ((av G).on f)
 clear Y bI f D V f2 G
 generalize w.heap.size+1+1+1=ab at *
 generalize w.heap.size+1+1=ad at *
 generalize w.heap.size+1=an at *
 generalize F:w.heap.size=al at *
 clear bS
 have l1:=FG.out.here
 go_wp2_with (first | (refine du rfl _ _ rfl _ rfl _ (by first | exact l1) ?_))
 clear l1
 refine (di p q g _).mono ?_
 rintro e w1 ⟨gx,rfl,hb,E⟩
 have z:=hid (z.out.trans (hb.mono z.out.size))
 have Fbx:=hid (Fbx.out.on hb)
 have FbX:=hid (av E)
 clear hb E
 obtain ⟨U,R,O,M,L,K,J,I⟩:=dE Fbx.out.here
 go_wp2_with fail
 clear U R O M L K J I
 refine (dq p q g c gx false _ QL.out CL.out FbX.out.here VC.out).mono ?_
 rintro e w2 ⟨rfl,hb⟩
 have z:=hid (z.out.trans (hb.mono z.out.size))
 clear hb
 go_wp2_with fail
 try rw [Exit.noGoto_ret]
 first | exact bodyPost_ret (v:=.bool (false)) (by simp [results,Tryz.results8,go_sem]) rfl ⟨rfl,by first | exact Z.out _ z.out | (rw [F]; exact Z.out _ z.out)⟩ | (go_ret; exact ⟨rfl,by rw [F]; exact Z.out _ z.out⟩)
theorem check_s (p q g k c s:Nat) (bs:List UInt8) (w:World) (hp:p<2 ^ 256) (hq:q<2 ^ 256) (hg:g<2 ^ 256) (hk:k<2 ^ 256) (hc:c<2 ^ 256) (hs:s<2 ^ 256) (bS:bs.length=32) (hv:(c<q)∧¬ (s<q)):Calls Tryz.prog 8 #[gv p q g,af k,.agg (au bs).toArray,sgv c s] w fun e w'=>e=.returned (.bool false)∧Below w.heap.size w w':=by
 obtain ⟨v0,v1⟩:=hv
 have VC:Hid (decide (c<q)=true):=hid (decide_eq_true v0)
 have VS:Hid (decide (s<q)=false):=hid (decide_eq_false v1)
 clear v0 v1
 have PL:=hid hp
 have QL:=hid hq
 have GL:=hid hg
 have KL:=hid hk
 have CL:=hid hc
 have SL:=hid hs
 clear hp hq hg hk hc hs
 obtain ⟨bA,bI,D,f1,f2,G⟩:=boxes4 w (aY p q g) (ai k) ((au bs).toArray) (dl c s) 26 24 28 30 _ rfl
 have aA:Hid (∀ u,Below ((((w.alloc (.cells (aY p q g) 26)).alloc (.cells (ai k) 24)).alloc (.cells ((au bs).toArray) 28)).alloc (.cells (dl c s) 30)).heap.size ((((w.alloc (.cells (aY p q g) 26)).alloc (.cells (ai k) 24)).alloc (.cells ((au bs).toArray) 28)).alloc (.cells (dl c s) 30)) u→Below w.heap.size w u):=hid (fun u hu=>bA.trans (hu.mono bA.size))
 go_enter Tryz.func8,Tryz.ntmps8
 go_upto_region 1 with fail
 generalize (((w.alloc (.cells (aY p q g) 26)).alloc (.cells (ai k) 24)).alloc (.cells ((au bs).toArray) 28)).alloc (.cells (dl c s) 30)=W0 at *
 have f:=Below.refl W0.heap.size W0
 have z:=hid f
 have az:Hid (W0.heap.size=w.heap.size+1+1+1+1):=hid bI
 have FG:=hid ((ldG p q g 0 D (ak _)).on f)
 have aE:=hid ((aP p 0 D (ag p _ 0 rfl rfl rfl rfl)).on f)
 have aB:=hid ((aP q 4 D (ag q _ 4 rfl rfl rfl rfl)).on f)
 have dO:=hid ((aP g 8 D (ag g _ 8 rfl rfl rfl rfl)).on f)
 have Fbp:=hid ((av D).on f)
 have aG:=hid ((aP k 0 f1 (ak _)).on f)
 have Fba:=hid ((av f1).on f)
 have Fs:=hid ((ldS bs bS 0 f2 (fun j v h=>by rw [Nat.zero_add]; simpa using h)).on f)
 have FX:=hid ((ldX c s 0 G (ak _)).on f)
 have ct:=hid ((aP c 0 G (ag c _ 0 rfl rfl rfl rfl)).on f)
 have aC:=hid ((aP s 4 G (ag s _ 4 rfl rfl rfl rfl)).on f)
 have Fbx:=hid ((av G).on f)
 clear bA bI f D f1 f2 G
 generalize w.heap.size+1+1+1=ap at *
 generalize w.heap.size+1+1=ar at *
 generalize w.heap.size+1=ay at *
 generalize F:w.heap.size=ax at *
 clear bS
 have l1:=FG.out.here
 go_wp2_with (first | (refine du rfl _ _ rfl _ rfl _ (by first | exact l1) ?_))
 clear l1
 refine (di p q g _).mono ?_
 rintro e w1 ⟨gx,rfl,hb,E⟩
 have z:=hid (z.out.trans (hb.mono z.out.size))
 have Fbx:=hid (Fbx.out.on hb)
 have FbX:=hid (av E)
 clear hb E
 obtain ⟨ao,an,al,ad,ab,Z,Y,V⟩:=dE Fbx.out.here
 go_wp2_with fail
 clear ao an al ad ab Z Y V
 refine (dq p q g c gx true _ QL.out CL.out FbX.out.here VC.out).mono ?_
 rintro e w2 ⟨rfl,hb⟩
 have z:=hid (z.out.trans (hb.mono z.out.size))
 have Fbx:=hid (Fbx.out.on hb)
 have FbX:=hid (FbX.out.on hb)
 clear hb
 obtain ⟨U,R,O,M,L,K,J,I⟩:=dE Fbx.out.here
 go_wp2_with fail
 clear U R O M L K J I
 refine (dq p q g s gx false _ QL.out SL.out FbX.out.here VS.out).mono ?_
 rintro e w3 ⟨rfl,hb⟩
 have z:=hid (z.out.trans (hb.mono z.out.size))
 clear hb
 go_wp2_with fail
 try rw [Exit.noGoto_ret]
 first | exact bodyPost_ret (v:=.bool (false)) (by simp [results,Tryz.results8,go_sem]) rfl ⟨rfl,by first | exact aA.out _ z.out | (rw [F]; exact aA.out _ z.out)⟩ | (go_ret; exact ⟨rfl,by rw [F]; exact aA.out _ z.out⟩)
theorem check_f (p q g k c s:Nat) (bs:List UInt8) (w:World) (hp:p<2 ^ 256) (hq:q<2 ^ 256) (hg:g<2 ^ 256) (hk:k<2 ^ 256) (hc:c<2 ^ 256) (hs:s<2 ^ 256) (bS:bs.length=32) (hv:(c<q)∧(s<q)∧¬ (1<q∧g≠1∧(0<g∧g<p)∧g ^ q % p=1)):Calls Tryz.prog 8 #[gv p q g,af k,.agg (au bs).toArray,sgv c s] w fun e w'=>e=.returned (.bool false)∧Below w.heap.size w w':=by
 obtain ⟨v0,v1,v2⟩:=hv
 have VC:Hid (decide (c<q)=true):=hid (decide_eq_true v0)
 have VS:Hid (decide (s<q)=true):=hid (decide_eq_true v1)
 have VF:Hid (decide (1<q∧g≠1∧(0<g∧g<p)∧g ^ q % p=1)=false):=hid (decide_eq_false v2)
 clear v0 v1 v2
 have PL:=hid hp
 have QL:=hid hq
 have GL:=hid hg
 have KL:=hid hk
 have CL:=hid hc
 have SL:=hid hs
 clear hp hq hg hk hc hs
 obtain ⟨bA,bI,D,f1,f2,G⟩:=boxes4 w (aY p q g) (ai k) ((au bs).toArray) (dl c s) 26 24 28 30 _ rfl
 have aA:Hid (∀ u,Below ((((w.alloc (.cells (aY p q g) 26)).alloc (.cells (ai k) 24)).alloc (.cells ((au bs).toArray) 28)).alloc (.cells (dl c s) 30)).heap.size ((((w.alloc (.cells (aY p q g) 26)).alloc (.cells (ai k) 24)).alloc (.cells ((au bs).toArray) 28)).alloc (.cells (dl c s) 30)) u→Below w.heap.size w u):=hid (fun u hu=>bA.trans (hu.mono bA.size))
 go_enter Tryz.func8,Tryz.ntmps8
 go_upto_region 1 with fail
 generalize (((w.alloc (.cells (aY p q g) 26)).alloc (.cells (ai k) 24)).alloc (.cells ((au bs).toArray) 28)).alloc (.cells (dl c s) 30)=W0 at *
 have f:=Below.refl W0.heap.size W0
 have z:=hid f
 have aT:Hid (W0.heap.size=w.heap.size+1+1+1+1):=hid bI
 have FG:=hid ((ldG p q g 0 D (ak _)).on f)
 have aW:=hid ((aP p 0 D (ag p _ 0 rfl rfl rfl rfl)).on f)
 have aB:=hid ((aP q 4 D (ag q _ 4 rfl rfl rfl rfl)).on f)
 have dO:=hid ((aP g 8 D (ag g _ 8 rfl rfl rfl rfl)).on f)
 have Fbp:=hid ((av D).on f)
 have aG:=hid ((aP k 0 f1 (ak _)).on f)
 have Fba:=hid ((av f1).on f)
 have Fs:=hid ((ldS bs bS 0 f2 (fun j v h=>by rw [Nat.zero_add]; simpa using h)).on f)
 have FX:=hid ((ldX c s 0 G (ak _)).on f)
 have ct:=hid ((aP c 0 G (ag c _ 0 rfl rfl rfl rfl)).on f)
 have aU:=hid ((aP s 4 G (ag s _ 4 rfl rfl rfl rfl)).on f)
 have Fbx:=hid ((av G).on f)
 clear bA bI f D f1 f2 G
 generalize w.heap.size+1+1+1=aN at *
 generalize w.heap.size+1+1=aQ at *
 generalize w.heap.size+1=aS at *
 generalize F:w.heap.size=aR at *
 clear bS
 have l1:=FG.out.here
 go_wp2_with (first | (refine du rfl _ _ rfl _ rfl _ (by first | exact l1) ?_))
 clear l1
 refine (di p q g _).mono ?_
 rintro e w1 ⟨gx,rfl,hb,E⟩
 have z:=hid (z.out.trans (hb.mono z.out.size))
 have Fbp:=hid (Fbp.out.on hb)
 have Fbx:=hid (Fbx.out.on hb)
 have FbX:=hid (av E)
 clear hb E
 obtain ⟨aM,aL,aK,aJ,aI,aE,aC,az⟩:=dE Fbx.out.here
 go_wp2_with fail
 clear aM aL aK aJ aI aE aC az
 refine (dq p q g c gx true _ QL.out CL.out FbX.out.here VC.out).mono ?_
 rintro e w2 ⟨rfl,hb⟩
 have z:=hid (z.out.trans (hb.mono z.out.size))
 have Fbp:=hid (Fbp.out.on hb)
 have Fbx:=hid (Fbx.out.on hb)
 have FbX:=hid (FbX.out.on hb)
 clear hb
 obtain ⟨ay,ax,ar,ap,ao,an,al,ad⟩:=dE Fbx.out.here
 go_wp2_with fail
 clear ay ax ar ap ao an al ad
 refine (dq p q g s gx true _ QL.out SL.out FbX.out.here VS.out).mono ?_
 rintro e w3 ⟨rfl,hb⟩
 have z:=hid (z.out.trans (hb.mono z.out.size))
 have Fbp:=hid (Fbp.out.on hb)
 clear hb
 obtain ⟨ab,Z,Y,V⟩:=(show Gm _ _ 26 p q g from Fbp.out.here).p
 obtain ⟨U,R,O,M⟩:=(show Gm _ _ 26 p q g from Fbp.out.here).q
 obtain ⟨L,K,J,I⟩:=(show Gm _ _ 26 p q g from Fbp.out.here).g
 go_wp2_with fail
 clear ab Z Y V U R O M L K J I
 refine (fine_any p q g false _ PL.out QL.out GL.out VF.out).mono ?_
 rintro e w4 ⟨rfl,hb⟩
 have z:=hid (z.out.trans (hb.mono z.out.size))
 clear hb
 go_wp2_with fail
 try rw [Exit.noGoto_ret]
 first | exact bodyPost_ret (v:=.bool (false)) (by simp [results,Tryz.results8,go_sem]) rfl ⟨rfl,by first | exact aA.out _ z.out | (rw [F]; exact aA.out _ z.out)⟩ | (go_ret; exact ⟨rfl,by rw [F]; exact aA.out _ z.out⟩)
theorem check_k (p q g k c s:Nat) (bs:List UInt8) (w:World) (hp:p<2 ^ 256) (hq:q<2 ^ 256) (hg:g<2 ^ 256) (hk:k<2 ^ 256) (hc:c<2 ^ 256) (hs:s<2 ^ 256) (bS:bs.length=32) (hv:(c<q)∧(s<q)∧(1<q∧g≠1∧(0<g∧g<p)∧g ^ q % p=1)∧¬ (k≠1∧(0<k∧k<p)∧k ^ q % p=1)):Calls Tryz.prog 8 #[gv p q g,af k,.agg (au bs).toArray,sgv c s] w fun e w'=>e=.returned (.bool false)∧Below w.heap.size w w':=by
 obtain ⟨v0,v1,v2,v3⟩:=hv
 have VC:Hid (decide (c<q)=true):=hid (decide_eq_true v0)
 have VS:Hid (decide (s<q)=true):=hid (decide_eq_true v1)
 have VF:Hid (decide (1<q∧g≠1∧(0<g∧g<p)∧g ^ q % p=1)=true):=hid (decide_eq_true v2)
 have VK:Hid (decide (k≠1∧(0<k∧k<p)∧k ^ q % p=1)=false):=hid (decide_eq_false v3)
 clear v0 v1 v2 v3
 have PL:=hid hp
 have O:=hid hq
 have GL:=hid hg
 have KL:=hid hk
 have CL:=hid hc
 have SL:=hid hs
 clear hp hq hg hk hc hs
 obtain ⟨bA,bI,D,f1,f2,M⟩:=boxes4 w (aY p q g) (ai k) ((au bs).toArray) (dl c s) 26 24 28 30 _ rfl
 have aA:Hid (∀ u,Below ((((w.alloc (.cells (aY p q g) 26)).alloc (.cells (ai k) 24)).alloc (.cells ((au bs).toArray) 28)).alloc (.cells (dl c s) 30)).heap.size ((((w.alloc (.cells (aY p q g) 26)).alloc (.cells (ai k) 24)).alloc (.cells ((au bs).toArray) 28)).alloc (.cells (dl c s) 30)) u→Below w.heap.size w u):=hid (fun u hu=>bA.trans (hu.mono bA.size))
 go_enter Tryz.func8,Tryz.ntmps8
 go_upto_region 1 with fail
 generalize (((w.alloc (.cells (aY p q g) 26)).alloc (.cells (ai k) 24)).alloc (.cells ((au bs).toArray) 28)).alloc (.cells (dl c s) 30)=W0 at *
 have f:=Below.refl W0.heap.size W0
 have z:=hid f
 have bK:Hid (W0.heap.size=w.heap.size+1+1+1+1):=hid bI
 have FG:=hid ((ldG p q g 0 D (ak _)).on f)
 have bO:=hid ((aP p 0 D (ag p _ 0 rfl rfl rfl rfl)).on f)
 have aB:=hid ((aP q 4 D (ag q _ 4 rfl rfl rfl rfl)).on f)
 have dO:=hid ((aP g 8 D (ag g _ 8 rfl rfl rfl rfl)).on f)
 have Fbp:=hid ((av D).on f)
 have aG:=hid ((aP k 0 f1 (ak _)).on f)
 have Fba:=hid ((av f1).on f)
 have Fs:=hid ((ldS bs bS 0 f2 (fun j v h=>by rw [Nat.zero_add]; simpa using h)).on f)
 have FX:=hid ((ldX c s 0 M (ak _)).on f)
 have ct:=hid ((aP c 0 M (ag c _ 0 rfl rfl rfl rfl)).on f)
 have bN:=hid ((aP s 4 M (ag s _ 4 rfl rfl rfl rfl)).on f)
 have Fbx:=hid ((av M).on f)
 clear bA bI f D f1 f2 M
 generalize w.heap.size+1+1+1=bx at *
 generalize w.heap.size+1+1=bz at *
 generalize w.heap.size+1=L at *
 generalize K:w.heap.size=bG at *
 clear bS
 have l1:=FG.out.here
 go_wp2_with (first | (refine du rfl _ _ rfl _ rfl _ (by first | exact l1) ?_))
 clear l1
 refine (di p q g _).mono ?_
 rintro e w1 ⟨gx,rfl,hb,J⟩
 have z:=hid (z.out.trans (hb.mono z.out.size))
 have Fbp:=hid (Fbp.out.on hb)
 have Fba:=hid (Fba.out.on hb)
 have Fbx:=hid (Fbx.out.on hb)
 have FbX:=hid (av J)
 clear hb J
 obtain ⟨bv,bu,bq,bp,bo,bn,bm,bk⟩:=dE Fbx.out.here
 go_wp2_with fail
 clear bv bu bq bp bo bn bm bk
 refine (dq p q g c gx true _ O.out CL.out FbX.out.here VC.out).mono ?_
 rintro e w2 ⟨rfl,hb⟩
 have z:=hid (z.out.trans (hb.mono z.out.size))
 have Fbp:=hid (Fbp.out.on hb)
 have Fba:=hid (Fba.out.on hb)
 have Fbx:=hid (Fbx.out.on hb)
 have FbX:=hid (FbX.out.on hb)
 clear hb
 obtain ⟨bd,bb,ba,aW,aU,aT,aS,aR⟩:=dE Fbx.out.here
 go_wp2_with fail
 clear bd bb ba aW aU aT aS aR
 refine (dq p q g s gx true _ O.out SL.out FbX.out.here VS.out).mono ?_
 rintro e w3 ⟨rfl,hb⟩
 have z:=hid (z.out.trans (hb.mono z.out.size))
 have Fbp:=hid (Fbp.out.on hb)
 have Fba:=hid (Fba.out.on hb)
 clear hb
 obtain ⟨aQ,aN,aM,aL⟩:=(show Gm _ _ 26 p q g from Fbp.out.here).p
 obtain ⟨aK,aJ,aI,aE⟩:=(show Gm _ _ 26 p q g from Fbp.out.here).q
 obtain ⟨aC,az,ay,ax⟩:=(show Gm _ _ 26 p q g from Fbp.out.here).g
 go_wp2_with fail
 clear aQ aN aM aL aK aJ aI aE aC az ay ax
 refine (fine_any p q g true _ PL.out O.out GL.out VF.out).mono ?_
 rintro e w4 ⟨rfl,hb⟩
 have z:=hid (z.out.trans (hb.mono z.out.size))
 have Fbp:=hid (Fbp.out.on hb)
 have Fba:=hid (Fba.out.on hb)
 clear hb
 obtain ⟨ar,ap,ao,an⟩:=(show Gm _ _ 26 p q g from Fbp.out.here).p
 obtain ⟨al,ad,ab,Z⟩:=(show Gm _ _ 26 p q g from Fbp.out.here).q
 obtain ⟨Y,V,U,R⟩:=(show Gm _ _ 26 p q g from Fbp.out.here).g
 obtain ⟨I,G,F,E⟩:=ae.cell (bw (Below.refl _ _) (show Nm _ L k from Fba.out.here)) L k (by simp)
 go_wp2_with fail
 clear ar ap ao an al ad ab Z Y V U R I G F E
 refine (isKey_any p q g k false _ PL.out O.out KL.out VK.out).mono ?_
 rintro e w5 ⟨rfl,hb⟩
 have z:=hid (z.out.trans (hb.mono z.out.size))
 clear hb
 go_wp2_with fail
 try rw [Exit.noGoto_ret]
 first | exact bodyPost_ret (v:=.bool (false)) (by simp [results,Tryz.results8,go_sem]) rfl ⟨rfl,by first | exact aA.out _ z.out | (rw [K]; exact aA.out _ z.out)⟩ | (go_ret; exact ⟨rfl,by rw [K]; exact aA.out _ z.out⟩)
theorem check_ok (p q g k c s:Nat) (bs:List UInt8) (v:Bool) (w:World) (hp:p<2 ^ 256) (hq:q<2 ^ 256) (hg:g<2 ^ 256) (hk:k<2 ^ 256) (hc:c<2 ^ 256) (hs:s<2 ^ 256) (bS:bs.length=32) (U:Kt w) (hr:decide (c=chl q k (g ^ s % p * (k ^ (q - c) % p) % p) bs)=v) (hv:(c<q)∧(s<q)∧(1<q∧g≠1∧(0<g∧g<p)∧g ^ q % p=1)∧(k≠1∧(0<k∧k<p)∧k ^ q % p=1)):Calls Tryz.prog 8 #[gv p q g,af k,.agg (au bs).toArray,sgv c s] w fun e w'=>e=.returned (.bool v)∧Below w.heap.size w w':=by
 obtain ⟨v0,v1,v2,v3⟩:=hv
 have VC:Hid (decide (c<q)=true):=hid (decide_eq_true v0)
 have VS:Hid (decide (s<q)=true):=hid (decide_eq_true v1)
 have VF:Hid (decide (1<q∧g≠1∧(0<g∧g<p)∧g ^ q % p=1)=true):=hid (decide_eq_true v2)
 have VK:Hid (decide (k≠1∧(0<k∧k<p)∧k ^ q % p=1)=true):=hid (decide_eq_true v3)
 obtain ⟨r,er⟩:∃ r,g ^ s % p * (k ^ (q - c) % p) % p=r:=⟨_,rfl⟩
 obtain ⟨b,eb⟩:∃ b,chl q k r bs=b:=⟨_,rfl⟩
 rw [er,eb] at hr
 have ca:1<p:=by have:=v2.2.2.1; omega
 have hb:b<2 ^ 256:=by have:=chl_lt q k r bs (by omega); omega
 have ap:r<2 ^ 256:=Nat.lt_trans (er ▸ Nat.mod_lt _ (by omega)) hp
 have qe:∀ w,(Op.equalIn 10000 24 (af c) (af b)).run Tryz.prog w=.ok v w:=by
  intro w; rw [← hr]; by_cases h:c=b
  ·rw [decide_eq_true h]; exact eq_yes c b h w
  ·rw [decide_eq_false h]; exact eq_no c b hc hb h w
 unfold chl at eb
 have ER:=hid er
 have EB:=hid eb
 have VG:=hid v2.2.2
 have cd:=hid v3.2
 have CQ:=hid v0
 have cm:=hid hb
 have RL:=hid ap
 have cf:=hid bS
 have Q0:=hid (show q≠0 by omega)
 clear er eb ca hb ap hr
 clear v0 v1 v2 v3
 have PL:=hid hp
 have QL:=hid hq
 have GL:=hid hg
 have KL:=hid hk
 have CL:=hid hc
 have SL:=hid hs
 clear hp hq hg hk hc hs
 obtain ⟨bA,bI,f0,f1,f2,f3⟩:=boxes4 w (aY p q g) (ai k) ((au bs).toArray) (dl c s) 26 24 28 30 _ rfl
 have aA:Hid (∀ u,Below ((((w.alloc (.cells (aY p q g) 26)).alloc (.cells (ai k) 24)).alloc (.cells ((au bs).toArray) 28)).alloc (.cells (dl c s) 30)).heap.size ((((w.alloc (.cells (aY p q g) 26)).alloc (.cells (ai k) 24)).alloc (.cells ((au bs).toArray) 28)).alloc (.cells (dl c s) 30)) u→Below w.heap.size w u):=hid (fun u hu=>bA.trans (hu.mono bA.size))
 have az:=hid (U.on bA)
 clear U
 go_enter Tryz.func8,Tryz.ntmps8
 go_upto_region 1 with fail
 generalize (((w.alloc (.cells (aY p q g) 26)).alloc (.cells (ai k) 24)).alloc (.cells ((au bs).toArray) 28)).alloc (.cells (dl c s) 30)=W0 at *
 have f:=Below.refl W0.heap.size W0
 have I:=hid f
 have cj:Hid (W0.heap.size=w.heap.size+1+1+1+1):=hid bI
 have z:=hid ((ldG p q g 0 f0 (ak _)).on f)
 have cl:=hid ((aP p 0 f0 (ag p _ 0 rfl rfl rfl rfl)).on f)
 have aB:=hid ((aP q 4 f0 (ag q _ 4 rfl rfl rfl rfl)).on f)
 have dO:=hid ((aP g 8 f0 (ag g _ 8 rfl rfl rfl rfl)).on f)
 have Fbp:=hid ((av f0).on f)
 have E:=hid ((aP k 0 f1 (ak _)).on f)
 have Fba:=hid ((av f1).on f)
 have G:=hid ((ldS bs bS 0 f2 (fun j v h=>by rw [Nat.zero_add]; simpa using h)).on f)
 have F:=hid ((ldX c s 0 f3 (ak _)).on f)
 have D:=hid ((aP c 0 f3 (ag c _ 0 rfl rfl rfl rfl)).on f)
 have ck:=hid ((aP s 4 f3 (ag s _ 4 rfl rfl rfl rfl)).on f)
 have Fbx:=hid ((av f3).on f)
 have J:=hid (az.out.on f)
 clear az
 clear bA bI f f0 f1 f2 f3
 generalize w.heap.size+1+1+1=ay at *
 generalize w.heap.size+1+1=cb at *
 generalize w.heap.size+1=ab at *
 generalize ax:w.heap.size=cc at *
 clear bS
 have l1:=z.out.here
 go_wp2_with (first | (refine du rfl _ _ rfl _ rfl _ (by first | exact l1) ?_))
 clear l1
 refine (di p q g _).mono ?_
 rintro e w1 ⟨gx,rfl,hb,ar⟩
 have I:=hid (I.out.trans (hb.mono I.out.size))
 have z:=hid (z.out.on hb)
 have Fbp:=hid (Fbp.out.on hb)
 have E:=hid (E.out.on hb)
 have Fba:=hid (Fba.out.on hb)
 have G:=hid (G.out.on hb)
 have F:=hid (F.out.on hb)
 have D:=hid (D.out.on hb)
 have Fbx:=hid (Fbx.out.on hb)
 have J:=hid (J.out.on hb)
 have FbX:=hid (av ar)
 clear hb ar
 obtain ⟨bZ,bY,bX,bW,bV,bU,bR,bQ⟩:=dE Fbx.out.here
 go_wp2_with fail
 clear bZ bY bX bW bV bU bR bQ
 refine (dq p q g c gx true _ QL.out CL.out FbX.out.here VC.out).mono ?_
 rintro e w2 ⟨rfl,hb⟩
 have I:=hid (I.out.trans (hb.mono I.out.size))
 have z:=hid (z.out.on hb)
 have Fbp:=hid (Fbp.out.on hb)
 have E:=hid (E.out.on hb)
 have Fba:=hid (Fba.out.on hb)
 have G:=hid (G.out.on hb)
 have F:=hid (F.out.on hb)
 have D:=hid (D.out.on hb)
 have Fbx:=hid (Fbx.out.on hb)
 have FbX:=hid (FbX.out.on hb)
 have J:=hid (J.out.on hb)
 clear hb
 obtain ⟨bP,bO,bN,bK,bG,bz,bx,bv⟩:=dE Fbx.out.here
 go_wp2_with fail
 clear bP bO bN bK bG bz bx bv
 refine (dq p q g s gx true _ QL.out SL.out FbX.out.here VS.out).mono ?_
 rintro e w3 ⟨rfl,hb⟩
 have I:=hid (I.out.trans (hb.mono I.out.size))
 have z:=hid (z.out.on hb)
 have Fbp:=hid (Fbp.out.on hb)
 have E:=hid (E.out.on hb)
 have Fba:=hid (Fba.out.on hb)
 have G:=hid (G.out.on hb)
 have F:=hid (F.out.on hb)
 have D:=hid (D.out.on hb)
 have J:=hid (J.out.on hb)
 clear hb
 obtain ⟨bu,bq,bp,bo⟩:=(show Gm _ _ 26 p q g from Fbp.out.here).p
 obtain ⟨bn,bm,bk,bd⟩:=(show Gm _ _ 26 p q g from Fbp.out.here).q
 obtain ⟨bb,ba,aW,aU⟩:=(show Gm _ _ 26 p q g from Fbp.out.here).g
 go_wp2_with fail
 clear bu bq bp bo bn bm bk bd bb ba aW aU
 refine (fine_any p q g true _ PL.out QL.out GL.out VF.out).mono ?_
 rintro e w4 ⟨rfl,hb⟩
 have I:=hid (I.out.trans (hb.mono I.out.size))
 have z:=hid (z.out.on hb)
 have Fbp:=hid (Fbp.out.on hb)
 have E:=hid (E.out.on hb)
 have Fba:=hid (Fba.out.on hb)
 have G:=hid (G.out.on hb)
 have F:=hid (F.out.on hb)
 have D:=hid (D.out.on hb)
 have J:=hid (J.out.on hb)
 clear hb
 obtain ⟨aT,aS,aR,aQ⟩:=(show Gm _ _ 26 p q g from Fbp.out.here).p
 obtain ⟨aN,aM,aL,aK⟩:=(show Gm _ _ 26 p q g from Fbp.out.here).q
 obtain ⟨aJ,aI,aE,aC⟩:=(show Gm _ _ 26 p q g from Fbp.out.here).g
 obtain ⟨ao,an,al,ad⟩:=ae.cell (bw (Below.refl _ _) (show Nm _ ab k from Fba.out.here)) ab k (by simp)
 go_wp2_with fail
 clear aT aS aR aQ aN aM aL aK aJ aI aE aC ao an al ad
 refine (isKey_any p q g k true _ PL.out QL.out KL.out VK.out).mono ?_
 rintro e w5 ⟨rfl,hb⟩
 have I:=hid (I.out.trans (hb.mono I.out.size))
 have z:=hid (z.out.on hb)
 have E:=hid (E.out.on hb)
 have G:=hid (G.out.on hb)
 have F:=hid (F.out.on hb)
 have D:=hid (D.out.on hb)
 have J:=hid (J.out.on hb)
 clear hb
 go_upto_region 4 with fail
 refine wp_region_noPanic ?_
 refine aa.region (fun (L:Array Bool) (u:World)=>(Instr.loadAt 26 (.pointer (some ⟨cc,0,none⟩))).run Tryz.prog u=.ok (gv p q g) u∧(Instr.loadAt 24 (.pointer (some ⟨ab,0,none⟩))).run Tryz.prog u=.ok (af k) u∧(Instr.loadAt 30 (.pointer (some ⟨ay,0,none⟩))).run Tryz.prog u=.ok (sgv c s) u∧(Instr.loadAt 28 (.pointer (some ⟨cb,0,none⟩))).run Tryz.prog u=.ok (.agg (au bs).toArray) u∧(Instr.loadAt 24 (.pointer (some ⟨ay,0,none⟩))).run Tryz.prog u=.ok (af c) u) (by kernel_rfl) ?_
 have hb:=(Below.refl w5.heap.size w5).drew
 have I:=hid (I.out.trans (hb.mono I.out.size))
 have z:=hid (z.out.on hb)
 have E:=hid (E.out.on hb)
 have G:=hid (G.out.on hb)
 have F:=hid (F.out.on hb)
 have D:=hid (D.out.on hb)
 have J:=hid (J.out.on hb)
 clear hb
 generalize w5.drew=w6 at *
 refine aa.q 0 ⟨some 35,_,_,_,_,_⟩ ⟨z.out.here,E.out.here,F.out.here,G.out.here,D.out.here⟩ ?_
 try simp only [ac]
 refine aa.tk (i:=1) (o:=⟨some 36,_,_,_,_,_⟩) (v:=af c) [] (y:=Or.inl ⟨by rfl,?_⟩) (s:=⟨z.out.here,E.out.here,F.out.here,G.out.here,D.out.here⟩) (H:=?_)
 ·rintro u ⟨up,-,M⟩; obtain ⟨R,O,Z,Y,V⟩:=M; exact dn _ _ rfl _ _ rfl V
 try simp only [ac]
 refine aa.tk (i:=2) (o:=⟨some 37,_,_,_,_,_⟩) (v:=gv p q g) [] (y:=Or.inl ⟨by rfl,?_⟩) (s:=⟨z.out.here,E.out.here,F.out.here,G.out.here,D.out.here⟩) (H:=?_)
 ·rintro u ⟨up,-,M⟩; obtain ⟨R,O,Z,Y,V⟩:=M; exact dn _ _ rfl _ _ rfl R
 try simp only [ac]
 refine aa.tk (i:=3) (o:=⟨some 38,_,_,_,_,_⟩) (v:=af k) [] (y:=Or.inl ⟨by rfl,?_⟩) (s:=⟨z.out.here,E.out.here,F.out.here,G.out.here,D.out.here⟩) (H:=?_)
 ·rintro u ⟨up,-,M⟩; obtain ⟨R,O,Z,Y,V⟩:=M; exact dn _ _ rfl _ _ rfl O
 try simp only [ac]
 refine aa.tk (i:=4) (o:=⟨some 39,_,_,_,_,_⟩) (v:=gv p q g) [] (y:=Or.inl ⟨by rfl,?_⟩) (s:=⟨z.out.here,E.out.here,F.out.here,G.out.here,D.out.here⟩) (H:=?_)
 ·rintro u ⟨up,-,M⟩; obtain ⟨R,O,Z,Y,V⟩:=M; exact dn _ _ rfl _ _ rfl R
 try simp only [ac]
 refine aa.tk (i:=5) (o:=⟨some 40,_,_,_,_,_⟩) (v:=af k) [] (y:=Or.inl ⟨by rfl,?_⟩) (s:=⟨z.out.here,E.out.here,F.out.here,G.out.here,D.out.here⟩) (H:=?_)
 ·rintro u ⟨up,-,M⟩; obtain ⟨R,O,Z,Y,V⟩:=M; exact dn _ _ rfl _ _ rfl O
 try simp only [ac]
 refine aa.tk (i:=6) (o:=⟨some 41,_,_,_,_,_⟩) (v:=sgv c s) [] (y:=Or.inl ⟨by rfl,?_⟩) (s:=⟨z.out.here,E.out.here,F.out.here,G.out.here,D.out.here⟩) (H:=?_)
 ·rintro u ⟨up,-,M⟩; obtain ⟨R,O,Z,Y,V⟩:=M; exact dn _ _ rfl _ _ rfl Z
 try simp only [ac]
 refine aa.tk (i:=8) (o:=⟨some 43,_,_,_,_,_⟩) (v:=.agg (au bs).toArray) [] (y:=Or.inl ⟨by rfl,?_⟩) (s:=⟨z.out.here,E.out.here,F.out.here,G.out.here,D.out.here⟩) (H:=?_)
 ·rintro u ⟨up,-,M⟩; obtain ⟨R,O,Z,Y,V⟩:=M; exact dn _ _ rfl _ _ rfl Y
 try simp only [ac]
 refine aa.one (i:=7) (o:=⟨some 42,_,_,_,_,_⟩) (by kernel_rfl) rfl (fun K U=>?_)
 go_simp
 with_reducible refine (shownBy_any p q g k c s r _ PL.out QL.out Q0.out SL.out CQ.out VG.out cd.out ER.out).mono ?_
 rintro e w7 ⟨rfl,hb⟩
 go_wp2_with fail
 have I:=hid (I.out.trans (hb.mono I.out.size))
 have z:=hid (z.out.on hb)
 have E:=hid (E.out.on hb)
 have G:=hid (G.out.on hb)
 have F:=hid (F.out.on hb)
 have D:=hid (D.out.on hb)
 have J:=hid (J.out.on hb)
 clear hb
 refine U.out _ _ ⟨z.out.here,E.out.here,F.out.here,G.out.here,D.out.here⟩ ?_
 clear U K
 try simp only [ac]
 refine aa.one (i:=9) (o:=⟨some 44,_,_,_,_,_⟩) (by kernel_rfl) rfl (fun K U=>?_)
 go_simp
 with_reducible refine (chal_any p q g k r bs b _ QL.out KL.out RL.out cf.out J.out EB.out).mono ?_
 rintro e w8 ⟨rfl,hb⟩
 go_wp2_with fail
 have I:=hid (I.out.trans (hb.mono I.out.size))
 have z:=hid (z.out.on hb)
 have E:=hid (E.out.on hb)
 have G:=hid (G.out.on hb)
 have F:=hid (F.out.on hb)
 have D:=hid (D.out.on hb)
 clear hb
 refine U.out _ _ ⟨z.out.here,E.out.here,F.out.here,G.out.here,D.out.here⟩ ?_
 clear U K
 try simp only [ac]
 refine aa.q 10 ⟨some 45,_,_,_,_,_⟩ ⟨z.out.here,E.out.here,F.out.here,G.out.here,D.out.here⟩ ?_
 try simp only [ac]
 refine aa.q 11 ⟨some 8,_,_,_,_,_⟩ ⟨z.out.here,E.out.here,F.out.here,G.out.here,D.out.here⟩ ?_
 try simp only [ac]
 refine aa.done (by kernel_rfl) ?_ _
 refine NoPanic.normal ?_
 go_wp2_with fail
 try rw [Exit.noGoto_ret]
 first | exact bodyPost_ret (v:=.bool (v)) (by simp [results,Tryz.results8,go_sem]) rfl ⟨rfl,by first | exact aA.out _ I.out | (rw [ax]; exact aA.out _ I.out)⟩ | (go_ret; exact ⟨rfl,by rw [ax]; exact aA.out _ I.out⟩)
def Chk (p q g k c s:Nat) (bs:List UInt8):Prop:=(1<q∧g≠1∧(0<g∧g<p)∧g ^ q % p=1)∧(k≠1∧(0<k∧k<p)∧k ^ q % p=1)∧c<q∧s<q∧c=chl q k (g ^ s % p * (k ^ (q - c) % p) % p) bs
instance (p q g k c s:Nat) (bs:List UInt8):Decidable (Chk p q g k c s bs):=by unfold Chk; infer_instance
theorem check_any (p q g k c s:Nat) (bs:List UInt8) (v:Bool) (w:World) (F:p<2 ^ 256) (E:q<2 ^ 256) (I:g<2 ^ 256) (G:k<2 ^ 256) (hc:c<2 ^ 256) (D:s<2 ^ 256) (K:bs.length=32) (O:Kt w) (M:decide (Chk p q g k c s bs)=v):Calls Tryz.prog 8 #[gv p q g,af k,.agg (au bs).toArray,sgv c s] w fun e w'=>e=.returned (.bool v)∧Below w.heap.size w w':=by
 subst M
 by_cases f:c<q
 ·by_cases z:s<q
  ·by_cases J:1<q∧g≠1∧(0<g∧g<p)∧g ^ q % p=1
   ·by_cases L:k≠1∧(0<k∧k<p)∧k ^ q % p=1
    ·exact check_ok p q g k c s bs _ w F E I G hc D K O (decide_eq_decide.2 ⟨fun h=>⟨J,L,f,z,h⟩,fun h=>h.2.2.2.2⟩) ⟨f,z,J,L⟩
    ·rw [decide_eq_false (fun h=>L h.2.1)]; exact check_k p q g k c s bs w F E I G hc D K ⟨f,z,J,L⟩
   ·rw [decide_eq_false (fun h=>J h.1)]; exact check_f p q g k c s bs w F E I G hc D K ⟨f,z,J⟩
  ·rw [decide_eq_false (fun h=>z h.2.2.2.1)]; exact check_s p q g k c s bs w F E I G hc D K ⟨f,z⟩
 ·rw [decide_eq_false (fun h=>f h.2.2.1)]; exact check_c p q g k c s bs w F E I G hc D K f
theorem eq_words9 (a b c d:Int) (w:World):(Op.equalIn 9999 24 (.agg #[.int .u64 a,.int .u64 b,.int .u64 c,.int .u64 d]) (.agg #[.int .u64 a,.int .u64 b,.int .u64 c,.int .u64 d])).run Tryz.prog w=.ok true w:=by
 have u3:=Tryz.underlying22
 have a3:=Tryz.isAgg22
 have z3:=Tryz.sizeOf22
 rw [show (9999:Nat)=9998+1 from rfl,Op.equalIn]
 simp only [Sem.run_bind,run_underlying Tryz.underlying24,Result.andThen_ok]
 simp only [Std.Legacy.Range.forIn_eq_forIn_range',Std.Legacy.Range.size,Nat.sub_zero,Nat.add_sub_cancel,Nat.div_one,List.range'_succ,List.range'_zero,List.forIn_cons,List.forIn_nil]
 go_simp
theorem eq_sig (c s:Nat) (w:World):(Op.equalIn 10000 30 (sgv c s) (sgv c s)).run Tryz.prog w=.ok true w:=by
 have u3:=Tryz.underlying24
 have a3:=Tryz.isAgg24
 have z3:=Tryz.sizeOf24
 have f:=fun a b c d=>eq_words9 a b c d w
 rw [show (10000:Nat)=9999+1 from rfl,Op.equalIn]
 simp only [Sem.run_bind,run_underlying Tryz.underlying30,Result.andThen_ok]
 go_simp
theorem am {ops:Array Oper} {f:List Oper} {o:Oper} {a:Act} {w:World} {Q:Exit→Act→World→Prop} (D:Region.wanted o (yielded ops a.tmps)=true) (ty:TypeId) (x:Operand) (E:o.op=.load ty x) (p:Value) (z:a.eval x=p) (v:Value) (F:(Instr.loadAt ty p).run Tryz.prog w=.ok v w)
  (h:wpList Tryz.prog ops Q f (a.put o.dst v) w):wpList Tryz.prog ops Q (o :: f) a w:=by
 refine Go.BigFrame.wpList_want D fun K G=>?_
 unfold Oper.wp execOp
 simp only [E,z,Sem.run_bind,Result.andThen_ok,F]
 exact G _ _ h
theorem lofb (n:Nat) (z:Int) (w:World) (D:n<18446744073709551616) (f:(n:Int)=z):Calls Tryz.prog 32 #[.int .u64 z] w fun e w'=>e=.returned (af n)∧Below w.heap.size w w':=by
 subst f; exact lof_any n w D
theorem lives_any (w:World):Calls Tryz.prog 10 #[] w fun e w'=>e=.returned (.bool true)∧Below w.heap.size w w':=by
 have K0:∀ w,Calls Tryz.prog 4 #[gv 23 11 4,.agg #[.int .u64 0,.int .u64 0,.int .u64 0,.int .u64 0]] w fun e w'=>e=.returned (.tuple #[af 0,.int .i64 1])∧Below w.heap.size w w':=fun w=>key_none 23 11 4 0 w (by decide) (by decide) (by decide) (by decide) (by unfold Sec; decide)
 have J:∀ w,Calls Tryz.prog 4 #[gv 23 11 4,.agg #[.int .u64 11,.int .u64 0,.int .u64 0,.int .u64 0]] w fun e w'=>e=.returned (.tuple #[af 0,.int .i64 1])∧Below w.heap.size w w':=fun w=>key_none 23 11 4 11 w (by decide) (by decide) (by decide) (by decide) (by unfold Sec; decide)
 have K1:∀ w,Calls Tryz.prog 4 #[gv 23 11 4,.agg #[.int .u64 1,.int .u64 0,.int .u64 0,.int .u64 0]] w fun e w'=>e=.returned (.tuple #[af 4,.int .i64 0])∧Below w.heap.size w w':=fun w=>key_ok 23 11 4 1 4 w (by decide) (by decide) (by decide) (by decide) (by decide) (by decide)
 have q4:=eq_yes 4 4 rfl
 go_enter Tryz.func10,Tryz.ntmps10
 go_upto_region 2 with fail
 have hb:=(Below.refl w.heap.size w).alloc (Nat.le_refl _) (.cells #[.int .u64 23,.int .u64 0,.int .u64 0,.int .u64 0,.int .u64 11,.int .u64 0,.int .u64 0,.int .u64 0,.int .u64 4,.int .u64 0,.int .u64 0,.int .u64 0] 26)
 have D:(w.alloc (.cells #[.int .u64 23,.int .u64 0,.int .u64 0,.int .u64 0,.int .u64 11,.int .u64 0,.int .u64 0,.int .u64 0,.int .u64 4,.int .u64 0,.int .u64 0,.int .u64 0] 26)).heap[w.heap.size]?=some (.cells (aY 23 11 4) 26 (0,0)):=heap_alloc_new w (.cells #[.int .u64 23,.int .u64 0,.int .u64 0,.int .u64 0,.int .u64 11,.int .u64 0,.int .u64 0,.int .u64 0,.int .u64 4,.int .u64 0,.int .u64 0,.int .u64 0] 26)
 have G:Hid (∀ u,Below (w.alloc (.cells #[.int .u64 23,.int .u64 0,.int .u64 0,.int .u64 0,.int .u64 11,.int .u64 0,.int .u64 0,.int .u64 0,.int .u64 4,.int .u64 0,.int .u64 0,.int .u64 0] 26)).heap.size (w.alloc (.cells #[.int .u64 23,.int .u64 0,.int .u64 0,.int .u64 0,.int .u64 11,.int .u64 0,.int .u64 0,.int .u64 0,.int .u64 4,.int .u64 0,.int .u64 0,.int .u64 0] 26)) u→Below w.heap.size w u):=hid (fun u Z=>hb.trans (Z.mono hb.size))
 have E:=hid (ldG 23 11 4 0 D (ak _))
 clear hb D
 generalize w.alloc (.cells #[.int .u64 23,.int .u64 0,.int .u64 0,.int .u64 0,.int .u64 11,.int .u64 0,.int .u64 0,.int .u64 0,.int .u64 4,.int .u64 0,.int .u64 0,.int .u64 0] 26)=V at *
 generalize F:w.heap.size=ab at *
 have z:=hid (Below.refl V.heap.size V)
 have R:=E.out.here
 go_wp2_with (first | (refine am (by rfl) _ _ rfl _ rfl _ (by first | exact R) ?_))
 clear R
 refine (K0 _).mono ?_
 rintro e w1 ⟨rfl,hb⟩
 have z:=hid (z.out.trans (hb.mono z.out.size))
 have E:=hid (E.out.on hb)
 clear hb
 go_upto_region 3 with fail
 have hb:=(Below.refl w1.heap.size w1).alloc (Nat.le_refl _) (.cells (ai 0) 24)
 have D:=heap_alloc_new w1 (.cells (ai 0) 24)
 have z:=hid (z.out.trans (hb.mono z.out.size))
 have E:=hid (E.out.on hb)
 have ao:=hid (aP 0 0 D (ak _))
 have FbN2:=hid (av D)
 clear hb D
 generalize w1.alloc (.cells (ai 0) 24)=w2 at *
 generalize w1.heap.size=al at *
 have O:=E.out.here
 go_wp2_with (first | (refine am (by rfl) _ _ rfl _ rfl _ (by first | exact O) ?_))
 clear O
 refine (J _).mono ?_
 rintro e w3 ⟨rfl,hb⟩
 have z:=hid (z.out.trans (hb.mono z.out.size))
 have E:=hid (E.out.on hb)
 clear hb
 go_upto_region 4 with fail
 have hb:=(Below.refl w3.heap.size w3).alloc (Nat.le_refl _) (.cells (ai 0) 24)
 have D:=heap_alloc_new w3 (.cells (ai 0) 24)
 have z:=hid (z.out.trans (hb.mono z.out.size))
 have E:=hid (E.out.on hb)
 have an:=hid (aP 0 0 D (ak _))
 have FbN4:=hid (av D)
 clear hb D
 generalize w3.alloc (.cells (ai 0) 24)=w4 at *
 generalize w3.heap.size=ad at *
 have M:=E.out.here
 go_wp2_with (first | (refine am (by rfl) _ _ rfl _ rfl _ (by first | exact M) ?_))
 clear M
 refine (K1 _).mono ?_
 rintro e w5 ⟨rfl,hb⟩
 have z:=hid (z.out.trans (hb.mono z.out.size))
 clear hb
 go_upto_region 5 with fail
 have hb:=(Below.refl w5.heap.size w5).alloc (Nat.le_refl _) (.cells (ai 4) 24)
 have D:=heap_alloc_new w5 (.cells (ai 4) 24)
 have z:=hid (z.out.trans (hb.mono z.out.size))
 have f:=hid (aP 4 0 D (ak _))
 have FbN6:=hid (av D)
 clear hb D
 generalize w5.alloc (.cells (ai 4) 24)=w6 at *
 generalize w5.heap.size=I at *
 refine wp_region_noPanic ?_
 refine aa.region (fun (L:Array Bool) (u:World)=>(Instr.loadAt 24 (.pointer (some ⟨I,0,none⟩))).run Tryz.prog u=.ok (af 4) u) (by kernel_rfl) ?_
 have hb:=(Below.refl w6.heap.size w6).drew
 have z:=hid (z.out.trans (hb.mono z.out.size))
 have f:=hid (f.out.on hb)
 clear hb
 generalize w6.drew=w7 at *
 refine aa.q 0 ⟨some 30,_,_,_,_,_⟩ f.out.here ?_
 try simp only [ac]
 refine aa.q 1 ⟨some 31,_,_,_,_,_⟩ f.out.here ?_
 try simp only [ac]
 refine aa.q 2 ⟨some 32,_,_,_,_,_⟩ f.out.here ?_
 try simp only [ac]
 refine aa.q 3 ⟨some 33,_,_,_,_,_⟩ f.out.here ?_
 try simp only [ac]
 refine aa.q 4 ⟨some 34,_,_,_,_,_⟩ f.out.here ?_
 try simp only [ac]
 refine aa.q 5 ⟨some 35,_,_,_,_,_⟩ f.out.here ?_
 try simp only [ac]
 refine aa.q 6 ⟨some 36,_,_,_,_,_⟩ f.out.here ?_
 try simp only [ac]
 refine aa.tk (i:=7) (o:=⟨some 37,_,_,_,_,_⟩) (v:=af 4) [] (y:=Or.inl ⟨by rfl,?_⟩) (s:=f.out.here) (H:=?_)
 ·rintro u ⟨up,-,hX⟩; have Y:=hX; exact dn _ _ rfl _ _ rfl Y
 try simp only [ac]
 refine aa.one (i:=8) (o:=⟨some 38,_,_,_,_,_⟩) (by kernel_rfl) rfl (fun K U=>?_)
 go_simp
 with_reducible refine (lofb 4 4 _ (by decide) rfl).mono ?_
 rintro e w8 ⟨rfl,hb⟩
 go_wp2_with fail
 have z:=hid (z.out.trans (hb.mono z.out.size))
 have f:=hid (f.out.on hb)
 clear hb
 refine U.out _ _ f.out.here ?_
 clear U K
 try simp only [ac]
 refine aa.q 9 ⟨some 39,_,_,_,_,_⟩ f.out.here ?_
 try simp only [ac]
 refine aa.q 10 ⟨some 40,_,_,_,_,_⟩ f.out.here ?_
 try simp only [ac]
 refine aa.q 11 ⟨some 41,_,_,_,_,_⟩ f.out.here ?_
 try simp only [ac]
 refine aa.q 12 ⟨some 42,_,_,_,_,_⟩ f.out.here ?_
 try simp only [ac]
 refine aa.q 13 ⟨some 43,_,_,_,_,_⟩ f.out.here ?_
 try simp only [ac]
 refine aa.q 14 ⟨some 44,_,_,_,_,_⟩ f.out.here ?_
 try simp only [ac]
 refine aa.q 15 ⟨some 0,_,_,_,_,_⟩ f.out.here ?_
 try simp only [ac]
 refine aa.done (by kernel_rfl) ?_ _
 refine NoPanic.normal ?_
 go_wp2_with fail
 try go_ret
 try rw [Exit.noGoto_ret]
 first | exact ⟨rfl,by first | exact G.out _ z.out | (rw [F]; exact G.out _ z.out)⟩ | exact bodyPost_ret (v:=.bool (true)) (by simp [results,Tryz.results10,go_sem]) rfl ⟨rfl,by first | exact G.out _ z.out | (rw [F]; exact G.out _ z.out)⟩
theorem back_chk (p q g x:Nat) (bs:List UInt8) (F:Sec p q g x) (I:g ^ x % p≠1):Chk p q g (g ^ x % p) (sigC p q g x bs) (sigS p q g x bs) bs:=by
 obtain ⟨K,J,v3,v4,v5,D⟩:=F
 have z:1<p:=by omega
 have f:q≠0:=by omega
 have E:=grp_pow (n:=x) z D
 refine ⟨⟨v3,v4,v5,D⟩,⟨I,grp_pos z f E (Nat.mod_lt _ (by omega)),E⟩,sigC_lt p q g x bs f,sigS_lt p q g x bs f,?_⟩
 have G:=sig_passes p q g x (sigC p q g x bs) (drw q x bs) (sigS p q g x bs) (by rw [D,Nat.mod_eq_of_lt z]) (Nat.le_of_lt (sigC_lt p q g x bs f)) (by unfold sigS; rw [Nat.mod_mod,Nat.add_mod_mod])
 rw [G]
 rfl
end
end Go.Proofs.YtmapkbdjnnionaaGreatDoor

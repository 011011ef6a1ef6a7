import Derived.Test.YtmapkbdjnnionaaGreatDoorPzAK
import Derived.Deep.WholeRow
import Derived.BigQuiet
import Derived.Test.YtmapkbdjnnionaaGreatDoorPzAX
set_option maxRecDepth 100000
set_option maxHeartbeats 8000000
set_option linter.all false
namespace Go.Proofs.YtmapkbdjnnionaaGreatDoor
section
open Go.RowKit
theorem i57:(Tryz.prog.info? 130).map (·.size)=some 8:=by kernel_rfl
theorem i59:(Tryz.prog.info? 133).map (·.size)=some 64:=by kernel_rfl
theorem aw (l:List UInt8):(au l).toArray.size=l.length:=by simp [au]
theorem bF (l:List UInt8):(au l).toArray.all (·.oneCell')=true:=all_oneCell_toArray (bvs_one l)
theorem hi59 (b:List UInt8) (h:b.length=64):Hid ((Tryz.prog.info? 133).map (·.size)=some (au b).toArray.size):=by rw [aw,h]; exact hid i59
theorem hi57 (l:List Nat) (h:l.length=8):Hid ((Tryz.prog.info? 130).map (·.size)=some (dv l).toArray.size):=by rw [dx,h]; exact hid i57
theorem Us.rowOther {w:World} {g g':Nat} {t:TypeId} {l:List Nat} (h:Us w g t l) (z:Array Value) (f:g≠g'):Us (w.setRow g' z) g t l:=(setRow_other w g' g z f).trans h
theorem Kt.drew {w:World} (h:Kt w):Kt w.drew:=h
theorem Kt.setOther {w:World} (h:Kt w) {g i:Nat} (v:Value) (z:2≠g):Kt (w.setCell ⟨g,i,none⟩ v):=fun j f=>(World.cell?_setCell_other _ _ _ _ (by intro e; injection e with e1; exact z e1.symm)).trans (h j f)
structure Tkc (w:World) (g3:Nat) (l:List Nat) (b:List UInt8) (w':World):Prop where
 below:Below w.heap.size w w'
 n:Us w' w.heap.size 130 l
 z:Us w' (w.heap.size+1+1) 130 (List.replicate 8 0)
 x:Us w' g3 139 (wof b)
 k:Kt w'
 lt:w.heap.size+1+1<g3
 k3:2<w.heap.size
theorem Tkc.on {w w' w2:World} {g3:Nat} {l:List Nat} {b:List UInt8} (h:Tkc w g3 l b w') (hb:Below w'.heap.size w' w2):Tkc w g3 l b w2 :=
 ⟨h.below.trans (hb.mono (Nat.le_of_lt h.n.lt)),h.n.on hb,h.z.on hb,h.x.on hb,h.k.on hb,h.lt,h.k3⟩
theorem Tkc.alloc {w w':World} {g3:Nat} {l:List Nat} {b:List UInt8} (h:Tkc w g3 l b w') (o:Obj):Tkc w g3 l b (w'.alloc o):=h.on ((Below.refl _ _).alloc (Nat.le_refl _) o)
theorem Tkc.drew {w w':World} {g3:Nat} {l:List Nat} {b:List UInt8} (h:Tkc w g3 l b w'):Tkc w g3 l b w'.drew:=⟨h.below.drew,h.n,h.z,h.x,h.k,h.lt,h.k3⟩
theorem Tkc.drewN {w w':World} {g3:Nat} {l:List Nat} {b:List UInt8} (h:Tkc w g3 l b w') (n:Nat):Tkc w g3 l b (w'.drewN n):=⟨h.below.trans ⟨rfl,rfl,rfl,Nat.le_refl _,fun _ _=>rfl⟩,h.n,h.z,h.x,h.k,h.lt,h.k3⟩
theorem Tkc.set {w w':World} {g3:Nat} {l:List Nat} {b:List UInt8} (h:Tkc w g3 l b w') (k v:Nat):Tkc w g3 (l.set k v) b (w'.setCell ⟨w.heap.size,k,none⟩ (.int .u32 (v:Int))) :=
 ⟨h.below.setCell (Nat.le_refl _) _,h.n.set k v,h.z.other _ (by omega),h.x.other _ (by have:=h.lt; omega),h.k.setOther _ (by have:=h.k3; omega),h.lt,h.k3⟩
theorem take_init (w:World) (l:List Nat) (b:List UInt8):Hid (Us (((w.alloc (.cells (dv l).toArray 130)).alloc (.cells (au b).toArray 133)).alloc (.cells #[.int .u32 0,.int .u32 0,.int .u32 0,.int .u32 0,.int .u32 0,.int .u32 0,.int .u32 0,.int .u32 0] 130)) w.heap.size 130 l)∧
  Hid (Bt (((w.alloc (.cells (dv l).toArray 130)).alloc (.cells (au b).toArray 133)).alloc (.cells #[.int .u32 0,.int .u32 0,.int .u32 0,.int .u32 0,.int .u32 0,.int .u32 0,.int .u32 0,.int .u32 0] 130)) (w.heap.size+1) 133 b)∧
  Hid (Us (((w.alloc (.cells (dv l).toArray 130)).alloc (.cells (au b).toArray 133)).alloc (.cells #[.int .u32 0,.int .u32 0,.int .u32 0,.int .u32 0,.int .u32 0,.int .u32 0,.int .u32 0,.int .u32 0] 130)) (w.heap.size+1+1) 130 (List.replicate 8 0))∧
  Hid (Below w.heap.size w (((w.alloc (.cells (dv l).toArray 130)).alloc (.cells (au b).toArray 133)).alloc (.cells #[.int .u32 0,.int .u32 0,.int .u32 0,.int .u32 0,.int .u32 0,.int .u32 0,.int .u32 0,.int .u32 0] 130))):=by
 have s1:∀ (w:World) (o:Obj),(w.alloc o).heap.size=w.heap.size+1:=fun w o=>Array.size_push _
 refine ⟨hid (Us.alloc (Us.alloc (heap_alloc_new _ _) _) _),hid (Bt.alloc ?_ _),hid ?_,hid ((((Below.refl _ _).alloc (Nat.le_refl _) _).alloc (by rw [s1]; omega) _).alloc (by rw [s1,s1]; omega) _)⟩
 ·rw [← s1 w (.cells (dv l).toArray 130)]; exact heap_alloc_new _ _
 ·rw [← s1 w (.cells (dv l).toArray 130),← s1 _ (.cells (au b).toArray 133)]; exact heap_alloc_new _ _
theorem take_box {w w1:World} {l:List Nat} {b:List UInt8} (E:Us w1 w.heap.size 130 l) (D:Us w1 (w.heap.size+1+1) 130 (List.replicate 8 0)) (z:Below w.heap.size w w1) (f:Kt w) :
  Hid (Tkc w w1.heap.size l b ((w1.alloc (.cells #[.int .u32 0,.int .u32 0,.int .u32 0,.int .u32 0,.int .u32 0,.int .u32 0,.int .u32 0,.int .u32 0,.int .u32 0,.int .u32 0,.int .u32 0,.int .u32 0,.int .u32 0,.int .u32 0,.int .u32 0,.int .u32 0,.int .u32 0,.int .u32 0,.int .u32 0,.int .u32 0,.int .u32 0,.int .u32 0,.int .u32 0,.int .u32 0,.int .u32 0,.int .u32 0,.int .u32 0,.int .u32 0,.int .u32 0,.int .u32 0,.int .u32 0,.int .u32 0,.int .u32 0,.int .u32 0,.int .u32 0,.int .u32 0,.int .u32 0,.int .u32 0,.int .u32 0,.int .u32 0,.int .u32 0,.int .u32 0,.int .u32 0,.int .u32 0,.int .u32 0,.int .u32 0,.int .u32 0,.int .u32 0,.int .u32 0,.int .u32 0,.int .u32 0,.int .u32 0,.int .u32 0,.int .u32 0,.int .u32 0,.int .u32 0,.int .u32 0,.int .u32 0,.int .u32 0,.int .u32 0,.int .u32 0,.int .u32 0,.int .u32 0,.int .u32 0] 139)).setRow w1.heap.size (dv (wof b)).toArray)):=by
 rw [World.setRow_alloc_new]
 have hb:Below w1.heap.size w1 (w1.alloc (.cells (dv (wof b)).toArray 139)):=(Below.refl _ _).alloc (Nat.le_refl _) _
 refine hid ⟨z.trans (hb.mono (Nat.le_of_lt E.lt)),E.on hb,D.on hb,heap_alloc_new _ _,(f.on z).on hb,D.lt,f.lt⟩
theorem Tkc.cells {w w':World} {g3:Nat} {l:List Nat} {b:List UInt8} (h:Tkc w g3 l b w') (f:l.length=8):∀ j,j<8→w'.cell? ⟨w.heap.size,j,none⟩=some (.int .u32 (aZ l j:Nat)):=fun j z=>h.n.cell j (by omega)
theorem u_eq (a b c m:Nat) (f:a<4294967296) (hb:b<4294967296) (hc:c<4294967296) :
  ((m:Int)+bits BinOp.or IntKind.u32 (bits BinOp.or IntKind.u32 (bits BinOp.and IntKind.u32 (a:Int) (b:Int)) (bits BinOp.and IntKind.u32 (a:Int) (c:Int))) (bits BinOp.and IntKind.u32 (b:Int) (c:Int))) % 4294967296=(((m+maj a b c) % 4294967296:Nat):Int):=by
 rw [u32_and_nat a b f hb,u32_and_nat a c f hc,u32_and_nat b c hb hc,u32_or_nat _ _ (and_lt _ f) (and_lt _ f),u32_or_nat _ _ (or_lt (and_lt _ f) (and_lt _ f)) (and_lt _ hb)]
 unfold maj
 omega
theorem idx57_0 (a b c d e f g h:Nat) (w:World):(Instr.index 130 (.agg #[.int .u32 (a:Int),.int .u32 (b:Int),.int .u32 (c:Int),.int .u32 (d:Int),.int .u32 (e:Int),.int .u32 (f:Int),.int .u32 (g:Int),.int .u32 (h:Int)]) (.int .i64 0)).run Tryz.prog w=.ok (.int .u32 (a:Int)) w:=by kernel_rfl
theorem idx57_1 (a b c d e f g h:Nat) (w:World):(Instr.index 130 (.agg #[.int .u32 (a:Int),.int .u32 (b:Int),.int .u32 (c:Int),.int .u32 (d:Int),.int .u32 (e:Int),.int .u32 (f:Int),.int .u32 (g:Int),.int .u32 (h:Int)]) (.int .i64 1)).run Tryz.prog w=.ok (.int .u32 (b:Int)) w:=by kernel_rfl
theorem idx57_2 (a b c d e f g h:Nat) (w:World):(Instr.index 130 (.agg #[.int .u32 (a:Int),.int .u32 (b:Int),.int .u32 (c:Int),.int .u32 (d:Int),.int .u32 (e:Int),.int .u32 (f:Int),.int .u32 (g:Int),.int .u32 (h:Int)]) (.int .i64 2)).run Tryz.prog w=.ok (.int .u32 (c:Int)) w:=by kernel_rfl
theorem idx57_3 (a b c d e f g h:Nat) (w:World):(Instr.index 130 (.agg #[.int .u32 (a:Int),.int .u32 (b:Int),.int .u32 (c:Int),.int .u32 (d:Int),.int .u32 (e:Int),.int .u32 (f:Int),.int .u32 (g:Int),.int .u32 (h:Int)]) (.int .i64 3)).run Tryz.prog w=.ok (.int .u32 (d:Int)) w:=by kernel_rfl
theorem idx57_4 (a b c d e f g h:Nat) (w:World):(Instr.index 130 (.agg #[.int .u32 (a:Int),.int .u32 (b:Int),.int .u32 (c:Int),.int .u32 (d:Int),.int .u32 (e:Int),.int .u32 (f:Int),.int .u32 (g:Int),.int .u32 (h:Int)]) (.int .i64 4)).run Tryz.prog w=.ok (.int .u32 (e:Int)) w:=by kernel_rfl
theorem idx57_5 (a b c d e f g h:Nat) (w:World):(Instr.index 130 (.agg #[.int .u32 (a:Int),.int .u32 (b:Int),.int .u32 (c:Int),.int .u32 (d:Int),.int .u32 (e:Int),.int .u32 (f:Int),.int .u32 (g:Int),.int .u32 (h:Int)]) (.int .i64 5)).run Tryz.prog w=.ok (.int .u32 (f:Int)) w:=by kernel_rfl
theorem idx57_6 (a b c d e f g h:Nat) (w:World):(Instr.index 130 (.agg #[.int .u32 (a:Int),.int .u32 (b:Int),.int .u32 (c:Int),.int .u32 (d:Int),.int .u32 (e:Int),.int .u32 (f:Int),.int .u32 (g:Int),.int .u32 (h:Int)]) (.int .i64 6)).run Tryz.prog w=.ok (.int .u32 (g:Int)) w:=by kernel_rfl
theorem idx57_7 (a b c d e f g h:Nat) (w:World):(Instr.index 130 (.agg #[.int .u32 (a:Int),.int .u32 (b:Int),.int .u32 (c:Int),.int .u32 (d:Int),.int .u32 (e:Int),.int .u32 (f:Int),.int .u32 (g:Int),.int .u32 (h:Int)]) (.int .i64 7)).run Tryz.prog w=.ok (.int .u32 (h:Int)) w:=by kernel_rfl
theorem idx57 (a b c d e f g h k:Nat) (z:k<8) (w:World):(Instr.index 130 (.agg #[.int .u32 (a:Int),.int .u32 (b:Int),.int .u32 (c:Int),.int .u32 (d:Int),.int .u32 (e:Int),.int .u32 (f:Int),.int .u32 (g:Int),.int .u32 (h:Int)]) (.int .i64 (k:Int))).run Tryz.prog w=.ok (.int .u32 (aZ [a,b,c,d,e,f,g,h] k:Nat)) w:=by
 match k,z with
 | 0,_=>exact idx57_0 a b c d e f g h w
 | 1,_=>exact idx57_1 a b c d e f g h w
 | 2,_=>exact idx57_2 a b c d e f g h w
 | 3,_=>exact idx57_3 a b c d e f g h w
 | 4,_=>exact idx57_4 a b c d e f g h w
 | 5,_=>exact idx57_5 a b c d e f g h w
 | 6,_=>exact idx57_6 a b c d e f g h w
 | 7,_=>exact idx57_7 a b c d e f g h w
theorem at_addl (l m:List Nat) (z:l.length=8) (f:m.length=8) (j:Nat) (D:j<8):aZ (addl l m) j=(aZ l j+aZ m j) % 4294967296:=by
 rw [at_lt (by rw [addl_length _ _ z f]; exact D),at_lt (by omega),at_lt (by omega)]
 simp [addl]
theorem tk_alloc {g3 i:Nat} {z f:Nat} (W:World) (o:Obj) (h:W.cell? ⟨2,i,none⟩=some (.int .u32 (z:Int))∧W.cell? ⟨g3,i,none⟩=some (.int .u32 (f:Int))∧2<W.heap.size∧g3<W.heap.size) :
  (W.alloc o).cell? ⟨2,i,none⟩=some (.int .u32 (z:Int))∧(W.alloc o).cell? ⟨g3,i,none⟩=some (.int .u32 (f:Int))∧2<(W.alloc o).heap.size∧g3<(W.alloc o).heap.size :=
 ⟨by rw [World.cell?_alloc_lt _ _ _ h.2.2.1]; exact h.1,by rw [World.cell?_alloc_lt _ _ _ h.2.2.2]; exact h.2.1,by have:=h.2.2.1; simp; omega,by have:=h.2.2.2; simp; omega⟩
theorem wi_eq (k:Nat) (h:k<64):IntKind.i64.wrap (k:Int)=(k:Int):=by rw [IntKind.wrap_i64]; omega
theorem take_any (l:List Nat) (b:List UInt8) (w:World) (hl:l.length=8) (hs:Sm l) (hb:b.length=64) (hK:Kt w) :
  Calls Tryz.prog 117 #[.agg (dv l).toArray,.agg (au b).toArray] w fun e w'=>e=.returned (.agg (dv (comp l b)).toArray)∧Below w.heap.size w w':=by
 have HB:=hid hb
 have HL:=hid hl
 have ar:=hid hs
 have HK:=hid hK
 clear hb hl hs hK
 go_enter Tryz.func117,Tryz.ntmps117
 go_upto_region 1 with fail
 obtain ⟨H1,H2,H3,H4⟩:=take_init w l b
 generalize ((w.alloc (.cells (dv l).toArray 130)).alloc (.cells (au b).toArray 133)).alloc (.cells #[.int .u32 0,.int .u32 0,.int .u32 0,.int .u32 0,.int .u32 0,.int .u32 0,.int .u32 0,.int .u32 0] 130)=w0 at *
 go_wp2_with (refine wpList_load_row rfl 133 (.tmp 3) rfl (w.heap.size+1) rfl 133 (au b).toArray (0,0) _ H2.out Tryz.underlying133 rfl (hi59 b HB.out).out ?_)
 refine (spread_any b _ HB.out).mono ?_
 rintro e w1 ⟨rfl,G⟩
 have f:=take_box (b:=b) (H1.out.on G) (H3.out.on G) (H4.out.trans (G.mono (Nat.le_of_lt H1.out.lt))) HK.out
 clear H1 H2 H3 H4 G
 go_wp2_with (refine wpList_store_row rfl 139 (.tmp 5) (.tmp 20) rfl w1.heap.size (dv (wof b)).toArray rfl rfl 139 _ (heap_alloc_new _ _) (hi132 b).out (ho132 b).out (dv_all _) ?_)
 simp only [Act.put]
 generalize (w1.alloc (.cells #[.int .u32 0,.int .u32 0,.int .u32 0,.int .u32 0,.int .u32 0,.int .u32 0,.int .u32 0,.int .u32 0,.int .u32 0,.int .u32 0,.int .u32 0,.int .u32 0,.int .u32 0,.int .u32 0,.int .u32 0,.int .u32 0,.int .u32 0,.int .u32 0,.int .u32 0,.int .u32 0,.int .u32 0,.int .u32 0,.int .u32 0,.int .u32 0,.int .u32 0,.int .u32 0,.int .u32 0,.int .u32 0,.int .u32 0,.int .u32 0,.int .u32 0,.int .u32 0,.int .u32 0,.int .u32 0,.int .u32 0,.int .u32 0,.int .u32 0,.int .u32 0,.int .u32 0,.int .u32 0,.int .u32 0,.int .u32 0,.int .u32 0,.int .u32 0,.int .u32 0,.int .u32 0,.int .u32 0,.int .u32 0,.int .u32 0,.int .u32 0,.int .u32 0,.int .u32 0,.int .u32 0,.int .u32 0,.int .u32 0,.int .u32 0,.int .u32 0,.int .u32 0,.int .u32 0,.int .u32 0,.int .u32 0,.int .u32 0,.int .u32 0,.int .u32 0] 139)).setRow w1.heap.size (dv (wof b)).toArray=w3 at *
 generalize w1.heap.size=g3 at *
 have hc:=f.out.cells HL.out
 have x0:w3.cell? ⟨w.heap.size,0,none⟩=some (.int .u32 ((oct l).a:Nat)):=hc 0 (by decide)
 have x1:w3.cell? ⟨w.heap.size,1,none⟩=some (.int .u32 ((oct l).b:Nat)):=hc 1 (by decide)
 have x2:w3.cell? ⟨w.heap.size,2,none⟩=some (.int .u32 ((oct l).c:Nat)):=hc 2 (by decide)
 have x3:w3.cell? ⟨w.heap.size,3,none⟩=some (.int .u32 ((oct l).d:Nat)):=hc 3 (by decide)
 have x4:w3.cell? ⟨w.heap.size,4,none⟩=some (.int .u32 ((oct l).e:Nat)):=hc 4 (by decide)
 have x5:w3.cell? ⟨w.heap.size,5,none⟩=some (.int .u32 ((oct l).f:Nat)):=hc 5 (by decide)
 have x6:w3.cell? ⟨w.heap.size,6,none⟩=some (.int .u32 ((oct l).g:Nat)):=hc 6 (by decide)
 have x7:w3.cell? ⟨w.heap.size,7,none⟩=some (.int .u32 ((oct l).h:Nat)):=hc 7 (by decide)
 clear hc
 go_quiet (fail)
 go_wp2_with fail
 clear x0 x1 x2 x3 x4 x5 x6 x7
 go_loopw [6,7,8,9,10,11,12,13,37] (fun s6 s7 s8 s9 s10 s11 s12 s13 i wr=>∃ (k:Nat) (o:Oct),k≤64∧i=.int .i64 k∧s6=.int .u32 (o.a:Nat)∧s7=.int .u32 (o.b:Nat)∧s8=.int .u32 (o.c:Nat)∧s9=.int .u32 (o.d:Nat)∧s10=.int .u32 (o.e:Nat)∧s11=.int .u32 (o.f:Nat)∧s12=.int .u32 (o.g:Nat)∧s13=.int .u32 (o.h:Nat)∧Hid o.Sm∧Hid (o=rnds (oct l) (wof b) k)∧Hid (Tkc w g3 l b wr)) (fun _ _ _ _ _ _ _ _ i _=>64 - (intOf i).toNat)
 case atStart=>exact ⟨0,oct l,by omega,rfl,rfl,rfl,rfl,rfl,rfl,rfl,rfl,rfl,hid (oct_sm ar.out),hid rfl,hid (f.out.drewN _)⟩
 case round =>
  clear f
  obtain ⟨k,o,hk,rfl,rfl,rfl,rfl,rfl,rfl,rfl,rfl,rfl,D,HR,f⟩:=hrel
  by_cases F:k<64
  ·go_wp2_with fail
   have Z:=f.out.x.lt
   have ad:=f.out.x.cell k (by rw [wof_length]; exact F)
   have ab:=f.out.k k F
   have hk3:=f.out.k.lt
   refine tk6_ok (tv:=tt o (aZ kk k) (aZ (wof b) k)) D.out.e (bJ 6 D.out.e) (bJ 11 D.out.e) (bJ 25 D.out.e) (by omega) (by omega) (wi_eq k F) ⟨ab,ad,hk3,Z⟩ (hid tk_alloc) (hid (t_eq o.e o.f o.g o.h (aZ kk k) (aZ (wof b) k) D.out.e D.out.f D.out.g _)) _ _ _ _ _ _ _ _ _ _ _ _ _ _ _ _ _ _ _ _ _ _ _ _ _ _ _ _ _ _ _ _ _ _ _ _ _ _ _ _ _ _ _ _ _ _ _ _ _ _ _ _ _ _ _ _ _ _ _ _ _ _ _ _ _ _ _ _ _ _ _ _ _ _ _ _ _ _ _ _ _ _ _ _ _ _ _ _ _ _ _ _ _ _ _ _ _ _ _ _ _ _ _ _ _ _ _ _ _ _ _ _ _ _ _ (hid ?_)
   intro bO bN bK bI bG bA bz bx bv bu bq bp bo bn bm bk bd bb ba aW aU aT aS aR aQ aN aM wn HN
   have E:=hid (f.out.on HN.out)
   clear f HN Z ad ab hk3
   go_wp2_with fail
   refine (turn_2 o.a _ D.out.a).mono ?_
   rintro e' wa ⟨rfl,rfl⟩
   go_wp2_with fail
   refine (turn_13 o.a _ D.out.a).mono ?_
   rintro e' wa ⟨rfl,rfl⟩
   go_wp2_with fail
   refine (turn_22 o.a _ D.out.a).mono ?_
   rintro e' wa ⟨rfl,rfl⟩
   go_wp2_with fail
   refine (mix_any _ _ _ _ _ (Tri.new _ _ _ _) (bJ 2 D.out.a) (bJ 13 D.out.a) (bJ 22 D.out.a)).mono ?_
   rintro e' wa ⟨rfl,rfl⟩
   have f:=hid (E.out.alloc (.cells #[.int .u32 (br o.a 2:Nat),.int .u32 (br o.a 13:Nat),.int .u32 (br o.a 22:Nat)] 70))
   clear E
   generalize wn.alloc (.cells #[.int .u32 (br o.a 2:Nat),.int .u32 (br o.a 13:Nat),.int .u32 (br o.a 22:Nat)] 70)=wm at *
   go_upto_region 8 with fail
   rw [u_eq o.a o.b o.c _ D.out.a D.out.b D.out.c]
   have hu:((((br o.a 2 ^^^ br o.a 13 ^^^ br o.a 22)+maj o.a o.b o.c) % 4294967296:Nat):Int)=(uu o:Int):=rfl
   rw [hu]
   have ax:=hid (p:=rnd o (aZ kk k) (aZ (wof b) k)=rnds (oct l) (wof b) (k+1)) (by rw [rnds,← HR.out])
   have az:=hid (rnd_sm D.out (aZ kk k) (aZ (wof b) k))
   have aJ:=hid (show (rnd o (aZ kk k) (aZ (wof b) k)).a=(tt o (aZ kk k) (aZ (wof b) k)+uu o) % 4294967296 from rfl)
   have aI:=hid (show (rnd o (aZ kk k) (aZ (wof b) k)).e=(o.d+tt o (aZ kk k) (aZ (wof b) k)) % 4294967296 from rfl)
   have aG:=hid (show (rnd o (aZ kk k) (aZ (wof b) k)).b=o.a∧(rnd o (aZ kk k) (aZ (wof b) k)).c=o.b∧(rnd o (aZ kk k) (aZ (wof b) k)).d=o.c∧(rnd o (aZ kk k) (aZ (wof b) k)).f=o.e∧(rnd o (aZ kk k) (aZ (wof b) k)).g=o.f∧(rnd o (aZ kk k) (aZ (wof b) k)).h=o.g from ⟨rfl,rfl,rfl,rfl,rfl,rfl⟩)
   generalize rnd o (aZ kk k) (aZ (wof b) k)=o2 at *
   generalize tt o (aZ kk k) (aZ (wof b) k)=tv at *
   generalize uu o=uv at *
   go_wp2
   go_roundw
   case rel =>
    obtain ⟨e1,e2,e3,e4,e5,e6⟩:=aG.out
    exact ⟨k+1,o2,by omega,by go_num,by rw [aJ.out]; simp,by rw [e1],by rw [e2],by rw [e3],by rw [aI.out]; simp,by rw [e4],by rw [e5],by rw [e6],az,ax,f⟩
   case measure=>simp [intOf]; omega
  ·obtain rfl:k=64:=by omega
   have an:=hid (p:=o.l=(rnds (oct l) (wof b) 64).l) (by rw [← HR.out])
   clear HR
   go_wp2_with fail
   obtain ⟨U,R,a3,a4,a5,O,M,L⟩:=o
   have aA:=hid (p:=[U,R,a3,a4,a5,O,M,L]=(rnds (oct l) (wof b) 64).l) an.out
   clear an
   dsimp only at *
   go_loopw [109] (fun i wr=>∃ (k:Nat) (m:List Nat),k≤8∧i=.int .i64 k∧Hid (Tkc w g3 m b wr)∧Hid (m.length=8)∧Hid (∀ j,j<8→aZ m j=if j<k then (aZ l j+aZ [U,R,a3,a4,a5,O,M,L] j) % 4294967296 else aZ l j)) (fun i _=>8 - (intOf i).toNat)
   case atStart=>exact ⟨0,l,by omega,rfl,f,HL,hid (fun j _=>by rw [if_neg (Nat.not_lt_zero _)])⟩
   case round =>
    clear f
    obtain ⟨k,m,hk,rfl,f,V,HA⟩:=hrel
    by_cases F:k<8
    ·have aK:=idx57 U R a3 a4 a5 O M L k F
     have ap:=f.out.n.cell k (by have:=V.out; omega)
     have aL:=f.out.n.frozen k
     rw [HA.out k F,if_neg (Nat.lt_irrefl _)] at ap
     have al:=hid (p:=(((aZ l k:Nat):Int)+((aZ [U,R,a3,a4,a5,O,M,L] k:Nat):Int)) % 4294967296=(((aZ l k+aZ [U,R,a3,a4,a5,O,M,L] k) % 4294967296:Nat):Int)) (by omega)
     generalize hz:(aZ l k+aZ [U,R,a3,a4,a5,O,M,L] k) % 4294967296=z at al
     have HZ:=hid hz
     clear hz
     go_wp2
     go_roundw
     case rel =>
      refine ⟨k+1,m.set k z,by omega,by go_num,?_,hid (by rw [List.length_set]; exact V.out),hid ?_⟩
      ·have:=f.out.set k z
       rw [← al.out] at this
       exact hid this
      ·intro j hj
       rw [at_set _ _ _ _ (by have:=V.out; omega),HA.out j hj]
       by_cases h:j=k
       ·subst h; rw [if_pos rfl,if_pos (by omega),HZ.out]
       ·rw [if_neg h]
        by_cases h2:j<k
        ·rw [if_pos h2,if_pos (by omega)]
        ·rw [if_neg h2,if_neg (by omega)]
     case measure=>simp [intOf]; omega
    ·obtain rfl:k=8:=by omega
     have Y:m=comp l b:=by
      refine eq_of_at (by rw [V.out,bT _ _ HL.out]) (fun j hj=>?_)
      have K:j<8:=by have:=V.out; omega
      rw [HA.out j K,if_pos K,comp,at_addl _ _ HL.out rfl j K,aA.out]
     have E:Hid (Tkc w g3 (comp l b) b wr):=hid (Y ▸ f.out)
     have ao:=hid (bT l b HL.out)
     clear f V HA Y
     generalize hr:comp l b=r at *
     have ay:=hid hr
     clear hr
     have HI:=hi57 r ao.out
     have aB:Hid ((dv (List.replicate 8 0)).toArray.size=(dv r).toArray.size):=hid (by rw [dx,dx,ao.out,List.length_replicate])
     have HZ:=hid (E.out.z.row (m:=r))
     have aE:=hid (p:=Below w.heap.size w (wr.setRow (w.heap.size+1+1) (dv r).toArray)) (below_setRow E.out.below (Nat.le_succ_of_le (Nat.le_succ _)) _)
     go_upto_region 15 with fail
     have aC:=dv_all r
     have J:=E.out.n
     have I:=E.out.z
     unfold Us at J I
     have J:=hid J
     have I:=hid I
     go_wp2_with (first | (refine wpList_load_row rfl 130 (.tmp 2) rfl w.heap.size rfl 130 (dv r).toArray (0,0) _ J.out Tryz.underlying130 rfl HI.out ?_) | (refine wpList_store_row rfl 130 (.tmp 4) (.tmp 120) rfl (w.heap.size+1+1) (dv r).toArray rfl rfl 130 _ I.out HI.out aB.out aC ?_))
     exact bodyPost_ret (v:=.agg (dv r).toArray) (results_cell_row (p:=4) (ty:=130) Tryz.results117 _ _ (w.heap.size+1+1) 130 (dv r).toArray (0,0) _ rfl HZ.out Tryz.underlying130 rfl HI.out) rfl ⟨by rw [ay.out],aE.out⟩
def rc (l:List Nat) (b:List UInt8) (n:Nat):List Value:=.bool true :: (dv l ++ (au b ++ [.int .u64 (n:Int)]))
theorem rc_length {l:List Nat} {b:List UInt8} (n:Nat) (f:l.length=8) (hb:b.length=64):(rc l b n).length=74:=by simp [rc,dv,au,f,hb]
def Rn (w:World) (g:Nat) (l:List Nat) (b:List UInt8) (n:Nat):Prop:=w.heap[g]?=some (.cells (rc l b n).toArray 135 (0,0))
theorem Rn.lt {w:World} {g n:Nat} {l:List Nat} {b:List UInt8} (h:Rn w g l b n):g<w.heap.size:=lt_of_block h
theorem Rn.at {w:World} {g n:Nat} {l:List Nat} {b:List UInt8} (h:Rn w g l b n) (j:Nat):w.cell? ⟨g,j,none⟩=(rc l b n)[j]?:=by
 rw [cell_of_row w g j _ 135 (0,0) h]; simp
theorem Rn.frozen {w:World} {g n:Nat} {l:List Nat} {b:List UInt8} (h:Rn w g l b n) (i:Nat):w.frozen? ⟨g,i,none⟩=false:=by
 unfold Rn at h; simp [World.frozen?,h]
theorem Rn.made {w:World} {g n:Nat} {l:List Nat} {b:List UInt8} (h:Rn w g l b n):w.cell? ⟨g,0,none⟩=some (.bool true):=h.at 0
theorem Rn.so {w:World} {g n:Nat} {l:List Nat} {b:List UInt8} (h:Rn w g l b n):w.rangeAt g 1 (dv l):=by
 intro j v f
 have z:j<(dv l).length:=by
  rcases Nat.lt_or_ge j (dv l).length with h | h
  ·exact h
  ·rw [List.getElem?_eq_none h] at f; cases f
 rw [h.at,Nat.add_comm,rc,List.getElem?_cons_succ,List.getElem?_append_left z]; exact f
theorem Rn.last {w:World} {g n:Nat} {l:List Nat} {b:List UInt8} (h:Rn w g l b n) (z:l.length=8):w.rangeAt g 9 (au b):=by
 intro j v f
 have D:j<(au b).length:=by
  rcases Nat.lt_or_ge j (au b).length with h | h
  ·exact h
  ·rw [List.getElem?_eq_none h] at f; cases f
 have e:(dv l).length=8:=by rw [cC,z]
 rw [h.at,show 9+j=(8+j)+1 by omega,rc,List.getElem?_cons_succ,List.getElem?_append_right (by omega),e,show 8+j - 8=j by omega,List.getElem?_append_left D]; exact f
theorem Rn.count {w:World} {g n:Nat} {l:List Nat} {b:List UInt8} (h:Rn w g l b n) (f:l.length=8) (hb:b.length=64):w.cell? ⟨g,73,none⟩=some (.int .u64 (n:Int)):=by
 have e:(dv l).length=8:=by rw [cC,f]
 have z:(au b).length=64:=by rw [aX,hb]
 rw [h.at,show 73=72+1 by omega,rc,List.getElem?_cons_succ,List.getElem?_append_right (by omega),e,List.getElem?_append_right (by omega),z]; rfl
theorem Rn.there {w:World} {g n:Nat} {l:List Nat} {b:List UInt8} (h:Rn w g l b n) (f:l.length=8):w.there g 1 8:=by
 intro j z
 refine ⟨?_,h.frozen _⟩
 have:=h.so j ((dv l)[j]'(by rw [cC]; omega)) (by simp)
 rw [this]; rfl
theorem Rn.setCount {w:World} {g n:Nat} {l:List Nat} {b:List UInt8} (h:Rn w g l b n) (f:l.length=8) (hb:b.length=64) (m:Nat):Rn (w.setCell ⟨g,73,none⟩ (.int .u64 (m:Int))) g l b m:=by
 have e:∀ x:Value,(rc l b n).set 73 x=.bool true :: (dv l ++ (au b ++ [x])):=by
  intro x
  have D:(dv l).length=8:=by rw [cC,f]
  have z:(au b).length=64:=by rw [aX,hb]
  rw [rc,show 73=72+1 by omega,List.set_cons_succ,List.set_append_right _ _ (by omega),D,List.set_append_right _ _ (by omega),z]; rfl
 unfold Rn at h ⊢
 simp only [World.setCell,Array.getElem?_modify,h,if_true,Option.map_some]
 rw [List.setIfInBounds_toArray,e]
 rfl
theorem setCells_mid (g:Nat) (t:TypeId):∀ (f old a c:List Value) (w:World),old.length=f.length→w.heap[g]?=some (.cells (a ++ (old ++ c)).toArray t (0,0))→
  (w.setCells g a.length f).heap[g]?=some (.cells (a ++ (f ++ c)).toArray t (0,0))
 | [],old,a,c,w,hl,h=>by
  obtain rfl:old = []:=List.eq_nil_of_length_eq_zero hl
  exact h
 | v :: f,[],a,c,w,hl,h=>by cases hl
 | v :: f,x :: old,a,c,w,hl,h=>by
  have z:(w.setCell ⟨g,a.length,none⟩ v).heap[g]?=some (.cells ((a ++ [v]) ++ (old ++ c)).toArray t (0,0)):=by
   simp only [World.setCell,Array.getElem?_modify,h,if_true,Option.map_some]
   simp
  have:=setCells_mid g t f old (a ++ [v]) c _ (by simpa using hl) z
  rw [World.setCells]
  simpa using this
theorem setCells_other (g k:Nat) (z:k≠g):∀ (f:List Value) (o:Nat) (w:World),(w.setCells g o f).heap[k]?=w.heap[k]?
 | [],_,_=>rfl
 | v :: f,o,w=>by rw [World.setCells,setCells_other g k z f,Below.heap_setCell w ⟨g,o,none⟩ v k z]
theorem setCells_size (g:Nat):∀ (f:List Value) (o:Nat) (w:World),(w.setCells g o f).heap.size=w.heap.size
 | [],_,_=>rfl
 | v :: f,o,w=>by rw [World.setCells,setCells_size g f]; simp
theorem cF (g:Nat):∀ (f:List Value) (o:Nat) (w:World),(w.setCells g o f).os=w.os∧(w.setCells g o f).tape=w.tape∧(w.setCells g o f).output=w.output
 | [],_,_=>⟨rfl,rfl,rfl⟩
 | v :: f,o,w=>by rw [World.setCells]; exact cF g f (o+1) (w.setCell ⟨g,o,none⟩ v)
theorem Rn.setSo {w:World} {g n:Nat} {l m:List Nat} {b:List UInt8} (h:Rn w g l b n) (f:l.length=m.length):Rn (w.setCells g 1 (dv m)) g m b n :=
 setCells_mid g 135 (dv m) (dv l) [.bool true] _ w (by rw [cC,cC,f]) h
theorem splice_mid {α:Type} (a b c p:List α) (o:Nat) (f:o+p.length≤b.length):splice (a ++ (b ++ c)) (a.length+o) p=a ++ (splice b o p ++ c):=by
 unfold splice
 rw [List.take_append,List.drop_append,List.take_of_length_le (show a.length≤a.length+o by omega),show a.length+o - a.length=o by omega,List.drop_eq_nil_of_le (show a.length≤a.length+o+p.length by omega),
  show a.length+o+p.length - a.length=o+p.length by omega,List.take_append_of_le_length (by omega),List.drop_append_of_le_length (by omega)]
 simp
theorem bvs_splice (b p:List UInt8) (o:Nat):au (splice b o p)=splice (au b) o (au p):=by
 unfold splice; rw [bvs_append,bvs_append,bvs_take,bvs_drop,aX]
theorem Rn.copy {w:World} {g n:Nat} {l:List Nat} {b:List UInt8} (h:Rn w g l b n) (z:l.length=8) (o:Nat) (p:List UInt8) (f:o+p.length≤b.length):Rn (w.setRow g (splice (rc l b n) (9+o) (au p)).toArray) g l (splice b o p) n:=by
 have e:splice (rc l b n) (9+o) (au p)=rc l (splice b o p) n:=by
  have:=splice_mid (.bool true :: dv l) (au b) [.int .u64 (n:Int)] (au p) o (by rw [aX,aX]; exact f)
  rw [List.length_cons,cC,z] at this
  rw [rc,rc,bvs_splice]
  exact this
 rw [e]
 exact setRow_heap w g _ _ 135 (0,0) h
def dQ (w:World) (g:Nat) (bs:List UInt8):Prop:=∃ b:List UInt8,b.length=64∧b.take (bs.length % 64)=bs.drop (64 * (bs.length / 64))∧Rn w g (eat hh bs (bs.length / 64)) b bs.length
theorem dQ.lt {w:World} {g:Nat} {bs:List UInt8} (h:dQ w g bs):g<w.heap.size:=by obtain ⟨b,_,_,h⟩:=h; exact h.lt
theorem dQ.heap {w w':World} {g:Nat} {bs:List UInt8} (h:dQ w g bs) (e:w'.heap[g]?=w.heap[g]?):dQ w' g bs:=by
 obtain ⟨b,D,z,f⟩:=h; exact ⟨b,D,z,e.trans f⟩
theorem so_length (bs:List UInt8) (n:Nat):(eat hh bs n).length=8:=eat_length _ _ _ hh_length
theorem so_sm (bs:List UInt8) (n:Nat):Sm (eat hh bs n):=eat_sm _ _ _ hh_sm
theorem run_part (X p b:List UInt8) (hb:b.length=64) (h:b.take (X.length % 64)=X.drop (64 * (X.length / 64))) (E:X.length % 64+p.length≤64) (D:(X.length+p.length) % 64≠0) :
  (splice b (X.length % 64) p).length=64∧(splice b (X.length % 64) p).take ((X ++ p).length % 64)=(X ++ p).drop (64 * ((X ++ p).length / 64))∧eat hh (X ++ p) ((X ++ p).length / 64)=eat hh X (X.length / 64):=by
 have f:(X ++ p).length / 64=X.length / 64:=by rw [List.length_append]; omega
 have z:(X ++ p).length % 64=X.length % 64+p.length:=by rw [List.length_append]; omega
 refine ⟨by rw [length_splice _ _ _ (by omega),hb],?_,?_⟩
 ·rw [f,z,List.drop_append_of_le_length (by omega),← h,splice,← List.append_assoc,List.take_append_of_le_length (by simp; omega),List.take_of_length_le (by simp; omega)]
 ·rw [f,eat_append _ _ _ _ (by omega)]
theorem run_whole (X p b:List UInt8) (hb:b.length=64) (h:b.take (X.length % 64)=X.drop (64 * (X.length / 64))) (E:X.length % 64+p.length=64) :
  (splice b (X.length % 64) p).length=64∧(splice b (X.length % 64) p).take ((X ++ p).length % 64)=(X ++ p).drop (64 * ((X ++ p).length / 64))∧eat hh (X ++ p) ((X ++ p).length / 64)=comp (eat hh X (X.length / 64)) (splice b (X.length % 64) p):=by
 have f:(X ++ p).length / 64=X.length / 64+1:=by rw [List.length_append]; omega
 have D:(X ++ p).length % 64=0:=by rw [List.length_append]; omega
 have z:splice b (X.length % 64) p=X.drop (64 * (X.length / 64)) ++ p:=by
  have e:b.drop (X.length % 64+p.length) = []:=List.drop_eq_nil_of_le (by omega)
  rw [splice,h,e,List.append_nil]
 refine ⟨by rw [length_splice _ _ _ (by omega),hb],?_,?_⟩
 ·rw [D,List.take_zero,List.drop_eq_nil_of_le (by rw [f,List.length_append]; omega)]
 ·rw [f,eat,eat_append _ _ _ _ (by omega),z,List.drop_append_of_le_length (by omega),List.take_of_length_le (by simp; omega)]
theorem grown_of {w w':World} (h:Below w.heap.size w w') (row:Option Nat):w.grownBy w' row:=⟨h.os,h.tape,h.output,h.size,fun k f _=>h.block k f⟩
theorem grown_row {w wr:World} {g:Nat} (h:w.grownBy wr (some g)) (z:Array Value):w.grownBy (wr.setRow g z) (some g) :=
 ⟨h.os,h.tape,h.output,by simpa [World.setRow] using h.size,fun k D f=>(setRow_other wr g k z (by intro e; exact f (by rw [e]))).trans (h.block k D f)⟩
theorem grown_cell {w wr:World} {g i:Nat} (h:w.grownBy wr (some g)) (u:Value):w.grownBy (wr.setCell ⟨g,i,none⟩ u) (some g) :=
 ⟨h.os,h.tape,h.output,by simpa using h.size,fun k z f=>(Below.heap_setCell wr ⟨g,i,none⟩ u k (by intro e; exact f (by rw [e]))).trans (h.block k z f)⟩
theorem grown_cells {w wr:World} {g i:Nat} (h:w.grownBy wr (some g)) (f:List Value):w.grownBy (wr.setCells g i f) (some g) :=
 ⟨(cF g f i wr).1.trans h.os,(cF g f i wr).2.1.trans h.tape,(cF g f i wr).2.2.trans h.output,by rw [setCells_size]; exact h.size,fun k D z=>(setCells_other g k (by intro e; exact z (by rw [e])) f i wr).trans (h.block k D z)⟩
theorem grown_drew {w wr:World} {row:Option Nat} (h:w.grownBy wr row):w.grownBy wr.drew row:=⟨h.os,h.tape,h.output,h.size,h.block⟩
theorem Kt.grown {w w':World} {g:Nat} (h:Kt w) (z:w.grownBy w' (some g)) (D:2≠g):Kt w':=fun j f=>by
 have:=z.block 2 h.lt (by intro e; injection e with e; exact D e)
 rw [World.cell?_of_block (a:=⟨2,j,none⟩) this]; exact h j f
theorem Rd.grown {w w':World} {g:Nat} {A:Option Addr} {bs:List UInt8} (h:Rd w A bs) (D:w.grownBy w' (some g)) (I:∀ E,A=some E→E.block≠g):Rd w' A bs:=by
 intro F
 obtain ⟨gp,o,rfl,f,hc⟩:=h F
 have z:gp≠g:=I _ rfl
 refine ⟨gp,o,rfl,Nat.lt_of_lt_of_le f D.size,fun j G=>?_⟩
 have:=D.block gp f (by intro e; injection e with e; exact z e)
 rw [World.cell?_of_block (a:=⟨gp,o+j,none⟩) this]; exact hc j G
theorem step_copy_at {P:Program} {ops:Array Oper} {o:Oper} {a:Act} {w:World} {K:Act→World→Prop} {Q:Exit→Act→World→Prop} {E:Prop} (U:o.guard=none) (d s:Operand) (V Z:TypeId)
  (ho:o.op=.call { callee:=.builtin .copy,args:=#[d,s],argTypes:=#[V,Z] }) (F:TypeId) (hu:P.underlying V=some (.slice F)) (R:(P.info? F).map (·.size)=some 1)
  (g f G L:Nat) (Y:Addr) (D J:Nat) (hd:a.eval d=.slice (some ⟨g,f,none⟩) G L) (hs:a.eval s=.slice (some Y) D J)
  (z:List Value) (t:TypeId) (hg:w.heap[g]?=some (.cells z.toArray t (0,0))) (I:List Value) (hn:I.length=Nat.min D G)
  (M:∀ j v,I[j]?=some v→w.cell? (Y.add j)=some v) (O:f+I.length≤z.length) (h1:∀ v∈I,v.oneCell'=true)
  (h:K (a.put o.dst (goInt I.length)) (w.setRow g (splice z f I).toArray)) :
  if Region.wanted o (yielded ops a.tmps)=true then Oper.wp P o a w K Q else E:=by
 have hw:Region.wanted o (yielded ops a.tmps)=true:=by simp [Region.wanted,U]
 rw [if_pos hw]
 have bb:=run_copy_row (P:=P) w V Z o.type F g f G L Y D J z.toArray t I hu R hg hn M (by simpa using O) h1
 have e:z.toArray.toList.take f ++ I ++ z.toArray.toList.drop (f+I.length)=splice z f I:=by simp [splice]
 rw [e] at bb
 unfold Oper.wp
 simp [execOp,ho,resolve,invoke,builtin,hd,hs,bb,Result.andThen]
 exact h
theorem step_store_mid {P:Program} {ops:Array Oper} {o:Oper} {a:Act} {w:World} {K:Act→World→Prop} {Q:Exit→Act→World→Prop} {E:Prop} (z:o.guard=none) (ty:TypeId) (x y:Operand) (J:o.op=.store ty x y)
  (b f:Nat) (cells:Array Value) (F:a.eval x=.pointer (some ⟨b,f,none⟩)) (D:a.eval y=.agg cells)
  (I:w.there b f cells.size) (hi:(P.info? ty).map (·.size)=some cells.size) (L:cells.all (·.oneCell')=true)
  (h:K (a.put o.dst undef) (w.setCells b f cells.toList)):if Region.wanted o (yielded ops a.tmps)=true then Oper.wp P o a w K Q else E:=by
 have G:Region.wanted o (yielded ops a.tmps)=true:=by simp [Region.wanted,z]
 rw [if_pos G]
 exact wp_store_mid ty x y J b f cells F D I hi L h
def past (A:Option Addr) (k c:Nat):Option Addr:=if c=k then A else A.map (·.add k)
theorem slice_rest (A:Option Addr) (n c k:Nat) (D:k≤n) (w:World):(Instr.slice 66 (.slice A n c) (some (.int .i64 (k:Int))) none none).run Tryz.prog w=.ok (.slice (past A k c) (n - k) (c - k)) w:=by
 have f:Tryz.prog.elem 66=5:=by kernel_rfl
 rw [run_slice_l (P:=Tryz.prog) w 66 A n c (by rw [f]; exact Tryz.underlying66) .i64 (k:Int) (by omega) (by omega)]
 have z:(sizeOf 5).run Tryz.prog w=.ok 1 w:=by kernel_rfl
 rw [f,z]
 simp only [Result.andThen,sliced,Int.toNat_natCast,past,Nat.mul_one]
theorem Rd.past {w:World} {A:Option Addr} {bs:List UInt8} (h:Rd w A bs) (k c:Nat) (I:k≤bs.length) (hc:bs.length≤c):Rd w (past A k c) (bs.drop k):=by
 intro F
 have f:0<bs.length:=by simp at F; omega
 obtain ⟨gp,o,rfl,D,E⟩:=h f
 have z:c≠k:=by simp at F; omega
 refine ⟨gp,o+k,?_,D,fun j G=>?_⟩
 ·unfold Go.Proofs.YtmapkbdjnnionaaGreatDoor.past; rw [if_neg z]
  simp only [Option.map_some]
  congr 1
  unfold Addr.add
  by_cases hk0:k=0
  ·subst hk0; simp
  ·simp [hk0]
 ·have:=E (k+j) (by simp at G; omega)
  rw [Nat.add_assoc,this]; simp
theorem past_block (A:Option Addr) (k c g:Nat) (h:∀ f,A=some f→f.block≠g):∀ f,past A k c=some f→f.block≠g:=by
 intro f e
 unfold past at e
 split at e
 ·exact h f e
 ·cases A with
  | none=>cases e
  | some a0 =>
   simp only [Option.map_some] at e
   injection e with e
   subst e
   have:=h a0 rfl
   unfold Addr.add
   split <;> simpa using this
theorem run_part_is {f:World} {g N r:Nat} {X p b0:List UInt8} (G:N=X.length) (D:r=N % 64) (hb:b0.length=64) (h:b0.take r=X.drop (64 * (N / 64))) (E:r+p.length≤64) (z:(N+p.length) % 64≠0)
  (F:Rn f g (eat hh X (N / 64)) (splice b0 r p) (N+p.length)):dQ f g (X ++ p):=by
 subst G; subst D
 obtain ⟨K,J,I⟩:=run_part X p b0 hb h E z
 refine ⟨_,K,J,?_⟩
 rw [I,List.length_append]; exact F
theorem run_whole_is {f:World} {g N r:Nat} {X p b0:List UInt8} (F:N=X.length) (z:r=N % 64) (hb:b0.length=64) (h:b0.take r=X.drop (64 * (N / 64))) (D:r+p.length=64)
  (E:Rn f g (comp (eat hh X (N / 64)) (splice b0 r p)) (splice b0 r p) (N+p.length)):dQ f g (X ++ p):=by
 subst F; subst z
 obtain ⟨J,I,G⟩:=run_whole X p b0 hb h D
 refine ⟨_,J,I,?_⟩
 rw [G,List.length_append]; exact E
def lenV:Value→Nat
 | .slice _ n _=>n
 | _=>0
theorem slice_last (g r m:Nat) (G:r<64) (F:m=64 - r) (w:World):(Instr.sliceAt 133 (.pointer (some ⟨g,9,none⟩)) (some (.int .u64 (r:Int))) none none).run Tryz.prog w=.ok (.slice (some ⟨g,9+r,none⟩) m m) w:=by
 have f:Tryz.prog.arrayLen 133=64:=by kernel_rfl
 have z:Tryz.prog.elem 133=5:=by kernel_rfl
 rw [run_sliceAt_array_l (P:=Tryz.prog) w 133 ⟨g,9,none⟩ (by rw [f,z]; exact Tryz.underlying133) .u64 (r:Int) (by omega) (by rw [f]; omega)]
 have E:(sizeOf 5).run Tryz.prog w=.ok 1 w:=by kernel_rfl
 rw [z,E,f]
 simp only [Result.andThen,slicedAt,Int.toNat_natCast,Nat.mul_one]
 rw [if_neg (by omega),F]
 congr 3
 unfold Addr.add
 by_cases D:r=0
 ·subst D; simp
 ·simp [D]
theorem add_any (g:Nat) (A:Option Addr) (c:Nat) (bs dR:List UInt8) (w:World) (n:Nat) (hn:dR.length=n) (G:dQ w g bs) (hr:Rd w A dR) (hA:0<n→∀ ad,A=some ad→ad.block≠g) (hc:n≤c) (hK:Kt w) (h3:2≠g) (aI:bs.length+n≤140737488355328) :
  Calls Tryz.prog 102 #[.pointer (some ⟨g,0,none⟩),.slice A n c] w fun e w'=>e=.returned (.tuple #[])∧dQ w' g (bs ++ dR)∧w.grownBy w' (some g):=by
 have HN:=hid hn
 have HR:=hid G
 have an:=hid hr
 have HA:=hid hA
 have HC:=hid hc
 have HK:=hid hK
 have H3:=hid h3
 have bU:=hid aI
 clear hn G hr hA hc hK h3 aI
 go_enter Tryz.func102,Tryz.ntmps102
 go_wp2_with fail
 go_loopw [1] (fun s wr=>∃ (E c':Nat) (A':Option Addr) (V f:List UInt8),s=.slice A' E c'∧Hid (f.length=E)∧Hid (dR=V ++ f)∧Hid (Rd wr A' f)∧Hid (0<E→∀ ad,A'=some ad→ad.block≠g)∧Hid (E≤c')∧Hid (dQ wr g (bs ++ V))∧Hid (w.grownBy wr (some g))) (fun s _=>lenV s)
 case atStart=>exact ⟨n,c,A,[],dR,rfl,HN,hid rfl,an,HA,HC,hid (by rw [List.append_nil]; exact HR.out),hid (World.grownBy.refl _ _)⟩
 case round =>
  clear an HA HC HR
  obtain ⟨E,c',A',V,f,rfl,M,HP,an,HA,HC,HR,HG⟩:=hrel
  by_cases h0:0<E
  ·have bS:=hid h0
   obtain ⟨b0,J,ar,ay⟩:=HR.out
   obtain ⟨gp,o,rfl,bK,bo⟩:=an.out (by have:=M.out; omega)
   have HX:=hid (show (bs ++ V).length+f.length≤140737488355328 by have h1:=HN.out; have h2:=HP.out; have h3:=bU.out; rw [h2] at h1; simp at h1 ⊢; omega)
   generalize hX:bs ++ V=X at *
   have bN:=hid hX
   clear hX
   obtain ⟨N,hN⟩:∃ N,N=X.length:=⟨_,rfl⟩
   obtain ⟨r,hr⟩:∃ r,r=N % 64:=⟨_,rfl⟩
   obtain ⟨m,hm⟩:∃ m,m=64 - r:=⟨_,rfl⟩
   obtain ⟨tk,aQ⟩:∃ tk,tk=Nat.min E m:=⟨_,rfl⟩
   have ab:r<64:=by rw [hr]; exact Nat.mod_lt _ (by decide)
   have aE:tk=min E m:=aQ
   have D:(f.take tk).length=tk:=by have:=M.out; simp; omega
   rw [← hN] at ay ar
   rw [← hr] at ar
   have bv:=hid ay
   have bA:=hid J
   have bp:=hid ar
   have F:=so_length X (N / 64)
   have bP:=hid (so_sm X (N / 64))
   have bq:=hid (p:=∀ j v,(au (f.take tk))[j]?=some v→wr.drew.cell? ((⟨gp,o,none⟩:Addr).add j)=some v) (fun j v hv=>by
    have hj:j<tk:=by
     rcases Nat.lt_or_ge j tk with h | h
     ·exact h
     ·rw [List.getElem?_eq_none (by rw [aX]; omega)] at hv; cases hv
    rw [Addr.add_mid]
    refine Eq.trans (bo j (by have:=M.out; omega)) ?_
    rw [← hv]
    simp [au,hj]
    rw [List.getElem?_eq_getElem (by have:=M.out; omega)]
    rfl)
   have bz:=hid (p:=9+r+(au (f.take tk)).length≤(rc (eat hh X (N / 64)) b0 N).length) (by rw [rc_length N F J,aX,D]; omega)
   have bR:=hid (p:=(au (f.take tk)).length=Nat.min E m) (by rw [aX,D,aQ])
   have ba:=hid hN
   have bI:(N:Int) % 64=(r:Int):=by omega
   have bZ:=slice_last g r m ab hm
   have U:wr.cell? ⟨g,73,none⟩=some (.int .u64 (N:Int)):=ay.count F J
   have aW:=hid (p:=Rn (wr.drew.setRow g (splice (rc (eat hh X (N / 64)) b0 N) (9+r) (au (f.take tk))).toArray) g (eat hh X (N / 64)) (splice b0 r (f.take tk)) N) (Rn.copy (w:=wr.drew) bv.out F r (f.take tk) (by rw [D,J]; omega))
   have aC:=hid (p:=(splice b0 r (f.take tk)).length=64) (by rw [length_splice _ _ _ (by rw [D,J]; omega),J])
   have bk:=hid (aW.out.count F aC.out)
   have bW:=hid (grown_row (grown_drew (World.grownBy.refl wr (some g))) (splice (rc (eat hh X (N / 64)) b0 N) (9+r) (au (f.take tk))).toArray)
   have cl:=hid (grown_row (grown_drew HG.out) (splice (rc (eat hh X (N / 64)) b0 N) (9+r) (au (f.take tk))).toArray)
   have cd:(N:Int).tmod 64=(r:Int):=by rw [Int.tmod_eq_emod_of_nonneg (by omega)]; exact bI
   have aU:=hid hr
   have bb:=hid hm
   have al:=hid aE
   have ao:=hid ab
   have ap:=hid D
   have bx:=hid (show (au (f.take tk)).length=tk by rw [aX,D])
   clear hN hr hm aQ aE ay J ar bo bK D ab
   go_wp2_with fail
   refine wp_region_noPanic ?_
   refine aa.region (fun (L:Array Bool) (w':World)=>w'.cell? ⟨g,73,none⟩=some (.int .u64 (N:Int))) (by as_aux_lemma=>kernel_rfl) ?_
   refine aa.q 0 ⟨some 8,_,_,_,_,_⟩ U ?_
   try simp only [ac]
   refine aa.q 1 ⟨some 9,_,_,_,_,_⟩ U ?_
   try simp only [ac]
   refine aa.q 2 ⟨some 10,_,_,_,_,_⟩ U ?_
   try simp only [ac]
   refine aa.q 3 ⟨some 11,_,_,_,_,_⟩ U ?_
   try simp only [ac]
   refine aa.q 4 ⟨some 12,_,_,_,_,_⟩ U ?_
   try simp only [ac]
   refine aa.q 5 ⟨some 13,_,_,_,_,_⟩ U ?_
   try simp only [ac]
   refine aa.tk (i:=6) (o:=⟨some 14,_,_,_,_,_⟩) (v:=?_) [] (y:=Or.inl ⟨by rfl,?_⟩) (s:=U) (H:=?_)
   rotate_left
   ·intro w R; obtain ⟨up,hL⟩:=R; have hX:=hL.2; clear hL; (try dsimp only at hX); go_simp; try with_reducible rfl
   try simp only [ac]
   refine aa.q 7 ⟨some 15,_,_,_,_,_⟩ U ?_
   try simp only [ac]
   refine aa.q 8 ⟨some 16,_,_,_,_,_⟩ U ?_
   try simp only [ac]
   refine aa.q 9 ⟨some 17,_,_,_,_,_⟩ U ?_
   try simp only [ac]
   refine aa.one (i:=10) (o:=⟨some 18,_,_,_,_,_⟩) (by as_aux_lemma=>kernel_rfl) rfl (fun K hK=>?_)
   refine step_copy_at rfl (.tmp 16) (.tmp 17) 66 66 rfl 5 Tryz.underlying66 (by kernel_rfl) g (9+r) m m ⟨gp,o,none⟩ E c' rfl rfl (rc (eat hh X (N / 64)) b0 N) 135 bv.out (au (f.take tk)) bR.out bq.out bz.out (bvs_one _) ?_
   refine hK.out _ _ bk.out ?_
   clear hK K
   clear U
   have U:=bk.out
   try simp only [ac]
   refine aa.q 11 ⟨some 4,_,_,_,_,_⟩ U ?_
   try simp only [ac]
   refine aa.done (by as_aux_lemma=>kernel_rfl) ?_ _
   refine NoPanic.normal ?_
   simp only [bx.out]
   generalize wr.drew.setRow g (splice (rc (eat hh X (N / 64)) b0 N) (9+r) (au (f.take tk))).toArray=wA at *
   have bu:=hid (slice_rest (some ⟨gp,o,none⟩) E c' tk (by have:=al.out; omega))
   have ax:=bu.out
   obtain ⟨A2,aT⟩:∃ A2,A2=past (some ⟨gp,o,none⟩) tk c':=⟨_,rfl⟩
   rw [← aT] at ax
   have bm:=hid aT
   clear aT
   have cf:=aW.out.frozen 73
   have ca:=bk.out
   have D:=hid (show (N+tk:Nat)<18446744073709551616 by have h1:=HX.out; have h2:=ba.out; have h3:=M.out; have h4:=al.out; omega)
   have cc:IntKind.u64.wrap ((N:Int)+(tk:Int))=((N+tk:Nat):Int):=by have:=D.out; rw [IntKind.wrap_u64]; omega
   have cb:IntKind.u64.wrap (tk:Int)=(tk:Int):=by have:=D.out; rw [IntKind.wrap_u64]; omega
   have dk:=hid (p:=wr.grownBy wA (some g)) bW.out
   have I:((N:Int)+(tk:Int))=((N+tk:Nat):Int):=by simp
   have Y:=hid (aW.out.setCount F aC.out (N+tk))
   have aB:=hid (grown_cell (i:=73) dk.out (.int .u64 ((N+tk:Nat):Int)))
   rw [← I] at Y aB
   have bY:=hid I
   have aA:=hid (p:=∀ wE:World,wr.grownBy wE (some g)→dQ wE g (X ++ f.take tk)→((∃ (O aK:Nat) (A':Option Addr) (aJ Z:List UInt8),Value.slice A2 (E - tk) (c' - tk)=Value.slice A' O aK∧Hid (Z.length=O)∧Hid (dR=aJ ++ Z)∧Hid (Rd wE A' Z)∧Hid (0<O→∀ ad,A'=some ad→ad.block≠g)∧Hid (O≤aK)∧Hid (dQ wE g (bs ++ aJ))∧Hid (w.grownBy wE (some g)))∧E - tk<E)) (fun wE h1 h2=>by
    have bn:0<E:=bS.out
    have ht:=al.out
    have hm:=bb.out
    have ck:=ao.out
    have hn:=M.out
    have cj:=HC.out
    refine ⟨⟨E - tk,c' - tk,A2,V ++ f.take tk,f.drop tk,rfl,hid (by rw [List.length_drop,hn]),hid (by rw [List.append_assoc,List.take_append_drop]; exact HP.out),hid ?_,hid ?_,hid (by omega),hid ?_,hid (HG.out.trans h1)⟩,by omega⟩
    ·rw [bm.out]; exact (an.out.grown h1 (HA.out bn)).past tk c' (by omega) (by omega)
    ·intro _; rw [bm.out]; exact past_block _ _ _ _ (HA.out bn)
    ·rw [← List.append_assoc,bN.out]; exact h2)
   have aG:r+(f.take tk).length≤64:=by have:=ap.out; have:=al.out; have:=bb.out; have:=ao.out; omega
   have aL:=hid aG
   clear aG I ax
   have ax:=bu.out
   rw [← bm.out] at ax
   by_cases hz:(N+tk) % 64=0
   ·have bG:((N:Int)+(tk:Int)) % 64=0:=by omega
    have HZ:=hid hz
    clear hz
    have bO:=hid (p:=r+(f.take tk).length=64) (by have h1:=ap.out; have h2:=al.out; have h3:=bb.out; have h4:=ao.out; have h5:=aU.out; have h6:=HZ.out; have h7:=aL.out; omega)
    go_upto_region 5 with fail
    generalize wA.setCell ⟨g,73,none⟩ (.int .u64 ((N:Int)+(tk:Int)))=wB at *
    have bV:=hid ((HK.out.grown HG.out H3.out).grown aB.out H3.out)
    have bd:=hid (p:=∀ wE:World,Rn wE g (comp (eat hh X (N / 64)) (splice b0 r (f.take tk))) (splice b0 r (f.take tk)) (N+tk)→dQ wE g (X ++ f.take tk)) (fun wE h=>run_whole_is ba.out aU.out bA.out bp.out bO.out (by rw [ap.out]; exact h))
    generalize eat hh X (N / 64)=L1 at *
    generalize splice b0 r (f.take tk)=b1 at *
    have G:wB.rangeAt g 1 (dv L1)∧wB.rangeAt g 9 (au b1):=⟨Y.out.so,Y.out.last F⟩
    have aN:=hi57 L1 F
    have aM:=hi59 b1 aC.out
    rw [dx,← cC] at aN
    rw [aw,← aX] at aM
    have z:=hid F
    refine wp_region_noPanic ?_
    refine aa.region (fun (L:Array Bool) (wX:World)=>(L.getD 12 true=false→wX.rangeAt g 1 (dv L1)∧wX.rangeAt g 9 (au b1))) (by as_aux_lemma=>kernel_rfl) ?_
    refine aa.take (i:=0) (o:=⟨some 37,_,_,_,_,_⟩) (v:=?_) [] rfl (by as_aux_lemma=>kernel_rfl) (by as_aux_lemma=>kernel_rfl) (by as_aux_lemma=>kernel_rfl) (fun _ _ _ h=>h) (by as_aux_lemma=>kernel_rfl) (fun L u h e=>h (by rw [getD_set_ne true (by decide)]; exact e)) (Or.inl ⟨by rfl,?_⟩) (fun _=>G) ?_
    rotate_left
    ·intro w R; go_simp; try with_reducible rfl
    try simp only [ac]
    refine aa.take (i:=1) (o:=⟨some 38,_,_,_,_,_⟩) (v:=?_) [] rfl (by as_aux_lemma=>kernel_rfl) (by as_aux_lemma=>kernel_rfl) (by as_aux_lemma=>kernel_rfl) (fun _ _ _ h=>h) (by as_aux_lemma=>kernel_rfl) (fun L u h e=>h (by rw [getD_set_ne true (by decide)]; exact e)) (Or.inl ⟨by rfl,?_⟩) (fun _=>G) ?_
    rotate_left
    ·intro w R; go_simp; try with_reducible rfl
    try simp only [ac]
    refine aa.take (i:=2) (o:=⟨some 39,_,_,_,_,_⟩) (v:=?_) [] rfl (by as_aux_lemma=>kernel_rfl) (by as_aux_lemma=>kernel_rfl) (by as_aux_lemma=>kernel_rfl) (fun _ _ _ h=>h) (by as_aux_lemma=>kernel_rfl) (fun L u h e=>h (by rw [getD_set_ne true (by decide)]; exact e)) (Or.inl ⟨by rfl,?_⟩) (fun _=>G) ?_
    rotate_left
    ·intro w R; go_simp; try with_reducible rfl
    try simp only [ac]
    refine aa.take (i:=3) (o:=⟨some 40,_,_,_,_,_⟩) (v:=?_) [] rfl (by as_aux_lemma=>kernel_rfl) (by as_aux_lemma=>kernel_rfl) (by as_aux_lemma=>kernel_rfl) (fun _ _ _ h=>h) (by as_aux_lemma=>kernel_rfl) (fun L u h e=>h (by rw [getD_set_ne true (by decide)]; exact e)) (Or.inl ⟨by rfl,?_⟩) (fun _=>G) ?_
    rotate_left
    ·intro w R; go_simp; try with_reducible rfl
    try simp only [ac]
    refine aa.take (i:=4) (o:=⟨some 41,_,_,_,_,_⟩) [12] rfl (by as_aux_lemma=>kernel_rfl) (by as_aux_lemma=>kernel_rfl) (by as_aux_lemma=>kernel_rfl) (fun _ _ _ h=>h) (by as_aux_lemma=>kernel_rfl) (fun L u h e=>h (by rw [getD_set_ne true (by decide)]; exact e)) (yieldsIf_load_mid (by rfl) 130 (.tmp 40) rfl g 1 rfl (dv L1) _ (fun W R=>by obtain ⟨up,hU,hL⟩:=R; exact (hL (hU 12 (by simp))).1) Tryz.underlying130 rfl aN.out) (fun _=>G) ?_
    try simp only [ac]
    refine aa.take (i:=5) (o:=⟨some 42,_,_,_,_,_⟩) (v:=?_) [] rfl (by as_aux_lemma=>kernel_rfl) (by as_aux_lemma=>kernel_rfl) (by as_aux_lemma=>kernel_rfl) (fun _ _ _ h=>h) (by as_aux_lemma=>kernel_rfl) (fun L u h e=>h (by rw [getD_set_ne true (by decide)]; exact e)) (Or.inl ⟨by rfl,?_⟩) (fun _=>G) ?_
    rotate_left
    ·intro w R; go_simp; try with_reducible rfl
    try simp only [ac]
    refine aa.take (i:=6) (o:=⟨some 43,_,_,_,_,_⟩) (v:=?_) [] rfl (by as_aux_lemma=>kernel_rfl) (by as_aux_lemma=>kernel_rfl) (by as_aux_lemma=>kernel_rfl) (fun _ _ _ h=>h) (by as_aux_lemma=>kernel_rfl) (fun L u h e=>h (by rw [getD_set_ne true (by decide)]; exact e)) (Or.inl ⟨by rfl,?_⟩) (fun _=>G) ?_
    rotate_left
    ·intro w R; go_simp; try with_reducible rfl
    try simp only [ac]
    refine aa.take (i:=7) (o:=⟨some 44,_,_,_,_,_⟩) (v:=?_) [] rfl (by as_aux_lemma=>kernel_rfl) (by as_aux_lemma=>kernel_rfl) (by as_aux_lemma=>kernel_rfl) (fun _ _ _ h=>h) (by as_aux_lemma=>kernel_rfl) (fun L u h e=>h (by rw [getD_set_ne true (by decide)]; exact e)) (Or.inl ⟨by rfl,?_⟩) (fun _=>G) ?_
    rotate_left
    ·intro w R; go_simp; try with_reducible rfl
    try simp only [ac]
    refine aa.take (i:=8) (o:=⟨some 45,_,_,_,_,_⟩) [12] rfl (by as_aux_lemma=>kernel_rfl) (by as_aux_lemma=>kernel_rfl) (by as_aux_lemma=>kernel_rfl) (fun _ _ _ h=>h) (by as_aux_lemma=>kernel_rfl) (fun L u h e=>h (by rw [getD_set_ne true (by decide)]; exact e)) (yieldsIf_load_mid (by rfl) 133 (.tmp 44) rfl g 9 rfl (au b1) _ (fun W R=>by obtain ⟨up,hU,hL⟩:=R; exact (hL (hU 12 (by simp))).2) Tryz.underlying133 rfl aM.out) (fun _=>G) ?_
    try simp only [ac]
    refine aa.one (i:=9) (o:=⟨some 46,_,_,_,_,_⟩) (by as_aux_lemma=>kernel_rfl) rfl (fun K hK=>?_)
    go_simp
    refine (take_any L1 b1 _ z.out bP.out aC.out bV.out.drew).mono ?_
    rintro e' w2 ⟨rfl,aR⟩
    go_wp2_with fail
    have az:=hid (p:=Rn w2 g L1 b1 (N+tk)) ((aR.block g Y.out.lt).trans Y.out)
    have aS:w2.rangeAt g 1 (dv L1)∧w2.rangeAt g 9 (au b1):=⟨az.out.so,az.out.last z.out⟩
    have bX:=hid (p:=wr.grownBy w2 (some g)) ((grown_drew aB.out).trans (grown_of aR _))
    refine hK.out _ _ (fun _=>aS) ?_
    clear hK K G aR
    have G:=aS
    clear aS
    try simp only [ac]
    refine aa.take (i:=10) (o:=⟨some 47,_,_,_,_,_⟩) (v:=?_) [] rfl (by as_aux_lemma=>kernel_rfl) (by as_aux_lemma=>kernel_rfl) (by as_aux_lemma=>kernel_rfl) (fun _ _ _ h=>h) (by as_aux_lemma=>kernel_rfl) (fun L u h e=>h (by rw [getD_set_ne true (by decide)]; exact e)) (Or.inl ⟨by rfl,?_⟩) (fun _=>G) ?_
    rotate_left
    ·intro w R; go_simp; try with_reducible rfl
    try simp only [ac]
    refine aa.take (i:=11) (o:=⟨some 48,_,_,_,_,_⟩) (v:=?_) [] rfl (by as_aux_lemma=>kernel_rfl) (by as_aux_lemma=>kernel_rfl) (by as_aux_lemma=>kernel_rfl) (fun _ _ _ h=>h) (by as_aux_lemma=>kernel_rfl) (fun L u h e=>h (by rw [getD_set_ne true (by decide)]; exact e)) (Or.inl ⟨by rfl,?_⟩) (fun _=>G) ?_
    rotate_left
    ·intro w R; go_simp; try with_reducible rfl
    try simp only [ac]
    refine aa.one (i:=12) (o:=⟨none,_,_,_,_,_⟩) (by as_aux_lemma=>kernel_rfl) rfl (fun K hK=>?_)
    refine step_store_mid rfl 130 (.tmp 48) (.tmp 46) rfl g 1 (dv (comp L1 b1)).toArray rfl rfl (by rw [dx,bT _ _ z.out]; exact az.out.there z.out) (hi57 _ (bT _ _ z.out)).out (dv_all _) ?_
    refine hK.out _ _ (fun e=>absurd e (by as_aux_lemma=>decide +kernel)) ?_
    clear hK K
    try simp only [ac]
    refine aa.done (by as_aux_lemma=>kernel_rfl) ?_ _
    refine NoPanic.normal ?_
    go_wp2
    exact aA.out _ (grown_cells bX.out _) (bd.out _ (az.out.setSo (z.out.trans (bT _ _ z.out).symm)))
   ·have bG:(((N:Int)+(tk:Int)) % 64 == 0)=false:=by simp; omega
    have bd:=hid (run_part_is ba.out aU.out bA.out bp.out aL.out (by rw [ap.out]; exact hz) (by rw [ap.out]; have:=Y.out; rw [bY.out] at this; exact this))
    go_wp2
    exact aA.out _ aB.out bd.out
  ·obtain rfl:E=0:=by omega
   have bQ:Hid (dQ wr g (bs ++ dR)):=hid (by
    have:f = []:=List.eq_nil_of_length_eq_zero M.out
    have h2:=HP.out
    rw [this,List.append_nil] at h2
    rw [h2]; exact HR.out)
   go_wp2
   exact bodyPost_end (v:=.tuple #[]) (by simp [results,Tryz.results102,go_sem]) rfl ⟨rfl,bQ.out,HG.out⟩
theorem i44:(Tryz.prog.info? 28).map (·.size)=some 32:=by kernel_rfl
theorem hi44 (b:List UInt8) (h:b.length=32):Hid ((Tryz.prog.info? 28).map (·.size)=some (au b).toArray.size):=by rw [aw,h]; exact hid i44
theorem Bt.set {w:World} {g:Nat} {t:TypeId} {l:List UInt8} (h:Bt w g t l) (k:Nat) (b:UInt8):Bt (w.setCell ⟨g,k,none⟩ (.int .u8 ((b.toNat:Nat):Int))) g t (l.set k b):=by
 unfold Bt at h ⊢; simp [World.setCell,Array.getElem?_modify,h,au,List.map_set]
theorem Bt.row {w:World} {g:Nat} {t:TypeId} {l m:List UInt8} (h:Bt w g t l):Bt (w.setRow g (au m).toArray) g t m:=setRow_heap w g _ _ t (0,0) h
structure Tl (w:World) (l:List Nat) (m:List UInt8) (w':World):Prop where
 below:Below w.heap.size w w'
 n:Us w' w.heap.size 130 l
 z:Bt w' (w.heap.size+1) 28 (List.replicate 32 0)
 m:Bt w' (w.heap.size+1+1) 28 m
theorem Tl.init (w:World) (l:List Nat):Hid (Tl w l (List.replicate 32 0) (((w.alloc (.cells (dv l).toArray 130)).alloc (.cells #[.int .u8 0,.int .u8 0,.int .u8 0,.int .u8 0,.int .u8 0,.int .u8 0,.int .u8 0,.int .u8 0,.int .u8 0,.int .u8 0,.int .u8 0,.int .u8 0,.int .u8 0,.int .u8 0,.int .u8 0,.int .u8 0,.int .u8 0,.int .u8 0,.int .u8 0,.int .u8 0,.int .u8 0,.int .u8 0,.int .u8 0,.int .u8 0,.int .u8 0,.int .u8 0,.int .u8 0,.int .u8 0,.int .u8 0,.int .u8 0,.int .u8 0,.int .u8 0] 28)).alloc (.cells #[.int .u8 0,.int .u8 0,.int .u8 0,.int .u8 0,.int .u8 0,.int .u8 0,.int .u8 0,.int .u8 0,.int .u8 0,.int .u8 0,.int .u8 0,.int .u8 0,.int .u8 0,.int .u8 0,.int .u8 0,.int .u8 0,.int .u8 0,.int .u8 0,.int .u8 0,.int .u8 0,.int .u8 0,.int .u8 0,.int .u8 0,.int .u8 0,.int .u8 0,.int .u8 0,.int .u8 0,.int .u8 0,.int .u8 0,.int .u8 0,.int .u8 0,.int .u8 0] 28))):=by
 have s1:∀ (w:World) (o:Obj),(w.alloc o).heap.size=w.heap.size+1:=fun w o=>Array.size_push _
 refine hid ⟨(((Below.refl _ _).alloc (Nat.le_refl _) _).alloc (by rw [s1]; omega) _).alloc (by rw [s1,s1]; omega) _,Us.alloc (Us.alloc (heap_alloc_new _ _) _) _,Bt.alloc ?_ _,?_⟩
 ·rw [← s1 w (.cells (dv l).toArray 130)]; exact heap_alloc_new _ _
 ·rw [← s1 w (.cells (dv l).toArray 130),← s1 _ (.cells #[.int .u8 0,.int .u8 0,.int .u8 0,.int .u8 0,.int .u8 0,.int .u8 0,.int .u8 0,.int .u8 0,.int .u8 0,.int .u8 0,.int .u8 0,.int .u8 0,.int .u8 0,.int .u8 0,.int .u8 0,.int .u8 0,.int .u8 0,.int .u8 0,.int .u8 0,.int .u8 0,.int .u8 0,.int .u8 0,.int .u8 0,.int .u8 0,.int .u8 0,.int .u8 0,.int .u8 0,.int .u8 0,.int .u8 0,.int .u8 0,.int .u8 0,.int .u8 0] 28)]; exact heap_alloc_new _ _
theorem Tl.set {w w':World} {l:List Nat} {m:List UInt8} (h:Tl w l m w') (k:Nat) (b:UInt8):Tl w l (m.set k b) (w'.setCell ⟨w.heap.size+1+1,k,none⟩ (.int .u8 ((b.toNat:Nat):Int))) :=
 ⟨h.below.setCell (by simp; omega) _,h.n.other _ (by omega),h.z.other _ (by omega),h.m.set k b⟩
def sb (l:List Nat) (j:Nat):UInt8:=UInt8.ofNat (aZ l (j / 4) / 256 ^ (3 - j % 4))
theorem sb_val (l:List Nat) (j r:Nat) (f:j % 4=r):(((sb l j).toNat:Nat):Int)=((aZ l (j / 4):Nat):Int) / ((256 ^ (3 - r):Nat):Int) % 256:=by
 unfold sb
 rw [UInt8.toNat_ofNat',f,show (2:Nat) ^ 8=256 by decide]
 omega
theorem tell_any' (l:List Nat) (w:World) (hl:l.length=8) :
  Calls Tryz.prog 120 #[.agg (dv l).toArray] w fun e w'=>e=.returned (.agg (au (spell l)).toArray)∧Below w.heap.size w w':=by
 have U:=hid hl
 clear hl
 go_enter Tryz.func120,Tryz.ntmps120
 go_wp2_with fail
 have z:=Tl.init w l
 generalize ((w.alloc (.cells (dv l).toArray 130)).alloc (.cells #[.int .u8 0,.int .u8 0,.int .u8 0,.int .u8 0,.int .u8 0,.int .u8 0,.int .u8 0,.int .u8 0,.int .u8 0,.int .u8 0,.int .u8 0,.int .u8 0,.int .u8 0,.int .u8 0,.int .u8 0,.int .u8 0,.int .u8 0,.int .u8 0,.int .u8 0,.int .u8 0,.int .u8 0,.int .u8 0,.int .u8 0,.int .u8 0,.int .u8 0,.int .u8 0,.int .u8 0,.int .u8 0,.int .u8 0,.int .u8 0,.int .u8 0,.int .u8 0] 28)).alloc (.cells #[.int .u8 0,.int .u8 0,.int .u8 0,.int .u8 0,.int .u8 0,.int .u8 0,.int .u8 0,.int .u8 0,.int .u8 0,.int .u8 0,.int .u8 0,.int .u8 0,.int .u8 0,.int .u8 0,.int .u8 0,.int .u8 0,.int .u8 0,.int .u8 0,.int .u8 0,.int .u8 0,.int .u8 0,.int .u8 0,.int .u8 0,.int .u8 0,.int .u8 0,.int .u8 0,.int .u8 0,.int .u8 0,.int .u8 0,.int .u8 0,.int .u8 0,.int .u8 0] 28)=w0 at *
 go_loopw [5] (fun i wr=>∃ (k:Nat) (m:List UInt8),k≤32∧i=.int .i64 k∧Hid (Tl w l m wr)∧Hid (m.length=32)∧Hid (∀ j,j<k→m[j]?=some (sb l j))) (fun i _=>32 - (intOf i).toNat)
 case atStart=>exact ⟨0,List.replicate 32 0,by omega,rfl,z,hid rfl,hid (fun j M=>absurd M (Nat.not_lt_zero _))⟩
 case round =>
  clear z
  obtain ⟨k,m,hk,rfl,z,D,K⟩:=hrel
  by_cases ap:k<32
  ·obtain ⟨q,hq⟩:∃ q:Nat,q=k / 4:=⟨_,rfl⟩
   have an:(k:Int) / 4=(q:Int):=by omega
   have ao:q<8:=by omega
   have R:=hid hq
   clear hq
   have ax:=z.out.n.cell q (by have:=U.out; omega)
   have V:=z.out.m.cell k (by have:=D.out; omega)
   have ar:=z.out.m.frozen k
   generalize (m[k]'(by have:=D.out; omega)).toNat=old at V
   rcases (show k % 4=0∨k % 4=1∨k % 4=2∨k % 4=3 by omega) with f | f | f | f
   ·have J:(k:Int) % 4=0:=by omega
    have E:=hid (sb_val l k 0 f)
    rw [← R.out] at E
    have Z:=hid f
    clear f
    go_wp2
    go_roundw
    case rel =>
     refine ⟨k+1,m.set k (sb l k),by omega,by go_num,?_,hid (by rw [List.length_set]; exact D.out),hid ?_⟩
     ·have:=z.out.set k (sb l k)
      rw [E.out] at this
      simpa using hid this
     ·intro j M
      rw [List.getElem?_set]
      by_cases h:k=j
      ·subst h; rw [if_pos rfl,if_pos (by have:=D.out; omega)]
      ·rw [if_neg h]; exact K.out j (by omega)
    case measure=>simp [intOf]; omega
   ·have J:(k:Int) % 4=1:=by omega
    have E:=hid (sb_val l k 1 f)
    rw [← R.out] at E
    have Z:=hid f
    clear f
    go_wp2
    go_roundw
    case rel =>
     refine ⟨k+1,m.set k (sb l k),by omega,by go_num,?_,hid (by rw [List.length_set]; exact D.out),hid ?_⟩
     ·have:=z.out.set k (sb l k)
      rw [E.out] at this
      simpa using hid this
     ·intro j M
      rw [List.getElem?_set]
      by_cases h:k=j
      ·subst h; rw [if_pos rfl,if_pos (by have:=D.out; omega)]
      ·rw [if_neg h]; exact K.out j (by omega)
    case measure=>simp [intOf]; omega
   ·have J:(k:Int) % 4=2:=by omega
    have E:=hid (sb_val l k 2 f)
    rw [← R.out] at E
    have Z:=hid f
    clear f
    go_wp2
    go_roundw
    case rel =>
     refine ⟨k+1,m.set k (sb l k),by omega,by go_num,?_,hid (by rw [List.length_set]; exact D.out),hid ?_⟩
     ·have:=z.out.set k (sb l k)
      rw [E.out] at this
      simpa using hid this
     ·intro j M
      rw [List.getElem?_set]
      by_cases h:k=j
      ·subst h; rw [if_pos rfl,if_pos (by have:=D.out; omega)]
      ·rw [if_neg h]; exact K.out j (by omega)
    case measure=>simp [intOf]; omega
   ·have J:(k:Int) % 4=3:=by omega
    have E:=hid (sb_val l k 3 f)
    rw [← R.out] at E
    have Z:=hid f
    clear f
    go_wp2
    go_roundw
    case rel =>
     refine ⟨k+1,m.set k (sb l k),by omega,by go_num,?_,hid (by rw [List.length_set]; exact D.out),hid ?_⟩
     ·have:=z.out.set k (sb l k)
      rw [E.out] at this
      simpa using hid this
     ·intro j M
      rw [List.getElem?_set]
      by_cases h:k=j
      ·subst h; rw [if_pos rfl,if_pos (by have:=D.out; omega)]
      ·rw [if_neg h]; exact K.out j (by omega)
    case measure=>simp [intOf]; omega
  ·obtain rfl:k=32:=by omega
   have L:m=spell l:=by
    apply List.ext_getElem?
    intro j
    rcases Nat.lt_or_ge j 32 with h | h
    ·rw [K.out j h,spell_at l j (by have:=U.out; omega)]; rfl
    ·rw [List.getElem?_eq_none (by have:=D.out; omega),List.getElem?_eq_none (by rw [spell_length,U.out]; exact h)]
   have I:Hid (Tl w l (spell l) wr):=hid (L ▸ z.out)
   have O:=hid (show (spell l).length=32 by rw [spell_length,U.out])
   clear z D K L
   generalize f:spell l=r at *
   have Y:=hid f
   clear f
   have HI:=hi44 r O.out
   have ab:Hid ((au (List.replicate 32 0)).toArray.size=(au r).toArray.size):=hid (by rw [aw,aw,O.out,List.length_replicate])
   have HZ:=hid (I.out.z.row (m:=r))
   have al:=hid (p:=Below w.heap.size w (wr.setRow (w.heap.size+1) (au r).toArray)) (below_setRow I.out.below (Nat.le_succ _) _)
   go_upto_region 7 with fail
   have ad:=bF r
   have G:=I.out.m
   have F:=I.out.z
   unfold Bt at G F
   have G:=hid G
   have F:=hid F
   go_wp2_with (first | (refine wpList_load_row rfl 28 (.tmp 3) rfl (w.heap.size+1+1) rfl 28 (au r).toArray (0,0) _ G.out Tryz.underlying28 rfl HI.out ?_) | (refine wpList_store_row rfl 28 (.tmp 2) (.tmp 21) rfl (w.heap.size+1) (au r).toArray rfl rfl 28 _ F.out HI.out ab.out ad ?_))
   exact bodyPost_ret (v:=.agg (au r).toArray) (results_cell_row (p:=2) (ty:=28) Tryz.results120 _ _ (w.heap.size+1) 28 (au r).toArray (0,0) _ rfl HZ.out Tryz.underlying28 rfl HI.out) rfl ⟨by rw [Y.out],al.out⟩
theorem squares_any (w:World):Calls Tryz.prog 116 #[] w fun e w'=>e=.returned (.agg (dv hh).toArray)∧Below w.heap.size w w':=by
 go_enter Tryz.func116,Tryz.ntmps116
 go_wp2
 have h:(w.alloc (.cells (dv hh).toArray 130)).heap[w.heap.size]?=some (.cells (dv hh).toArray 130):=heap_alloc_new w (.cells (dv hh).toArray 130)
 exact bodyPost_ret (v:=.agg (dv hh).toArray) (results_cell_row (p:=0) (ty:=130) Tryz.results116 _ _ w.heap.size 130 (dv hh).toArray (0,0) _ rfl h Tryz.underlying130 rfl (hi57 hh rfl).out) rfl ⟨rfl,(Below.refl _ _).alloc (Nat.le_refl _) _⟩
theorem there_any (g:Nat) (t:Bool) (w:World) (h:w.cell? ⟨g,0,none⟩=some (.bool t)):Calls Tryz.prog 118 #[.pointer (some ⟨g,0,none⟩)] w fun e w'=>e=.returned (.bool t)∧w=w':=by
 go_enter Tryz.func118,Tryz.ntmps118
 go_wp2
 go_ret
 exact ⟨rfl,rfl⟩
theorem new_any (w:World):Calls Tryz.prog 101 #[] w fun e w'=>(∃ g,e=.returned (.pointer (some ⟨g,0,none⟩))∧w.heap.size≤g∧dQ w' g [])∧Below w.heap.size w w':=by
 go_enter Tryz.func101,Tryz.ntmps101
 go_wp2_with fail
 refine (squares_any w).mono ?_
 rintro e w1 ⟨rfl,hb⟩
 go_wp2
 have hc:List.foldl (fun (E:Array Value) (x:Value×Nat)=>E.setIfInBounds (1+x.snd) x.fst) (Tryz.zeroCells135.setIfInBounds 0 (Value.bool true)) (dv hh).zipIdx=(rc hh (List.replicate 64 0) 0).toArray:=by kernel_rfl
 rw [hc]
 have z:dQ (w1.alloc (.cells (rc hh (List.replicate 64 0) 0).toArray 135)) w1.heap.size []:=⟨List.replicate 64 0,rfl,rfl,heap_alloc_new _ _⟩
 have D:Below w.heap.size w (w1.alloc (.cells (rc hh (List.replicate 64 0) 0).toArray 135)):=hb.alloc hb.size _
 have f:=hb.size
 exact bodyPost_ret (v:=.pointer (some ⟨w1.heap.size,0,none⟩)) (by simp [results,Tryz.results101,go_sem]) rfl ⟨⟨w1.heap.size,rfl,f,z⟩,D⟩
theorem run_make_u64 (w:World) (n:Nat) (h:n≤281474976710656) :
  (Instr.makeSlice 66 (.int .u64 (n:Int)) (.int .u64 (n:Int))).run Tryz.prog w=.ok (.slice (some ⟨w.heap.size,0,none⟩) n n) (w.alloc (.cells (au (List.replicate n 0)).toArray 5)):=by
 obtain ⟨D,hi,z,E,f⟩:=info_parts u8_info
 have:=run_make (P:=Tryz.prog) w 66 5 D (.int .u8 0) Tryz.underlying66 hi z .u64 .u64 (n:Int) (n:Int) (by omega) (by omega) (by rw [f]; omega) (by omega)
 rw [this,E,Int.toNat_natCast,Nat.mul_one,made_bytes]
theorem ending_any (n:Nat) (w:World) (U:n≤140737488355328) :
  Calls Tryz.prog 119 #[.int .u64 (n:Int)] w fun e w'=>(∃ g k,e=.returned (.slice (some ⟨g,0,none⟩) k k)∧k=(tail n).length∧w.heap.size≤g∧Row w' g (tail n))∧Below w.heap.size w w':=by
 obtain ⟨q,K⟩:∃ q,q=bD n:=⟨_,rfl⟩
 have E:=K
 unfold bD at E
 have f:q<64:=by omega
 have ho:(IntKind.u64.wrap (55 - (n:Int))) % 64=(q:Int):=by rw [IntKind.wrap_u64]; omega
 have ab:(IntKind.u64.wrap (55 - (n:Int))).tmod 64=(q:Int):=by rw [Int.tmod_eq_emod_of_nonneg (by rw [IntKind.wrap_u64]; omega)]; exact ho
 obtain ⟨k,Y⟩:∃ k,k=q+1:=⟨_,rfl⟩
 have hw:IntKind.u64.wrap (1+(q:Int))=(k:Int):=by rw [IntKind.wrap_u64]; omega
 have ad:=run_make_u64 w k (by omega)
 have h8:IntKind.u64.wrap (8 * (n:Int))=((8 * n:Nat):Int):=by rw [IntKind.wrap_u64]; omega
 have Z:=hid K
 have J:=hid Y
 have HN:=hid U
 have G:=hid f
 clear K E U Y f
 go_enter Tryz.func119,Tryz.ntmps119
 go_upto_region 3 with fail
 have R:Hid (Row (w.alloc (.cells (au (List.replicate k 0)).toArray 5)) w.heap.size (List.replicate k 0)):=hid (heap_alloc_new _ _)
 have HB:=hid ((Below.refl w.heap.size w).alloc (Nat.le_refl _) (.cells (au (List.replicate k 0)).toArray 5))
 generalize w.alloc (.cells (au (List.replicate k 0)).toArray 5)=w1 at *
 have hc:=R.out.cell 0 (by have:=J.out; simp; omega)
 have hf:=R.out.frozen 0
 have hk0:0<k:=by have:=J.out; omega
 have F:=hid (R.out.set 0 128)
 have D:=hid (p:=Below w.heap.size w (w1.setCell ⟨w.heap.size,0,none⟩ (.int .u8 128))) (HB.out.setCell (Nat.le_refl _) _)
 go_upto_region 4 with fail
 have e0:(((128:UInt8).toNat:Nat):Int)=128:=rfl
 rw [e0] at F
 have al:=hid hc
 have an:=hid hf
 clear hc hf
 generalize w1.setCell ⟨w.heap.size,0,none⟩ (.int .u8 128)=w2 at *
 go_wp2_with fail
 have I:=hid (show ((List.replicate k (0:UInt8)).set 0 128).length=k by simp)
 have M:=hid (show (List.replicate k (0:UInt8)).set 0 128 ++ be (8 * n) 8=tail n by
  rw [J.out,Z.out,List.replicate_succ,List.set_cons_zero,tail]; rfl)
 have z:=put_any (some ⟨w.heap.size,0,none⟩) k (8 * n) 8 8 ((List.replicate k (0:UInt8)).set 0 128) w2 F.out.rd0 (by rw [I.out]; have:=J.out; have:=G.out; omega) (by have:=HN.out; omega) (by decide)
 rw [I.out,M.out] at z
 refine z.mono ?_
 rintro e w3 ⟨rfl,O,L⟩
 have V:k+8=(tail n).length:=by rw [dP,J.out,Z.out]; omega
 have hB:=D.out.trans (L.mono D.out.size)
 have hs:=D.out.size
 go_wp2
 go_ret
 exact ⟨⟨w2.heap.size,(tail n).length,rfl,rfl,hs,O⟩,hB⟩
theorem i61:(Tryz.prog.info? 135).map (·.size)=some 74:=by kernel_rfl
theorem below_grown {B g:Nat} {w w1 w2:World} (h:Below B w w1) (k:w1.grownBy w2 (some g)) (f:B≤g) (z:B≤w1.heap.size):Below B w w2 :=
 h.trans ⟨k.os,k.tape,k.output,k.size,fun i hi=>k.block i (by omega) (by intro e; injection e with e; omega)⟩
theorem rc_all (l:List Nat) (b:List UInt8) (n:Nat):(rc l b n).toArray.all (·.oneCell')=true:=by
 refine all_oneCell_toArray (fun v f=>?_)
 simp only [rc,List.mem_cons,List.mem_append,List.not_mem_nil,or_false] at f
 rcases f with rfl | h | h | rfl
 ·rfl
 ·exact dv_one l v h
 ·exact bvs_one b v h
 ·rfl
theorem rc_size {l:List Nat} {b:List UInt8} (n:Nat) (f:l.length=8) (hb:b.length=64):(rc l b n).toArray.size=74:=by rw [List.size_toArray,rc_length n f hb]
theorem sum_boxes (w w1:World) (g:Nat) (bs:List UInt8) (b:List UInt8) (old:Array Value) (F:Below w.heap.size w w1) (G:w.heap.size<w1.heap.size) (D:Bt w1 w.heap.size 28 (List.replicate 32 0))
  (z:Rn w1 g (eat hh bs (bs.length / 64)) b bs.length) (hb:b.length=64) (E:b.take (bs.length % 64)=bs.drop (64 * (bs.length / 64))) :
  ∃ w2,(w1.alloc (.cells old 135)).setRow w1.heap.size (rc (eat hh bs (bs.length / 64)) b bs.length).toArray=w2∧Hid (Below w.heap.size w w2)∧Hid (Bt w2 w.heap.size 28 (List.replicate 32 0))∧Hid (dQ w2 w1.heap.size bs)∧Hid (Rn w2 g (eat hh bs (bs.length / 64)) b bs.length)∧Hid (w1.heap.size<w2.heap.size):=by
 refine ⟨_,rfl,?_⟩
 rw [World.setRow_alloc_new]
 have f:Below w1.heap.size w1 (w1.alloc (.cells (rc (eat hh bs (bs.length / 64)) b bs.length).toArray 135)):=(Below.refl _ _).alloc (Nat.le_refl _) _
 exact ⟨hid (F.trans (f.mono (by omega))),hid (D.on f),hid ⟨b,hb,E,heap_alloc_new _ _⟩,hid ((f.block g z.lt).trans z),hid (by simp)⟩
theorem sum_any (g:Nat) (bs:List UInt8) (w:World) (hR:dQ w g bs) (hK:Kt w) (hl:bs.length≤70368744177664) :
  Calls Tryz.prog 105 #[.pointer (some ⟨g,0,none⟩)] w fun e w'=>e=.returned (.agg (au (sha bs)).toArray)∧Below w.heap.size w w':=by
 obtain ⟨b,hb,ht,hR⟩:=hR
 have HB:=hid hb
 have HT:=hid ht
 have HR:=hid hR
 have HK:=hid hK
 have HL:=hid hl
 clear hb ht hR hK hl
 go_enter Tryz.func105,Tryz.ntmps105
 go_wp2_with fail
 have F:Hid (Rn (w.alloc (.cells #[.int .u8 0,.int .u8 0,.int .u8 0,.int .u8 0,.int .u8 0,.int .u8 0,.int .u8 0,.int .u8 0,.int .u8 0,.int .u8 0,.int .u8 0,.int .u8 0,.int .u8 0,.int .u8 0,.int .u8 0,.int .u8 0,.int .u8 0,.int .u8 0,.int .u8 0,.int .u8 0,.int .u8 0,.int .u8 0,.int .u8 0,.int .u8 0,.int .u8 0,.int .u8 0,.int .u8 0,.int .u8 0,.int .u8 0,.int .u8 0,.int .u8 0,.int .u8 0] 28)) g (eat hh bs (bs.length / 64)) b bs.length):=hid ((((Below.refl _ _).alloc (Nat.le_refl _) _:Below w.heap.size w (w.alloc (.cells #[.int .u8 0,.int .u8 0,.int .u8 0,.int .u8 0,.int .u8 0,.int .u8 0,.int .u8 0,.int .u8 0,.int .u8 0,.int .u8 0,.int .u8 0,.int .u8 0,.int .u8 0,.int .u8 0,.int .u8 0,.int .u8 0,.int .u8 0,.int .u8 0,.int .u8 0,.int .u8 0,.int .u8 0,.int .u8 0,.int .u8 0,.int .u8 0,.int .u8 0,.int .u8 0,.int .u8 0,.int .u8 0,.int .u8 0,.int .u8 0,.int .u8 0,.int .u8 0] 28))).block g HR.out.lt).trans HR.out)
 have ap:Hid (Bt (w.alloc (.cells #[.int .u8 0,.int .u8 0,.int .u8 0,.int .u8 0,.int .u8 0,.int .u8 0,.int .u8 0,.int .u8 0,.int .u8 0,.int .u8 0,.int .u8 0,.int .u8 0,.int .u8 0,.int .u8 0,.int .u8 0,.int .u8 0,.int .u8 0,.int .u8 0,.int .u8 0,.int .u8 0,.int .u8 0,.int .u8 0,.int .u8 0,.int .u8 0,.int .u8 0,.int .u8 0,.int .u8 0,.int .u8 0,.int .u8 0,.int .u8 0,.int .u8 0,.int .u8 0] 28)) w.heap.size 28 (List.replicate 32 0)):=hid (heap_alloc_new w _)
 have I:Hid (Below w.heap.size w (w.alloc (.cells #[.int .u8 0,.int .u8 0,.int .u8 0,.int .u8 0,.int .u8 0,.int .u8 0,.int .u8 0,.int .u8 0,.int .u8 0,.int .u8 0,.int .u8 0,.int .u8 0,.int .u8 0,.int .u8 0,.int .u8 0,.int .u8 0,.int .u8 0,.int .u8 0,.int .u8 0,.int .u8 0,.int .u8 0,.int .u8 0,.int .u8 0,.int .u8 0,.int .u8 0,.int .u8 0,.int .u8 0,.int .u8 0,.int .u8 0,.int .u8 0,.int .u8 0,.int .u8 0] 28))):=hid ((Below.refl _ _).alloc (Nat.le_refl _) _)
 have U:Hid (w.heap.size<(w.alloc (.cells #[.int .u8 0,.int .u8 0,.int .u8 0,.int .u8 0,.int .u8 0,.int .u8 0,.int .u8 0,.int .u8 0,.int .u8 0,.int .u8 0,.int .u8 0,.int .u8 0,.int .u8 0,.int .u8 0,.int .u8 0,.int .u8 0,.int .u8 0,.int .u8 0,.int .u8 0,.int .u8 0,.int .u8 0,.int .u8 0,.int .u8 0,.int .u8 0,.int .u8 0,.int .u8 0,.int .u8 0,.int .u8 0,.int .u8 0,.int .u8 0,.int .u8 0,.int .u8 0] 28)).heap.size):=hid (by simp)
 generalize w.alloc (.cells #[.int .u8 0,.int .u8 0,.int .u8 0,.int .u8 0,.int .u8 0,.int .u8 0,.int .u8 0,.int .u8 0,.int .u8 0,.int .u8 0,.int .u8 0,.int .u8 0,.int .u8 0,.int .u8 0,.int .u8 0,.int .u8 0,.int .u8 0,.int .u8 0,.int .u8 0,.int .u8 0,.int .u8 0,.int .u8 0,.int .u8 0,.int .u8 0,.int .u8 0,.int .u8 0,.int .u8 0,.int .u8 0,.int .u8 0,.int .u8 0,.int .u8 0,.int .u8 0] 28)=w1 at *
 refine (there_any g true w1 F.out.made).mono ?_
 rintro e wt ⟨rfl,rfl⟩
 have HI:Hid ((Tryz.prog.info? 135).map (·.size)=some (rc (eat hh bs (bs.length / 64)) b bs.length).toArray.size):=hid (by rw [rc_size _ (so_length _ _) HB.out]; exact i61)
 have z:=F.out
 unfold Rn at z
 have z:=hid z
 have aG:=rc_all (eat hh bs (bs.length / 64)) b bs.length
 have ar:=hid (rc_size bs.length (so_length bs (bs.length / 64)) HB.out)
 go_upto_region 3 with fail
 obtain ⟨w2,V,G,O,aT,az,ay⟩:=sum_boxes w w1 g bs b Tryz.zeroCells135 I.out U.out ap.out F.out HB.out HT.out
 have bn:=az.out.count (so_length _ _) HB.out
 generalize (rc (eat hh bs (bs.length / 64)) b bs.length).toArray=R at *
 go_wp2_with (first | (refine wpList_load_row rfl 135 (.tmp 9) rfl g rfl 135 R (0,0) _ z.out Tryz.underlying135 rfl HI.out ?_) | (refine wpList_store_row rfl 135 (.tmp 3) (.tmp 10) rfl w1.heap.size R rfl rfl 135 _ (heap_alloc_new _ _) HI.out (by rw [ar.out]; rfl) aG ?_; rw [V]))
 have aW:=hid (HK.out.on G.out)
 have bm:=hid (Nat.ne_of_lt (Nat.lt_of_lt_of_le HK.out.lt I.out.size))
 have aM:=hid I.out.size
 have aN:=hid U.out
 generalize w1.heap.size=g3 at *
 clear V z aG ar HI F ap I U
 refine (ending_any bs.length w2 (by have:=HL.out; omega)).mono ?_
 rintro e w3 ⟨⟨ge,k,rfl,hk,ab,J⟩,al⟩
 have ba:=hid ab
 have aA:=hid J
 have f:=hid al
 have aC:=hid hk
 clear ab J al hk
 go_wp2_with fail
 have aJ:g3≠ge:=Nat.ne_of_lt (Nat.lt_of_lt_of_le ay.out ba.out)
 refine (add_any g3 (some ⟨ge,0,none⟩) k bs (tail bs.length) w3 k aC.out.symm (aT.out.heap (f.out.block g3 ay.out)) aA.out.rd0 (fun _ ad e=>by injection e with e; subst e; exact aJ.symm) (Nat.le_refl _) (aW.out.on f.out) bm.out (by have:=HL.out; rw [aC.out,dP]; unfold bD; omega)).mono ?_
 rintro e w4 ⟨rfl,Z,M⟩
 have aS:=hid Z
 have aE:=hid (below_grown (G.out.trans (f.out.mono G.out.size)) M aM.out (Nat.le_trans G.out.size f.out.size))
 have aL:=hid (show Bt w4 w.heap.size 28 (List.replicate 32 0) from (M.block w.heap.size (Nat.lt_of_lt_of_le O.out.lt f.out.size) (by intro e; injection e with e; have:=aN.out; omega)).trans ((f.out.block _ O.out.lt).trans O.out))
 clear Z M
 obtain ⟨b5,D,aI,Y⟩:=aS.out
 have aR:=hid Y.so
 have hE:Hid (sha bs=spell (eat hh (bs ++ tail bs.length) ((bs ++ tail bs.length).length / 64))):=hid rfl
 have aB:=hid (so_length (bs ++ tail bs.length) ((bs ++ tail bs.length).length / 64))
 clear D aI Y
 generalize eat hh (bs ++ tail bs.length) ((bs ++ tail bs.length).length / 64)=so at *
 have K:=hi57 so aB.out
 rw [dx,← cC] at K
 go_wp2_with (refine wpList_load_mid rfl 130 (.tmp 17) rfl g3 1 rfl (dv so) _ aR.out Tryz.underlying130 rfl K.out ?_)
 refine (tell_any' so w4 aB.out).mono ?_
 rintro e w5 ⟨rfl,D⟩
 have an:=hE.out
 rw [← an]
 clear an
 have ao:=hid (aL.out.on D)
 have bk:=hid (aE.out.trans (D.mono aE.out.size))
 have ax:=hid (dD bs)
 generalize hr:sha bs=r at *
 have aQ:=hid hr
 clear hr
 have L:=hi44 r ax.out
 have aU:Hid ((au (List.replicate 32 0)).toArray.size=(au r).toArray.size):=hid (by rw [aw,aw,ax.out,List.length_replicate])
 have aK:=hid (ao.out.row (m:=r))
 have bd:=hid (p:=Below w.heap.size w (w5.setRow w.heap.size (au r).toArray)) (below_setRow bk.out (Nat.le_refl _) _)
 have bb:=bF r
 have E:=ao.out
 unfold Bt at E
 have E:=hid E
 go_wp2_with (refine wpList_store_row rfl 28 (.tmp 2) (.tmp 19) rfl w.heap.size (au r).toArray rfl rfl 28 _ E.out L.out aU.out bb ?_)
 exact bodyPost_ret (v:=.agg (au r).toArray) (results_cell_row (p:=2) (ty:=28) Tryz.results105 _ _ w.heap.size 28 (au r).toArray (0,0) _ rfl aK.out Tryz.underlying28 rfl L.out) rfl ⟨by rw [aQ.out],bd.out⟩
def dig (n:Nat):ByteArray:=⟨#[([48,49,50,51,52,53,54,55,56,57,97,98,99,100,101,102]:List UInt8).getD n 0]⟩
def hexs (b:List UInt8):Nat→ByteArray
 | 0=>⟨#[]⟩
 | n+1=>(hexs b n ++ dig ((b.getD n 0).toNat / 16)) ++ dig ((b.getD n 0).toNat % 16)
theorem rot_eq2 (x n:Nat) (f:x<4294967296):bits .or .u32 ((x:Int) / ((2 ^ n:Nat):Int)) (IntKind.u32.wrap ((x:Int) * ((2 ^ (32 - n):Nat):Int)))=((br x n:Nat):Int):=by
 have D:IntKind.u32.wrap ((x:Int) * ((2 ^ (32 - n):Nat):Int))=((x * 2 ^ (32 - n) % 4294967296:Nat):Int):=by rw [IntKind.wrap_u32]; omega
 have z:(x:Int) / ((2 ^ n:Nat):Int)=((x / 2 ^ n:Nat):Int):=by omega
 rw [D,z,u32_or_nat _ _ (dn_lt _ f) (Nat.mod_lt _ (by decide)),br]
theorem round_2 (x:Nat) (w:World) (f:x<4294967296):Calls Tryz.prog 121 #[.int .u32 x,.int .u64 2] w fun e w'=>e=.returned (.int .u32 (br x 2:Nat))∧w=w':=by
 have hb:IntKind.u64.wrap (32 - 2)=30:=by decide +kernel
 go_enter Tryz.func121,Tryz.ntmps121
 go_wp2
 go_ret
 exact ⟨by rw [← rot_eq2 x 2 f]; rfl,rfl⟩
theorem round_6 (x:Nat) (w:World) (f:x<4294967296):Calls Tryz.prog 121 #[.int .u32 x,.int .u64 6] w fun e w'=>e=.returned (.int .u32 (br x 6:Nat))∧w=w':=by
 have hb:IntKind.u64.wrap (32 - 6)=26:=by decide +kernel
 go_enter Tryz.func121,Tryz.ntmps121
 go_wp2
 go_ret
 exact ⟨by rw [← rot_eq2 x 6 f]; rfl,rfl⟩
theorem round_7 (x:Nat) (w:World) (f:x<4294967296):Calls Tryz.prog 121 #[.int .u32 x,.int .u64 7] w fun e w'=>e=.returned (.int .u32 (br x 7:Nat))∧w=w':=by
 have hb:IntKind.u64.wrap (32 - 7)=25:=by decide +kernel
 go_enter Tryz.func121,Tryz.ntmps121
 go_wp2
 go_ret
 exact ⟨by rw [← rot_eq2 x 7 f]; rfl,rfl⟩
theorem round_11 (x:Nat) (w:World) (f:x<4294967296):Calls Tryz.prog 121 #[.int .u32 x,.int .u64 11] w fun e w'=>e=.returned (.int .u32 (br x 11:Nat))∧w=w':=by
 have hb:IntKind.u64.wrap (32 - 11)=21:=by decide +kernel
 go_enter Tryz.func121,Tryz.ntmps121
 go_wp2
 go_ret
 exact ⟨by rw [← rot_eq2 x 11 f]; rfl,rfl⟩
theorem round_13 (x:Nat) (w:World) (f:x<4294967296):Calls Tryz.prog 121 #[.int .u32 x,.int .u64 13] w fun e w'=>e=.returned (.int .u32 (br x 13:Nat))∧w=w':=by
 have hb:IntKind.u64.wrap (32 - 13)=19:=by decide +kernel
 go_enter Tryz.func121,Tryz.ntmps121
 go_wp2
 go_ret
 exact ⟨by rw [← rot_eq2 x 13 f]; rfl,rfl⟩
theorem round_17 (x:Nat) (w:World) (f:x<4294967296):Calls Tryz.prog 121 #[.int .u32 x,.int .u64 17] w fun e w'=>e=.returned (.int .u32 (br x 17:Nat))∧w=w':=by
 have hb:IntKind.u64.wrap (32 - 17)=15:=by decide +kernel
 go_enter Tryz.func121,Tryz.ntmps121
 go_wp2
 go_ret
 exact ⟨by rw [← rot_eq2 x 17 f]; rfl,rfl⟩
theorem round_18 (x:Nat) (w:World) (f:x<4294967296):Calls Tryz.prog 121 #[.int .u32 x,.int .u64 18] w fun e w'=>e=.returned (.int .u32 (br x 18:Nat))∧w=w':=by
 have hb:IntKind.u64.wrap (32 - 18)=14:=by decide +kernel
 go_enter Tryz.func121,Tryz.ntmps121
 go_wp2
 go_ret
 exact ⟨by rw [← rot_eq2 x 18 f]; rfl,rfl⟩
theorem round_19 (x:Nat) (w:World) (f:x<4294967296):Calls Tryz.prog 121 #[.int .u32 x,.int .u64 19] w fun e w'=>e=.returned (.int .u32 (br x 19:Nat))∧w=w':=by
 have hb:IntKind.u64.wrap (32 - 19)=13:=by decide +kernel
 go_enter Tryz.func121,Tryz.ntmps121
 go_wp2
 go_ret
 exact ⟨by rw [← rot_eq2 x 19 f]; rfl,rfl⟩
theorem round_22 (x:Nat) (w:World) (f:x<4294967296):Calls Tryz.prog 121 #[.int .u32 x,.int .u64 22] w fun e w'=>e=.returned (.int .u32 (br x 22:Nat))∧w=w':=by
 have hb:IntKind.u64.wrap (32 - 22)=10:=by decide +kernel
 go_enter Tryz.func121,Tryz.ntmps121
 go_wp2
 go_ret
 exact ⟨by rw [← rot_eq2 x 22 f]; rfl,rfl⟩
theorem round_25 (x:Nat) (w:World) (f:x<4294967296):Calls Tryz.prog 121 #[.int .u32 x,.int .u64 25] w fun e w'=>e=.returned (.int .u32 (br x 25:Nat))∧w=w':=by
 have hb:IntKind.u64.wrap (32 - 25)=7:=by decide +kernel
 go_enter Tryz.func121,Tryz.ntmps121
 go_wp2
 go_ret
 exact ⟨by rw [← rot_eq2 x 25 f]; rfl,rfl⟩
theorem table_any (w:World):Calls Tryz.prog 109 #[] w fun e w'=>e=.returned (.slice (some ⟨w.heap.size,0,none⟩) 64 64)∧Hid (Us w' w.heap.size 70 kk)∧Below w.heap.size w w':=by
 go_enter Tryz.func109,Tryz.ntmps109
 go_wp2
 have h:Us (w.alloc (.cells (dv kk).toArray 70)) w.heap.size 70 kk:=heap_alloc_new w _
 have f:Below w.heap.size w (w.alloc (.cells (dv kk).toArray 70)):=(Below.refl _ _).alloc (Nat.le_refl _) _
 go_ret
 exact ⟨rfl,hid h,f⟩
structure Rb (w:World) (h:List Nat) (b:List UInt8) (gb o gt:Nat) (l:List Nat) (w':World):Prop where
 below:Below w.heap.size w w'
 n:Us w' w.heap.size 71 h
 z:Us w' (w.heap.size+1) 71 (List.replicate 8 0)
 l:Us w' (w.heap.size+1+1) 139 l
 b:∀ j,(hj:j<b.length)→w.cell? ⟨gb,o+j,none⟩=some (.int .u8 ((b[j].toNat:Nat):Int))
 hb:gb<w.heap.size
 k:Us w gt 70 kk
theorem Rb.bytes {w w':World} {h:List Nat} {b:List UInt8} {gb o gt:Nat} {l:List Nat} (H:Rb w h b gb o gt l w') (j:Nat) (f:j<b.length):w'.cell? ⟨gb,o+j,none⟩=some (.int .u8 ((b[j].toNat:Nat):Int)) :=
 (H.below.cell (p:=⟨gb,o+j,none⟩) H.hb).trans (H.b j f)
theorem Rb.kt {w w':World} {h:List Nat} {b:List UInt8} {gb o gt:Nat} {l:List Nat} (H:Rb w h b gb o gt l w'):Us w' gt 70 kk:=H.k.on H.below
theorem Rb.init (w:World) (h:List Nat) (b:List UInt8) (gb o gt:Nat) (hb:∀ j,(D:j<b.length)→w.cell? ⟨gb,o+j,none⟩=some (.int .u8 ((b[j].toNat:Nat):Int))) (z:gb<w.heap.size) (f:Us w gt 70 kk) :
  Hid (Rb w h b gb o gt (List.replicate 64 0) (((w.alloc (.cells (dv h).toArray 71)).alloc (.cells #[.int .u32 0,.int .u32 0,.int .u32 0,.int .u32 0,.int .u32 0,.int .u32 0,.int .u32 0,.int .u32 0] 71)).alloc (.cells #[.int .u32 0,.int .u32 0,.int .u32 0,.int .u32 0,.int .u32 0,.int .u32 0,.int .u32 0,.int .u32 0,.int .u32 0,.int .u32 0,.int .u32 0,.int .u32 0,.int .u32 0,.int .u32 0,.int .u32 0,.int .u32 0,.int .u32 0,.int .u32 0,.int .u32 0,.int .u32 0,.int .u32 0,.int .u32 0,.int .u32 0,.int .u32 0,.int .u32 0,.int .u32 0,.int .u32 0,.int .u32 0,.int .u32 0,.int .u32 0,.int .u32 0,.int .u32 0,.int .u32 0,.int .u32 0,.int .u32 0,.int .u32 0,.int .u32 0,.int .u32 0,.int .u32 0,.int .u32 0,.int .u32 0,.int .u32 0,.int .u32 0,.int .u32 0,.int .u32 0,.int .u32 0,.int .u32 0,.int .u32 0,.int .u32 0,.int .u32 0,.int .u32 0,.int .u32 0,.int .u32 0,.int .u32 0,.int .u32 0,.int .u32 0,.int .u32 0,.int .u32 0,.int .u32 0,.int .u32 0,.int .u32 0,.int .u32 0,.int .u32 0,.int .u32 0] 139))):=by
 have s1:∀ (w:World) (o:Obj),(w.alloc o).heap.size=w.heap.size+1:=fun w o=>Array.size_push _
 refine hid ⟨(((Below.refl _ _).alloc (Nat.le_refl _) _).alloc (by rw [s1]; omega) _).alloc (by rw [s1,s1]; omega) _,Us.alloc (Us.alloc (heap_alloc_new _ _) _) _,Us.alloc ?_ _,?_,hb,z,f⟩
 ·rw [← s1 w (.cells (dv h).toArray 71)]; exact heap_alloc_new _ _
 ·rw [← s1 w (.cells (dv h).toArray 71),← s1 _ (.cells #[.int .u32 0,.int .u32 0,.int .u32 0,.int .u32 0,.int .u32 0,.int .u32 0,.int .u32 0,.int .u32 0] 71)]; exact heap_alloc_new _ _
theorem Rb.set {w w':World} {h:List Nat} {b:List UInt8} {gb o gt:Nat} {l:List Nat} (H:Rb w h b gb o gt l w') (k v:Nat):Rb w h b gb o gt (l.set k v) (w'.setCell ⟨w.heap.size+1+1,k,none⟩ (.int .u32 (v:Int))) :=
 ⟨H.below.setCell (by simp; omega) _,H.n.other _ (by omega),H.z.other _ (by omega),H.l.set k v,H.b,H.hb,H.k⟩
theorem Rb.drew {w w':World} {h:List Nat} {b:List UInt8} {gb o gt:Nat} {l:List Nat} (H:Rb w h b gb o gt l w'):Rb w h b gb o gt l w'.drew:=⟨H.below.drew,H.n,H.z,H.l,H.b,H.hb,H.k⟩
theorem sh_or (b c i:Nat) (h:c<2 ^ i):b * 2 ^ i ||| c=b * 2 ^ i+c:=by
 have h:=Nat.shiftLeft_add_eq_or_of_lt h b
 rw [Nat.shiftLeft_eq] at h
 exact h.symm
theorem or_a (b0 b1:Nat) (f:b1<256):b0 * 16777216 ||| b1 * 65536=b0 * 16777216+b1 * 65536:=sh_or b0 (b1 * 65536) 24 (by omega)
theorem or_b (b0 b1 f:Nat) (z:f<256):(b0 * 16777216+b1 * 65536) ||| f * 256=b0 * 16777216+b1 * 65536+f * 256:=by
 have h:=sh_or (b0 * 256+b1) (f * 256) 16 (by omega)
 have e:(b0 * 256+b1) * 2 ^ 16=b0 * 16777216+b1 * 65536:=by omega
 rw [e] at h; exact h
theorem or_c (b0 b1 f z:Nat) (D:z<256):(b0 * 16777216+b1 * 65536+f * 256) ||| z=b0 * 16777216+b1 * 65536+f * 256+z:=by
 have h:=sh_or (b0 * 65536+b1 * 256+f) z 8 (by omega)
 have e:(b0 * 65536+b1 * 256+f) * 2 ^ 8=b0 * 16777216+b1 * 65536+f * 256:=by omega
 rw [e] at h; exact h
theorem four_eq (b0 b1 f z:Nat) (L:b0<256) (F:b1<256) (E:f<256) (D:z<256) :
  bits .or .u32 (bits .or .u32 (bits .or .u32 ((b0:Int) % 4294967296 * 16777216 % 4294967296) ((b1:Int) % 4294967296 * 65536 % 4294967296)) ((f:Int) % 4294967296 * 256 % 4294967296)) ((z:Int) % 4294967296)=((b0 * 16777216+b1 * 65536+f * 256+z:Nat):Int):=by
 have G:(z:Int) % 4294967296=(z:Int):=by omega
 have K:(b0:Int) % 4294967296 * 16777216 % 4294967296=((b0 * 16777216:Nat):Int):=by omega
 have J:(b1:Int) % 4294967296 * 65536 % 4294967296=((b1 * 65536:Nat):Int):=by omega
 have I:(f:Int) % 4294967296 * 256 % 4294967296=((f * 256:Nat):Int):=by omega
 have s0:=or_a b0 b1 F
 have s1:=or_b b0 b1 f E
 have s2:=or_c b0 b1 f z D
 rw [K,J,I,G,u32_or_nat _ _ (by omega) (by omega),s0,u32_or_nat _ _ (by omega) (by omega),s1,u32_or_nat _ _ (by omega) (by omega),s2]
theorem tell4 (b:List UInt8) (k:Nat) (h:4 * k+3<b.length):aF ((b.drop (4 * k)).take 4)=b[4 * k].toNat * 16777216+b[4 * k+1].toNat * 65536+b[4 * k+2].toNat * 256+b[4 * k+3].toNat:=by
 rw [List.drop_eq_getElem_cons (show 4 * k<b.length by omega),List.drop_eq_getElem_cons (show 4 * k+1<b.length by omega),List.drop_eq_getElem_cons (show 4 * k+1+1<b.length by omega),List.drop_eq_getElem_cons (show 4 * k+1+1+1<b.length by omega)]
 simp only [List.take_succ_cons,List.take_zero,aF,List.foldl_cons,List.foldl_nil,Nat.zero_mul,Nat.zero_add]
 have z:b[4 * k+1+1]=b[4 * k+2]:=rfl
 have f:b[4 * k+1+1+1]=b[4 * k+3]:=rfl
 rw [z,f]
 omega
theorem rb_facts {w wr:World} {h:List Nat} {b:List UInt8} {gb o gt:Nat} {l:List Nat} {k:Nat} (G:Rb w h b gb o gt l wr) (HL:l.length=64) (J:∀ j,j<64→aZ l j=aZ (ext (own b 16) (k - 16)) j) (hk0:16≤k) (V:k<64) :
  ∃ F f E L x D K y O M:Nat,(k:Int) - 15=(F:Int)∧(k:Int) - 16=(f:Int)∧(k:Int) - 7=(E:Int)∧(k:Int) - 2=(L:Int)∧F<64∧L<64∧
   wr.cell? ⟨w.heap.size+1+1,F,none⟩=some (.int .u32 (x:Int))∧wr.cell? ⟨w.heap.size+1+1,L,none⟩=some (.int .u32 (y:Int))∧
   x<4294967296∧y<4294967296∧(x:Int) / 8=(O:Int)∧(y:Int) / 1024=(M:Int)∧
   IntKind.i64.wrap (f:Int)=(f:Int)∧IntKind.i64.wrap (E:Int)=(E:Int)∧(f:Int)<64∧(E:Int)<64∧(k:Int)<64∧(0:Int)≤f∧(0:Int)≤E∧(0:Int)≤k∧
   (wr.cell? ⟨w.heap.size+1+1,f,none⟩=some (.int .u32 (D:Int))∧wr.cell? ⟨w.heap.size+1+1,E,none⟩=some (.int .u32 (K:Int))∧w.heap.size+1+1<wr.heap.size)∧
   Hid (wr.cell? ⟨w.heap.size+1+1,k,none⟩=some (.int .u32 (aZ l k:Nat))∧wr.frozen? ⟨w.heap.size+1+1,k,none⟩=false)∧
   Hid (∀ (W:World) (v:Value),(W.cell? ⟨w.heap.size+1+1,f,none⟩=some (.int .u32 (D:Int))∧W.cell? ⟨w.heap.size+1+1,E,none⟩=some (.int .u32 (K:Int))∧w.heap.size+1+1<W.heap.size)→((W.setCell ⟨w.heap.size+1+1,k,none⟩ v).cell? ⟨w.heap.size+1+1,f,none⟩=some (.int .u32 (D:Int))∧(W.setCell ⟨w.heap.size+1+1,k,none⟩ v).cell? ⟨w.heap.size+1+1,E,none⟩=some (.int .u32 (K:Int))∧w.heap.size+1+1<(W.setCell ⟨w.heap.size+1+1,k,none⟩ v).heap.size))∧
   Hid (IntKind.u32.wrap (IntKind.u32.wrap (IntKind.u32.wrap ((D:Int)+(K:Int))+bits BinOp.xor IntKind.u32 (bits BinOp.xor IntKind.u32 ((br x 7:Nat):Int) ((br x 18:Nat):Int)) (O:Int))+bits BinOp.xor IntKind.u32 (bits BinOp.xor IntKind.u32 ((br y 17:Nat):Int) ((br y 19:Nat):Int)) (M:Int))=((nxw (ext (own b 16) (k - 16)):Nat):Int)):=by
 have HM:Sm (ext (own b 16) (k - 16)):=ext_sm (own_sm b 16) _
 have Z:(ext (own b 16) (k - 16)).length=k:=by rw [ext_length,dF]; omega
 have lt:∀ j,j<64→aZ l j<4294967296:=fun j Y=>by rw [J j Y]; exact at_sm HM _
 have z:=lt (k - 15) (by omega)
 have I:=lt (k - 2) (by omega)
 refine ⟨k - 15,k - 16,k - 7,k - 2,aZ l (k - 15),aZ l (k - 16),aZ l (k - 7),aZ l (k - 2),aZ l (k - 15) / 8,aZ l (k - 2) / 1024,by omega,by omega,by omega,by omega,by omega,by omega,
  G.l.cell _ (by omega),G.l.cell _ (by omega),z,I,by omega,by omega,
  by rw [IntKind.wrap_i64]; omega,by rw [IntKind.wrap_i64]; omega,by omega,by omega,by omega,by omega,by omega,by omega,⟨G.l.cell _ (by omega),G.l.cell _ (by omega),G.l.lt⟩,
  hid ⟨G.l.cell _ (by omega),G.l.frozen _⟩,
  hid (fun W v h=>⟨by rw [World.cell?_setCell_other _ _ _ _ (by simp; try omega)]; exact h.1,by rw [World.cell?_setCell_other _ _ _ _ (by simp; try omega)]; exact h.2.1,by have:=h.2.2; simp; omega⟩),hid ?_⟩
 have e0:nxw (ext (own b 16) (k - 16))=(((aZ l (k - 16)+s0 (aZ l (k - 15))) % 4294967296+aZ l (k - 7)) % 4294967296+s1 (aZ l (k - 2))) % 4294967296:=by
  rw [nxw,Z,J (k - 16) (by omega),J (k - 15) (by omega),J (k - 7) (by omega),J (k - 2) (by omega)]
 have U:aZ l (k - 15) / 8<4294967296:=by omega
 have R:aZ l (k - 2) / 1024<4294967296:=by omega
 rw [e0,s0,s1,show (2:Nat) ^ 3=8 by decide,show (2:Nat) ^ 10=1024 by decide,u32_xor_nat _ _ (bJ 7 z) (bJ 18 z),u32_xor_nat _ _ (xor_lt (bJ 7 z) (bJ 18 z)) U,u32_xor_nat _ _ (bJ 17 I) (bJ 19 I),u32_xor_nat _ _ (xor_lt (bJ 17 I) (bJ 19 I)) R,IntKind.wrap_u32,IntKind.wrap_u32,IntKind.wrap_u32]
 omega
noncomputable def rb11:Code:=((Tryz.f110.body.bind (bM 11)).getD .skip)
theorem rb11_ok {w wr:World} {k z F x E v7 y zx zy nv old:Nat} {Q:Exit→Act→World→Prop} (fH:(k:Int) - 16=(z:Int)) (fM:(k:Int) - 7=(F:Int))
  (ey:x<4294967296) (b2:y<4294967296) (fL:(x:Int) / 8=(zx:Int)) (fK:(y:Int) / 1024=(zy:Int))
  (w16:IntKind.i64.wrap (z:Int)=(z:Int)) (w7:IntKind.i64.wrap (F:Int)=(F:Int)) (fJ:(z:Int)<64) (i7:(F:Int)<64) (ik:(k:Int)<64) (fI:(0:Int)≤z) (j7:(0:Int)≤F) (jk:(0:Int)≤k)
  (hS:wr.cell? ⟨w.heap.size+1+1,z,none⟩=some (.int .u32 (E:Int))∧wr.cell? ⟨w.heap.size+1+1,F,none⟩=some (.int .u32 (v7:Int))∧w.heap.size+1+1<wr.heap.size) (nk:wr.cell? ⟨w.heap.size+1+1,k,none⟩=some (.int .u32 (old:Int))) (nf:wr.frozen? ⟨w.heap.size+1+1,k,none⟩=false)
  (fG:Hid (∀ (W:World) (v:Value),(W.cell? ⟨w.heap.size+1+1,z,none⟩=some (.int .u32 (E:Int))∧W.cell? ⟨w.heap.size+1+1,F,none⟩=some (.int .u32 (v7:Int))∧w.heap.size+1+1<W.heap.size)→((W.setCell ⟨w.heap.size+1+1,k,none⟩ v).cell? ⟨w.heap.size+1+1,z,none⟩=some (.int .u32 (E:Int))∧(W.setCell ⟨w.heap.size+1+1,k,none⟩ v).cell? ⟨w.heap.size+1+1,F,none⟩=some (.int .u32 (v7:Int))∧w.heap.size+1+1<(W.setCell ⟨w.heap.size+1+1,k,none⟩ v).heap.size)))
  (HV:Hid (IntKind.u32.wrap (IntKind.u32.wrap (IntKind.u32.wrap ((E:Int)+(v7:Int))+bits BinOp.xor IntKind.u32 (bits BinOp.xor IntKind.u32 ((br x 7:Nat):Int) ((br x 18:Nat):Int)) (zx:Int))+bits BinOp.xor IntKind.u32 (bits BinOp.xor IntKind.u32 ((br y 17:Nat):Int) ((br y 19:Nat):Int)) (zy:Int))=(nv:Int)))
  (c0 c1 c2 c3 c4 c5 c6 c8 ex ew ev eu et es er ep eo en em el ek ej ei eh eg ef ee ed ec eb ea dZ dY dX dW dV dU dT dO dN dG dC dB dA dz dy dw ds dr dm dk df de dd dc db da cZ cY cX cW cV cU cT cS cR fF fE fD fC fB fA fz fy fx fw fv fu ft fs fq fp fo fn fm fl fk fj fi fh fg ff fe fd fc cQ cP cO cN cI cH cE cB cA cz cy cx cw cv cu ct cs cq cp co cn cm cl ck cj cf cd cc cb ca bZ bY bX bW bV bU bS bR bQ bP bO bN bK bI bG bA bz bx bv bu bq bp bo bn bm bk bd bb ba aW aU aT aS aR aQ aN aM aL aK aJ aI aG aE aC aB aA az ay ax ar ap ao an al ad ab Z Y V U R O M J I G:Value)
  (hQ:Hid (∀ (fb fa eZ eY eX eW eV eU eT eS eR eQ eP eO eN eM eL eK eJ eI eH eG eF eE eD eC eB eA ez:Value),Q .normal ⟨#[c0,c1,c2,c3,c4,c5,c6,.pointer (some ⟨w.heap.size+1+1,0,none⟩),c8,.int .i64 (k:Int),.int .u32 (x:Int),.int .u32 (y:Int),ex,ew,ev,eu,et,es,er,ep,eo,en,em,el,ek,ej,ei,eh,eg,ef,ee,ed,ec,eb,ea,dZ,dY,dX,dW,dV,dU,dT,dO,dN,dG,dC,dB,dA,dz,dy,dw,ds,dr,dm,dk,df,de,dd,dc,db,da,cZ,cY,cX,cW,cV,cU,cT,cS,cR,fb,fa,eZ,eY,eX,eW,eV,eU,eT,eS,eR,eQ,eP,eO,eN,eM,eL,eK,eJ,eI,eH,eG,eF,eE,eD,eC,eB,eA,ez,cQ,cP,cO,cN,cI,cH,cE,cB,cA,cz,cy,cx,cw,cv,cu,ct,cs,cq,cp,co,cn,cm,cl,ck,cj,cf,cd,cc,cb,ca,bZ,bY,bX,bW,bV,bU,bS,bR,bQ,bP,bO,bN,bK,bI,bG,bA,bz,bx,bv,bu,bq,bp,bo,bn,bm,bk,bd,bb,ba,aW,aU,aT,aS,aR,aQ,aN,aM,aL,aK,aJ,aI,aG,aE,aC,aB,aA,az,ay,ax,ar,ap,ao,an,al,ad,ab,Z,Y,V,U,R,O,M,J,I,G],[]⟩ (wr.drew.setCell ⟨w.heap.size+1+1,k,none⟩ (.int .u32 (nv:Int)))))  :
  Code.wp Tryz.prog rb11 Q ⟨#[c0,c1,c2,c3,c4,c5,c6,.pointer (some ⟨w.heap.size+1+1,0,none⟩),c8,.int .i64 (k:Int),.int .u32 (x:Int),.int .u32 (y:Int),ex,ew,ev,eu,et,es,er,ep,eo,en,em,el,ek,ej,ei,eh,eg,ef,ee,ed,ec,eb,ea,dZ,dY,dX,dW,dV,dU,dT,dO,dN,dG,dC,dB,dA,dz,dy,dw,ds,dr,dm,dk,df,de,dd,dc,db,da,cZ,cY,cX,cW,cV,cU,cT,cS,cR,fF,fE,fD,fC,fB,fA,fz,fy,fx,fw,fv,fu,ft,fs,fq,fp,fo,fn,fm,fl,fk,fj,fi,fh,fg,ff,fe,fd,fc,cQ,cP,cO,cN,cI,cH,cE,cB,cA,cz,cy,cx,cw,cv,cu,ct,cs,cq,cp,co,cn,cm,cl,ck,cj,cf,cd,cc,cb,ca,bZ,bY,bX,bW,bV,bU,bS,bR,bQ,bP,bO,bN,bK,bI,bG,bA,bz,bx,bv,bu,bq,bp,bo,bn,bm,bk,bd,bb,ba,aW,aU,aT,aS,aR,aQ,aN,aM,aL,aK,aJ,aI,aG,aE,aC,aB,aA,az,ay,ax,ar,ap,ao,an,al,ad,ab,Z,Y,V,U,R,O,M,J,I,G],[]⟩ wr:=by
 conv=>arg 2; whnf
 have f:wr.drew.cell? ⟨w.heap.size+1+1,z,none⟩=some (.int .u32 (E:Int))∧wr.drew.cell? ⟨w.heap.size+1+1,F,none⟩=some (.int .u32 (v7:Int))∧w.heap.size+1+1<wr.drew.heap.size:=hS
 refine wp_region_noPanic ?_
 refine aa.region (fun (L:Array Bool) (w':World)=>w'.cell? ⟨w.heap.size+1+1,z,none⟩=some (.int .u32 (E:Int))∧w'.cell? ⟨w.heap.size+1+1,F,none⟩=some (.int .u32 (v7:Int))∧w.heap.size+1+1<w'.heap.size) (by as_aux_lemma=>kernel_rfl) ?_
 refine aa.q 0 ⟨some 70,_,_,_,_,_⟩ f ?_
 try simp only [ac]
 refine aa.q 1 ⟨some 71,_,_,_,_,_⟩ f ?_
 try simp only [ac]
 refine aa.q 2 ⟨some 72,_,_,_,_,_⟩ f ?_
 try simp only [ac]
 refine aa.q 3 ⟨some 73,_,_,_,_,_⟩ f ?_
 try simp only [ac]
 refine aa.tk (i:=4) (o:=⟨some 74,_,_,_,_,_⟩) (v:=?_) [] (y:=Or.inl ⟨by rfl,?_⟩) (s:=f) (H:=?_)
 rotate_left
 ·intro w hY; obtain ⟨up,hL⟩:=hY; have hX:=hL.2.1; clear hL; (try dsimp only at hX); go_simp; try with_reducible rfl
 try simp only [ac]
 refine aa.q 5 ⟨some 75,_,_,_,_,_⟩ f ?_
 try simp only [ac]
 refine aa.q 6 ⟨some 76,_,_,_,_,_⟩ f ?_
 try simp only [ac]
 refine aa.q 7 ⟨some 77,_,_,_,_,_⟩ f ?_
 try simp only [ac]
 refine aa.tk (i:=8) (o:=⟨some 78,_,_,_,_,_⟩) (v:=?_) [] (y:=Or.inl ⟨by rfl,?_⟩) (s:=f) (H:=?_)
 rotate_left
 ·intro w hY; obtain ⟨up,hL⟩:=hY; have hX:=hL.2.2.1; clear hL; (try dsimp only at hX); go_simp; try with_reducible rfl
 try simp only [ac]
 refine aa.q 9 ⟨some 79,_,_,_,_,_⟩ f ?_
 try simp only [ac]
 refine aa.q 10 ⟨some 80,_,_,_,_,_⟩ f ?_
 try simp only [ac]
 refine aa.q 12 ⟨some 82,_,_,_,_,_⟩ f ?_
 try simp only [ac]
 refine aa.q 15 ⟨some 85,_,_,_,_,_⟩ f ?_
 try simp only [ac]
 refine aa.q 16 ⟨some 86,_,_,_,_,_⟩ f ?_
 try simp only [ac]
 refine aa.q 19 ⟨some 89,_,_,_,_,_⟩ f ?_
 try simp only [ac]
 refine aa.q 21 ⟨some 91,_,_,_,_,_⟩ f ?_
 try simp only [ac]
 refine aa.q 24 ⟨some 94,_,_,_,_,_⟩ f ?_
 try simp only [ac]
 refine aa.q 25 ⟨some 95,_,_,_,_,_⟩ f ?_
 try simp only [ac]
 refine aa.one (i:=11) (o:=⟨some 81,_,_,_,_,_⟩) (by as_aux_lemma=>kernel_rfl) rfl (fun K D=>?_)
 go_simp
 with_reducible refine (round_7 _ _ ey).mono ?_
 rintro e' wa ⟨rfl,rfl⟩
 go_wp2_with fail
 refine D.out _ _ f ?_
 clear D K
 try simp only [ac]
 refine aa.one (i:=13) (o:=⟨some 83,_,_,_,_,_⟩) (by as_aux_lemma=>kernel_rfl) rfl (fun K D=>?_)
 go_simp
 with_reducible refine (round_18 _ _ ey).mono ?_
 rintro e' wb ⟨rfl,rfl⟩
 go_wp2_with fail
 refine D.out _ _ f ?_
 clear D K
 try simp only [ac]
 refine aa.q 14 ⟨some 84,_,_,_,_,_⟩ f ?_
 try simp only [ac]
 refine aa.q 17 ⟨some 87,_,_,_,_,_⟩ f ?_
 try simp only [ac]
 refine aa.q 18 ⟨some 88,_,_,_,_,_⟩ f ?_
 try simp only [ac]
 refine aa.one (i:=20) (o:=⟨some 90,_,_,_,_,_⟩) (by as_aux_lemma=>kernel_rfl) rfl (fun K D=>?_)
 go_simp
 with_reducible refine (round_17 _ _ b2).mono ?_
 rintro e' wc ⟨rfl,rfl⟩
 go_wp2_with fail
 refine D.out _ _ f ?_
 clear D K
 try simp only [ac]
 refine aa.one (i:=22) (o:=⟨some 92,_,_,_,_,_⟩) (by as_aux_lemma=>kernel_rfl) rfl (fun K D=>?_)
 go_simp
 with_reducible refine (round_19 _ _ b2).mono ?_
 rintro e' wd ⟨rfl,rfl⟩
 go_wp2_with fail
 refine D.out _ _ f ?_
 clear D K
 try simp only [ac]
 refine aa.q 23 ⟨some 93,_,_,_,_,_⟩ f ?_
 try simp only [ac]
 refine aa.q 26 ⟨some 96,_,_,_,_,_⟩ f ?_
 try simp only [ac]
 refine aa.q 27 ⟨some 97,_,_,_,_,_⟩ f ?_
 try simp only [ac]
 refine aa.q 28 ⟨some 98,_,_,_,_,_⟩ f ?_
 try simp only [ac]
 refine aa.one (i:=29) (o:=⟨none,_,_,_,_,_⟩) (by as_aux_lemma=>kernel_rfl) rfl (fun K D=>?_)
 go_simp
 refine D.out _ _ (fG.out _ _ f) ?_
 clear D K
 try simp only [ac]
 refine aa.done (by as_aux_lemma=>kernel_rfl) ?_ _
 refine NoPanic.normal ?_
 rw [HV.out]
 exact hQ.out _ _ _ _ _ _ _ _ _ _ _ _ _ _ _ _ _ _ _ _ _ _ _ _ _ _ _ _ _
theorem cho_xor (e f g:Nat) (D:e<4294967296):(e &&& f) ^^^ ((4294967295 - e) &&& g)=cho e f g:=by
 unfold cho
 rw [← not32 e D]
 apply Nat.eq_of_testBit_eq
 intro i
 have hb:e.testBit i=true→(4294967295:Nat).testBit i=true:=by
  intro h
  rw [show (4294967295:Nat)=2 ^ 32 - 1 by decide,Nat.testBit_two_pow_sub_one]
  rcases Nat.lt_or_ge i 32 with z | z
  ·simpa using z
  ·rw [Nat.testBit_lt_two_pow (Nat.lt_of_lt_of_le D (Nat.pow_le_pow_right (n:=2) (i:=32) (by decide) z))] at h; cases h
 simp only [Nat.testBit_xor,Nat.testBit_or,Nat.testBit_and]
 cases h1:e.testBit i
 ·simp
 ·rw [hb h1]; simp
theorem t_eq2 (e f g h E D:Nat) (z:e<4294967296) (hf:f<4294967296) (F:g<4294967296) :
  IntKind.u32.wrap (IntKind.u32.wrap (IntKind.u32.wrap (IntKind.u32.wrap ((h:Int)+bits BinOp.xor IntKind.u32 (bits BinOp.xor IntKind.u32 ((br e 6:Nat):Int) ((br e 11:Nat):Int)) ((br e 25:Nat):Int))+bits BinOp.xor IntKind.u32 (bits BinOp.and IntKind.u32 (e:Int) (f:Int)) (bits BinOp.and IntKind.u32 (bits BinOp.xor IntKind.u32 IntKind.u32.max (e:Int)) (g:Int)))+(E:Int))+(D:Int))=((((((h+b1 e) % 4294967296+cho e f g) % 4294967296+E) % 4294967296+D) % 4294967296:Nat):Int):=by
 have G:bits BinOp.xor IntKind.u32 IntKind.u32.max (e:Int)=((4294967295 - e:Nat):Int):=by
  rw [← not32 e z]; exact u32_xor_nat 4294967295 e (by decide) z
 rw [G,u32_xor_nat _ _ (bJ 6 z) (bJ 11 z),u32_xor_nat _ _ (xor_lt (bJ 6 z) (bJ 11 z)) (bJ 25 z),u32_and_nat e f z hf,u32_and_nat (4294967295 - e) g (by omega) F,u32_xor_nat _ _ (and_lt _ z) (and_lt _ (by omega)),cho_xor e f g z,IntKind.wrap_u32,IntKind.wrap_u32,IntKind.wrap_u32,IntKind.wrap_u32]
 unfold b1
 omega
theorem u_eq2 (a b c:Nat) (f:a<4294967296) (hb:b<4294967296) (hc:c<4294967296):IntKind.u32.wrap (bits BinOp.xor IntKind.u32 (bits BinOp.xor IntKind.u32 ((br a 2:Nat):Int) ((br a 13:Nat):Int)) ((br a 22:Nat):Int)+bits BinOp.or IntKind.u32 (bits BinOp.or IntKind.u32 (bits BinOp.and IntKind.u32 (a:Int) (b:Int)) (bits BinOp.and IntKind.u32 (a:Int) (c:Int))) (bits BinOp.and IntKind.u32 (b:Int) (c:Int)))=(((b0 a+maj a b c) % 4294967296:Nat):Int):=by
 rw [u32_xor_nat _ _ (bJ 2 f) (bJ 13 f),u32_xor_nat _ _ (xor_lt (bJ 2 f) (bJ 13 f)) (bJ 22 f),IntKind.wrap_u32,u_eq a b c _ f hb hc]
 rfl
noncomputable def rb18:Code:=((Tryz.f110.body.bind (bM 18)).getD .skip)
noncomputable def rb19:Code:=((Tryz.f110.body.bind (bM 19)).getD .skip)
theorem rb18_ok {w wr:World} {g12 gt i e f g h kv wv tv:Nat} {Q:Exit→Act→World→Prop} (be:e<4294967296) (fH:(i:Int)<64) (i0:(0:Int)≤i) (wi:IntKind.i64.wrap (i:Int)=(i:Int)) (hS:wr.cell? ⟨g12,7,none⟩=some (.int .u32 (h:Int))∧wr.cell? ⟨g12,5,none⟩=some (.int .u32 (f:Int))∧wr.cell? ⟨g12,6,none⟩=some (.int .u32 (g:Int))∧wr.cell? ⟨gt,i,none⟩=some (.int .u32 (kv:Int))∧wr.cell? ⟨w.heap.size+1+1,i,none⟩=some (.int .u32 (wv:Int)))
  (HT:Hid (IntKind.u32.wrap (IntKind.u32.wrap (IntKind.u32.wrap (IntKind.u32.wrap ((h:Int)+bits BinOp.xor IntKind.u32 (bits BinOp.xor IntKind.u32 ((br e 6:Nat):Int) ((br e 11:Nat):Int)) ((br e 25:Nat):Int))+bits BinOp.xor IntKind.u32 (bits BinOp.and IntKind.u32 (e:Int) (f:Int)) (bits BinOp.and IntKind.u32 (bits BinOp.xor IntKind.u32 IntKind.u32.max (e:Int)) (g:Int)))+(kv:Int))+(wv:Int))=(tv:Int)))
  (c0 c1 c3 c4 c5 c6 c8 c9 fF fC eX fG eW eV eU eT eS eR eQ eP eO eN eM eL eK eJ eI eH eG eF eE eD eC eB eA ez ey ex ew ev eu et es er ep eo en em el ek ej ei eh eg ef ee ed ec eb ea dZ dY dX dW dV dU dT dO dN dG dC dB dA dz dy dw ds dr dm dk df de dd dc db da cZ cY cX cW cV cU cT cS cR bY bX bW bV bU bS bR bQ fE fD fB fA fz fy fx fw fv fu ft fs fq fp fo fn fm fl fk fj fi fh fg ff fe fd fc fb fa eZ eY bP bO bN bK bI bG bA bz bx bv bu bq bp bo bn bm bk bd bb ba aW aU aT aS aR aQ aN aM aL aK aJ aI aG aE aC aB aA az ay ax ar ap ao an al ad ab Z Y V U R O M J I:Value)
  (hQ:Hid (∀ (cQ cP cO cN cI cH cE cB cA cz cy cx cw cv cu ct cs cq cp co cn cm cl ck cj cf cd cc cb ca bZ:Value),Q .normal ⟨#[c0,c1,.slice (some ⟨gt,0,none⟩) 64 64,c3,c4,c5,c6,.pointer (some ⟨w.heap.size+1+1,0,none⟩),c8,c9,fF,fC,.pointer (some ⟨g12,0,none⟩),.int .i64 (i:Int),eX,.int .u32 (e:Int),.int .u32 (tv:Int),eW,eV,eU,eT,eS,eR,eQ,eP,eO,eN,eM,eL,eK,eJ,eI,eH,eG,eF,eE,eD,eC,eB,eA,ez,ey,ex,ew,ev,eu,et,es,er,ep,eo,en,em,el,ek,ej,ei,eh,eg,ef,ee,ed,ec,eb,ea,dZ,dY,dX,dW,dV,dU,dT,dO,dN,dG,dC,dB,dA,dz,dy,dw,ds,dr,dm,dk,df,de,dd,dc,db,da,cZ,cY,cX,cW,cV,cU,cT,cS,cR,bY,bX,bW,bV,bU,bS,bR,bQ,cQ,cP,cO,cN,cI,cH,cE,cB,cA,cz,cy,cx,cw,cv,cu,ct,cs,cq,cp,co,cn,cm,cl,ck,cj,cf,cd,cc,cb,ca,bZ,bP,bO,bN,bK,bI,bG,bA,bz,bx,bv,bu,bq,bp,bo,bn,bm,bk,bd,bb,ba,aW,aU,aT,aS,aR,aQ,aN,aM,aL,aK,aJ,aI,aG,aE,aC,aB,aA,az,ay,ax,ar,ap,ao,an,al,ad,ab,Z,Y,V,U,R,O,M,J,I],[]⟩ wr.drew)) :
  Code.wp Tryz.prog rb18 Q ⟨#[c0,c1,.slice (some ⟨gt,0,none⟩) 64 64,c3,c4,c5,c6,.pointer (some ⟨w.heap.size+1+1,0,none⟩),c8,c9,fF,fC,.pointer (some ⟨g12,0,none⟩),.int .i64 (i:Int),eX,.int .u32 (e:Int),fG,eW,eV,eU,eT,eS,eR,eQ,eP,eO,eN,eM,eL,eK,eJ,eI,eH,eG,eF,eE,eD,eC,eB,eA,ez,ey,ex,ew,ev,eu,et,es,er,ep,eo,en,em,el,ek,ej,ei,eh,eg,ef,ee,ed,ec,eb,ea,dZ,dY,dX,dW,dV,dU,dT,dO,dN,dG,dC,dB,dA,dz,dy,dw,ds,dr,dm,dk,df,de,dd,dc,db,da,cZ,cY,cX,cW,cV,cU,cT,cS,cR,bY,bX,bW,bV,bU,bS,bR,bQ,fE,fD,fB,fA,fz,fy,fx,fw,fv,fu,ft,fs,fq,fp,fo,fn,fm,fl,fk,fj,fi,fh,fg,ff,fe,fd,fc,fb,fa,eZ,eY,bP,bO,bN,bK,bI,bG,bA,bz,bx,bv,bu,bq,bp,bo,bn,bm,bk,bd,bb,ba,aW,aU,aT,aS,aR,aQ,aN,aM,aL,aK,aJ,aI,aG,aE,aC,aB,aA,az,ay,ax,ar,ap,ao,an,al,ad,ab,Z,Y,V,U,R,O,M,J,I],[]⟩ wr:=by
 conv=>arg 2; whnf
 have z:wr.drew.cell? ⟨g12,7,none⟩=some (.int .u32 (h:Int))∧wr.drew.cell? ⟨g12,5,none⟩=some (.int .u32 (f:Int))∧wr.drew.cell? ⟨g12,6,none⟩=some (.int .u32 (g:Int))∧wr.drew.cell? ⟨gt,i,none⟩=some (.int .u32 (kv:Int))∧wr.drew.cell? ⟨w.heap.size+1+1,i,none⟩=some (.int .u32 (wv:Int)):=hS
 refine wp_region_noPanic ?_
 refine aa.region (fun (L:Array Bool) (w':World)=>w'.cell? ⟨g12,7,none⟩=some (.int .u32 (h:Int))∧w'.cell? ⟨g12,5,none⟩=some (.int .u32 (f:Int))∧w'.cell? ⟨g12,6,none⟩=some (.int .u32 (g:Int))∧w'.cell? ⟨gt,i,none⟩=some (.int .u32 (kv:Int))∧w'.cell? ⟨w.heap.size+1+1,i,none⟩=some (.int .u32 (wv:Int))) (by as_aux_lemma=>kernel_rfl) ?_
 refine aa.q 0 ⟨some 108,_,_,_,_,_⟩ z ?_
 try simp only [ac]
 refine aa.tk (i:=1) (o:=⟨some 109,_,_,_,_,_⟩) (v:=?_) [] (y:=Or.inl ⟨by rfl,?_⟩) (s:=z) (H:=?_)
 rotate_left
 ·intro w E; obtain ⟨up,D⟩:=E; have F:=D.2.1; clear D; (try dsimp only at F); go_simp; try with_reducible rfl
 try simp only [ac]
 refine aa.q 2 ⟨some 110,_,_,_,_,_⟩ z ?_
 try simp only [ac]
 refine aa.q 4 ⟨some 112,_,_,_,_,_⟩ z ?_
 try simp only [ac]
 refine aa.q 7 ⟨some 115,_,_,_,_,_⟩ z ?_
 try simp only [ac]
 refine aa.q 11 ⟨some 119,_,_,_,_,_⟩ z ?_
 try simp only [ac]
 refine aa.q 12 ⟨some 120,_,_,_,_,_⟩ z ?_
 try simp only [ac]
 refine aa.tk (i:=13) (o:=⟨some 121,_,_,_,_,_⟩) (v:=?_) [] (y:=Or.inl ⟨by rfl,?_⟩) (s:=z) (H:=?_)
 rotate_left
 ·intro w E; obtain ⟨up,D⟩:=E; have F:=D.2.2.1; clear D; (try dsimp only at F); go_simp; try with_reducible rfl
 try simp only [ac]
 refine aa.q 14 ⟨some 122,_,_,_,_,_⟩ z ?_
 try simp only [ac]
 refine aa.q 15 ⟨some 123,_,_,_,_,_⟩ z ?_
 try simp only [ac]
 refine aa.q 16 ⟨some 124,_,_,_,_,_⟩ z ?_
 try simp only [ac]
 refine aa.q 17 ⟨some 125,_,_,_,_,_⟩ z ?_
 try simp only [ac]
 refine aa.tk (i:=18) (o:=⟨some 126,_,_,_,_,_⟩) (v:=?_) [] (y:=Or.inl ⟨by rfl,?_⟩) (s:=z) (H:=?_)
 rotate_left
 ·intro w E; obtain ⟨up,D⟩:=E; have F:=D.2.2.2.1; clear D; (try dsimp only at F); go_simp; try with_reducible rfl
 try simp only [ac]
 refine aa.q 19 ⟨some 127,_,_,_,_,_⟩ z ?_
 try simp only [ac]
 refine aa.q 20 ⟨some 128,_,_,_,_,_⟩ z ?_
 try simp only [ac]
 refine aa.q 22 ⟨some 130,_,_,_,_,_⟩ z ?_
 try simp only [ac]
 refine aa.q 23 ⟨some 131,_,_,_,_,_⟩ z ?_
 try simp only [ac]
 refine aa.q 24 ⟨some 132,_,_,_,_,_⟩ z ?_
 try simp only [ac]
 refine aa.tk (i:=25) (o:=⟨some 133,_,_,_,_,_⟩) (v:=?_) [] (y:=Or.inl ⟨by rfl,?_⟩) (s:=z) (H:=?_)
 rotate_left
 ·intro w E; obtain ⟨up,D⟩:=E; have F:=D.2.2.2.2.1; clear D; (try dsimp only at F); go_simp; try with_reducible rfl
 try simp only [ac]
 refine aa.q 27 ⟨some 135,_,_,_,_,_⟩ z ?_
 try simp only [ac]
 refine aa.q 28 ⟨some 136,_,_,_,_,_⟩ z ?_
 try simp only [ac]
 refine aa.tk (i:=29) (o:=⟨some 137,_,_,_,_,_⟩) (v:=?_) [] (y:=Or.inl ⟨by rfl,?_⟩) (s:=z) (H:=?_)
 rotate_left
 ·intro w E; obtain ⟨up,D⟩:=E; have F:=D.2.2.2.2.2; clear D; (try dsimp only at F); go_simp; try with_reducible rfl
 try simp only [ac]
 refine aa.one (i:=3) (o:=⟨some 111,_,_,_,_,_⟩) (by as_aux_lemma=>kernel_rfl) rfl (fun K G=>?_)
 go_simp
 with_reducible refine (round_6 _ _ be).mono ?_
 rintro e' wa ⟨rfl,rfl⟩
 go_wp2_with fail
 refine G.out _ _ z ?_
 clear G K
 try simp only [ac]
 refine aa.one (i:=5) (o:=⟨some 113,_,_,_,_,_⟩) (by as_aux_lemma=>kernel_rfl) rfl (fun K G=>?_)
 go_simp
 with_reducible refine (round_11 _ _ be).mono ?_
 rintro e' wb ⟨rfl,rfl⟩
 go_wp2_with fail
 refine G.out _ _ z ?_
 clear G K
 try simp only [ac]
 refine aa.q 6 ⟨some 114,_,_,_,_,_⟩ z ?_
 try simp only [ac]
 refine aa.one (i:=8) (o:=⟨some 116,_,_,_,_,_⟩) (by as_aux_lemma=>kernel_rfl) rfl (fun K G=>?_)
 go_simp
 with_reducible refine (round_25 _ _ be).mono ?_
 rintro e' wc ⟨rfl,rfl⟩
 go_wp2_with fail
 refine G.out _ _ z ?_
 clear G K
 try simp only [ac]
 refine aa.q 9 ⟨some 117,_,_,_,_,_⟩ z ?_
 try simp only [ac]
 refine aa.q 10 ⟨some 118,_,_,_,_,_⟩ z ?_
 try simp only [ac]
 refine aa.q 21 ⟨some 129,_,_,_,_,_⟩ z ?_
 try simp only [ac]
 refine aa.q 26 ⟨some 134,_,_,_,_,_⟩ z ?_
 try simp only [ac]
 refine aa.q 30 ⟨some 138,_,_,_,_,_⟩ z ?_
 try simp only [ac]
 refine aa.q 31 ⟨some 16,_,_,_,_,_⟩ z ?_
 try simp only [ac]
 refine aa.done (by as_aux_lemma=>kernel_rfl) ?_ _
 refine NoPanic.normal ?_
 rw [HT.out]
 exact hQ.out _ _ _ _ _ _ _ _ _ _ _ _ _ _ _ _ _ _ _ _ _ _ _ _ _ _ _ _ _ _ _
theorem rb19_ok {wr:World} {g12 a b c uv:Nat} {Q:Exit→Act→World→Prop} (ba:a<4294967296) (hS:wr.cell? ⟨g12,1,none⟩=some (.int .u32 (b:Int))∧wr.cell? ⟨g12,2,none⟩=some (.int .u32 (c:Int)))
  (HT:Hid (IntKind.u32.wrap (bits BinOp.xor IntKind.u32 (bits BinOp.xor IntKind.u32 ((br a 2:Nat):Int) ((br a 13:Nat):Int)) ((br a 22:Nat):Int)+bits BinOp.or IntKind.u32 (bits BinOp.or IntKind.u32 (bits BinOp.and IntKind.u32 (a:Int) (b:Int)) (bits BinOp.and IntKind.u32 (a:Int) (c:Int))) (bits BinOp.and IntKind.u32 (b:Int) (c:Int)))=(uv:Int)))
  (c0 c1 c2 c3 c4 c5 c6 c7 c8 c9 fx fw fv fi eX fy eT eS eR eQ eP eO eN eM eL eK eJ eI eH eG eF eE eD eC eB eA ez ey ex ew ev eu et es er ep eo en em el ek ej ei eh eg ef ee ed ec eb ea dZ dY dX dW dV dU dT dO dN dG dC dB dA dz dy dw ds dr dm dk df de dd dc db da cZ cY cX cW cV cU cT cS cR cQ cP cd cc cb ca bZ bY bX bW bV bU bS bR bQ bP bO bN bK bI bG bA bz bx bv bu bq bp bo bn bm bk bd bb aW aU aT aS aR aQ aN fu ft fs fq fp fo fn fm fl fk fj fh fg ff fe fd fc fb fa eZ eY eW eV eU aM aL aK aJ aI aG aE aC aB aA az ay ax ar ap ao an al ad ab Z Y V U R O M J I G F E:Value)
  (hQ:Hid (∀ (cO cN cI cH cE cB cA cz cy cx cw cv cu ct cs cq cp co cn cm cl ck cj cf:Value),Q .normal ⟨#[c0,c1,c2,c3,c4,c5,c6,c7,c8,c9,fx,fw,.pointer (some ⟨g12,0,none⟩),fv,.int .u32 (a:Int),fi,eX,.int .u32 (uv:Int),eT,eS,eR,eQ,eP,eO,eN,eM,eL,eK,eJ,eI,eH,eG,eF,eE,eD,eC,eB,eA,ez,ey,ex,ew,ev,eu,et,es,er,ep,eo,en,em,el,ek,ej,ei,eh,eg,ef,ee,ed,ec,eb,ea,dZ,dY,dX,dW,dV,dU,dT,dO,dN,dG,dC,dB,dA,dz,dy,dw,ds,dr,dm,dk,df,de,dd,dc,db,da,cZ,cY,cX,cW,cV,cU,cT,cS,cR,cQ,cP,cd,cc,cb,ca,bZ,bY,bX,bW,bV,bU,bS,bR,bQ,bP,bO,bN,bK,bI,bG,bA,bz,bx,bv,bu,bq,bp,bo,bn,bm,bk,bd,bb,aW,aU,aT,aS,aR,aQ,aN,cO,cN,cI,cH,cE,cB,cA,cz,cy,cx,cw,cv,cu,ct,cs,cq,cp,co,cn,cm,cl,ck,cj,cf,aM,aL,aK,aJ,aI,aG,aE,aC,aB,aA,az,ay,ax,ar,ap,ao,an,al,ad,ab,Z,Y,V,U,R,O,M,J,I,G,F,E],[]⟩ wr.drew)) :
  Code.wp Tryz.prog rb19 Q ⟨#[c0,c1,c2,c3,c4,c5,c6,c7,c8,c9,fx,fw,.pointer (some ⟨g12,0,none⟩),fv,.int .u32 (a:Int),fi,eX,fy,eT,eS,eR,eQ,eP,eO,eN,eM,eL,eK,eJ,eI,eH,eG,eF,eE,eD,eC,eB,eA,ez,ey,ex,ew,ev,eu,et,es,er,ep,eo,en,em,el,ek,ej,ei,eh,eg,ef,ee,ed,ec,eb,ea,dZ,dY,dX,dW,dV,dU,dT,dO,dN,dG,dC,dB,dA,dz,dy,dw,ds,dr,dm,dk,df,de,dd,dc,db,da,cZ,cY,cX,cW,cV,cU,cT,cS,cR,cQ,cP,cd,cc,cb,ca,bZ,bY,bX,bW,bV,bU,bS,bR,bQ,bP,bO,bN,bK,bI,bG,bA,bz,bx,bv,bu,bq,bp,bo,bn,bm,bk,bd,bb,aW,aU,aT,aS,aR,aQ,aN,fu,ft,fs,fq,fp,fo,fn,fm,fl,fk,fj,fh,fg,ff,fe,fd,fc,fb,fa,eZ,eY,eW,eV,eU,aM,aL,aK,aJ,aI,aG,aE,aC,aB,aA,az,ay,ax,ar,ap,ao,an,al,ad,ab,Z,Y,V,U,R,O,M,J,I,G,F,E],[]⟩ wr:=by
 conv=>arg 2; whnf
 have f:wr.drew.cell? ⟨g12,1,none⟩=some (.int .u32 (b:Int))∧wr.drew.cell? ⟨g12,2,none⟩=some (.int .u32 (c:Int)):=hS
 refine wp_region_noPanic ?_
 refine aa.region (fun (L:Array Bool) (w':World)=>w'.cell? ⟨g12,1,none⟩=some (.int .u32 (b:Int))∧w'.cell? ⟨g12,2,none⟩=some (.int .u32 (c:Int))) (by as_aux_lemma=>kernel_rfl) ?_
 refine aa.q 0 ⟨some 139,_,_,_,_,_⟩ f ?_
 try simp only [ac]
 refine aa.q 2 ⟨some 141,_,_,_,_,_⟩ f ?_
 try simp only [ac]
 refine aa.q 5 ⟨some 144,_,_,_,_,_⟩ f ?_
 try simp only [ac]
 refine aa.q 8 ⟨some 147,_,_,_,_,_⟩ f ?_
 try simp only [ac]
 refine aa.q 9 ⟨some 148,_,_,_,_,_⟩ f ?_
 try simp only [ac]
 refine aa.tk (i:=10) (o:=⟨some 149,_,_,_,_,_⟩) (v:=?_) [] (y:=Or.inl ⟨by rfl,?_⟩) (s:=f) (H:=?_)
 rotate_left
 ·intro w hY; obtain ⟨up,z⟩:=hY; have hX:=z.2.1; clear z; (try dsimp only at hX); go_simp; try with_reducible rfl
 try simp only [ac]
 refine aa.q 11 ⟨some 150,_,_,_,_,_⟩ f ?_
 try simp only [ac]
 refine aa.q 12 ⟨some 151,_,_,_,_,_⟩ f ?_
 try simp only [ac]
 refine aa.q 13 ⟨some 152,_,_,_,_,_⟩ f ?_
 try simp only [ac]
 refine aa.tk (i:=14) (o:=⟨some 153,_,_,_,_,_⟩) (v:=?_) [] (y:=Or.inl ⟨by rfl,?_⟩) (s:=f) (H:=?_)
 rotate_left
 ·intro w hY; obtain ⟨up,z⟩:=hY; have hX:=z.2.2; clear z; (try dsimp only at hX); go_simp; try with_reducible rfl
 try simp only [ac]
 refine aa.q 15 ⟨some 154,_,_,_,_,_⟩ f ?_
 try simp only [ac]
 refine aa.q 16 ⟨some 155,_,_,_,_,_⟩ f ?_
 try simp only [ac]
 refine aa.q 17 ⟨some 156,_,_,_,_,_⟩ f ?_
 try simp only [ac]
 refine aa.tk (i:=18) (o:=⟨some 157,_,_,_,_,_⟩) (v:=?_) [] (y:=Or.inl ⟨by rfl,?_⟩) (s:=f) (H:=?_)
 rotate_left
 ·intro w hY; obtain ⟨up,z⟩:=hY; have hX:=z.2.1; clear z; (try dsimp only at hX); go_simp; try with_reducible rfl
 try simp only [ac]
 refine aa.q 19 ⟨some 158,_,_,_,_,_⟩ f ?_
 try simp only [ac]
 refine aa.tk (i:=20) (o:=⟨some 159,_,_,_,_,_⟩) (v:=?_) [] (y:=Or.inl ⟨by rfl,?_⟩) (s:=f) (H:=?_)
 rotate_left
 ·intro w hY; obtain ⟨up,z⟩:=hY; have hX:=z.2.2; clear z; (try dsimp only at hX); go_simp; try with_reducible rfl
 try simp only [ac]
 refine aa.q 21 ⟨some 160,_,_,_,_,_⟩ f ?_
 try simp only [ac]
 refine aa.q 22 ⟨some 161,_,_,_,_,_⟩ f ?_
 try simp only [ac]
 refine aa.one (i:=1) (o:=⟨some 140,_,_,_,_,_⟩) (by as_aux_lemma=>kernel_rfl) rfl (fun K D=>?_)
 go_simp
 with_reducible refine (round_2 _ _ ba).mono ?_
 rintro e' wa ⟨rfl,rfl⟩
 go_wp2_with fail
 refine D.out _ _ f ?_
 clear D K
 try simp only [ac]
 refine aa.one (i:=3) (o:=⟨some 142,_,_,_,_,_⟩) (by as_aux_lemma=>kernel_rfl) rfl (fun K D=>?_)
 go_simp
 with_reducible refine (round_13 _ _ ba).mono ?_
 rintro e' wb ⟨rfl,rfl⟩
 go_wp2_with fail
 refine D.out _ _ f ?_
 clear D K
 try simp only [ac]
 refine aa.q 4 ⟨some 143,_,_,_,_,_⟩ f ?_
 try simp only [ac]
 refine aa.one (i:=6) (o:=⟨some 145,_,_,_,_,_⟩) (by as_aux_lemma=>kernel_rfl) rfl (fun K D=>?_)
 go_simp
 with_reducible refine (round_22 _ _ ba).mono ?_
 rintro e' wc ⟨rfl,rfl⟩
 go_wp2_with fail
 refine D.out _ _ f ?_
 clear D K
 try simp only [ac]
 refine aa.q 7 ⟨some 146,_,_,_,_,_⟩ f ?_
 try simp only [ac]
 refine aa.q 23 ⟨some 162,_,_,_,_,_⟩ f ?_
 try simp only [ac]
 refine aa.q 24 ⟨some 17,_,_,_,_,_⟩ f ?_
 try simp only [ac]
 refine aa.done (by as_aux_lemma=>kernel_rfl) ?_ _
 refine NoPanic.normal ?_
 rw [HT.out]
 exact hQ.out _ _ _ _ _ _ _ _ _ _ _ _ _ _ _ _ _ _ _ _ _ _ _ _
structure Rc (w:World) (h:List Nat) (b:List UInt8) (gb o gt g12:Nat) (l:List Nat) (w':World):Prop where
 rb:Rb w h b gb o gt (wof b) w'
 e:Us w' g12 71 l
 lt:w.heap.size+1+1<g12
theorem Rc.drew {w w':World} {h:List Nat} {b:List UInt8} {gb o gt g12:Nat} {l:List Nat} (H:Rc w h b gb o gt g12 l w'):Rc w h b gb o gt g12 l w'.drew:=⟨H.rb.drew,H.e,H.lt⟩
theorem Rb.on {w w' w2:World} {h:List Nat} {b:List UInt8} {gb o gt:Nat} {l:List Nat} (H:Rb w h b gb o gt l w') (hb:Below w'.heap.size w' w2):Rb w h b gb o gt l w2 :=
 ⟨H.below.trans (hb.mono (Nat.le_of_lt H.n.lt)),H.n.on hb,H.z.on hb,H.l.on hb,H.b,H.hb,H.k⟩
theorem Rc.new {w wr:World} {h:List Nat} {b:List UInt8} {gb o gt:Nat} (H:Rb w h b gb o gt (wof b) wr):∃ w2,(wr.alloc (.cells #[.int .u32 0,.int .u32 0,.int .u32 0,.int .u32 0,.int .u32 0,.int .u32 0,.int .u32 0,.int .u32 0] 71)).setRow wr.heap.size (dv h).toArray=w2∧Hid (Rc w h b gb o gt wr.heap.size h w2):=by
 refine ⟨_,rfl,?_⟩
 rw [World.setRow_alloc_new]
 exact hid ⟨H.on ((Below.refl _ _).alloc (Nat.le_refl _) _),heap_alloc_new _ _,H.l.lt⟩
theorem Rc.row {w w':World} {h:List Nat} {b:List UInt8} {gb o gt g12:Nat} {l m:List Nat} (H:Rc w h b gb o gt g12 l w'):Rc w h b gb o gt g12 m (w'.setRow g12 (dv m).toArray):=by
 have f:=H.lt
 exact ⟨⟨below_setRow H.rb.below (by omega) _,H.rb.n.rowOther _ (by omega),H.rb.z.rowOther _ (by omega),H.rb.l.rowOther _ (by omega),H.rb.b,H.rb.hb,H.rb.k⟩,H.e.row,f⟩
theorem Rc.set {w w':World} {h:List Nat} {b:List UInt8} {gb o gt g12:Nat} {l:List Nat} (H:Rc w h b gb o gt g12 l w') (k v:Nat):Rc w h b gb o gt g12 (l.set k v) (w'.setCell ⟨g12,k,none⟩ (.int .u32 (v:Int))):=by
 have f:=H.lt
 exact ⟨⟨H.rb.below.setCell (by simp; omega) _,H.rb.n.other _ (by omega),H.rb.z.other _ (by omega),H.rb.l.other _ (by omega),H.rb.b,H.rb.hb,H.rb.k⟩,H.e.set k v,f⟩
theorem i56:(Tryz.prog.info? 71).map (·.size)=some 8:=by kernel_rfl
theorem hi56 (l:List Nat) (h:l.length=8):Hid ((Tryz.prog.info? 71).map (·.size)=some (dv l).toArray.size):=by rw [dx,h]; exact hid i56
theorem ho8 (l:List Nat) (h:l.length=8):Hid ((#[.int .u32 0,.int .u32 0,.int .u32 0,.int .u32 0,.int .u32 0,.int .u32 0,.int .u32 0,.int .u32 0]:Array Value).size=(dv l).toArray.size):=hid (by rw [dx,h]; rfl)
theorem block_any (h:List Nat) (b:List UInt8) (gb o gt cb:Nat) (w:World) (hl:h.length=8) (hs:Sm h) (hb:b.length=64) (bS:∀ j,(K:j<b.length)→w.cell? ⟨gb,o+j,none⟩=some (.int .u8 ((b[j].toNat:Nat):Int))) (hg:gb<w.heap.size) (hk:Us w gt 70 kk) :
  Calls Tryz.prog 110 #[.agg (dv h).toArray,.slice (some ⟨gb,o,none⟩) 64 cb,.slice (some ⟨gt,0,none⟩) 64 64] w fun e w'=>e=.returned (.agg (dv (comp h b)).toArray)∧Below w.heap.size w w':=by
 have D:=Rb.init w h b gb o gt bS hg hk
 have I:=hid hb
 have HL:=hid hl
 have aS:=hid hs
 clear hl hs hb bS hg hk
 go_enter Tryz.func110,Tryz.ntmps110
 go_wp2_with fail
 generalize ((w.alloc (.cells (dv h).toArray 71)).alloc (.cells #[.int .u32 0,.int .u32 0,.int .u32 0,.int .u32 0,.int .u32 0,.int .u32 0,.int .u32 0,.int .u32 0] 71)).alloc (.cells #[.int .u32 0,.int .u32 0,.int .u32 0,.int .u32 0,.int .u32 0,.int .u32 0,.int .u32 0,.int .u32 0,.int .u32 0,.int .u32 0,.int .u32 0,.int .u32 0,.int .u32 0,.int .u32 0,.int .u32 0,.int .u32 0,.int .u32 0,.int .u32 0,.int .u32 0,.int .u32 0,.int .u32 0,.int .u32 0,.int .u32 0,.int .u32 0,.int .u32 0,.int .u32 0,.int .u32 0,.int .u32 0,.int .u32 0,.int .u32 0,.int .u32 0,.int .u32 0,.int .u32 0,.int .u32 0,.int .u32 0,.int .u32 0,.int .u32 0,.int .u32 0,.int .u32 0,.int .u32 0,.int .u32 0,.int .u32 0,.int .u32 0,.int .u32 0,.int .u32 0,.int .u32 0,.int .u32 0,.int .u32 0,.int .u32 0,.int .u32 0,.int .u32 0,.int .u32 0,.int .u32 0,.int .u32 0,.int .u32 0,.int .u32 0,.int .u32 0,.int .u32 0,.int .u32 0,.int .u32 0,.int .u32 0,.int .u32 0,.int .u32 0,.int .u32 0] 139)=w0 at *
 go_loopw [8] (fun i wr=>∃ (k:Nat) (l:List Nat),k≤16∧i=.int .i64 k∧Hid (Rb w h b gb o gt l wr)∧Hid (l.length=64)∧Hid (∀ j,j<64→aZ l j=aZ (own b k) j)) (fun i _=>16 - (intOf i).toNat)
 case atStart=>exact ⟨0,List.replicate 64 0,by omega,rfl,D,hid rfl,hid (fun j K=>by rw [at_none (own b 0) j (Nat.zero_le _),at_lt (by simpa using K),List.getElem_replicate])⟩
 case round =>
  clear D
  obtain ⟨k,l,hk,rfl,D,E,J⟩:=hrel
  by_cases G:k<16
  ·obtain ⟨q0,ar⟩:∃ q,q=4 * k:=⟨_,rfl⟩
   obtain ⟨q1,ap⟩:∃ q,q=4 * k+1:=⟨_,rfl⟩
   obtain ⟨q2,ao⟩:∃ q,q=4 * k+2:=⟨_,rfl⟩
   obtain ⟨q3,an⟩:∃ q,q=4 * k+3:=⟨_,rfl⟩
   have i0:4 * (k:Int)=(q0:Int):=by omega
   have i1:(q0:Int)+1=(q1:Int):=by omega
   have i2:(q0:Int)+2=(q2:Int):=by omega
   have i3:(q0:Int)+3=(q3:Int):=by omega
   have l0:q0<64:=by omega
   have l1:q1<64:=by omega
   have l2:q2<64:=by omega
   have l3:q3<64:=by omega
   have H4:=hid (tell4 b k (by have:=I.out; omega))
   have c0:=D.out.bytes (4 * k) (by have:=I.out; omega)
   have c1:=D.out.bytes (4 * k+1) (by have:=I.out; omega)
   have c2:=D.out.bytes (4 * k+2) (by have:=I.out; omega)
   have c3:=D.out.bytes (4 * k+3) (by have:=I.out; omega)
   have cw:=D.out.l.cell k (by have:=E.out; omega)
   have cf:=D.out.l.frozen k
   have b0:=(b[4 * k]'(by have:=I.out; omega)).toNat_lt
   have b1:=(b[4 * k+1]'(by have:=I.out; omega)).toNat_lt
   have b2:=(b[4 * k+2]'(by have:=I.out; omega)).toNat_lt
   have b3:=(b[4 * k+3]'(by have:=I.out; omega)).toNat_lt
   generalize (b[4 * k]'(by have:=I.out; omega)).toNat=x0 at *
   generalize (b[4 * k+1]'(by have:=I.out; omega)).toNat=x1 at *
   generalize (b[4 * k+2]'(by have:=I.out; omega)).toNat=x2 at *
   generalize (b[4 * k+3]'(by have:=I.out; omega)).toNat=x3 at *
   rw [← ar] at c0
   rw [← ap] at c1
   rw [← ao] at c2
   rw [← an] at c3
   have HX:=hid (four_eq x0 x1 x2 x3 b0 b1 b2 b3)
   rw [← H4.out] at HX
   clear b0 b1 b2 b3 ar ap ao an
   go_wp2_with fail
   go_region
   go_wp2
   refine ⟨⟨k+1,l.set k (aF ((b.drop (4 * k)).take 4)),by omega,by go_num,?_,hid (by rw [List.length_set]; exact E.out),hid ?_⟩,by simp [intOf]; omega⟩
   ·have:=(D.out.set k (aF ((b.drop (4 * k)).take 4))).drew
    rw [← HX.out] at this
    exact hid this
   ·intro j K
    rw [at_set _ _ _ _ (by have:=E.out; omega),J.out j K,own,at_end,dF]
  ·obtain rfl:k=16:=by omega
   have aI:=hid (p:=∀ j,j<64→aZ l j=aZ (ext (own b 16) 0) j) (fun j K=>J.out j K)
   clear J
   go_wp2_with fail
   go_loopw [9] (fun i wr=>∃ (k:Nat) (l:List Nat),16≤k∧k≤64∧i=.int .i64 k∧Hid (Rb w h b gb o gt l wr)∧Hid (l.length=64)∧Hid (∀ j,j<64→aZ l j=aZ (ext (own b 16) (k - 16)) j)) (fun i _=>64 - (intOf i).toNat)
   case atStart=>exact ⟨16,l,by omega,by omega,rfl,D,E,aI⟩
   case round =>
    clear D E aI
    obtain ⟨k,l,hk0,hk,rfl,D,E,J⟩:=hrel
    by_cases G:k<64
    ·have HF:=rb_facts D.out E.out J.out hk0 G
     have HK:=hid hk0
     have ek:=hid hk
     clear hk0 hk
     obtain ⟨cZ,cY,p7,p2,x,cX,v7,y,zx,zy,bn,ax,aN,dd,da,l2,ej,c2,aR,b2,aM,aL,w16,w7,aK,i7,ik,aJ,j7,jk,hS,HC,bk,HV⟩:=HF
     go_wp2_with fail
     refine rb11_ok ax aN aR b2 aM aL w16 w7 aK i7 ik aJ j7 jk hS HC.out.1 HC.out.2 bk HV _ _ _ _ _ _ _ _ _ _ _ _ _ _ _ _ _ _ _ _ _ _ _ _ _ _ _ _ _ _ _ _ _ _ _ _ _ _ _ _ _ _ _ _ _ _ _ _ _ _ _ _ _ _ _ _ _ _ _ _ _ _ _ _ _ _ _ _ _ _ _ _ _ _ _ _ _ _ _ _ _ _ _ _ _ _ _ _ _ _ _ _ _ _ _ _ _ _ _ _ _ _ _ _ _ _ _ _ _ _ _ _ _ _ _ _ _ _ _ _ _ _ _ _ _ _ _ _ _ _ _ _ _ _ _ _ _ _ _ _ _ _ _ _ _ _ _ _ _ _ _ _ _ _ _ _ _ _ _ _ _ _ _ _ _ _ _ _ _ _ _ _ _ _ _ _ _ _ _ _ _ _ _ _ _ _ _ _ _ _ _ (hid ?_)
     intro ei eh eg ef ee ed ec eb ea dZ dY dX dW dV dU dT dO dN dG dC dB dA dz dy dw ds dr dm dk
     have HN:=hid (D.out.drew.set k (nxw (ext (own b 16) (k - 16))))
     generalize wr.drew.setCell ⟨w.heap.size+1+1,k,none⟩ (.int .u32 ((nxw (ext (own b 16) (k - 16)):Nat):Int))=wn at *
     go_wp2
     have h0:=HK.out
     refine ⟨⟨k+1,l.set k (nxw (ext (own b 16) (k - 16))),by omega,by omega,by go_num,HN,hid (by rw [List.length_set]; exact E.out),hid ?_⟩,by simp [intOf]; omega⟩
     intro j K
     rw [at_set _ _ _ _ (by have:=E.out; omega),show k+1 - 16=(k - 16)+1 by omega,ext,at_end,ext_length,dF,show 16+(k - 16)=k by omega]
     by_cases h:j=k
     ·rw [if_pos h,if_pos h]
     ·rw [if_neg h,if_neg h,J.out j K]
    ·obtain rfl:k=64:=by omega
     have aB:l=wof b:=by
      refine eq_of_at (by rw [E.out,wof_length]) (fun j K=>?_)
      rw [J.out j (by have:=E.out; omega)]; rfl
     have F:Hid (Rb w h b gb o gt (wof b) wr):=hid (aB ▸ D.out)
     clear J E D aB
     have Y:=hi56 h HL.out
     have L:=ho8 h HL.out
     have Z:=dv_all h
     obtain ⟨w3,al,O⟩:=Rc.new F.out
     have M:=F.out.n
     unfold Us at M
     have M:=hid M
     go_upto_region 12 with fail
     go_wp2_with (first | (refine wpList_load_row rfl 71 (.tmp 3) rfl w.heap.size rfl 71 (dv h).toArray (0,0) _ M.out Tryz.underlying71 rfl Y.out ?_) | (refine wpList_store_row rfl 71 (.tmp 12) (.tmp 99) rfl wr.heap.size (dv h).toArray rfl rfl 71 _ (heap_alloc_new _ _) Y.out L.out Z ?_; rw [al]))
     clear al Y L Z M F
     generalize wr.heap.size=g12 at *
     go_loopw [13] (fun i wr=>∃ (k:Nat) (f:Oct),k≤64∧i=.int .i64 k∧Hid f.Sm∧Hid (f=rnds (oct h) (wof b) k)∧Hid (Rc w h b gb o gt g12 f.l wr)) (fun i _=>64 - (intOf i).toNat)
     case atStart=>exact ⟨0,oct h,by omega,rfl,hid (oct_sm aS.out),hid rfl,hid (by rw [oct_l HL.out]; exact O.out)⟩
     case round =>
      clear O
      obtain ⟨k,f,hk,rfl,L,HR,D⟩:=hrel
      have x0:wr.cell? ⟨g12,0,none⟩=some (.int .u32 (f.a:Nat)):=D.out.e.cell 0 (by decide:(0:Nat)<8)
      have x1:wr.cell? ⟨g12,1,none⟩=some (.int .u32 (f.b:Nat)):=D.out.e.cell 1 (by decide:(1:Nat)<8)
      have x2:wr.cell? ⟨g12,2,none⟩=some (.int .u32 (f.c:Nat)):=D.out.e.cell 2 (by decide:(2:Nat)<8)
      have x3:wr.cell? ⟨g12,3,none⟩=some (.int .u32 (f.d:Nat)):=D.out.e.cell 3 (by decide:(3:Nat)<8)
      have x4:wr.cell? ⟨g12,4,none⟩=some (.int .u32 (f.e:Nat)):=D.out.e.cell 4 (by decide:(4:Nat)<8)
      have x5:wr.cell? ⟨g12,5,none⟩=some (.int .u32 (f.f:Nat)):=D.out.e.cell 5 (by decide:(5:Nat)<8)
      have x6:wr.cell? ⟨g12,6,none⟩=some (.int .u32 (f.g:Nat)):=D.out.e.cell 6 (by decide:(6:Nat)<8)
      have x7:wr.cell? ⟨g12,7,none⟩=some (.int .u32 (f.h:Nat)):=D.out.e.cell 7 (by decide:(7:Nat)<8)
      by_cases G:k<64
      ·have xk:=D.out.rb.kt.cell k (by rw [kk_length]; exact G)
       have xw:=D.out.rb.l.cell k (by rw [wof_length]; exact G)
       go_wp2_with fail
       refine rb18_ok (w:=w) (g12:=g12) (gt:=gt) (tv:=tt f (aZ kk k) (aZ (wof b) k)) L.out.e (by omega) (by omega) (wi_eq k G) ⟨x7,x5,x6,xk,xw⟩ (hid (t_eq2 f.e f.f f.g f.h (aZ kk k) (aZ (wof b) k) L.out.e L.out.f L.out.g)) _ _ _ _ _ _ _ _ _ _ _ _ _ _ _ _ _ _ _ _ _ _ _ _ _ _ _ _ _ _ _ _ _ _ _ _ _ _ _ _ _ _ _ _ _ _ _ _ _ _ _ _ _ _ _ _ _ _ _ _ _ _ _ _ _ _ _ _ _ _ _ _ _ _ _ _ _ _ _ _ _ _ _ _ _ _ _ _ _ _ _ _ _ _ _ _ _ _ _ _ _ _ _ _ _ _ _ _ _ _ _ _ _ _ _ _ _ _ _ _ _ _ _ _ _ _ _ _ _ _ _ _ _ _ _ _ _ _ _ _ _ _ _ _ _ _ _ _ _ _ _ _ _ _ _ _ _ _ _ _ _ _ _ _ _ _ _ _ _ _ _ _ _ _ _ _ _ _ _ _ _ _ _ _ _ _ _ _ _ _ (hid ?_)
       intro cW cV cU cT cS cR cQ cP cO cN cI cH cE cB cA cz cy cx cv cu ct cs cq cp co cn cm cl ck cj cd
       have F:=hid D.out.drew
       have y1:wr.drew.cell? ⟨g12,1,none⟩=some (.int .u32 (f.b:Nat)):=x1
       have y2:wr.drew.cell? ⟨g12,2,none⟩=some (.int .u32 (f.c:Nat)):=x2
       have y3:wr.drew.cell? ⟨g12,3,none⟩=some (.int .u32 (f.d:Nat)):=x3
       have y5:wr.drew.cell? ⟨g12,5,none⟩=some (.int .u32 (f.f:Nat)):=x5
       have y6:wr.drew.cell? ⟨g12,6,none⟩=some (.int .u32 (f.g:Nat)):=x6
       clear x0 x1 x2 x3 x4 x5 x6 x7 xk xw D
       generalize wr.drew=wd at *
       go_wp2_with fail
       refine rb19_ok (g12:=g12) (uv:=uu f) L.out.a ⟨y1,y2⟩ (hid (u_eq2 f.a f.b f.c L.out.a L.out.b L.out.c)) _ _ _ _ _ _ _ _ _ _ _ _ _ _ _ _ _ _ _ _ _ _ _ _ _ _ _ _ _ _ _ _ _ _ _ _ _ _ _ _ _ _ _ _ _ _ _ _ _ _ _ _ _ _ _ _ _ _ _ _ _ _ _ _ _ _ _ _ _ _ _ _ _ _ _ _ _ _ _ _ _ _ _ _ _ _ _ _ _ _ _ _ _ _ _ _ _ _ _ _ _ _ _ _ _ _ _ _ _ _ _ _ _ _ _ _ _ _ _ _ _ _ _ _ _ _ _ _ _ _ _ _ _ _ _ _ _ _ _ _ _ _ _ _ _ _ _ _ _ _ _ _ _ _ _ _ _ _ _ _ _ _ _ _ _ _ _ _ _ _ _ _ _ _ _ _ _ _ _ _ _ _ _ _ _ _ _ _ _ _ _ _ _ (hid ?_)
       intro cc ca bZ bY bX bW bV bU bR bQ bP bO bN bK bI bG bA bz bx bv bu bq bp bo
       have O:=hid F.out.drew
       have z1:wd.drew.cell? ⟨g12,1,none⟩=some (.int .u32 (f.b:Nat)):=y1
       have z2:wd.drew.cell? ⟨g12,2,none⟩=some (.int .u32 (f.c:Nat)):=y2
       have z3:wd.drew.cell? ⟨g12,3,none⟩=some (.int .u32 (f.d:Nat)):=y3
       have z5:wd.drew.cell? ⟨g12,5,none⟩=some (.int .u32 (f.f:Nat)):=y5
       have z6:wd.drew.cell? ⟨g12,6,none⟩=some (.int .u32 (f.g:Nat)):=y6
       clear y1 y2 y3 y5 y6 F
       generalize wd.drew=we at *
       have aT:=hid (p:=rnd f (aZ kk k) (aZ (wof b) k)=rnds (oct h) (wof b) (k+1)) (by rw [rnds,← HR.out])
       have bb:=hid (rnd_sm L.out (aZ kk k) (aZ (wof b) k))
       obtain ⟨na,az⟩:∃ na,na=(tt f (aZ kk k) (aZ (wof b) k)+uu f) % 4294967296:=⟨_,rfl⟩
       obtain ⟨ne,ay⟩:∃ ne,ne=(f.d+tt f (aZ kk k) (aZ (wof b) k)) % 4294967296:=⟨_,rfl⟩
       have aC:(rnd f (aZ kk k) (aZ (wof b) k)).l = [na,f.a,f.b,f.c,ne,f.e,f.f,f.g]:=by rw [az,ay]; rfl
       have HN:=hid (O.out.row (m:=[na,f.a,f.b,f.c,ne,f.e,f.f,f.g]))
       have dc:IntKind.u32.wrap (((tt f (aZ kk k) (aZ (wof b) k):Nat):Int)+((uu f:Nat):Int))=(na:Int):=by rw [IntKind.wrap_u32]; omega
       have db:IntKind.u32.wrap ((f.d:Int)+((tt f (aZ kk k) (aZ (wof b) k):Nat):Int))=(ne:Int):=by rw [IntKind.wrap_u32]; omega
       have bd:=hid aC
       clear az ay aC
       have V:=O.out.e
       unfold Us at V
       have V:=hid V
       have Y:=hi56 [na,f.a,f.b,f.c,ne,f.e,f.f,f.g] rfl
       have ad:Hid ((dv f.l).toArray.size=(dv [na,f.a,f.b,f.c,ne,f.e,f.f,f.g]).toArray.size):=hid rfl
       go_wp2_with (refine wpList_store_row rfl 71 (.tmp 12) (.tmp 180) rfl g12 (dv [na,f.a,f.b,f.c,ne,f.e,f.f,f.g]).toArray rfl rfl 71 _ V.out Y.out ad.out (dv_all _) ?_)
       refine ⟨⟨k+1,rnd f (aZ kk k) (aZ (wof b) k),by omega,by go_num,bb,aT,hid (by rw [bd.out]; exact HN.out)⟩,by simp [intOf]; omega⟩
      ·obtain rfl:k=64:=by omega
       clear x0 x1 x2 x3 x4 x5 x6 x7
       have ba:=hid (p:=f.l=(rnds (oct h) (wof b) 64).l) (by rw [← HR.out])
       have aW:=hid (show f.l.length=8 from rfl)
       clear HR
       go_wp2_with fail
       generalize f.l=r at *
       go_loopw [18] (fun i wr=>∃ (k:Nat) (m:List Nat),k≤8∧i=.int .i64 k∧Hid (Rc w h b gb o gt g12 m wr)∧Hid (m.length=8)∧Hid (∀ j,j<8→aZ m j=if j<k then (aZ h j+aZ r j) % 4294967296 else aZ r j)) (fun i _=>8 - (intOf i).toNat)
       case atStart=>exact ⟨0,r,by omega,rfl,D,aW,hid (fun j _=>by rw [if_neg (Nat.not_lt_zero _)])⟩
       case round =>
        clear D
        obtain ⟨k,m,hk,rfl,D,HM,J⟩:=hrel
        by_cases G:k<8
        ·have aQ:=D.out.e.cell k (by have:=HM.out; omega)
         have de:=D.out.e.frozen k
         have df:=D.out.rb.n.cell k (by have:=HL.out; omega)
         rw [J.out k G,if_neg (Nat.lt_irrefl _)] at aQ
         have aE:=hid (p:=(((aZ r k:Nat):Int)+((aZ h k:Nat):Int)) % 4294967296=(((aZ h k+aZ r k) % 4294967296:Nat):Int)) (by omega)
         generalize hz:(aZ h k+aZ r k) % 4294967296=z at aE
         have HZ:=hid hz
         clear hz
         go_wp2_with fail
         go_region
         go_wp2
         refine ⟨⟨k+1,m.set k z,by omega,by go_num,?_,hid (by rw [List.length_set]; exact HM.out),hid ?_⟩,by simp [intOf]; omega⟩
         ·have:=(D.out.set k z).drew
          rw [← aE.out] at this
          exact hid this
         ·intro j K
          rw [at_set _ _ _ _ (by have:=HM.out; omega),J.out j K]
          by_cases h:j=k
          ·subst h; rw [if_pos rfl,if_pos (by omega),HZ.out]
          ·rw [if_neg h]
           by_cases h2:j<k
           ·rw [if_pos h2,if_pos (by omega)]
           ·rw [if_neg h2,if_neg (by omega)]
        ·obtain rfl:k=8:=by omega
         have aA:m=comp h b:=by
          refine eq_of_at (by rw [HM.out,bT _ _ HL.out]) (fun j K=>?_)
          have ab:j<8:=by have:=HM.out; omega
          rw [J.out j ab,if_pos ab,comp,at_addl _ _ HL.out rfl j ab,ba.out]
         have F:Hid (Rc w h b gb o gt g12 (comp h b) wr):=hid (aA ▸ D.out)
         have aG:=hid (bT h b HL.out)
         clear D HM J aA
         generalize hr:comp h b=q at *
         have aU:=hid hr
         clear hr
         have Y:=hi56 q aG.out
         have ad:Hid ((dv (List.replicate 8 0)).toArray.size=(dv q).toArray.size):=hid (by rw [dx,dx,aG.out,List.length_replicate])
         have HZ:=hid (F.out.rb.z.row (m:=q))
         have bm:=hid (p:=Below w.heap.size w (wr.setRow (w.heap.size+1) (dv q).toArray)) (below_setRow F.out.rb.below (Nat.le_succ _) _)
         go_upto_region 25 with fail
         have Z:=dv_all q
         have U:=F.out.e
         have R:=F.out.rb.z
         unfold Us at U R
         have U:=hid U
         have R:=hid R
         go_wp2_with (first | (refine wpList_load_row rfl 71 (.tmp 12) rfl g12 rfl 71 (dv q).toArray (0,0) _ U.out Tryz.underlying71 rfl Y.out ?_) | (refine wpList_store_row rfl 71 (.tmp 6) (.tmp 194) rfl (w.heap.size+1) (dv q).toArray rfl rfl 71 _ R.out Y.out ad.out Z ?_))
         exact bodyPost_ret (v:=.agg (dv q).toArray) (results_cell_row (p:=6) (ty:=71) Tryz.results110 _ _ (w.heap.size+1) 71 (dv q).toArray (0,0) _ rfl HZ.out Tryz.underlying71 rfl Y.out) rfl ⟨by rw [aU.out],bm.out⟩
end
end Go.Proofs.YtmapkbdjnnionaaGreatDoor

import Derived.Test.YtmapkbdjnnionaaGreatDoorPzAN
import Derived.Deep.DeepCutAuto
import Derived.BigQuiet
set_option maxRecDepth 100000
set_option maxHeartbeats 8000000
set_option linter.all false
namespace Go.Proofs.YtmapkbdjnnionaaGreatDoor
section
open Go.RowKit
def LTw (w:World) (x y:Nat) (w':World):Prop:=Below w.heap.size w w'∧Nm w' w.heap.size x∧Nm w' (w.heap.size+1) y
theorem LTw.init (w:World) (x y:Nat):LTw w x y ((w.alloc (.cells (ai x) 24)).alloc (.cells (ai y) 24)):=by
 refine ⟨bal (bal (Below.refl _ _) _) _,(Nm.new w x).alloc _,?_⟩
 have:=Nm.new (w.alloc (.cells (ai x) 24)) y
 simpa using this
theorem LTw.drew {w w':World} {x y:Nat} (h:LTw w x y w'):LTw w x y w'.drew:=⟨h.1.drew,h.2.1,h.2.2⟩
theorem LTw.on {w w' w2:World} {x y:Nat} (h:LTw w x y w') (hb:Below w'.heap.size w' w2):LTw w x y w2:=⟨dM h.1 hb,h.2.1.on hb,h.2.2.on hb⟩
theorem LTw.alloc {w w':World} {x y:Nat} (h:LTw w x y w') (o:Obj):LTw w x y (w'.alloc o):=h.on (bal (Below.refl _ _) o)
theorem LTw.cell {w w':World} {x y:Nat} (h:LTw w x y w'):w'.cell? ⟨w.heap.size,0,none⟩=some (.int .u64 (wd x 0:Int))∧w'.cell? ⟨w.heap.size,1,none⟩=some (.int .u64 (wd x 1:Int))∧w'.cell? ⟨w.heap.size,2,none⟩=some (.int .u64 (wd x 2:Int))∧w'.cell? ⟨w.heap.size,3,none⟩=some (.int .u64 (wd x 3:Int))∧w'.cell? ⟨w.heap.size+1,0,none⟩=some (.int .u64 (wd y 0:Int))∧w'.cell? ⟨w.heap.size+1,1,none⟩=some (.int .u64 (wd y 1:Int))∧w'.cell? ⟨w.heap.size+1,2,none⟩=some (.int .u64 (wd y 2:Int))∧w'.cell? ⟨w.heap.size+1,3,none⟩=some (.int .u64 (wd y 3:Int)):=by
 obtain ⟨a,b,c,d⟩:=h.2.1.cell
 obtain ⟨e,f,g,i⟩:=h.2.2.cell
 exact ⟨a,b,c,d,e,f,g,i⟩
theorem LTw.sz {w w':World} {x y:Nat} (h:LTw w x y w'):w.heap.size+1<w'.heap.size:=h.2.2.lt
theorem LTw.set {w w':World} {x y:Nat} (h:LTw w x y w') (g i:Nat) (v:Value) (f:w.heap.size+1<g):LTw w x y (w'.setCell ⟨g,i,none⟩ v) :=
 ⟨h.1.setCell (by simp; omega) v,(Below.heap_setCell w' ⟨g,i,none⟩ v w.heap.size (by simp; omega)).trans h.2.1,(Below.heap_setCell w' ⟨g,i,none⟩ v (w.heap.size+1) (by simp; omega)).trans h.2.2⟩
theorem bcell {W w1:World} (hb:Below W.heap.size W w1):(∀ b o,b<W.heap.size→w1.cell? ⟨b,o,none⟩=W.cell? ⟨b,o,none⟩)∧(∀ b o,b<W.heap.size→w1.frozen? ⟨b,o,none⟩=W.frozen? ⟨b,o,none⟩) :=
 ⟨fun b o h=>hb.cell (p:=⟨b,o,none⟩) h,fun b o h=>hb.frozen (p:=⟨b,o,none⟩) h⟩
def Kept (W w:World):Prop:=(∀ b o,b<W.heap.size→w.cell? ⟨b,o,none⟩=W.cell? ⟨b,o,none⟩)∧(∀ b o,b<W.heap.size→w.frozen? ⟨b,o,none⟩=W.frozen? ⟨b,o,none⟩)∧(∀ b,b<W.heap.size→(b<w.heap.size)=True)∧(∀ b,b<W.heap.size→(b=w.heap.size)=False)∧(∀ b,b<W.heap.size→(w.heap.size=b)=False)
theorem Kept.of {W w:World} (hb:Below W.heap.size W w):Kept W w :=
 ⟨(bcell hb).1,(bcell hb).2,fun b h=>eq_true (Nat.lt_of_lt_of_le h hb.size),fun b h=>eq_false (by have:=hb.size; omega),fun b h=>eq_false (by have:=hb.size; omega)⟩
theorem hf_step (x k:Nat):x / 4294967296 ^ k=x / 4294967296 ^ (k+1) * 4294967296+hf x k:=by
 unfold hf
 rw [Nat.pow_succ,← Nat.div_div_eq_div_mul]
 omega
theorem hf_top (x y:Nat) (z:x<2 ^ 256) (f:y<2 ^ 256) (k:Nat) (h:∀ j,k≤j→j<8→hf x j=hf y j) (D:k≤8):x / 4294967296 ^ k=y / 4294967296 ^ k:=by
 induction hd:8 - k generalizing k with
 | zero =>
  have:k=8:=by omega
  subst this
  rw [Nat.div_eq_of_lt z,Nat.div_eq_of_lt f]
 | succ d ih =>
  rw [hf_step x k,hf_step y k,h k (Nat.le_refl _) (by omega),ih (k+1) (fun j E=>h j (by omega)) (by omega) (by omega)]
theorem hf_all (x y:Nat) (z:x<2 ^ 256) (f:y<2 ^ 256) (h:∀ j,j<8→hf x j=hf y j):x=y:=by
 have:=hf_top x y z f 0 (fun j _ D=>h j D) (by omega)
 simpa using this
theorem hf_less (x y k:Nat) (e:x / 4294967296 ^ (k+1)=y / 4294967296 ^ (k+1)) (h:hf x k<hf y k):x<y:=by
 have z:x / 4294967296 ^ k<y / 4294967296 ^ k:=by rw [hf_step x k,hf_step y k,e]; omega
 rcases Nat.lt_or_ge x y with f | f
 ·exact f
 ·have:=Nat.div_le_div_right (c:=4294967296 ^ k) f
  omega
theorem cmp_half (x y k:Nat) (E:x<2 ^ 256) (D:y<2 ^ 256) (G:k<8) (h:∀ j,k<j→j<8→hf x j=hf y j) (z:hf x k≠hf y k):aD (hf x k) (hf y k)=aD x y:=by
 have e:=hf_top x y E D (k+1) (fun j F=>h j F) (by omega)
 unfold aD
 rcases Nat.lt_or_gt_of_ne z with f | f
 ·rw [if_pos f,if_pos (hf_less x y k e f)]
 ·have:=hf_less y x k e.symm f
  rw [if_neg (by omega),if_pos f,if_neg (by omega),if_pos this]
theorem below_drewN {B:Nat} {W w':World} (h:Below B W w') (n:Nat):Below B W (w'.drewN n):=by
 induction n with
 | zero=>exact h
 | succ n ih=>exact ih.drew
def H8 (w:World) (g x:Nat):Prop:=w.cell? ⟨g,0,none⟩=some (.int .u32 (hf x 0:Int))∧w.cell? ⟨g,1,none⟩=some (.int .u32 (hf x 1:Int))∧w.cell? ⟨g,2,none⟩=some (.int .u32 (hf x 2:Int))∧w.cell? ⟨g,3,none⟩=some (.int .u32 (hf x 3:Int))∧w.cell? ⟨g,4,none⟩=some (.int .u32 (hf x 4:Int))∧w.cell? ⟨g,5,none⟩=some (.int .u32 (hf x 5:Int))∧w.cell? ⟨g,6,none⟩=some (.int .u32 (hf x 6:Int))∧w.cell? ⟨g,7,none⟩=some (.int .u32 (hf x 7:Int))
theorem H8.at {w:World} {g x:Nat} (h:H8 w g x) (k:Nat) (f:k<8):w.cell? ⟨g,k,none⟩=some (.int .u32 (hf x k:Int)):=by
 obtain ⟨K,J,I,G,F,E,D,z⟩:=h
 match k,f with
 | 0,_=>exact K
 | 1,_=>exact J
 | 2,_=>exact I
 | 3,_=>exact G
 | 4,_=>exact F
 | 5,_=>exact E
 | 6,_=>exact D
 | 7,_=>exact z
theorem eq8_yes (a b c d e f g h:Int) (w:World):(Op.equalIn 10000 72 (.agg #[.int .u32 a,.int .u32 b,.int .u32 c,.int .u32 d,.int .u32 e,.int .u32 f,.int .u32 g,.int .u32 h]) (.agg #[.int .u32 a,.int .u32 b,.int .u32 c,.int .u32 d,.int .u32 e,.int .u32 f,.int .u32 g,.int .u32 h])).run Tryz.prog w=.ok true w:=by
 have u3:=Tryz.underlying70
 have a3:=Tryz.isAgg70
 have z3:=Tryz.sizeOf70
 rw [show (10000:Nat)=9999+1 from rfl,Op.equalIn]
 simp only [Sem.run_bind,run_underlying Tryz.underlying72,Result.andThen_ok]
 simp only [Std.Legacy.Range.forIn_eq_forIn_range',Std.Legacy.Range.size,Nat.sub_zero,Nat.add_sub_cancel,Nat.div_one,List.range'_succ,List.range'_zero,List.forIn_cons,List.forIn_nil]
 go_simp
theorem eq8_no (a b c d e f g h Y V U R O M g' L:Int) (J:¬ (a=Y∧b=V∧c=U∧d=R∧e=O∧f=M∧g=g'∧h=L)) (w:World):(Op.equalIn 10000 72 (.agg #[.int .u32 a,.int .u32 b,.int .u32 c,.int .u32 d,.int .u32 e,.int .u32 f,.int .u32 g,.int .u32 h]) (.agg #[.int .u32 Y,.int .u32 V,.int .u32 U,.int .u32 R,.int .u32 O,.int .u32 M,.int .u32 g',.int .u32 L])).run Tryz.prog w=.ok false w:=by
 have u3:=Tryz.underlying70
 have a3:=Tryz.isAgg70
 have z3:=Tryz.sizeOf70
 rw [show (10000:Nat)=9999+1 from rfl,Op.equalIn]
 simp only [Sem.run_bind,run_underlying Tryz.underlying72,Result.andThen_ok]
 simp only [Std.Legacy.Range.forIn_eq_forIn_range',Std.Legacy.Range.size,Nat.sub_zero,Nat.add_sub_cancel,Nat.div_one,List.range'_succ,List.range'_zero,List.forIn_cons,List.forIn_nil]
 go_simp
 by_cases z:a=Y
 ·by_cases D:b=V
  ·by_cases E:c=U
   ·by_cases F:d=R
    ·by_cases G:e=O
     ·by_cases I:f=M
      ·by_cases K:g=g'
       ·by_cases Z:h=L
        ·exact absurd ⟨z,D,E,F,G,I,K,Z⟩ J
        ·simp [z,D,E,F,G,I,K,Z]
       ·simp [z,D,E,F,G,I,K]
      ·simp [z,D,E,F,G,I]
     ·simp [z,D,E,F,G]
    ·simp [z,D,E,F]
   ·simp [z,D,E]
  ·simp [z,D]
 ·simp [z]
theorem eq8_nums (x y:Nat) (D:x<2 ^ 256) (z:y<2 ^ 256) (f:x≠y) (w:World):(Op.equalIn 10000 72 (.agg (hcls x)) (.agg (hcls y))).run Tryz.prog w=.ok false w:=by
 refine eq8_no _ _ _ _ _ _ _ _ _ _ _ _ _ _ _ _ (fun h=>f (hf_all x y D z ?_)) w
 obtain ⟨O,M,L,K,J,I,G,F⟩:=h
 intro j E
 match j,E with
 | 0,_=>exact_mod_cast O
 | 1,_=>exact_mod_cast M
 | 2,_=>exact_mod_cast L
 | 3,_=>exact_mod_cast K
 | 4,_=>exact_mod_cast J
 | 5,_=>exact_mod_cast I
 | 6,_=>exact_mod_cast G
 | 7,_=>exact_mod_cast F
theorem cmp_any (x y:Nat) (w:World) (O:x<2 ^ 256) (M:y<2 ^ 256):Calls Tryz.prog 34 #[af x,af y] w fun e w'=>e=.returned (.int .i64 (aD x y))∧Below w.heap.size w w':=by
 go_enter Tryz.func34,Tryz.ntmps34
 go_upto_region 1 with fail
 have I:=hid (LTw.init w x y)
 generalize (w.alloc (.cells (ai x) 24)).alloc (.cells (ai y) 24)=w0 at *
 go_cut [5,6] (fun s5 s6 L=>∃ g5 G:Nat,s5=.pointer (some ⟨g5,0,none⟩)∧s6=.pointer (some ⟨G,0,none⟩)∧Hid (H8 L g5 x)∧Hid (H8 L G y)∧Hid (LTw w x y L))
 case first =>
  have cs:=I.out.cell
  have ab:=I.out.sz
  go_region_held3 (fun w'=>w'.cell? ⟨w.heap.size,0,none⟩=some (.int .u64 (wd x 0:Int))∧w'.cell? ⟨w.heap.size,1,none⟩=some (.int .u64 (wd x 1:Int))∧w'.cell? ⟨w.heap.size,2,none⟩=some (.int .u64 (wd x 2:Int))∧w'.cell? ⟨w.heap.size,3,none⟩=some (.int .u64 (wd x 3:Int))∧w'.cell? ⟨w.heap.size+1,0,none⟩=some (.int .u64 (wd y 0:Int))∧w'.cell? ⟨w.heap.size+1,1,none⟩=some (.int .u64 (wd y 1:Int))∧w'.cell? ⟨w.heap.size+1,2,none⟩=some (.int .u64 (wd y 2:Int))∧w'.cell? ⟨w.heap.size+1,3,none⟩=some (.int .u64 (wd y 3:Int)))
   (first | exact cs | exact LTw.cell (by repeat (first | exact I.out | refine LTw.alloc ?_ _ | refine LTw.drew ?_)))
   (first | (go_at_call 51; refine (split_ex _ _).mono ?_; rintro e w1 ⟨rfl,rfl⟩))
  all_goals
   go_wp2_with fail
   go_meet
   refine ⟨_,_,rfl,rfl,hid ?_,hid ?_,hid ?_⟩
   ·unfold H8; go_simp
   ·unfold H8; go_simp
   ·repeat (first | exact I.out | refine LTw.alloc ?_ _ | refine LTw.drew ?_)
 case rest =>
  obtain ⟨g5,G,rfl,rfl,E,D,HW⟩:=hcut
  clear I
  obtain ⟨x0,x1,x2,x3,x4,x5,x6,x7⟩:=E.out
  obtain ⟨y0,y1,y2,y3,y4,y5,y6,y7⟩:=D.out
  by_cases f:x=y
  ·subst f
   have F:=eq8_yes (hf x 0:Int) (hf x 1:Int) (hf x 2:Int) (hf x 3:Int) (hf x 4:Int) (hf x 5:Int) (hf x 6:Int) (hf x 7:Int)
   have HE:=hid (p:=aD x x=0) (by unfold aD; simp)
   go_wp2
   go_ret
   exact ⟨by rw [HE.out]; rfl,HW.out.1⟩
  ·have F:=eq8_nums x y O M f
   have HN:=hid f
   have K:=hid O
   have J:=hid M
   clear f O M
   go_wp2
   clear x0 x1 x2 x3 x4 x5 x6 x7 y0 y1 y2 y3 y4 y5 y6 y7 F
   go_loopw [7] (fun i wr=>∃ k:Nat,k<8∧i=.int .i64 k∧Hid (∀ j,k<j→j<8→hf x j=hf y j)∧Hid (H8 wr g5 x)∧Hid (H8 wr G y)∧Hid (Below w.heap.size w wr)) (fun i _=>(intOf i).toNat)
   case atStart=>exact ⟨7,by omega,rfl,hid (fun j h1 h2=>by omega),E,D,hid HW.out.1⟩
   case round =>
    obtain ⟨k,R,rfl,V,E,D,Z⟩:=hrel
    have cx:=E.out.at k R
    have U:=D.out.at k R
    by_cases z:hf x k=hf y k
    ·have hk1:1≤k:=by
      rcases Nat.eq_zero_or_pos k with h | h
      ·subst h
       exact absurd (hf_all x y K.out J.out (fun j hj=>by
        rcases Nat.eq_zero_or_pos j with h | h
        ·subst h; exact z
        ·exact V.out j h hj)) HN.out
      ·exact h
     have HQ:=hid z
     rw [← z] at U
     clear z
     go_wp2
     go_quiet (fail)
     go_wp2
     go_roundw
     case rel =>
      refine ⟨k - 1,by omega,by go_num,hid (fun j h1 h2=>?_),E,D,hid ?_⟩
      ·rcases Nat.lt_or_ge k j with h | h
       ·exact V.out j h h2
       ·have:j=k:=by omega
        subst this; exact HQ.out
      ·exact below_drewN Z.out nq
     case measure=>simp [intOf]; omega
    ·have HC:=hid (cmp_half x y k K.out J.out R V.out z)
     have ad:((hf x k:Int) == (hf y k:Int))=false:=by
      have:(hf x k:Int)≠(hf y k:Int):=by omega
      simpa using this
     clear z
     go_wp2
     go_quiet (fail)
     have an:(wr.drewN nq).cell? ⟨g5,k,none⟩=some (.int .u32 (hf x k:Int)):=cx
     have al:(wr.drewN nq).cell? ⟨G,k,none⟩=some (.int .u32 (hf y k:Int)):=U
     have Y:=hid (below_drewN Z.out nq)
     clear cx U E D Z
     generalize wr.drewN nq=w2 at *
     go_wp2
     go_quiet ((go_at_call 52; exact Calls.quiet_of_same ((compare_any _ _ _).mono fun _ _ h=>⟨h.1,h.2.symm⟩)))
     go_wp2
     go_ret
     exact ⟨by rw [← HC.out]; rfl,below_drewN Y.out _⟩
def LFo (w:World) (x y:Nat) (w':World):Prop :=
 Below w.heap.size w w'∧Nm w' w.heap.size x∧Nm w' (w.heap.size+1) y∧Fr w' (w.heap.size+1+1) (.int .u64 0) (.int .u64 0) (.int .u64 0) (.int .u64 0)∧Fr w' (w.heap.size+1+1+1) (.int .u64 0) (.int .u64 0) (.int .u64 0) (.int .u64 0)
theorem LFo.init (w:World) (x y:Nat):LFo w x y ((((w.alloc (.cells (ai x) 24)).alloc (.cells (ai y) 24)).alloc (.cells #[.int .u64 0,.int .u64 0,.int .u64 0,.int .u64 0] 24)).alloc (.cells #[.int .u64 0,.int .u64 0,.int .u64 0,.int .u64 0] 24)):=by
 refine ⟨bal (bal (bal (bal (Below.refl _ _) _) _) _) _,(((Nm.new w x).alloc _).alloc _).alloc _,?_,?_,?_⟩
 ·have:=((Nm.new (w.alloc (.cells (ai x) 24)) y).alloc (.cells #[.int .u64 0,.int .u64 0,.int .u64 0,.int .u64 0] 24)).alloc (.cells #[.int .u64 0,.int .u64 0,.int .u64 0,.int .u64 0] 24)
  simpa using this
 ·have:=(Fr.new ((w.alloc (.cells (ai x) 24)).alloc (.cells (ai y) 24)) (.int .u64 0) (.int .u64 0) (.int .u64 0) (.int .u64 0)).alloc (.cells #[.int .u64 0,.int .u64 0,.int .u64 0,.int .u64 0] 24)
  simpa using this
 ·have:=Fr.new (((w.alloc (.cells (ai x) 24)).alloc (.cells (ai y) 24)).alloc (.cells #[.int .u64 0,.int .u64 0,.int .u64 0,.int .u64 0] 24)) (.int .u64 0) (.int .u64 0) (.int .u64 0) (.int .u64 0)
  simpa using this
theorem LFo.drew {w w':World} {x y:Nat} (h:LFo w x y w'):LFo w x y w'.drew:=⟨h.1.drew,h.2.1,h.2.2.1,h.2.2.2.1,h.2.2.2.2⟩
theorem LFo.on {w w' w2:World} {x y:Nat} (h:LFo w x y w') (hb:Below w'.heap.size w' w2):LFo w x y w2:=⟨dM h.1 hb,h.2.1.on hb,h.2.2.1.on hb,h.2.2.2.1.on hb,h.2.2.2.2.on hb⟩
theorem LFo.alloc {w w':World} {x y:Nat} (h:LFo w x y w') (o:Obj):LFo w x y (w'.alloc o):=h.on (bal (Below.refl _ _) o)
theorem LFo.sz {w w':World} {x y:Nat} (h:LFo w x y w'):w.heap.size+1+1+1<w'.heap.size:=h.2.2.2.2.lt
theorem LFo.cell {w w':World} {x y:Nat} (h:LFo w x y w'):w'.cell? ⟨w.heap.size,0,none⟩=some (.int .u64 (wd x 0:Int))∧w'.cell? ⟨w.heap.size,1,none⟩=some (.int .u64 (wd x 1:Int))∧w'.cell? ⟨w.heap.size,2,none⟩=some (.int .u64 (wd x 2:Int))∧w'.cell? ⟨w.heap.size,3,none⟩=some (.int .u64 (wd x 3:Int))∧w'.cell? ⟨w.heap.size+1,0,none⟩=some (.int .u64 (wd y 0:Int))∧w'.cell? ⟨w.heap.size+1,1,none⟩=some (.int .u64 (wd y 1:Int))∧w'.cell? ⟨w.heap.size+1,2,none⟩=some (.int .u64 (wd y 2:Int))∧w'.cell? ⟨w.heap.size+1,3,none⟩=some (.int .u64 (wd y 3:Int)):=by
 obtain ⟨a,b,c,d⟩:=h.2.1.cell
 obtain ⟨e,f,g,i⟩:=h.2.2.1.cell
 exact ⟨a,b,c,d,e,f,g,i⟩
theorem LFo.set {w w':World} {x y:Nat} (h:LFo w x y w') (g i:Nat) (v:Value) (f:w.heap.size+1+1+1<g):LFo w x y (w'.setCell ⟨g,i,none⟩ v) :=
 ⟨h.1.setCell (by simp; omega) v,(Below.heap_setCell w' ⟨g,i,none⟩ v w.heap.size (by simp; omega)).trans h.2.1,(Below.heap_setCell w' ⟨g,i,none⟩ v (w.heap.size+1) (by simp; omega)).trans h.2.2.1,h.2.2.2.1.setOther v (by omega),h.2.2.2.2.setOther v (by omega)⟩
def dvs (ps:List Nat):List Value:=ps.map fun (d:Nat)=>.int .u32 (d:Int)
def Pr (w:World) (g:Nat) (ps:List Nat):Prop:=w.heap[g]?=some (.cells (dvs ps).toArray 96 (0,0))
theorem Pr.lt {w:World} {g:Nat} {f:List Nat} (h:Pr w g f):g<w.heap.size:=lt_of_block h
theorem Pr.cell {w:World} {g:Nat} {f:List Nat} (h:Pr w g f) (k:Nat) (z:k<f.length):w.cell? ⟨g,k,none⟩=some (.int .u32 (f[k]:Int)):=by
 rw [cell_of_row w g k _ 96 (0,0) h]; simp [dvs,z]
theorem Pr.frozen {w:World} {g:Nat} {f:List Nat} (h:Pr w g f) (i:Nat):w.frozen? ⟨g,i,none⟩=false:=by
 unfold Pr at h; simp [World.frozen?,h]
theorem Pr.set {w:World} {g:Nat} {f:List Nat} (h:Pr w g f) (k v:Nat):Pr (w.setCell ⟨g,k,none⟩ (.int .u32 (v:Int))) g (f.set k v):=by
 unfold Pr at h ⊢; simp [World.setCell,Array.getElem?_modify,h,dvs,List.map_set]
theorem H8.set {w:World} {g g' x i:Nat} (h:H8 w g x) (f:g'≠g) (v:Value):H8 (w.setCell ⟨g',i,none⟩ v) g x:=by
 obtain ⟨K,J,I,G,F,E,D,z⟩:=h
 unfold H8
 refine ⟨?_,?_,?_,?_,?_,?_,?_,?_⟩ <;> rw [World.cell?_setCell_far _ _ _ _ f] <;> assumption
theorem H8.lt {w:World} {g x:Nat} (h:H8 w g x):g<w.heap.size:=World.block_lt_of_cell? w ⟨g,0,none⟩ h.1
theorem H8.alloc {w:World} {g x:Nat} (h:H8 w g x) (o:Obj):H8 (w.alloc o) g x:=by
 have f:=h.lt
 obtain ⟨K,J,I,G,F,E,D,z⟩:=h
 unfold H8
 refine ⟨?_,?_,?_,?_,?_,?_,?_,?_⟩ <;> rw [World.cell?_alloc_lt _ _ _ f] <;> assumption
theorem idx8_0 (x:Nat) (w:World):(Instr.index 72 (.agg (hcls x)) (.int .i64 0)).run Tryz.prog w=.ok (.int .u32 (hf x 0:Int)) w:=by kernel_rfl
theorem idx8_1 (x:Nat) (w:World):(Instr.index 72 (.agg (hcls x)) (.int .i64 1)).run Tryz.prog w=.ok (.int .u32 (hf x 1:Int)) w:=by kernel_rfl
theorem idx8_2 (x:Nat) (w:World):(Instr.index 72 (.agg (hcls x)) (.int .i64 2)).run Tryz.prog w=.ok (.int .u32 (hf x 2:Int)) w:=by kernel_rfl
theorem idx8_3 (x:Nat) (w:World):(Instr.index 72 (.agg (hcls x)) (.int .i64 3)).run Tryz.prog w=.ok (.int .u32 (hf x 3:Int)) w:=by kernel_rfl
theorem idx8_4 (x:Nat) (w:World):(Instr.index 72 (.agg (hcls x)) (.int .i64 4)).run Tryz.prog w=.ok (.int .u32 (hf x 4:Int)) w:=by kernel_rfl
theorem idx8_5 (x:Nat) (w:World):(Instr.index 72 (.agg (hcls x)) (.int .i64 5)).run Tryz.prog w=.ok (.int .u32 (hf x 5:Int)) w:=by kernel_rfl
theorem idx8_6 (x:Nat) (w:World):(Instr.index 72 (.agg (hcls x)) (.int .i64 6)).run Tryz.prog w=.ok (.int .u32 (hf x 6:Int)) w:=by kernel_rfl
theorem idx8_7 (x:Nat) (w:World):(Instr.index 72 (.agg (hcls x)) (.int .i64 7)).run Tryz.prog w=.ok (.int .u32 (hf x 7:Int)) w:=by kernel_rfl
theorem idx8 (x k:Nat) (f:k<8) (w:World):(Instr.index 72 (.agg (hcls x)) (.int .i64 (k:Int))).run Tryz.prog w=.ok (.int .u32 (hf x k:Int)) w:=by
 match k,f with
 | 0,_=>exact idx8_0 x w
 | 1,_=>exact idx8_1 x w
 | 2,_=>exact idx8_2 x w
 | 3,_=>exact idx8_3 x w
 | 4,_=>exact idx8_4 x w
 | 5,_=>exact idx8_5 x w
 | 6,_=>exact idx8_6 x w
 | 7,_=>exact idx8_7 x w
theorem step_copy8 {ops:Array Oper} {o:Oper} {a:Act} {w:World} {K:Act→World→Prop} {Q:Exit→Act→World→Prop} {E:Prop} (M:o.guard=none) (d s:Operand)
  (ho:o.op=.call { callee:=.builtin .copy,args:=#[d,s],argTypes:=#[97,97] }) (g O F R:Nat) (hd:a.eval d=.slice (some ⟨g,0,none⟩) 8 8) (Z:a.eval s=.slice (some ⟨O,F,none⟩) 8 R)
  (z:List Nat) (J:z.length=8) (f:List Value) (D:f.length=8) (hg:w.heap[g]?=some (.cells f.toArray 72 (0,0))) (I:∀ j,(h:j<z.length)→w.cell? ⟨O,F+j,none⟩=some (.int .u32 (z[j]:Int)))
  (h:K (a.put o.dst (goInt 8)) (w.setRow g (dvs z).toArray)) :
  if Region.wanted o (yielded ops a.tmps)=true then Oper.wp Tryz.prog o a w K Q else E:=by
 have Y:Region.wanted o (yielded ops a.tmps)=true:=by simp [Region.wanted,M]
 rw [if_pos Y]
 have L:(dvs z).length=8:=by simp [dvs,J]
 have V:=run_copy_row (P:=Tryz.prog) w 97 97 o.type 70 g 0 8 8 ⟨O,F,none⟩ 8 R f.toArray 72 (dvs z) Tryz.underlying97 (by kernel_rfl) hg (by rw [L]; rfl) (fun j v G=>by
  have U:j<z.length:=by
   rcases Nat.lt_or_ge j z.length with h | h
   ·exact h
   ·rw [List.getElem?_eq_none (by simpa [dvs] using h)] at G; cases G
  simp [dvs,U] at G
  rw [cg,I j U,G]) (by simp [L,D]) (by
   intro v G
   simp only [dvs,List.mem_map] at G
   obtain ⟨b,_,rfl⟩:=G
   rfl)
 have e:(f.toArray.toList.take 0 ++ dvs z ++ f.toArray.toList.drop (0+(dvs z).length))=dvs z:=by
  rw [L,List.drop_eq_nil_of_le (by simp [D])]; simp
 rw [e,L] at V
 unfold Oper.wp
 simp [execOp,ho,resolve,invoke,builtin,hd,Z,V,Result.andThen]
 exact h
theorem LFo.row {w w':World} {x y:Nat} (h:LFo w x y w') (g:Nat) (f:Array Value) (z:w.heap.size+1+1+1<g):LFo w x y (w'.setRow g f) :=
 ⟨below_setRow h.1 (by omega) f,(setRow_other w' g w.heap.size f (by omega)).trans h.2.1,(setRow_other w' g (w.heap.size+1) f (by omega)).trans h.2.2.1,(setRow_other w' g (w.heap.size+1+1) f (by omega)).trans h.2.2.2.1,(setRow_other w' g (w.heap.size+1+1+1) f (by omega)).trans h.2.2.2.2⟩
theorem H8.of {w:World} {g n:Nat} {D:List Nat} (z:D.length=8) (hc:∀ k,(h:k<D.length)→D[k]=hf n k) (F:w.heap[g]?=some (.cells (dvs D).toArray 72 (0,0))):H8 w g n:=by
 have f:∀ k,k<8→w.cell? ⟨g,k,none⟩=some (.int .u32 (hf n k:Int)):=by
  intro k E
  rw [cell_of_row w g k _ 72 (0,0) F,← hc k (by omega)]
  simp [dvs,z,E]
 exact ⟨f 0 (by omega),f 1 (by omega),f 2 (by omega),f 3 (by omega),f 4 (by omega),f 5 (by omega),f 6 (by omega),f 7 (by omega)⟩
theorem H8.drew {w:World} {g x:Nat} (h:H8 w g x):H8 w.drew g x:=h
theorem both8 {w:World} {f lo hi:Nat} (D:H8 w f lo) (z:H8 w (f+1) hi):w.cell? ⟨f,0,none⟩=some (.int .u32 (hf lo 0:Int))∧w.cell? ⟨f,1,none⟩=some (.int .u32 (hf lo 1:Int))∧w.cell? ⟨f,2,none⟩=some (.int .u32 (hf lo 2:Int))∧w.cell? ⟨f,3,none⟩=some (.int .u32 (hf lo 3:Int))∧w.cell? ⟨f,4,none⟩=some (.int .u32 (hf lo 4:Int))∧w.cell? ⟨f,5,none⟩=some (.int .u32 (hf lo 5:Int))∧w.cell? ⟨f,6,none⟩=some (.int .u32 (hf lo 6:Int))∧w.cell? ⟨f,7,none⟩=some (.int .u32 (hf lo 7:Int))∧w.cell? ⟨f+1,0,none⟩=some (.int .u32 (hf hi 0:Int))∧w.cell? ⟨f+1,1,none⟩=some (.int .u32 (hf hi 1:Int))∧w.cell? ⟨f+1,2,none⟩=some (.int .u32 (hf hi 2:Int))∧w.cell? ⟨f+1,3,none⟩=some (.int .u32 (hf hi 3:Int))∧w.cell? ⟨f+1,4,none⟩=some (.int .u32 (hf hi 4:Int))∧w.cell? ⟨f+1,5,none⟩=some (.int .u32 (hf hi 5:Int))∧w.cell? ⟨f+1,6,none⟩=some (.int .u32 (hf hi 6:Int))∧w.cell? ⟨f+1,7,none⟩=some (.int .u32 (hf hi 7:Int)):=by
 obtain ⟨U,R,O,a3,a4,a5,M,L⟩:=D
 obtain ⟨b0,b1,K,J,I,G,F,E⟩:=z
 exact ⟨U,R,O,a3,a4,a5,M,L,b0,b1,K,J,I,G,F,E⟩
def Lp (w:World) (x y g7 g8:Nat) (ps:List Nat) (w':World):Prop:=Pr w' g8 ps∧H8 w' g7 y∧LFo w x y w'∧g8≠g7∧w.heap.size+1+1+1<g8∧ps.length=16∧∀ d∈ps,d<4294967296
theorem Lp.init {w w':World} {x y g7:Nat} (f:H8 w' g7 y) (hf:LFo w x y w'):Lp w x y g7 w'.heap.size (List.replicate 16 0) (w'.alloc (.cells #[.int .u32 0,.int .u32 0,.int .u32 0,.int .u32 0,.int .u32 0,.int .u32 0,.int .u32 0,.int .u32 0,.int .u32 0,.int .u32 0,.int .u32 0,.int .u32 0,.int .u32 0,.int .u32 0,.int .u32 0,.int .u32 0] 96)) :=
 ⟨heap_alloc_new _ _,f.alloc _,hf.alloc _,by have:=f.lt; omega,hf.sz,by simp,by simp⟩
theorem Lp.set {w w':World} {x y g7 f:Nat} {z:List Nat} (h:Lp w x y g7 f z w') (k v:Nat) (L:v<4294967296):Lp w x y g7 f (z.set k v) (w'.setCell ⟨f,k,none⟩ (.int .u32 (v:Int))):=by
 obtain ⟨K,J,I,E,D,G,F⟩:=h
 refine ⟨K.set k v,J.set E _,I.set _ _ _ D,E,D,by simpa using G,fun d hd=>?_⟩
 rcases List.mem_or_eq_of_mem_set hd with h | h
 ·exact F d h
 ·omega
theorem mul_any (x y:Nat) (w:World) (hx:x<2 ^ 256) (hy:y<2 ^ 256) :
  Calls Tryz.prog 66 #[af x,af y] w fun e w'=>e=.returned (.tuple #[af (x * y % 2 ^ 256),af (x * y / 2 ^ 256)])∧Below w.heap.size w w':=by
 go_enter Tryz.func66,Tryz.ntmps66
 go_upto_region 1 with fail
 have HT:=hid (LFo.init w x y)
 generalize (((w.alloc (.cells (ai x) 24)).alloc (.cells (ai y) 24)).alloc (.cells #[.int .u64 0,.int .u64 0,.int .u64 0,.int .u64 0] 24)).alloc (.cells #[.int .u64 0,.int .u64 0,.int .u64 0,.int .u64 0] 24)=w0 at *
 go_cut [6,7] (fun s6 s7 wx=>∃ g6 g7:Nat,s6=.pointer (some ⟨g6,0,none⟩)∧s7=.pointer (some ⟨g7,0,none⟩)∧Hid (H8 wx g6 x)∧Hid (H8 wx g7 y)∧Hid (LFo w x y wx))
 case first =>
  have cs:=HT.out.cell
  have bu:=HT.out.sz
  go_region_held3 (fun w'=>w'.cell? ⟨w.heap.size,0,none⟩=some (.int .u64 (wd x 0:Int))∧w'.cell? ⟨w.heap.size,1,none⟩=some (.int .u64 (wd x 1:Int))∧w'.cell? ⟨w.heap.size,2,none⟩=some (.int .u64 (wd x 2:Int))∧w'.cell? ⟨w.heap.size,3,none⟩=some (.int .u64 (wd x 3:Int))∧w'.cell? ⟨w.heap.size+1,0,none⟩=some (.int .u64 (wd y 0:Int))∧w'.cell? ⟨w.heap.size+1,1,none⟩=some (.int .u64 (wd y 1:Int))∧w'.cell? ⟨w.heap.size+1,2,none⟩=some (.int .u64 (wd y 2:Int))∧w'.cell? ⟨w.heap.size+1,3,none⟩=some (.int .u64 (wd y 3:Int)))
   (first | exact cs | exact LFo.cell (by repeat (first | exact HT.out | refine LFo.alloc ?_ _ | refine LFo.drew ?_)))
   (first | (go_at_call 51; refine (split_ex _ _).mono ?_; rintro e w1 ⟨rfl,rfl⟩))
  all_goals
   go_wp2_with fail
   go_meet
   refine ⟨_,_,rfl,rfl,hid ?_,hid ?_,hid ?_⟩
   ·unfold H8; go_simp
   ·unfold H8; go_simp
   ·repeat (first | exact HT.out | refine LFo.alloc ?_ _ | refine LFo.drew ?_)
 case rest =>
  obtain ⟨g6,g7,rfl,rfl,HX,HY,HW⟩:=hcut
  clear HT
  obtain ⟨x0,x1,x2,x3,x4,x5,x6,x7⟩:=HX.out
  have aW:=HX.out.lt
  have K:=hid (Lp.init HY.out HW.out)
  go_wp2
  clear x0 x1 x2 x3 x4 x5 x6 x7 HX HY HW aW
  generalize wc.alloc (.cells #[.int .u32 0,.int .u32 0,.int .u32 0,.int .u32 0,.int .u32 0,.int .u32 0,.int .u32 0,.int .u32 0,.int .u32 0,.int .u32 0,.int .u32 0,.int .u32 0,.int .u32 0,.int .u32 0,.int .u32 0,.int .u32 0] 96)=w8 at *
  generalize wc.heap.size=g8 at *
  have Y:=hid (val_zero 16)
  have bd:=hid hy
  have bk:=hid hx
  clear hx hy
  go_loopw [21] (fun i wr=>∃ (k:Nat) (D:List Nat),k≤8∧i=.int .i64 k∧Hid (Lp w x y g7 g8 D wr)∧Hid (∀ m,k+8≤m→(h:m<D.length)→D[m]=0)∧Hid (val D=x % 4294967296 ^ k * y)) (fun i _=>8 - (intOf i).toNat)
  case atStart=>exact ⟨0,List.replicate 16 0,by omega,rfl,K,hid (fun m _ h=>List.getElem_replicate ..),hid (by rw [Y.out,Nat.pow_zero,Nat.mod_one,Nat.zero_mul])⟩
  case round =>
   obtain ⟨k,D,hk,rfl,K,HZ,Y⟩:=hrel
   by_cases aU:k<8
   ·obtain ⟨y0,y1,y2,y3,y4,y5,y6,y7⟩:=K.out.2.1
    have aA:=idx8 x k aU
    go_wp2
    clear y0 y1 y2 y3 y4 y5 y6 y7 aA
    have hp:=hf_lt x k
    go_loopw [11,26] (fun c j wi=>∃ (m V:Nat) (R:List Nat),m≤8∧j=.int .i64 m∧c=.int .u64 V∧V<4294967296∧Hid (Lp w x y g7 g8 R wi)∧Hid (∀ m,k+8≤m→(h:m<R.length)→R[m]=0)∧Hid (val R+V * 4294967296 ^ (k+m)=x % 4294967296 ^ k * y+hf x k * (y % 4294967296 ^ m) * 4294967296 ^ k)) (fun _ j _=>8 - (intOf j).toNat)
    case atStart=>exact ⟨0,0,D,by omega,rfl,rfl,by omega,K,HZ,hid (by rw [Y.out,Nat.pow_zero,Nat.mod_one,Nat.zero_mul,Nat.mul_zero,Nat.zero_mul])⟩
    case round =>
     obtain ⟨m,V,R,hm,rfl,rfl,hc,K,HZ,Y⟩:=hrel
     by_cases ay:m<8
     ·have aA:=idx8 y m ay
      have hq:=hf_lt y m
      have E:=K.out.2.2.2.2.2.1
      have L:k+m<R.length:=by omega
      have cd:=K.out.1.cell (k+m) L
      have hd:=K.out.2.2.2.2.2.2 _ (List.getElem_mem L)
      have cf:=K.out.1.frozen (k+m)
      have ax:=pq_le hp hq
      have bA:(0:Int)≤(hf x k:Int) * (hf y m:Int):=Int.mul_nonneg (by omega) (by omega)
      have bz:(hf x k:Int) * (hf y m:Int)≤18446744065119617025:=by rw [← Int.natCast_mul]; omega
      generalize aE:R[k+m]=d at *
      have HD:=hid aE
      clear aE
      have HK:=hid L
      have HP:=hid ax
      clear E ax
      go_wp2
      go_roundw
      case rel =>
       obtain ⟨t,ht⟩:∃ t:Nat,t=V+(hf x k * hf y m+d):=⟨_,rfl⟩
       have ao:(V:Int)+((hf x k:Int) * (hf y m:Int)+(d:Int))=(t:Int):=by rw [ht]; simp
       have bv:t<18446744073709551616:=by have:=HP.out; omega
       have hk:=HK.out
       have Z:=in_step R (x % 4294967296 ^ k * y) (hf x k) V y k m t hk (by rw [ht,HD.out]) Y.out
       refine ⟨m+1,t / 4294967296,R.set (k+m) (t % 4294967296),by omega,by go_num,?_,by omega,hid ?_,hid ?_,hid Z⟩
       ·rw [ao]; simp
       ·rw [ao]
        have:=K.out.set (k+m) (t % 4294967296) (by omega)
        simpa using this
       ·intro n hn h
        rw [List.getElem_set,if_neg (by omega)]
        exact HZ.out n hn (by simpa using h)
      case measure=>simp [intOf]; omega
     ·obtain rfl:m=8:=by omega
      have E:=K.out.2.2.2.2.2.1
      have L:k+8<R.length:=by omega
      have cd:=K.out.1.cell (k+8) L
      have cf:=K.out.1.frozen (k+8)
      have HK:=hid L
      generalize R[k+8]=d at cd
      clear E L
      go_wp2
      go_roundw
      case rel =>
       have hk8:=HK.out
       have hz:=HZ.out (k+8) (Nat.le_refl _) hk8
       have Z:=out_step R x y V k bd.out hk8 hz Y.out
       refine ⟨k+1,R.set (k+8) V,by omega,by go_num,hid ?_,hid ?_,hid Z⟩
       ·exact K.out.set (k+8) V hc
       ·intro n hn h
        rw [List.getElem_set,if_neg (by omega)]
        exact HZ.out n (by omega) (by simpa using h)
      case measure=>simp [intOf]; omega
   ·obtain rfl:k=8:=by omega
    go_wp2
    obtain ⟨HA,HB,HF,-,bx,E,aC⟩:=K.out
    have HP:=hid (p:=Pr ((wr.alloc (.cells #[.int .u32 0,.int .u32 0,.int .u32 0,.int .u32 0,.int .u32 0,.int .u32 0,.int .u32 0,.int .u32 0] 72)).alloc (.cells #[.int .u32 0,.int .u32 0,.int .u32 0,.int .u32 0,.int .u32 0,.int .u32 0,.int .u32 0,.int .u32 0] 72)) g8 D) ((Below.heap_alloc _ _ _ (by have:=HA.lt; simp; omega)).trans ((Below.heap_alloc _ _ _ HA.lt).trans HA))
    have aR:=hid ((HF.alloc (.cells #[.int .u32 0,.int .u32 0,.int .u32 0,.int .u32 0,.int .u32 0,.int .u32 0,.int .u32 0,.int .u32 0] 72)).alloc (.cells #[.int .u32 0,.int .u32 0,.int .u32 0,.int .u32 0,.int .u32 0,.int .u32 0,.int .u32 0,.int .u32 0] 72))
    have al:=hid ((Below.heap_alloc (wr.alloc (.cells #[.int .u32 0,.int .u32 0,.int .u32 0,.int .u32 0,.int .u32 0,.int .u32 0,.int .u32 0,.int .u32 0] 72)) (.cells #[.int .u32 0,.int .u32 0,.int .u32 0,.int .u32 0,.int .u32 0,.int .u32 0,.int .u32 0,.int .u32 0] 72) wr.heap.size (by simp)).trans (heap_alloc_new wr (.cells #[.int .u32 0,.int .u32 0,.int .u32 0,.int .u32 0,.int .u32 0,.int .u32 0,.int .u32 0,.int .u32 0] 72)))
    have aN:Hid (((wr.alloc (.cells #[.int .u32 0,.int .u32 0,.int .u32 0,.int .u32 0,.int .u32 0,.int .u32 0,.int .u32 0,.int .u32 0] 72)).alloc (.cells #[.int .u32 0,.int .u32 0,.int .u32 0,.int .u32 0,.int .u32 0,.int .u32 0,.int .u32 0,.int .u32 0] 72)).heap[wr.heap.size+1]?=some (.cells #[.int .u32 0,.int .u32 0,.int .u32 0,.int .u32 0,.int .u32 0,.int .u32 0,.int .u32 0,.int .u32 0] 72)):=hid (by
     have:=heap_alloc_new (wr.alloc (.cells #[.int .u32 0,.int .u32 0,.int .u32 0,.int .u32 0,.int .u32 0,.int .u32 0,.int .u32 0,.int .u32 0] 72)) (.cells #[.int .u32 0,.int .u32 0,.int .u32 0,.int .u32 0,.int .u32 0,.int .u32 0,.int .u32 0,.int .u32 0] 72)
     simpa using this)
    have bm:=hid HA.lt
    have ab:=hid HF.sz
    generalize (wr.alloc (.cells #[.int .u32 0,.int .u32 0,.int .u32 0,.int .u32 0,.int .u32 0,.int .u32 0,.int .u32 0,.int .u32 0] 72)).alloc (.cells #[.int .u32 0,.int .u32 0,.int .u32 0,.int .u32 0,.int .u32 0,.int .u32 0,.int .u32 0,.int .u32 0] 72)=wA at *
    generalize wr.heap.size=f at *
    have z:=hid E
    have an:=hid aC
    clear HA HB HF E aC K HZ
    go_region_law (refine step_copy8 (by rfl) (.tmp 59) (.tmp 60) (by rfl) f g8 0 16 (by rfl) (by rfl) (D.take 8) (by have:=z.out; simp; omega) [.int .u32 0,.int .u32 0,.int .u32 0,.int .u32 0,.int .u32 0,.int .u32 0,.int .u32 0,.int .u32 0] (by rfl) al.out (fun j h=>by
     have h2:j<D.length:=by simp at h; omega
     have:=HP.out.cell j h2
     rw [Nat.zero_add,List.getElem_take]; exact this) ?_)
    have aK:=hid (p:=Pr (wA.drew.setRow f (dvs (D.take 8)).toArray) g8 D) ((setRow_other wA.drew f g8 _ (by have:=bm.out; omega)).trans HP.out)
    have aQ:=hid (aR.out.drew.row f (dvs (D.take 8)).toArray ab.out)
    have aI:=hid (setRow_heap wA.drew f _ (dvs (D.take 8)).toArray 72 (0,0) al.out)
    have ad:=hid ((setRow_other wA.drew f (f+1) (dvs (D.take 8)).toArray (by omega)).trans aN.out)
    clear HP aR al aN
    generalize wA.drew.setRow f (dvs (D.take 8)).toArray=wB at *
    go_wp2
    go_region_law (refine step_copy8 (by rfl) (.tmp 62) (.tmp 63) (by rfl) (f+1) g8 8 8 (by rfl) (by rfl) (D.drop 8) (by have:=z.out; simp; omega) [.int .u32 0,.int .u32 0,.int .u32 0,.int .u32 0,.int .u32 0,.int .u32 0,.int .u32 0,.int .u32 0] (by rfl) ad.out (fun j h=>by
     have h2:8+j<D.length:=by simp at h; omega
     have:=aK.out.cell (8+j) h2
     rw [List.getElem_drop]; exact this) ?_)
    have I:=hid (aQ.out.drew.row (f+1) (dvs (D.drop 8)).toArray (by have:=ab.out; omega))
    have aM:=hid ((setRow_other wB.drew (f+1) f (dvs (D.drop 8)).toArray (by omega)).trans aI.out)
    have aL:=hid (setRow_heap wB.drew (f+1) _ (dvs (D.drop 8)).toArray 72 (0,0) ad.out)
    clear aK aQ aI ad
    generalize wB.drew.setRow (f+1) (dvs (D.drop 8)).toArray=U at *
    have hv:val D=x * y:=by rw [Y.out]; congr 1; exact Nat.mod_eq_of_lt bk.out
    have H1:=hid (H8.of (n:=x * y % 2 ^ 256) (by have:=z.out; simp; omega) (fun k h=>by
     have hk:k<8:=by simp at h; omega
     rw [List.getElem_take,val_digit D an.out k (by have:=z.out; omega),hv,hf_low _ _ hk]) aM.out)
    have H2:=hid (H8.of (n:=x * y / 2 ^ 256) (by have:=z.out; simp; omega) (fun k h=>by
     have hk:k<8:=by have:=z.out; simp at h; omega
     rw [List.getElem_drop,val_digit D an.out (8+k) (by have:=z.out; omega),hv,hf_high,Nat.add_comm 8 k]) aL.out)
    clear aM aL hv Y an z
    generalize az:x * y % 2 ^ 256=lo at *
    generalize aB:x * y / 2 ^ 256=hi at *
    have bn:=hid az
    have bo:=hid aB
    clear az aB
    obtain ⟨a0,a1,a2,a3,a4,a5,a6,a7⟩:=H1.out
    obtain ⟨b0,b1,b2,b3,b4,b5,b6,b7⟩:=H2.out
    obtain ⟨c0,c1,c2,c3⟩:=I.out.2.2.2.1.cell
    obtain ⟨d0,d1,d2,d3⟩:=I.out.2.2.2.2.cell
    have f4:=I.out.2.2.2.1.frozen
    have f5:=I.out.2.2.2.2.frozen
    have bb:=hid I.out.2.2.2.1
    have ba:=hid I.out.2.2.2.2
    have l4:=I.out.2.2.2.1.lt
    have l5:=I.out.2.2.2.2.lt
    have hs:=ab.out
    generalize aS:w.heap.size+1+1+1=F at *
    generalize aT:w.heap.size+1+1=G at *
    have bq:(G=F)=False:=eq_false (by omega)
    have bp:(F=G)=False:=eq_false (by omega)
    have O:w.heap.size≤G:=by omega
    have M:w.heap.size≤F:=by omega
    have ar:G≠f∧G≠f+1:=by omega
    have ap:F≠f∧F≠f+1:=by omega
    have aJ:=hid ar
    have aG:=hid ap
    have m1:G<U.heap.size+1:=by omega
    have m2:G<U.heap.size+1+1:=by omega
    have m3:G<U.heap.size+1+1+1:=by omega
    have m4:G<U.heap.size+1+1+1+1:=by omega
    have m5:G<U.heap.size+1+1+1+1+1:=by omega
    have n1:F<U.heap.size+1:=by omega
    have n2:F<U.heap.size+1+1:=by omega
    have n3:F<U.heap.size+1+1+1:=by omega
    have n4:F<U.heap.size+1+1+1+1:=by omega
    have n5:F<U.heap.size+1+1+1+1+1:=by omega
    have J:=hid (p:=G≠F) (by omega)
    clear hs ar ap aS aT
    go_wp2
    go_region_held3 (fun w'=>w'.cell? ⟨f,0,none⟩=some (.int .u32 (hf lo 0:Int))∧w'.cell? ⟨f,1,none⟩=some (.int .u32 (hf lo 1:Int))∧w'.cell? ⟨f,2,none⟩=some (.int .u32 (hf lo 2:Int))∧w'.cell? ⟨f,3,none⟩=some (.int .u32 (hf lo 3:Int))∧w'.cell? ⟨f,4,none⟩=some (.int .u32 (hf lo 4:Int))∧w'.cell? ⟨f,5,none⟩=some (.int .u32 (hf lo 5:Int))∧w'.cell? ⟨f,6,none⟩=some (.int .u32 (hf lo 6:Int))∧w'.cell? ⟨f,7,none⟩=some (.int .u32 (hf lo 7:Int))
     ∧w'.cell? ⟨f+1,0,none⟩=some (.int .u32 (hf hi 0:Int))∧w'.cell? ⟨f+1,1,none⟩=some (.int .u32 (hf hi 1:Int))∧w'.cell? ⟨f+1,2,none⟩=some (.int .u32 (hf hi 2:Int))∧w'.cell? ⟨f+1,3,none⟩=some (.int .u32 (hf hi 3:Int))∧w'.cell? ⟨f+1,4,none⟩=some (.int .u32 (hf hi 4:Int))∧w'.cell? ⟨f+1,5,none⟩=some (.int .u32 (hf hi 5:Int))∧w'.cell? ⟨f+1,6,none⟩=some (.int .u32 (hf hi 6:Int))∧w'.cell? ⟨f+1,7,none⟩=some (.int .u32 (hf hi 7:Int)))
     (exact both8 (by repeat (first | (with_reducible exact H1.out) | (with_reducible refine H8.drew ?_) | (with_reducible refine H8.alloc ?_ _) | ((with_reducible refine H8.set ?_ ?_ _); (rotate_left; first | exact aJ.out.1 | exact aG.out.1)))) (by repeat (first | (with_reducible exact H2.out) | (with_reducible refine H8.drew ?_) | (with_reducible refine H8.alloc ?_ _) | ((with_reducible refine H8.set ?_ ?_ _); (rotate_left; first | exact aJ.out.2 | exact aG.out.2)))))
     (first | (go_at_call 88; refine (join_ex _ _).mono ?_; rintro e w1 ⟨rfl,rfl⟩))
    go_wp2
    have K4:=hid (((((((((((((((bb.out.set0 (.int .u64 (wd lo 0:Int))).set1 (.int .u64 (wd lo 1:Int))).set2 (.int .u64 (wd lo 2:Int))).set3 (.int .u64 (wd lo 3:Int))).setOther (i:=0) (.int .u64 (wd hi 0:Int)) J.out).setOther (i:=1) (.int .u64 (wd hi 1:Int)) J.out).setOther (i:=2) (.int .u64 (wd hi 2:Int)) J.out).setOther (i:=3) (.int .u64 (wd hi 3:Int)) J.out).alloc (.cells (hcls lo) 72)).alloc (.cells (ai lo) 24)).alloc (.cells (ai lo) 24)).alloc (.cells (hcls hi) 72)).alloc (.cells (ai hi) 24)).alloc (.cells (ai hi) 24)))
    have K5:=hid ((((((((((((((ba.out.setOther (i:=0) (.int .u64 (wd lo 0:Int)) (Ne.symm J.out)).setOther (i:=1) (.int .u64 (wd lo 1:Int)) (Ne.symm J.out)).setOther (i:=2) (.int .u64 (wd lo 2:Int)) (Ne.symm J.out)).setOther (i:=3) (.int .u64 (wd lo 3:Int)) (Ne.symm J.out)).set0 (.int .u64 (wd hi 0:Int))).set1 (.int .u64 (wd hi 1:Int))).set2 (.int .u64 (wd hi 2:Int))).set3 (.int .u64 (wd hi 3:Int))).alloc (.cells (hcls lo) 72)).alloc (.cells (ai lo) 24)).alloc (.cells (ai lo) 24)).alloc (.cells (hcls hi) 72)).alloc (.cells (ai hi) 24)).alloc (.cells (ai hi) 24))
    have KB:=hid (bal (bal (bal (bal (bal (bal ((((((((I.out.1.setCell (p:=⟨G,0,none⟩) O (.int .u64 (wd lo 0:Int))).setCell (p:=⟨G,1,none⟩) O (.int .u64 (wd lo 1:Int))).setCell (p:=⟨G,2,none⟩) O (.int .u64 (wd lo 2:Int))).setCell (p:=⟨G,3,none⟩) O (.int .u64 (wd lo 3:Int))).setCell (p:=⟨F,0,none⟩) M (.int .u64 (wd hi 0:Int))).setCell (p:=⟨F,1,none⟩) M (.int .u64 (wd hi 1:Int))).setCell (p:=⟨F,2,none⟩) M (.int .u64 (wd hi 2:Int))).setCell (p:=⟨F,3,none⟩) M (.int .u64 (wd hi 3:Int))) (.cells (hcls lo) 72)) (.cells (ai lo) 24)) (.cells (ai lo) 24)) (.cells (hcls hi) 72)) (.cells (ai hi) 24)) (.cells (ai hi) 24))
    clear a0 a1 a2 a3 a4 a5 a6 a7 b0 b1 b2 b3 b4 b5 b6 b7 c0 c1 c2 c3 d0 d1 d2 d3 f4 f5 m1 m2 m3 m4 m5 n1 n2 n3 n4 n5
    generalize ((((((((((((((U.setCell ⟨G,0,none⟩ (.int .u64 (wd lo 0:Int))).setCell ⟨G,1,none⟩ (.int .u64 (wd lo 1:Int))).setCell ⟨G,2,none⟩ (.int .u64 (wd lo 2:Int))).setCell ⟨G,3,none⟩ (.int .u64 (wd lo 3:Int))).setCell ⟨F,0,none⟩ (.int .u64 (wd hi 0:Int))).setCell ⟨F,1,none⟩ (.int .u64 (wd hi 1:Int))).setCell ⟨F,2,none⟩ (.int .u64 (wd hi 2:Int))).setCell ⟨F,3,none⟩ (.int .u64 (wd hi 3:Int))).alloc (.cells (hcls lo) 72)).alloc (.cells (ai lo) 24)).alloc (.cells (ai lo) 24)).alloc (.cells (hcls hi) 72)).alloc (.cells (ai hi) 24)).alloc (.cells (ai hi) 24))=wz at *
    obtain ⟨k0,k1,k2,k3⟩:=K4.out.cell
    obtain ⟨q0,q1,q2,q3⟩:=K5.out.cell
    refine bodyPost_ret (v:=.tuple #[af lo,af hi]) (by simp [results,Tryz.results66,go_sem,k0,k1,k2,k3,q0,q1,q2,q3]) rfl ⟨by rw [bn.out,bo.out],?_⟩
    exact KB.out.drew.drew.drew.drew.drew.drew.drew.drew.drew
end
end Go.Proofs.YtmapkbdjnnionaaGreatDoor

import Derived.Deep.LoopGhost
import Derived.Test.YtmapkbdjnnionaaGreatDoorPzAI
set_option maxRecDepth 100000
set_option maxHeartbeats 8000000
set_option linter.all false
namespace Go.Proofs.YtmapkbdjnnionaaGreatDoor
section
open Go.RowKit
def RdW (w:World) (g:Nat) (A:Option Addr) (ws:List Nat):Prop :=
 (∀ x∈ws,x<18446744073709551616)∧(0<ws.length→∃ h o,A=some ⟨h,o,none⟩∧h<w.heap.size∧h≠g∧∀ j,(hj:j<ws.length)→w.cell? ⟨h,o+j,none⟩=some (.int .u64 ((ws[j]:Nat):Int)))
def wnum:List Nat→Nat
 | []=>0
 | x :: r=>x+18446744073709551616 * wnum r
def laid (bs:List UInt8) (e N k:Nat):List UInt8:=bs.take (e - k) ++ (be N k ++ bs.drop e)
theorem laid_zero (bs:List UInt8) (e N:Nat):laid bs e N 0=bs:=by simp [laid,be]
theorem laid_length (bs:List UInt8) (e N k:Nat) (f:k≤e) (z:e≤bs.length):(laid bs e N k).length=bs.length:=by
 simp [laid,aj]; omega
theorem laid_succ (bs:List UInt8) (e N k:Nat) (F:k<e) (G:e≤bs.length):laid bs e N (k+1)=(laid bs e N k).set (e - 1 - k) (UInt8.ofNat (N / 256 ^ k)):=by
 have E:e - k=(e - 1 - k)+1:=by omega
 have D:e - (k+1)=e - 1 - k:=by omega
 have z:e - 1 - k<bs.length:=by omega
 unfold laid
 rw [E,D,List.take_succ_eq_append_getElem z,be,List.append_assoc,List.set_append]
 have f:(bs.take (e - 1 - k)).length=e - 1 - k:=by rw [List.length_take]; omega
 rw [if_neg (by omega),f,Nat.sub_self]
 rfl
theorem wnum_div (ws:List Nat) (f:∀ x∈ws,x<18446744073709551616) (j:Nat) (z:j<ws.length):∃ R,wnum ws / 18446744073709551616 ^ j=ws[j]+18446744073709551616 * R:=by
 induction ws generalizing j with
 | nil=>simp at z
 | cons x r ih =>
  cases j with
  | zero=>exact ⟨wnum r,by simp [wnum]⟩
  | succ j =>
   obtain ⟨R,E⟩:=ih (fun y D=>f y (List.mem_cons_of_mem _ D)) j (by simpa using z)
   refine ⟨R,?_⟩
   have F:=f x (List.mem_cons_self ..)
   rw [Nat.pow_succ,Nat.mul_comm,← Nat.div_div_eq_div_mul]
   have e:wnum (x :: r) / 18446744073709551616=wnum r:=by simp only [wnum]; omega
   rw [e,E]
   simp
theorem low_byte (x R i:Nat) (hi:i<8):(x+18446744073709551616 * R) / 256 ^ i % 256=x / 256 ^ i % 256:=by
 match i,hi with
 | 0,_=>simp only [Nat.pow_zero]; omega
 | 1,_=>rw [show 256 ^ 1=256 from rfl]; omega
 | 2,_=>rw [show 256 ^ 2=65536 from rfl]; omega
 | 3,_=>rw [show 256 ^ 3=16777216 from rfl]; omega
 | 4,_=>rw [show 256 ^ 4=4294967296 from rfl]; omega
 | 5,_=>rw [show 256 ^ 5=1099511627776 from rfl]; omega
 | 6,_=>rw [show 256 ^ 6=281474976710656 from rfl]; omega
 | 7,_=>rw [show 256 ^ 7=72057594037927936 from rfl]; omega
theorem pow_split (k:Nat):256 ^ k=18446744073709551616 ^ (k / 8) * 256 ^ (k % 8):=by
 have e:(18446744073709551616:Nat)=256 ^ 8:=by decide
 rw [e,← Nat.pow_mul,← Nat.pow_add]
 congr 1
 omega
theorem two_pow_bytes (i:Nat):2 ^ (i * 8)=256 ^ i:=by
 have e:(256:Nat)=2 ^ 8:=by decide
 rw [e,← Nat.pow_mul,Nat.mul_comm]
theorem wnum_byte (ws:List Nat) (f:∀ x∈ws,x<18446744073709551616) (k:Nat) (z:k / 8<ws.length) :
  (((UInt8.ofNat (wnum ws / 256 ^ k)).toNat:Nat):Int)=((ws[k / 8]:Nat):Int) / 2 ^ (k % 8 * 8) % 256:=by
 obtain ⟨R,D⟩:=wnum_div ws f (k / 8) z
 rw [UInt8.toNat_ofNat',pow_split,← Nat.div_div_eq_div_mul,D]
 have E:(2:Nat) ^ 8=256:=by decide
 rw [E,low_byte _ _ _ (by omega),← two_pow_bytes]
 rw [Int.natCast_emod,Int.natCast_ediv,Int.natCast_pow]
 rfl
theorem Row.set {w:World} {g:Nat} {bs:List UInt8} (h:Row w g bs) (i:Nat) (b:UInt8):Row (w.setCell ⟨g,i,none⟩ (.int .u8 ((b.toNat:Nat):Int))) g (bs.set i b):=by
 unfold Row at h ⊢
 simp [World.setCell,Array.getElem?_modify,h,au,List.map_set]
theorem grown_set {w wr:World} {g i:Nat} (h:w.grownBy wr (some g)) (u:Value):w.grownBy (wr.setCell ⟨g,i,none⟩ u) (some g) :=
 ⟨h.os,h.tape,h.output,by simpa using h.size,fun k z f=>(Below.heap_setCell wr ⟨g,i,none⟩ u k (fun e=>f (by rw [e]))).trans (h.block k z f)⟩
theorem lay_any (R A:Option Addr) (g f m c d:Nat) (bs:List UInt8) (ws:List Nat) (w:World) (O:0<m→R=some ⟨g,f,none⟩) (hg:Row w g bs) (M:f+m≤bs.length) (hb:bs.length≤281474976710656) (K:RdW w g A ws) (Y:ws.length≤4) (Z:m≤ws.length * 8) :
  Calls Tryz.prog 82 #[.slice R m c,.slice A ws.length d] w fun e w'=>e=.returned (.tuple #[])∧
   Row w' g (laid bs (f+m) (wnum ws) m)∧w.grownBy w' (some g):=by
 go_enter Tryz.func82,Tryz.ntmps82
 go_wp2
 go_loopw [11] (fun i wr=>∃ k:Nat,k≤m∧i=.int .i64 k∧Hid (Row wr g (laid bs (f+m) (wnum ws) k))∧Hid (w.grownBy wr (some g))) (fun i _=>m - (intOf i).toNat)
 case atStart=>exact ⟨0,Nat.zero_le _,rfl,by rw [laid_zero]; exact hg,World.grownBy.refl w _⟩
 case round =>
  obtain ⟨k,hk,rfl,z,D⟩:=hrel
  by_cases ab:k<m
  ·obtain rfl:=O (by omega)
   have F:k / 8<ws.length:=by omega
   obtain ⟨h,o,rfl,hh,L,G⟩:=K.2 (by omega)
   have I:wr.cell? ⟨h,o+k / 8,none⟩=some (.int .u64 ((ws[k / 8]:Nat):Int)) :=
    (World.cell?_of_block (D.out.block h hh (fun e=>L (by injection e)))).trans (G (k / 8) F)
   have U:=hid (wnum_byte ws K.1 k F)
   have HL:=hid (laid_succ bs (f+m) (wnum ws) k (by omega) M)
   have E:=laid_length bs (f+m) (wnum ws) k (by omega) M
   have V:ws[k / 8]<18446744073709551616:=K.1 _ (by simp)
   clear G
   generalize ws[k / 8]=x at I V U
   have hi:f+(m - 1 - k)<(laid bs (f+m) (wnum ws) k).length:=by omega
   have cH:=z.out.cell (f+(m - 1 - k)) hi
   generalize (laid bs (f+m) (wnum ws) k)[f+(m - 1 - k)].toNat=v at cH
   have ad:=z.out.frozen (f+(m - 1 - k))
   have J:=hid (z.out.set (f+(m - 1 - k)) (UInt8.ofNat (wnum ws / 256 ^ k)))
   clear E hi O K
   go_wp2
   go_roundw
   case rel =>
    refine ⟨k+1,by omega,by go_num,?_,grown_set D.out _⟩
    have e:f+m - 1 - k=f+(m - 1 - k):=by omega
    rw [HL.out,e,← U.out]
    exact J.out
   case measure=>simp [intOf]; omega
  ·obtain rfl:k=m:=by omega
   go_wp2
   go_end0
   exact ⟨rfl,z.out,D.out⟩
theorem laid_tail (bs:List UInt8) (N K:Nat):laid (bs ++ List.replicate K 0) (bs.length+K) N K=bs ++ be N K:=by
 have e:bs.length+K - K=bs.length:=by omega
 simp [laid,e]
theorem Row.alloc {w:World} {g:Nat} {bs:List UInt8} (h:Row w g bs) (o:Obj):Row (w.alloc o) g bs:=(Below.heap_alloc w o g h.lt).trans h
theorem RdW.new (w:World) (g:Nat) (E:g<w.heap.size) (ws:List Nat) (f:∀ x∈ws,x<18446744073709551616) :
  RdW (w.alloc (.cells (ws.map fun (x:Nat)=>Value.int .u64 (x:Int)).toArray 22)) g (some ⟨w.heap.size,0,none⟩) ws:=by
 refine ⟨f,fun D=>⟨w.heap.size,0,rfl,by simp,by omega,fun j z=>?_⟩⟩
 rw [cell_of_row _ _ _ _ 22 (0,0) (heap_alloc_new w _)]
 simp [z]
theorem longer_at (A:Option Addr) (c m:Nat) (f:Int) (E:f=m) (bs:List UInt8) (w:World) (z:Rd w A bs) (D:bs.length+m≤281474976710656) :
  Calls Tryz.prog 81 #[.slice A bs.length c,.int .i64 f] w fun e w'=>e=.returned (.slice (some ⟨w.heap.size,0,none⟩) (bs.length+m) (bs.length+m))∧
   Row w' w.heap.size (bs ++ List.replicate m 0)∧Below w.heap.size w w':=by
 subst E; exact longer_any A c m bs w z D
theorem put_none (A:Option Addr) (c n:Nat) (k:Int) (bs:List UInt8) (w:World) (K:Rd w A bs) (U:bs.length≤140737488355328) (J:n<18446744073709551616) (L:k≤0) :
  Calls Tryz.prog 104 #[.slice A bs.length c,.int .u64 (n:Int),.int .i64 k] w fun e w'=>e=.returned (.slice (some ⟨w.heap.size,0,none⟩) bs.length bs.length)∧
   Row w' w.heap.size bs∧Below w.heap.size w w':=by
 rcases (show k<0∨k=0 from by omega) with L | rfl
 all_goals
  go_enter Tryz.func104,Tryz.ntmps104
  go_wp2_with fail
  refine (longer_at A c 0 _ rfl bs w K (by omega)).mono ?_
  rintro e w1 ⟨rfl,I,E⟩
  have f:=hid (p:=Row w1 w.heap.size bs) (by simpa using I)
  clear I
  rw [Nat.add_zero]
  have M:=hid (RdW.new w1 w.heap.size f.out.lt [n] (by simpa using J))
  have R:=hid (f.out.alloc (.cells #[Value.int .u64 (n:Int)] 22))
  have O:=hid (E.alloc (Nat.le_of_lt f.out.lt) (.cells #[Value.int .u64 (n:Int)] 22))
  go_wp2_with fail
  refine (lay_any _ _ w.heap.size 0 0 0 1 bs [n] _ (fun h=>absurd h (by omega)) R.out (by omega) (by omega) M.out (by simp) (by simp)).mono ?_
  rintro e w2 ⟨rfl,D,z⟩
  have F:=hid (p:=Row w2 w.heap.size bs) (by simpa [laid_zero] using D)
  have G:=hid (O.out.grown z (by have:=f.out.lt; simp; omega) (by simp))
  clear D z
  go_wp2
  go_ret
  exact ⟨rfl,F.out,G.out⟩
theorem put_pos (A:Option Addr) (c n K:Nat) (k:Int) (bs:List UInt8) (w:World) (R:Rd w A bs) (hn:bs.length≤140737488355328) (O:n<18446744073709551616)
  (h0:0<K) (hK:K≤8) (J:k=K∨(8<k∧K=8)) :
  Calls Tryz.prog 104 #[.slice A bs.length c,.int .u64 (n:Int),.int .i64 k] w fun e w'=>e=.returned (.slice (some ⟨w.heap.size,0,none⟩) (bs.length+K) (bs.length+K))∧
   Row w' w.heap.size (bs ++ be n K)∧Below w.heap.size w w':=by
 rcases J with rfl | ⟨J,rfl⟩
 case' inl=>generalize F:K=X at *
 case' inr=>generalize F:8=X at *
 all_goals
  have L:=hid F
  clear F
  have U:X≤8:=by have:=L.out; omega
  go_enter Tryz.func104,Tryz.ntmps104
  go_wp2_with fail
  refine (longer_at A c X _ (by have:=L.out; omega) bs w R (by omega)).mono ?_
  rintro e w1 ⟨rfl,M,E⟩
  have f:=hid M
  clear M
  have V:=hid (RdW.new w1 w.heap.size f.out.lt [n] (by simpa using O))
  have Z:=hid (f.out.alloc (.cells #[Value.int .u64 (n:Int)] 22))
  have Y:=hid (E.alloc (Nat.le_of_lt f.out.lt) (.cells #[Value.int .u64 (n:Int)] 22))
  go_wp2_with fail
  refine (lay_any _ _ w.heap.size bs.length X X 1 _ [n] _ (fun _=>rfl) Z.out (by simp) (by simp; omega) V.out (by simp) (by simp; omega)).mono ?_
  rintro e w2 ⟨rfl,z,D⟩
  rw [laid_tail] at z
  have G:=hid (p:=Row w2 w.heap.size (bs ++ be n X)) (by simpa [wnum] using z)
  have I:=hid (Y.out.grown D (by have:=f.out.lt; simp; omega) (by simp))
  clear z D
  go_wp2
  go_ret
  exact ⟨rfl,G.out,I.out⟩
theorem put_any (A:Option Addr) (c n K:Nat) (k:Int) (bs:List UInt8) (w:World) (z:Rd w A bs) (D:bs.length≤140737488355328) (f:n<18446744073709551616)
  (F:K=(min (max k 0) 8).toNat) :
  Calls Tryz.prog 104 #[.slice A bs.length c,.int .u64 (n:Int),.int .i64 k] w fun e w'=>e=.returned (.slice (some ⟨w.heap.size,0,none⟩) (bs.length+K) (bs.length+K))∧
   Row w' w.heap.size (bs ++ be n K)∧Below w.heap.size w w':=by
 rcases (show k≤0∨0<k from by omega) with h | h
 ·obtain rfl:K=0:=by omega
  refine (put_none A c n k bs w z D f h).mono ?_
  rintro e w1 ⟨rfl,E,hb⟩
  exact ⟨rfl,by simpa [be] using E,hb⟩
 ·exact put_pos A c n K k bs w z D f (by omega) (by omega) (by omega)
end
end Go.Proofs.YtmapkbdjnnionaaGreatDoor

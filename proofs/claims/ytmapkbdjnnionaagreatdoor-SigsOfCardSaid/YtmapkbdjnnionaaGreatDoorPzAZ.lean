import Derived.Test.YtmapkbdjnnionaaGreatDoorPzAY
import Derived.Lib.SlBytesConst
set_option maxRecDepth 100000
set_option maxHeartbeats 8000000
set_option linter.all false
namespace Go.Proofs.YtmapkbdjnnionaaGreatDoor
section
open Go.RowKit
structure Al (w:World) (g:Nat) (bs:List UInt8) (w':World):Prop where
 run:dQ w' g bs
 below:Below w.heap.size w w'
 k:Kt w
 new:w.heap.size≤g
theorem Al.kt {w w':World} {g:Nat} {bs:List UInt8} (h:Al w g bs w'):Kt w':=h.k.on h.below
theorem Al.n3 {w w':World} {g:Nat} {bs:List UInt8} (h:Al w g bs w'):2≠g:=by have:=h.k.lt; have:=h.new; omega
theorem Al.on {w w' w2:World} {g:Nat} {bs:List UInt8} (h:Al w g bs w') (hb:Below w'.heap.size w' w2):Al w g bs w2:=⟨h.run.heap (hb.block g h.run.lt),h.below.trans (hb.mono h.below.size),h.k,h.new⟩
theorem Al.alloc {w w':World} {g:Nat} {bs:List UInt8} (h:Al w g bs w') (o:Obj):Al w g bs (w'.alloc o):=h.on ((Below.refl _ _).alloc (Nat.le_refl _) o)
theorem Al.drew {w w':World} {g:Nat} {bs:List UInt8} (h:Al w g bs w'):Al w g bs w'.drew:=⟨h.run,h.below.drew,h.k,h.new⟩
theorem Al.put {w w' w2:World} {g:Nat} {bs f:List UInt8} (h:Al w g bs w') (z:dQ w2 g f) (D:w'.grownBy w2 (some g)):Al w g f w2:=⟨z,below_grown h.below D h.new h.below.size,h.k,h.new⟩
theorem rd_new (w:World) (l:List UInt8):Rd (w.alloc (.cells (au l).toArray 5)) (some ⟨w.heap.size,0,none⟩) l:=Row.rd0 (heap_alloc_new w _)
theorem new_at (w:World) (D:Kt w):Calls Tryz.prog 101 #[] w fun e w'=>∃ g,e=.returned (.pointer (some ⟨g,0,none⟩))∧Hid (Al w g [] w'):=by
 refine (new_any w).mono ?_
 rintro e w1 ⟨⟨g,rfl,z,f⟩,hb⟩
 exact ⟨g,rfl,hid ⟨f,hb,D,z⟩⟩
theorem sum_at {w wr:World} {g:Nat} {bs:List UInt8} (H:Hid (Al w g bs wr)) (f:bs.length≤70368744177664) :
  Calls Tryz.prog 105 #[.pointer (some ⟨g,0,none⟩)] wr fun e w'=>e=.returned (.agg (au (sha bs)).toArray)∧Hid (Al w g bs w')∧Hid (Below wr.heap.size wr w'):=by
 refine (sum_any g bs wr H.out.run H.out.kt f).mono ?_
 rintro e w1 ⟨rfl,hb⟩
 exact ⟨rfl,hid (H.out.on hb),hid hb⟩
def Cb (w:World) (g:Nat) (bs:List UInt8) (l:List (Nat×List UInt8)) (w':World):Prop:=Al w g bs w'∧∀ p∈l,Bt w' p.1 28 p.2∧p.1≠g
theorem Cb.old {w w':World} {g:Nat} {bs:List UInt8} {l:List (Nat×List UInt8)} (h:Cb w g bs l w'):Below w.heap.size w w':=h.1.below
theorem Cb.on {w w' w2:World} {g:Nat} {bs:List UInt8} {l:List (Nat×List UInt8)} (h:Cb w g bs l w') (hb:Below w'.heap.size w' w2):Cb w g bs l w2:=⟨h.1.on hb,fun p f=>⟨(h.2 p f).1.on hb,(h.2 p f).2⟩⟩
theorem Cb.drew {w w':World} {g:Nat} {bs:List UInt8} {l:List (Nat×List UInt8)} (h:Cb w g bs l w'):Cb w g bs l w'.drew:=⟨h.1.drew,h.2⟩
theorem Bt.grown {w w':World} {g b:Nat} {t:TypeId} {l:List UInt8} (h:Bt w b t l) (z:w.grownBy w' (some g)) (f:b≠g):Bt w' b t l:=(z.block b h.lt (by intro e; injection e with e; exact f e)).trans h
theorem Cb.box {w w':World} {g:Nat} {bs x:List UInt8} {l:List (Nat×List UInt8)} (h:Cb w g bs l w'):Cb w g bs ((w'.heap.size,x) :: l) (w'.alloc (.cells (au x).toArray 28)):=by
 have z:=h.on ((Below.refl w'.heap.size w').alloc (Nat.le_refl _) (.cells (au x).toArray 28))
 refine ⟨z.1,fun p f=>?_⟩
 rcases List.mem_cons.1 f with rfl | f
 ·exact ⟨heap_alloc_new _ _,Nat.ne_of_gt h.1.run.lt⟩
 ·exact z.2 p f
theorem Cb.set {w w':World} {g:Nat} {bs x:List UInt8} {l:List (Nat×List UInt8)} (h:Cb w g bs l w'):Cb w g bs ((w'.heap.size,x) :: l) ((w'.alloc (.cells #[.int .u8 0,.int .u8 0,.int .u8 0,.int .u8 0,.int .u8 0,.int .u8 0,.int .u8 0,.int .u8 0,.int .u8 0,.int .u8 0,.int .u8 0,.int .u8 0,.int .u8 0,.int .u8 0,.int .u8 0,.int .u8 0,.int .u8 0,.int .u8 0,.int .u8 0,.int .u8 0,.int .u8 0,.int .u8 0,.int .u8 0,.int .u8 0,.int .u8 0,.int .u8 0,.int .u8 0,.int .u8 0,.int .u8 0,.int .u8 0,.int .u8 0,.int .u8 0] 28)).setRow w'.heap.size (au x).toArray):=by
 rw [World.setRow_alloc_new]; exact h.box
theorem Cb.setx {w w':World} {g:Nat} {bs:List UInt8} {l:List (Nat×List UInt8)} (h:Cb w g bs l w') (x:List UInt8):∃ w2,(w'.alloc (.cells #[.int .u8 0,.int .u8 0,.int .u8 0,.int .u8 0,.int .u8 0,.int .u8 0,.int .u8 0,.int .u8 0,.int .u8 0,.int .u8 0,.int .u8 0,.int .u8 0,.int .u8 0,.int .u8 0,.int .u8 0,.int .u8 0,.int .u8 0,.int .u8 0,.int .u8 0,.int .u8 0,.int .u8 0,.int .u8 0,.int .u8 0,.int .u8 0,.int .u8 0,.int .u8 0,.int .u8 0,.int .u8 0,.int .u8 0,.int .u8 0,.int .u8 0,.int .u8 0] 28)).setRow w'.heap.size (au x).toArray=w2∧Hid (Cb w g bs ((w'.heap.size,x) :: l) w2):=⟨_,rfl,hid h.set⟩
theorem ho32 (x:List UInt8) (h:x.length=32):Hid ((#[.int .u8 0,.int .u8 0,.int .u8 0,.int .u8 0,.int .u8 0,.int .u8 0,.int .u8 0,.int .u8 0,.int .u8 0,.int .u8 0,.int .u8 0,.int .u8 0,.int .u8 0,.int .u8 0,.int .u8 0,.int .u8 0,.int .u8 0,.int .u8 0,.int .u8 0,.int .u8 0,.int .u8 0,.int .u8 0,.int .u8 0,.int .u8 0,.int .u8 0,.int .u8 0,.int .u8 0,.int .u8 0,.int .u8 0,.int .u8 0,.int .u8 0,.int .u8 0]:Array Value).size=(au x).toArray.size):=hid (by rw [aw,h]; rfl)
theorem sum_cb {w wr:World} {g:Nat} {bs:List UInt8} {l:List (Nat×List UInt8)} (H:Hid (Cb w g bs l wr)) (f:bs.length≤70368744177664) :
  Calls Tryz.prog 105 #[.pointer (some ⟨g,0,none⟩)] wr fun e w'=>e=.returned (.agg (au (sha bs)).toArray)∧Hid (Cb w g bs l w'):=by
 refine (sum_at (hid H.out.1) f).mono ?_
 rintro e w1 ⟨rfl,D,z⟩
 exact ⟨rfl,hid (H.out.on z.out)⟩
end
end Go.Proofs.YtmapkbdjnnionaaGreatDoor

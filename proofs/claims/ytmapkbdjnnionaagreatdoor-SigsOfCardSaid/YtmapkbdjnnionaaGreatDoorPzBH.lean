import Derived.Test.YtmapkbdjnnionaaGreatDoorPzBG
import Derived.WalkLawsBesides
import Derived.WalkSpells
set_option maxRecDepth 100000
set_option maxHeartbeats 8000000
set_option linter.all false
namespace Go.Proofs.YtmapkbdjnnionaaGreatDoor
open Go.RowKit
def OutO (w:World) (bs:List UInt8) (e:Ending) (w':World):Prop:=∃ v,e=.returned v∧Ow w' w.heap.size v bs∧Below w.heap.size w w'
theorem Row.one (w:World) (b:UInt8):Row (w.alloc (.cells #[.int .u8 ((b.toNat:Nat):Int)] 5)) w.heap.size [b]:=heap_alloc_new w _
theorem dj (A B:Option Addr) (c d:Nat) (bs G:List UInt8) (n m:Nat) (U:bs.length=n) (V:G.length=m) (w:World) (Z:Rd w A bs) (hb:Rd w B G) (hA:A=none→c=0) (hB:B=none→d=0) (hs:n+m≤140737488355328) :
  Calls Tryz.prog 71 #[.slice A n c,.slice B m d] w (OutO w (bs ++ G)):=by
 obtain ⟨R,w1,z,D,J,_⟩:=append_bytes w w.heap.size (.slice none 0 0) [] bs A n c (Ow.nil _ _) Z U hA (by simp; omega) (Nat.le_refl _)
 have E:Below w.heap.size w w1:=(Below.refl _ _).grown J (Nat.le_refl _) (by simp [Value.ownBlock])
 obtain ⟨L,w2,f,F,I,_⟩:=append_bytes w1 w.heap.size R ([] ++ bs) G B m d D (hb.below E (Nat.le_refl _)) V hB (by simp; omega) E.size
 have K:Below w.heap.size w w2:=E.grown I E.size (fun k Y=>(World.ownsRow.lt D k Y).1)
 have O:=hid z
 have M:=hid f
 have HO:=hid (p:=OutO w (bs ++ G) (.returned L) w2) ⟨L,rfl,by simpa using F,K⟩
 clear z f D F J I E K
 go_enter Tryz.func71,Tryz.ntmps71
 go_wp2_with (first | (at_builtin; refine bj rfl (.const (.slice none 0 0)) (.tmp 5) rfl rfl _ _ rfl rfl R w1 O.out ?_) | (at_builtin; refine bj rfl (.tmp 6) (.tmp 7) rfl rfl _ _ rfl rfl L w2 M.out ?_))
 go_ret
 exact HO.out
theorem row_any (k:Nat):∀ (n:Nat) (I:Int) (w:World),n<18446744073709551616→I=(k:Int)→k≤8→Calls Tryz.prog 72 #[.int .u64 (n:Int),.int .i64 I] w (OutO w (be n k)):=by
 induction k with
 | zero =>
  rintro n I w U rfl _
  have K:=hid (p:=OutO w (be n 0) (.returned (.slice none 0 0)) w) ⟨_,rfl,Ow.nil _ _,Below.refl _ _⟩
  go_enter Tryz.func72,Tryz.ntmps72
  go_wp2
  go_ret
  exact K.out
 | succ k ih =>
  rintro n I w U rfl M
  have V:=hid (ih (n / 256) (k:Int) w (by omega) rfl (by omega))
  clear ih
  have Z:=hid (p:=((n:Int) % 256)=(((UInt8.ofNat n).toNat:Nat):Int)) (by rw [UInt8.toNat_ofNat']; omega)
  have Y:=hid (p:=((n:Int) / 256)=((n / 256:Nat):Int)) (by omega)
  have HK:=hid (p:=(((k+1:Nat):Int) - 1)=(k:Int)) (by omega)
  go_enter Tryz.func72,Tryz.ntmps72
  go_wp2_with fail
  rw [Y.out]
  refine V.out.mono ?_
  rintro e w1 ⟨R,rfl,z,D⟩
  have O:Row (w1.alloc (.cells #[.int .u8 ((n:Int) % 256)] 5)) w1.heap.size [UInt8.ofNat n]:=by rw [Z.out]; exact Row.one w1 _
  obtain ⟨J,w2,f,E,F,_⟩:=append_bytes (w1.alloc (.cells #[.int .u8 ((n:Int) % 256)] 5)) w.heap.size R (be (n / 256) k) [UInt8.ofNat n] (some ⟨w1.heap.size,0,none⟩) 1 1 (World.ownsRow.alloc z _) O.rd0 rfl (fun h=>by cases h) (by rw [aj]; omega) (by have:=D.size; simp; omega)
  have G:Below w.heap.size w w2:=(D.alloc D.size _).grown F (by have:=D.size; simp; omega) (fun k M=>(World.ownsRow.lt z k M).1)
  have K:=hid (p:=OutO w (be n (k+1)) (.returned J) w2) ⟨J,rfl,by rw [be_snoc]; exact E,G⟩
  have L:=hid f
  clear f z E F D G O
  go_wp2_with (at_builtin; refine bj rfl (.tmp 11) (.tmp 15) rfl rfl _ _ rfl rfl J w2 L.out ?_)
  go_ret
  exact K.out
end Go.Proofs.YtmapkbdjnnionaaGreatDoor

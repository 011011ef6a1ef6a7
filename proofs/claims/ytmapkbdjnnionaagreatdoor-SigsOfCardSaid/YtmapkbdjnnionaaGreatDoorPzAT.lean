import Derived.Test.YtmapkbdjnnionaaGreatDoorPzE1
set_option maxRecDepth 100000
set_option maxHeartbeats 8000000
set_option linter.all false
namespace Go.Proofs.YtmapkbdjnnionaaGreatDoor
section
open Go.RowKit
theorem Shd.nm {w:World} {m z E f D gb gl:Nat} (h:Shd w m z E f D gb gl):Nm w f m:=h.2.1
theorem can_shift {m z:Nat} (f:Cg (2 ^ 256) ((m:Int) * z) 1):Can m ((2 ^ 256:Nat):Int):=fun x y h=>cg_cancel f h
theorem bg (a m f r:Nat) (w:World) (F:a<2 ^ 256) (D:m<2 ^ 256) (G:m≠0) (E:Nm w f m) (z:a * 2 ^ 256 % m=r):Calls Tryz.prog 124 #[af a,.pointer (some ⟨f,0,none⟩)] w fun e w'=>e=.returned (af r)∧Below w.heap.size w w':=by
 subst z; exact enter_any a m f w F D G E
theorem leave_b (u p m D I G F gb gl:Nat) (w:World) (K:p<2 ^ 256) (L:m<2 ^ 256) (M:0<m) (E:D<2 ^ 256) (f:Cg (2 ^ 256) ((m:Int) * D) 1) (J:Shd w m D I G F gb gl) (h:p=u * 2 ^ 256 % m):Calls Tryz.prog 125 #[af p,.pointer (some ⟨gl,0,none⟩)] w fun e w'=>e=.returned (af (u % m))∧Below w.heap.size w w' :=
 (leave_any p m D I G F gb gl w K L M E f J).mono fun e w' ⟨⟨z,he,hz,hc⟩,hb⟩=>⟨by
  rw [he,form_leave (can_shift f) h hz (by simpa using hc)],hb⟩
theorem smul_b (x y u v z m D I G F gb gl:Nat) (w:World) (K:x<m) (J:y<m) (M:m<2 ^ 256) (E:D<2 ^ 256) (f:Cg (2 ^ 256) ((m:Int) * D) 1) (L:Shd w m D I G F gb gl) (U:x=u * 2 ^ 256 % m) (R:y=v * 2 ^ 256 % m) (O:u * v * 2 ^ 256 % m=z):Calls Tryz.prog 126 #[af x,af y,.pointer (some ⟨gl,0,none⟩)] w fun e w'=>e=.returned (af z)∧Below w.heap.size w w' :=
 (smul_any x y m D I G F gb gl w K J M E f L).mono fun e w' ⟨⟨r,he,hr,hc⟩,hb⟩=>⟨by
  rw [he,form_mul (can_shift f) U R hr hc,O],hb⟩
theorem form_odd_at (m c:Nat) {w w':World} {l:List (Nat×Nat)} (h:ae w l w') (z:m<2 ^ 256) (hc:16<c) (f:m % 2=1):Calls Tryz.prog 100 #[af m,.int .i64 (c:Int)] w' fun e w2=>ShE m e w2∧ae w l w2 :=
 (form_odd m c w' z hc f).mono fun e w2 ⟨he,hb⟩=>⟨he,h.on hb⟩
theorem mexp_odd (a n m:Nat) (w:World) (hn:n<2 ^ 256) (hm:m<2 ^ 256) (hv:1<m∧a<m) (hc:16<aq n) (ho:m % 2=1):Calls Tryz.prog 80 #[af a,af n,af m] w fun e w'=>e=.returned (.tuple #[af (a ^ n % m),.int .i64 0])∧Below w.heap.size w w':=by
 have AL:=hid (Nat.lt_trans hv.2 hm)
 have ML:=hid hm
 have M1:=hid hv.1
 have AM:=hid hv.2
 have NL:=hid hn
 have HV:Hid (decide (1<m∧a<m)=true):=hid (by simpa using hv)
 have dm:=cK n 256 hn
 have fp:=pow_first a n
 obtain ⟨c,ec⟩:∃ c,aq n=c:=⟨_,rfl⟩
 rw [ec] at hc dm fp
 have EC:=hid (show (aq n:Int)=(c:Int) by rw [ec])
 have CF:=hid hc
 have C2:=hid dm
 have gJ:=hid fp
 have HO:=hid ho
 clear hm hv hn ec hc fp ho
 have H0:=hid ((((((ae.refl w).new a).new n).new m).zero).perm (l':=[(w.heap.size+1+1+1,0),(w.heap.size+1+1,m),(w.heap.size+1,n),(w.heap.size,a)]) (by simp))
 have DZ:=hid (show w.heap.size≤w.heap.size+1+1+1 by omega)
 have DN:=hid (show ∀ p∈[(w.heap.size,a),(w.heap.size+1,n),(w.heap.size+1+1,m)],p.1≠w.heap.size+1+1+1 by simp; try omega)
 go_enter Tryz.func80,Tryz.ntmps80
 go_wp2_with fail
 have bI:((((w.alloc (.cells (ai a) 24)).alloc (.cells (ai n) 24)).alloc (.cells (ai m) 24)).alloc (.cells #[.int .u64 0,.int .u64 0,.int .u64 0,.int .u64 0] 24)).heap.size=w.heap.size+1+1+1+1:=by simp only [show ∀ (w:World) (o:Obj),(w.alloc o).heap.size=w.heap.size+1 from fun w o=>Array.size_push _]
 generalize (((w.alloc (.cells (ai a) 24)).alloc (.cells (ai n) 24)).alloc (.cells (ai m) 24)).alloc (.cells #[.int .u64 0,.int .u64 0,.int .u64 0,.int .u64 0] 24)=w0 at *
 generalize w.heap.size+1+1+1+1=gk at *
 generalize w.heap.size+1+1+1=aA at *
 generalize w.heap.size+1+1=gm at *
 generalize w.heap.size+1=dr at *
 generalize fo:w.heap.size=F at *
 have gx:Hid (Sl1 (w0.alloc (.cells #[.int .u64 (wd a 0:Int),.int .u64 (wd a 1:Int),.int .u64 (wd a 2:Int),.int .u64 (wd a 3:Int)] 24)) gk a):=hid (by rw [← bI]; exact heap_alloc_new _ _)
 have gy:=hid (H0.out.alloc (.cells #[.int .u64 (wd a 0:Int),.int .u64 (wd a 1:Int),.int .u64 (wd a 2:Int),.int .u64 (wd a 3:Int)] 24))
 clear H0 bI
 generalize w0.alloc (.cells #[.int .u64 (wd a 0:Int),.int .u64 (wd a 1:Int),.int .u64 (wd a 2:Int),.int .u64 (wd a 3:Int)] 24)=gB at *
 refine (ah (gor1_b m a gk true gB gx.out ML.out AL.out HV.out) gy.out).mono ?_
 rintro e w1 ⟨rfl,h⟩
 have H1:=hid h
 clear h gy
 obtain ⟨aU,aT,aS,aR⟩:=H1.out.cell (dr) (n) (by simp)
 have ay:=H1.out.lt (dr) (n) (by simp)
 have aQ:=Nat.le_of_lt ay
 go_wp2_with fail
 clear aU aT aS aR ay aQ
 refine (b8 n (c:Int) H1.out NL.out EC.out).mono ?_
 rintro e w2 ⟨rfl,h⟩
 have H2:=hid h
 clear h H1
 obtain ⟨bq,bp,bo,bn⟩:=H2.out.cell (gm) (m) (by simp)
 have aC:=H2.out.lt (gm) (m) (by simp)
 have bm:=Nat.le_of_lt aC
 go_wp2_with fail
 clear bq bp bo bn aC bm
 refine (form_odd_at m c H2.out ML.out CF.out HO.out).mono ?_
 rintro e wf ⟨⟨iv,gi,gn,gs,gb,gl,rfl,hS,gd,ge⟩,h⟩
 have HF:=hid h
 have gw:=hid hS
 have IV:=hid gd
 have CI:=hid ge
 clear hS gd ge
 obtain ⟨M,gu⟩:∃ x,1 * 2 ^ 256 % m=x:=⟨_,rfl⟩
 obtain ⟨O,fq⟩:∃ x,a * 2 ^ 256 % m=x:=⟨_,rfl⟩
 have ad:=hid gu
 have ab:=hid fq
 have gK:=hid (show O<m by rw [← fq]; exact Nat.mod_lt _ (by have:=M1.out; omega))
 have M0:=hid (show m≠0 by have:=M1.out; omega)
 clear gu fq
 clear h H2 gx
 go_upto_region 5 with fail
 have I:=hid (R3.new wf 116 (.func (.func 124) #[] #[.pointer (some ⟨gn,0,none⟩)]) (.func (.func 125) #[] #[.pointer (some ⟨gl,0,none⟩)]) (.func (.func 126) #[] #[.pointer (some ⟨gl,0,none⟩)]))
 have J:=hid (HF.out.alloc (.cells #[.func (.func 124) #[] #[.pointer (some ⟨gn,0,none⟩)],.func (.func 125) #[] #[.pointer (some ⟨gl,0,none⟩)],.func (.func 126) #[] #[.pointer (some ⟨gl,0,none⟩)]] 116))
 have SD:=hid (gw.out.on ((Below.refl wf.heap.size wf).alloc (Nat.le_refl _) (.cells #[.func (.func 124) #[] #[.pointer (some ⟨gn,0,none⟩)],.func (.func 125) #[] #[.pointer (some ⟨gl,0,none⟩)],.func (.func 126) #[] #[.pointer (some ⟨gl,0,none⟩)]] 116)))
 clear gw
 clear HF
 generalize wf.alloc (.cells #[.func (.func 124) #[] #[.pointer (some ⟨gn,0,none⟩)],.func (.func 125) #[] #[.pointer (some ⟨gl,0,none⟩)],.func (.func 126) #[] #[.pointer (some ⟨gl,0,none⟩)]] 116)=wv at *
 generalize wf.heap.size=gf at *
 go_cut [10,11] (fun s10 s11 wx=>∃ z D:Nat,s10=.pointer (some ⟨z,0,none⟩)∧s11=.pointer (some ⟨D,0,none⟩)∧Hid (ae wv [(z,M),(D,O)] wx)∧Hid (wv.heap.size≤z∧wv.heap.size≤D∧z≠D))
 case first =>
  have f:=(ae.refl wv).drew
  refine wp_region_noPanic ?_
  refine aa.region (fun (L:Array Bool) (w':World)=>w'.cell? ⟨gf,0,none⟩=some (.func (.func 124) #[] #[.pointer (some ⟨gn,0,none⟩)])∧(w'.cell? ⟨F,0,none⟩=some (.int .u64 (wd (a) 0:Int))∧w'.cell? ⟨F,1,none⟩=some (.int .u64 (wd (a) 1:Int))∧w'.cell? ⟨F,2,none⟩=some (.int .u64 (wd (a) 2:Int))∧w'.cell? ⟨F,3,none⟩=some (.int .u64 (wd (a) 3:Int)))) (by kernel_rfl) ?_
  generalize wv.drew=wd at *
  refine aa.q 0 ⟨some 24,_,_,_,_,_⟩ ⟨(I.out.on (ae.below f)).cell.1,(J.out.on (ae.below f)).cell F a (by simp)⟩ ?_
  try simp only [ac]
  refine aa.tk (i:=1) (o:=⟨some 25,_,_,_,_,_⟩) (v:=?_) [] (y:=Or.inl ⟨by rfl,?_⟩) (s:=⟨(I.out.on (ae.below f)).cell.1,(J.out.on (ae.below f)).cell F a (by simp)⟩) (H:=?_)
  rotate_left
  ·intro w hY; obtain ⟨up,hL⟩:=hY; have hX:=hL.2.1; clear hL; (try dsimp only at hX); go_simp; try with_reducible rfl
  try simp only [ac]
  refine aa.q 4 ⟨some 28,_,_,_,_,_⟩ ⟨(I.out.on (ae.below f)).cell.1,(J.out.on (ae.below f)).cell F a (by simp)⟩ ?_
  try simp only [ac]
  refine aa.tk (i:=5) (o:=⟨some 29,_,_,_,_,_⟩) (v:=?_) [] (y:=Or.inl ⟨by rfl,?_⟩) (s:=⟨(I.out.on (ae.below f)).cell.1,(J.out.on (ae.below f)).cell F a (by simp)⟩) (H:=?_)
  rotate_left
  ·intro w hY; obtain ⟨up,hL⟩:=hY; have hX:=hL.2.1; clear hL; (try dsimp only at hX); go_simp; try with_reducible rfl
  try simp only [ac]
  refine aa.tk (i:=6) (o:=⟨some 30,_,_,_,_,_⟩) (v:=?_) [] (y:=Or.inl ⟨by rfl,?_⟩) (s:=⟨(I.out.on (ae.below f)).cell.1,(J.out.on (ae.below f)).cell F a (by simp)⟩) (H:=?_)
  rotate_left
  ·intro w hY; obtain ⟨up,hL⟩:=hY; have hX:=hL.2.2; clear hL; (try dsimp only at hX); go_simp; try with_reducible rfl
  try simp only [ac]
  refine aa.three (i:=2) (j:=8) (k:=9) (o:=⟨some 26,_,_,_,_,_⟩) (p:=⟨some 10,_,_,_,_,_⟩) (q:=⟨some 11,_,_,_,_,_⟩) (by kernel_rfl) rfl rfl rfl (fun K E=>?_) (fun K E=>?_) (fun K E=>?_)
  ·skip
   go_simp
   with_reducible refine (dh 1 1 f (by decide) (by decide)).mono ?_
   rintro e de ⟨rfl,aE⟩
   go_wp2_with fail
   refine E.out _ _ (⟨(I.out.on (ae.below aE)).cell.1,(J.out.on (ae.below aE)).cell F a (by simp)⟩) ?_
   clear E K
   try simp only [ac]
   clear f
   have f:=aE
   clear aE
   refine aa.three (i:=3) (j:=8) (k:=9) (o:=⟨some 27,_,_,_,_,_⟩) (p:=⟨some 10,_,_,_,_,_⟩) (q:=⟨some 11,_,_,_,_,_⟩) (by kernel_rfl) rfl rfl rfl (fun K E=>?_) (fun K E=>?_) (fun K E=>?_)
   ·skip
    go_simp
    with_reducible refine (ah (bg 1 m gn M _ (by decide) ML.out M0.out (SD.out.on (ae.below f)).nm ad.out) f).mono ?_
    rintro e dd ⟨rfl,ao⟩
    go_wp2_with fail
    refine E.out _ _ (⟨(I.out.on (ae.below ao)).cell.1,(J.out.on (ae.below ao)).cell F a (by simp)⟩) ?_
    clear E K
    try simp only [ac]
    clear f
    have f:=ao
    clear ao
    refine aa.three (i:=7) (j:=8) (k:=9) (o:=⟨some 31,_,_,_,_,_⟩) (p:=⟨some 10,_,_,_,_,_⟩) (q:=⟨some 11,_,_,_,_,_⟩) (by kernel_rfl) rfl rfl rfl (fun K E=>?_) (fun K E=>?_) (fun K E=>?_)
    ·skip
     go_simp
     with_reducible refine (ah (bg a m gn O _ AL.out ML.out M0.out (SD.out.on (ae.below f)).nm ab.out) f).mono ?_
     rintro e dc ⟨rfl,dN⟩
     go_wp2_with fail
     refine E.out _ _ (⟨(I.out.on (ae.below dN)).cell.1,(J.out.on (ae.below dN)).cell F a (by simp)⟩) ?_
     clear E K
     try simp only [ac]
     clear f
     have f:=dN
     clear dN
     refine aa.two (i:=8) (j:=9) (o:=⟨some 10,_,_,_,_,_⟩) (p:=⟨some 11,_,_,_,_,_⟩) (by kernel_rfl) rfl rfl (fun K E=>?_) (fun K E=>?_)
     ·skip
      go_simp
      refine E.out _ _ (⟨(I.out.on (ae.below f.zero)).cell.1,(J.out.on (ae.below f.zero)).cell F a (by simp)⟩) ?_
      clear E K
      try simp only [ac]
      have R:=hid f.fresh
      have gc:=f.zero
      clear f
      generalize dc.alloc (.cells #[.int .u64 0,.int .u64 0,.int .u64 0,.int .u64 0] 24)=fW at *
      generalize dc.heap.size=z at *
      have f:=gc
      clear gc
      refine aa.one (i:=9) (o:=⟨some 11,_,_,_,_,_⟩) (by kernel_rfl) rfl (fun K E=>?_)
      go_simp
      refine E.out _ _ (⟨(I.out.on (ae.below f.zero)).cell.1,(J.out.on (ae.below f.zero)).cell F a (by simp)⟩) ?_
      clear E K
      try simp only [ac]
      have U:=hid f.fresh
      have fZ:=f.zero
      clear f
      generalize fW.alloc (.cells #[.int .u64 0,.int .u64 0,.int .u64 0,.int .u64 0] 24)=fV at *
      generalize fW.heap.size=D at *
      have f:=fZ
      clear fZ
      refine aa.one (i:=10) (o:=⟨none,_,_,_,_,_⟩) (by kernel_rfl) rfl (fun K E=>?_)
      obtain ⟨z0,z1,Z,z3⟩:=f.cell z 0 (by simp)
      have V:=f.lt z 0 (by simp)
      have Y:=f.frozen z 0 (by simp)
      have dk:=f.set z 0 (M) [(D,0)] (by simp) R.out.1 (fun p G=>by simp only [List.mem_cons,List.not_mem_nil,or_false] at G; rcases G with rfl <;> first | exact ⟨by simp,(Ne.symm (U.out.2 (z,0) (by simp)))⟩)
      go_simp
      refine E.out _ _ (⟨(I.out.on (ae.below dk)).cell.1,(J.out.on (ae.below dk)).cell F a (by simp)⟩) ?_
      clear E K
      try simp only [ac]
      clear f z0 z1 Z z3 V Y
      change aa _ _ _ _ _ _ _ _ (fil fV z (M))
      generalize fil fV z (M)=fU at *
      have f:=dk
      clear dk
      refine aa.one (i:=11) (o:=⟨none,_,_,_,_,_⟩) (by kernel_rfl) rfl (fun K E=>?_)
      obtain ⟨z0,z1,Z,z3⟩:=f.cell D 0 (by simp)
      have V:=f.lt D 0 (by simp)
      have Y:=f.frozen D 0 (by simp)
      have df:=f.set D 0 (O) [(z,M)] (by simp) U.out.1 (fun p G=>by simp only [List.mem_cons,List.not_mem_nil,or_false] at G; rcases G with rfl <;> first | exact ⟨by simp,(U.out.2 (z,0) (by simp))⟩)
      go_simp
      refine E.out _ _ (⟨(I.out.on (ae.below df)).cell.1,(J.out.on (ae.below df)).cell F a (by simp)⟩) ?_
      clear E K
      try simp only [ac]
      clear f z0 z1 Z z3 V Y
      change aa _ _ _ _ _ _ _ _ (fil fU D (O))
      generalize fil fU D (O)=hO at *
      have f:=df
      clear df
      refine aa.done (by kernel_rfl) ?_ _
      refine NoPanic.normal ?_
      go_wp2_with fail
      go_meet
      exact ⟨_,_,rfl,rfl,hid (f.perm (by simp)),hid ⟨R.out.1,U.out.1,(U.out.2 (z,0) (by simp))⟩⟩
     ·skip
      go_simp
      refine E.out _ _ (⟨(I.out.on (ae.below f.zero)).cell.1,(J.out.on (ae.below f.zero)).cell F a (by simp)⟩) ?_
      clear E K
      try simp only [ac]
      have U:=hid f.fresh
      have fY:=f.zero
      clear f
      generalize dc.alloc (.cells #[.int .u64 0,.int .u64 0,.int .u64 0,.int .u64 0] 24)=fT at *
      generalize dc.heap.size=D at *
      have f:=fY
      clear fY
      refine aa.one (i:=8) (o:=⟨some 10,_,_,_,_,_⟩) (by kernel_rfl) rfl (fun K E=>?_)
      go_simp
      refine E.out _ _ (⟨(I.out.on (ae.below f.zero)).cell.1,(J.out.on (ae.below f.zero)).cell F a (by simp)⟩) ?_
      clear E K
      try simp only [ac]
      have R:=hid f.fresh
      have fX:=f.zero
      clear f
      generalize fT.alloc (.cells #[.int .u64 0,.int .u64 0,.int .u64 0,.int .u64 0] 24)=fS at *
      generalize fT.heap.size=z at *
      have f:=fX
      clear fX
      refine aa.one (i:=10) (o:=⟨none,_,_,_,_,_⟩) (by kernel_rfl) rfl (fun K E=>?_)
      obtain ⟨z0,z1,Z,z3⟩:=f.cell z 0 (by simp)
      have V:=f.lt z 0 (by simp)
      have Y:=f.frozen z 0 (by simp)
      have cU:=f.set z 0 (M) [(D,0)] (by simp) R.out.1 (fun p G=>by simp only [List.mem_cons,List.not_mem_nil,or_false] at G; rcases G with rfl <;> first | exact ⟨by simp,(R.out.2 (D,0) (by simp))⟩)
      go_simp
      refine E.out _ _ (⟨(I.out.on (ae.below cU)).cell.1,(J.out.on (ae.below cU)).cell F a (by simp)⟩) ?_
      clear E K
      try simp only [ac]
      clear f z0 z1 Z z3 V Y
      change aa _ _ _ _ _ _ _ _ (fil fS z (M))
      generalize fil fS z (M)=eP at *
      have f:=cU
      clear cU
      refine aa.one (i:=11) (o:=⟨none,_,_,_,_,_⟩) (by kernel_rfl) rfl (fun K E=>?_)
      obtain ⟨z0,z1,Z,z3⟩:=f.cell D 0 (by simp)
      have V:=f.lt D 0 (by simp)
      have Y:=f.frozen D 0 (by simp)
      have cT:=f.set D 0 (O) [(z,M)] (by simp) U.out.1 (fun p G=>by simp only [List.mem_cons,List.not_mem_nil,or_false] at G; rcases G with rfl <;> first | exact ⟨by simp,(Ne.symm (R.out.2 (D,0) (by simp)))⟩)
      go_simp
      refine E.out _ _ (⟨(I.out.on (ae.below cT)).cell.1,(J.out.on (ae.below cT)).cell F a (by simp)⟩) ?_
      clear E K
      try simp only [ac]
      clear f z0 z1 Z z3 V Y
      change aa _ _ _ _ _ _ _ _ (fil eP D (O))
      generalize fil eP D (O)=hM at *
      have f:=cT
      clear cT
      refine aa.done (by kernel_rfl) ?_ _
      refine NoPanic.normal ?_
      go_wp2_with fail
      go_meet
      exact ⟨_,_,rfl,rfl,hid (f.perm (by simp)),hid ⟨R.out.1,U.out.1,(Ne.symm (R.out.2 (D,0) (by simp)))⟩⟩
    ·skip
     go_simp
     refine E.out _ _ (⟨(I.out.on (ae.below f.zero)).cell.1,(J.out.on (ae.below f.zero)).cell F a (by simp)⟩) ?_
     clear E K
     try simp only [ac]
     have R:=hid f.fresh
     have fn:=f.zero
     clear f
     generalize dd.alloc (.cells #[.int .u64 0,.int .u64 0,.int .u64 0,.int .u64 0] 24)=eO at *
     generalize dd.heap.size=z at *
     have f:=fn
     clear fn
     refine aa.two (i:=7) (j:=9) (o:=⟨some 31,_,_,_,_,_⟩) (p:=⟨some 11,_,_,_,_,_⟩) (by kernel_rfl) rfl rfl (fun K E=>?_) (fun K E=>?_)
     ·skip
      go_simp
      with_reducible refine (ah (bg a m gn O _ AL.out ML.out M0.out (SD.out.on (ae.below f)).nm ab.out) f).mono ?_
      rintro e eN ⟨rfl,cS⟩
      go_wp2_with fail
      refine E.out _ _ (⟨(I.out.on (ae.below cS)).cell.1,(J.out.on (ae.below cS)).cell F a (by simp)⟩) ?_
      clear E K
      try simp only [ac]
      clear f
      have f:=cS
      clear cS
      refine aa.one (i:=9) (o:=⟨some 11,_,_,_,_,_⟩) (by kernel_rfl) rfl (fun K E=>?_)
      go_simp
      refine E.out _ _ (⟨(I.out.on (ae.below f.zero)).cell.1,(J.out.on (ae.below f.zero)).cell F a (by simp)⟩) ?_
      clear E K
      try simp only [ac]
      have U:=hid f.fresh
      have fm:=f.zero
      clear f
      generalize eN.alloc (.cells #[.int .u64 0,.int .u64 0,.int .u64 0,.int .u64 0] 24)=eM at *
      generalize eN.heap.size=D at *
      have f:=fm
      clear fm
      refine aa.one (i:=10) (o:=⟨none,_,_,_,_,_⟩) (by kernel_rfl) rfl (fun K E=>?_)
      obtain ⟨z0,z1,Z,z3⟩:=f.cell z 0 (by simp)
      have V:=f.lt z 0 (by simp)
      have Y:=f.frozen z 0 (by simp)
      have cR:=f.set z 0 (M) [(D,0)] (by simp) R.out.1 (fun p G=>by simp only [List.mem_cons,List.not_mem_nil,or_false] at G; rcases G with rfl <;> first | exact ⟨by simp,(Ne.symm (U.out.2 (z,0) (by simp)))⟩)
      go_simp
      refine E.out _ _ (⟨(I.out.on (ae.below cR)).cell.1,(J.out.on (ae.below cR)).cell F a (by simp)⟩) ?_
      clear E K
      try simp only [ac]
      clear f z0 z1 Z z3 V Y
      change aa _ _ _ _ _ _ _ _ (fil eM z (M))
      generalize fil eM z (M)=eL at *
      have f:=cR
      clear cR
      refine aa.one (i:=11) (o:=⟨none,_,_,_,_,_⟩) (by kernel_rfl) rfl (fun K E=>?_)
      obtain ⟨z0,z1,Z,z3⟩:=f.cell D 0 (by simp)
      have V:=f.lt D 0 (by simp)
      have Y:=f.frozen D 0 (by simp)
      have cQ:=f.set D 0 (O) [(z,M)] (by simp) U.out.1 (fun p G=>by simp only [List.mem_cons,List.not_mem_nil,or_false] at G; rcases G with rfl <;> first | exact ⟨by simp,(U.out.2 (z,0) (by simp))⟩)
      go_simp
      refine E.out _ _ (⟨(I.out.on (ae.below cQ)).cell.1,(J.out.on (ae.below cQ)).cell F a (by simp)⟩) ?_
      clear E K
      try simp only [ac]
      clear f z0 z1 Z z3 V Y
      change aa _ _ _ _ _ _ _ _ (fil eL D (O))
      generalize fil eL D (O)=hJ at *
      have f:=cQ
      clear cQ
      refine aa.done (by kernel_rfl) ?_ _
      refine NoPanic.normal ?_
      go_wp2_with fail
      go_meet
      exact ⟨_,_,rfl,rfl,hid (f.perm (by simp)),hid ⟨R.out.1,U.out.1,(U.out.2 (z,0) (by simp))⟩⟩
     ·skip
      go_simp
      refine E.out _ _ (⟨(I.out.on (ae.below f.zero)).cell.1,(J.out.on (ae.below f.zero)).cell F a (by simp)⟩) ?_
      clear E K
      try simp only [ac]
      have U:=hid f.fresh
      have fl:=f.zero
      clear f
      generalize eO.alloc (.cells #[.int .u64 0,.int .u64 0,.int .u64 0,.int .u64 0] 24)=hI at *
      generalize eO.heap.size=D at *
      have f:=fl
      clear fl
      refine aa.one (i:=7) (o:=⟨some 31,_,_,_,_,_⟩) (by kernel_rfl) rfl (fun K E=>?_)
      go_simp
      with_reducible refine (ah (bg a m gn O _ AL.out ML.out M0.out (SD.out.on (ae.below f)).nm ab.out) f).mono ?_
      rintro e eK ⟨rfl,cP⟩
      go_wp2_with fail
      refine E.out _ _ (⟨(I.out.on (ae.below cP)).cell.1,(J.out.on (ae.below cP)).cell F a (by simp)⟩) ?_
      clear E K
      try simp only [ac]
      clear f
      have f:=cP
      clear cP
      refine aa.one (i:=10) (o:=⟨none,_,_,_,_,_⟩) (by kernel_rfl) rfl (fun K E=>?_)
      obtain ⟨z0,z1,Z,z3⟩:=f.cell z 0 (by simp)
      have V:=f.lt z 0 (by simp)
      have Y:=f.frozen z 0 (by simp)
      have cO:=f.set z 0 (M) [(D,0)] (by simp) R.out.1 (fun p G=>by simp only [List.mem_cons,List.not_mem_nil,or_false] at G; rcases G with rfl <;> first | exact ⟨by simp,(Ne.symm (U.out.2 (z,0) (by simp)))⟩)
      go_simp
      refine E.out _ _ (⟨(I.out.on (ae.below cO)).cell.1,(J.out.on (ae.below cO)).cell F a (by simp)⟩) ?_
      clear E K
      try simp only [ac]
      clear f z0 z1 Z z3 V Y
      change aa _ _ _ _ _ _ _ _ (fil eK z (M))
      generalize fil eK z (M)=eJ at *
      have f:=cO
      clear cO
      refine aa.one (i:=11) (o:=⟨none,_,_,_,_,_⟩) (by kernel_rfl) rfl (fun K E=>?_)
      obtain ⟨z0,z1,Z,z3⟩:=f.cell D 0 (by simp)
      have V:=f.lt D 0 (by simp)
      have Y:=f.frozen D 0 (by simp)
      have cN:=f.set D 0 (O) [(z,M)] (by simp) U.out.1 (fun p G=>by simp only [List.mem_cons,List.not_mem_nil,or_false] at G; rcases G with rfl <;> first | exact ⟨by simp,(U.out.2 (z,0) (by simp))⟩)
      go_simp
      refine E.out _ _ (⟨(I.out.on (ae.below cN)).cell.1,(J.out.on (ae.below cN)).cell F a (by simp)⟩) ?_
      clear E K
      try simp only [ac]
      clear f z0 z1 Z z3 V Y
      change aa _ _ _ _ _ _ _ _ (fil eJ D (O))
      generalize fil eJ D (O)=hH at *
      have f:=cN
      clear cN
      refine aa.done (by kernel_rfl) ?_ _
      refine NoPanic.normal ?_
      go_wp2_with fail
      go_meet
      exact ⟨_,_,rfl,rfl,hid (f.perm (by simp)),hid ⟨R.out.1,U.out.1,(U.out.2 (z,0) (by simp))⟩⟩
    ·skip
     go_simp
     refine E.out _ _ (⟨(I.out.on (ae.below f.zero)).cell.1,(J.out.on (ae.below f.zero)).cell F a (by simp)⟩) ?_
     clear E K
     try simp only [ac]
     have U:=hid f.fresh
     have fk:=f.zero
     clear f
     generalize dd.alloc (.cells #[.int .u64 0,.int .u64 0,.int .u64 0,.int .u64 0] 24)=eI at *
     generalize dd.heap.size=D at *
     have f:=fk
     clear fk
     refine aa.two (i:=7) (j:=8) (o:=⟨some 31,_,_,_,_,_⟩) (p:=⟨some 10,_,_,_,_,_⟩) (by kernel_rfl) rfl rfl (fun K E=>?_) (fun K E=>?_)
     ·skip
      go_simp
      with_reducible refine (ah (bg a m gn O _ AL.out ML.out M0.out (SD.out.on (ae.below f)).nm ab.out) f).mono ?_
      rintro e eH ⟨rfl,cI⟩
      go_wp2_with fail
      refine E.out _ _ (⟨(I.out.on (ae.below cI)).cell.1,(J.out.on (ae.below cI)).cell F a (by simp)⟩) ?_
      clear E K
      try simp only [ac]
      clear f
      have f:=cI
      clear cI
      refine aa.one (i:=8) (o:=⟨some 10,_,_,_,_,_⟩) (by kernel_rfl) rfl (fun K E=>?_)
      go_simp
      refine E.out _ _ (⟨(I.out.on (ae.below f.zero)).cell.1,(J.out.on (ae.below f.zero)).cell F a (by simp)⟩) ?_
      clear E K
      try simp only [ac]
      have R:=hid f.fresh
      have fj:=f.zero
      clear f
      generalize eH.alloc (.cells #[.int .u64 0,.int .u64 0,.int .u64 0,.int .u64 0] 24)=eG at *
      generalize eH.heap.size=z at *
      have f:=fj
      clear fj
      refine aa.one (i:=10) (o:=⟨none,_,_,_,_,_⟩) (by kernel_rfl) rfl (fun K E=>?_)
      obtain ⟨z0,z1,Z,z3⟩:=f.cell z 0 (by simp)
      have V:=f.lt z 0 (by simp)
      have Y:=f.frozen z 0 (by simp)
      have cH:=f.set z 0 (M) [(D,0)] (by simp) R.out.1 (fun p G=>by simp only [List.mem_cons,List.not_mem_nil,or_false] at G; rcases G with rfl <;> first | exact ⟨by simp,(R.out.2 (D,0) (by simp))⟩)
      go_simp
      refine E.out _ _ (⟨(I.out.on (ae.below cH)).cell.1,(J.out.on (ae.below cH)).cell F a (by simp)⟩) ?_
      clear E K
      try simp only [ac]
      clear f z0 z1 Z z3 V Y
      change aa _ _ _ _ _ _ _ _ (fil eG z (M))
      generalize fil eG z (M)=eF at *
      have f:=cH
      clear cH
      refine aa.one (i:=11) (o:=⟨none,_,_,_,_,_⟩) (by kernel_rfl) rfl (fun K E=>?_)
      obtain ⟨z0,z1,Z,z3⟩:=f.cell D 0 (by simp)
      have V:=f.lt D 0 (by simp)
      have Y:=f.frozen D 0 (by simp)
      have cE:=f.set D 0 (O) [(z,M)] (by simp) U.out.1 (fun p G=>by simp only [List.mem_cons,List.not_mem_nil,or_false] at G; rcases G with rfl <;> first | exact ⟨by simp,(Ne.symm (R.out.2 (D,0) (by simp)))⟩)
      go_simp
      refine E.out _ _ (⟨(I.out.on (ae.below cE)).cell.1,(J.out.on (ae.below cE)).cell F a (by simp)⟩) ?_
      clear E K
      try simp only [ac]
      clear f z0 z1 Z z3 V Y
      change aa _ _ _ _ _ _ _ _ (fil eF D (O))
      generalize fil eF D (O)=hG at *
      have f:=cE
      clear cE
      refine aa.done (by kernel_rfl) ?_ _
      refine NoPanic.normal ?_
      go_wp2_with fail
      go_meet
      exact ⟨_,_,rfl,rfl,hid (f.perm (by simp)),hid ⟨R.out.1,U.out.1,(Ne.symm (R.out.2 (D,0) (by simp)))⟩⟩
     ·skip
      go_simp
      refine E.out _ _ (⟨(I.out.on (ae.below f.zero)).cell.1,(J.out.on (ae.below f.zero)).cell F a (by simp)⟩) ?_
      clear E K
      try simp only [ac]
      have R:=hid f.fresh
      have fi:=f.zero
      clear f
      generalize eI.alloc (.cells #[.int .u64 0,.int .u64 0,.int .u64 0,.int .u64 0] 24)=hF at *
      generalize eI.heap.size=z at *
      have f:=fi
      clear fi
      refine aa.one (i:=7) (o:=⟨some 31,_,_,_,_,_⟩) (by kernel_rfl) rfl (fun K E=>?_)
      go_simp
      with_reducible refine (ah (bg a m gn O _ AL.out ML.out M0.out (SD.out.on (ae.below f)).nm ab.out) f).mono ?_
      rintro e eE ⟨rfl,cB⟩
      go_wp2_with fail
      refine E.out _ _ (⟨(I.out.on (ae.below cB)).cell.1,(J.out.on (ae.below cB)).cell F a (by simp)⟩) ?_
      clear E K
      try simp only [ac]
      clear f
      have f:=cB
      clear cB
      refine aa.one (i:=10) (o:=⟨none,_,_,_,_,_⟩) (by kernel_rfl) rfl (fun K E=>?_)
      obtain ⟨z0,z1,Z,z3⟩:=f.cell z 0 (by simp)
      have V:=f.lt z 0 (by simp)
      have Y:=f.frozen z 0 (by simp)
      have cA:=f.set z 0 (M) [(D,0)] (by simp) R.out.1 (fun p G=>by simp only [List.mem_cons,List.not_mem_nil,or_false] at G; rcases G with rfl <;> first | exact ⟨by simp,(R.out.2 (D,0) (by simp))⟩)
      go_simp
      refine E.out _ _ (⟨(I.out.on (ae.below cA)).cell.1,(J.out.on (ae.below cA)).cell F a (by simp)⟩) ?_
      clear E K
      try simp only [ac]
      clear f z0 z1 Z z3 V Y
      change aa _ _ _ _ _ _ _ _ (fil eE z (M))
      generalize fil eE z (M)=eD at *
      have f:=cA
      clear cA
      refine aa.one (i:=11) (o:=⟨none,_,_,_,_,_⟩) (by kernel_rfl) rfl (fun K E=>?_)
      obtain ⟨z0,z1,Z,z3⟩:=f.cell D 0 (by simp)
      have V:=f.lt D 0 (by simp)
      have Y:=f.frozen D 0 (by simp)
      have cz:=f.set D 0 (O) [(z,M)] (by simp) U.out.1 (fun p G=>by simp only [List.mem_cons,List.not_mem_nil,or_false] at G; rcases G with rfl <;> first | exact ⟨by simp,(Ne.symm (R.out.2 (D,0) (by simp)))⟩)
      go_simp
      refine E.out _ _ (⟨(I.out.on (ae.below cz)).cell.1,(J.out.on (ae.below cz)).cell F a (by simp)⟩) ?_
      clear E K
      try simp only [ac]
      clear f z0 z1 Z z3 V Y
      change aa _ _ _ _ _ _ _ _ (fil eD D (O))
      generalize fil eD D (O)=hE at *
      have f:=cz
      clear cz
      refine aa.done (by kernel_rfl) ?_ _
      refine NoPanic.normal ?_
      go_wp2_with fail
      go_meet
      exact ⟨_,_,rfl,rfl,hid (f.perm (by simp)),hid ⟨R.out.1,U.out.1,(Ne.symm (R.out.2 (D,0) (by simp)))⟩⟩
   ·skip
    go_simp
    refine E.out _ _ (⟨(I.out.on (ae.below f.zero)).cell.1,(J.out.on (ae.below f.zero)).cell F a (by simp)⟩) ?_
    clear E K
    try simp only [ac]
    have R:=hid f.fresh
    have fh:=f.zero
    clear f
    generalize de.alloc (.cells #[.int .u64 0,.int .u64 0,.int .u64 0,.int .u64 0] 24)=eC at *
    generalize de.heap.size=z at *
    have f:=fh
    clear fh
    refine aa.two (i:=3) (j:=9) (o:=⟨some 27,_,_,_,_,_⟩) (p:=⟨some 11,_,_,_,_,_⟩) (by kernel_rfl) rfl rfl (fun K E=>?_) (fun K E=>?_)
    ·skip
     go_simp
     with_reducible refine (ah (bg 1 m gn M _ (by decide) ML.out M0.out (SD.out.on (ae.below f)).nm ad.out) f).mono ?_
     rintro e eB ⟨rfl,cy⟩
     go_wp2_with fail
     refine E.out _ _ (⟨(I.out.on (ae.below cy)).cell.1,(J.out.on (ae.below cy)).cell F a (by simp)⟩) ?_
     clear E K
     try simp only [ac]
     clear f
     have f:=cy
     clear cy
     refine aa.two (i:=7) (j:=9) (o:=⟨some 31,_,_,_,_,_⟩) (p:=⟨some 11,_,_,_,_,_⟩) (by kernel_rfl) rfl rfl (fun K E=>?_) (fun K E=>?_)
     ·skip
      go_simp
      with_reducible refine (ah (bg a m gn O _ AL.out ML.out M0.out (SD.out.on (ae.below f)).nm ab.out) f).mono ?_
      rintro e eA ⟨rfl,cx⟩
      go_wp2_with fail
      refine E.out _ _ (⟨(I.out.on (ae.below cx)).cell.1,(J.out.on (ae.below cx)).cell F a (by simp)⟩) ?_
      clear E K
      try simp only [ac]
      clear f
      have f:=cx
      clear cx
      refine aa.one (i:=9) (o:=⟨some 11,_,_,_,_,_⟩) (by kernel_rfl) rfl (fun K E=>?_)
      go_simp
      refine E.out _ _ (⟨(I.out.on (ae.below f.zero)).cell.1,(J.out.on (ae.below f.zero)).cell F a (by simp)⟩) ?_
      clear E K
      try simp only [ac]
      have U:=hid f.fresh
      have fg:=f.zero
      clear f
      generalize eA.alloc (.cells #[.int .u64 0,.int .u64 0,.int .u64 0,.int .u64 0] 24)=ez at *
      generalize eA.heap.size=D at *
      have f:=fg
      clear fg
      refine aa.one (i:=10) (o:=⟨none,_,_,_,_,_⟩) (by kernel_rfl) rfl (fun K E=>?_)
      obtain ⟨z0,z1,Z,z3⟩:=f.cell z 0 (by simp)
      have V:=f.lt z 0 (by simp)
      have Y:=f.frozen z 0 (by simp)
      have cw:=f.set z 0 (M) [(D,0)] (by simp) R.out.1 (fun p G=>by simp only [List.mem_cons,List.not_mem_nil,or_false] at G; rcases G with rfl <;> first | exact ⟨by simp,(Ne.symm (U.out.2 (z,0) (by simp)))⟩)
      go_simp
      refine E.out _ _ (⟨(I.out.on (ae.below cw)).cell.1,(J.out.on (ae.below cw)).cell F a (by simp)⟩) ?_
      clear E K
      try simp only [ac]
      clear f z0 z1 Z z3 V Y
      change aa _ _ _ _ _ _ _ _ (fil ez z (M))
      generalize fil ez z (M)=ey at *
      have f:=cw
      clear cw
      refine aa.one (i:=11) (o:=⟨none,_,_,_,_,_⟩) (by kernel_rfl) rfl (fun K E=>?_)
      obtain ⟨z0,z1,Z,z3⟩:=f.cell D 0 (by simp)
      have V:=f.lt D 0 (by simp)
      have Y:=f.frozen D 0 (by simp)
      have cv:=f.set D 0 (O) [(z,M)] (by simp) U.out.1 (fun p G=>by simp only [List.mem_cons,List.not_mem_nil,or_false] at G; rcases G with rfl <;> first | exact ⟨by simp,(U.out.2 (z,0) (by simp))⟩)
      go_simp
      refine E.out _ _ (⟨(I.out.on (ae.below cv)).cell.1,(J.out.on (ae.below cv)).cell F a (by simp)⟩) ?_
      clear E K
      try simp only [ac]
      clear f z0 z1 Z z3 V Y
      change aa _ _ _ _ _ _ _ _ (fil ey D (O))
      generalize fil ey D (O)=hD at *
      have f:=cv
      clear cv
      refine aa.done (by kernel_rfl) ?_ _
      refine NoPanic.normal ?_
      go_wp2_with fail
      go_meet
      exact ⟨_,_,rfl,rfl,hid (f.perm (by simp)),hid ⟨R.out.1,U.out.1,(U.out.2 (z,0) (by simp))⟩⟩
     ·skip
      go_simp
      refine E.out _ _ (⟨(I.out.on (ae.below f.zero)).cell.1,(J.out.on (ae.below f.zero)).cell F a (by simp)⟩) ?_
      clear E K
      try simp only [ac]
      have U:=hid f.fresh
      have ff:=f.zero
      clear f
      generalize eB.alloc (.cells #[.int .u64 0,.int .u64 0,.int .u64 0,.int .u64 0] 24)=hC at *
      generalize eB.heap.size=D at *
      have f:=ff
      clear ff
      refine aa.one (i:=7) (o:=⟨some 31,_,_,_,_,_⟩) (by kernel_rfl) rfl (fun K E=>?_)
      go_simp
      with_reducible refine (ah (bg a m gn O _ AL.out ML.out M0.out (SD.out.on (ae.below f)).nm ab.out) f).mono ?_
      rintro e ex ⟨rfl,cu⟩
      go_wp2_with fail
      refine E.out _ _ (⟨(I.out.on (ae.below cu)).cell.1,(J.out.on (ae.below cu)).cell F a (by simp)⟩) ?_
      clear E K
      try simp only [ac]
      clear f
      have f:=cu
      clear cu
      refine aa.one (i:=10) (o:=⟨none,_,_,_,_,_⟩) (by kernel_rfl) rfl (fun K E=>?_)
      obtain ⟨z0,z1,Z,z3⟩:=f.cell z 0 (by simp)
      have V:=f.lt z 0 (by simp)
      have Y:=f.frozen z 0 (by simp)
      have ct:=f.set z 0 (M) [(D,0)] (by simp) R.out.1 (fun p G=>by simp only [List.mem_cons,List.not_mem_nil,or_false] at G; rcases G with rfl <;> first | exact ⟨by simp,(Ne.symm (U.out.2 (z,0) (by simp)))⟩)
      go_simp
      refine E.out _ _ (⟨(I.out.on (ae.below ct)).cell.1,(J.out.on (ae.below ct)).cell F a (by simp)⟩) ?_
      clear E K
      try simp only [ac]
      clear f z0 z1 Z z3 V Y
      change aa _ _ _ _ _ _ _ _ (fil ex z (M))
      generalize fil ex z (M)=ew at *
      have f:=ct
      clear ct
      refine aa.one (i:=11) (o:=⟨none,_,_,_,_,_⟩) (by kernel_rfl) rfl (fun K E=>?_)
      obtain ⟨z0,z1,Z,z3⟩:=f.cell D 0 (by simp)
      have V:=f.lt D 0 (by simp)
      have Y:=f.frozen D 0 (by simp)
      have cs:=f.set D 0 (O) [(z,M)] (by simp) U.out.1 (fun p G=>by simp only [List.mem_cons,List.not_mem_nil,or_false] at G; rcases G with rfl <;> first | exact ⟨by simp,(U.out.2 (z,0) (by simp))⟩)
      go_simp
      refine E.out _ _ (⟨(I.out.on (ae.below cs)).cell.1,(J.out.on (ae.below cs)).cell F a (by simp)⟩) ?_
      clear E K
      try simp only [ac]
      clear f z0 z1 Z z3 V Y
      change aa _ _ _ _ _ _ _ _ (fil ew D (O))
      generalize fil ew D (O)=hB at *
      have f:=cs
      clear cs
      refine aa.done (by kernel_rfl) ?_ _
      refine NoPanic.normal ?_
      go_wp2_with fail
      go_meet
      exact ⟨_,_,rfl,rfl,hid (f.perm (by simp)),hid ⟨R.out.1,U.out.1,(U.out.2 (z,0) (by simp))⟩⟩
    ·skip
     go_simp
     refine E.out _ _ (⟨(I.out.on (ae.below f.zero)).cell.1,(J.out.on (ae.below f.zero)).cell F a (by simp)⟩) ?_
     clear E K
     try simp only [ac]
     have U:=hid f.fresh
     have fe:=f.zero
     clear f
     generalize eC.alloc (.cells #[.int .u64 0,.int .u64 0,.int .u64 0,.int .u64 0] 24)=hA at *
     generalize eC.heap.size=D at *
     have f:=fe
     clear fe
     refine aa.one (i:=3) (o:=⟨some 27,_,_,_,_,_⟩) (by kernel_rfl) rfl (fun K E=>?_)
     go_simp
     with_reducible refine (ah (bg 1 m gn M _ (by decide) ML.out M0.out (SD.out.on (ae.below f)).nm ad.out) f).mono ?_
     rintro e hz ⟨rfl,cq⟩
     go_wp2_with fail
     refine E.out _ _ (⟨(I.out.on (ae.below cq)).cell.1,(J.out.on (ae.below cq)).cell F a (by simp)⟩) ?_
     clear E K
     try simp only [ac]
     clear f
     have f:=cq
     clear cq
     refine aa.one (i:=7) (o:=⟨some 31,_,_,_,_,_⟩) (by kernel_rfl) rfl (fun K E=>?_)
     go_simp
     with_reducible refine (ah (bg a m gn O _ AL.out ML.out M0.out (SD.out.on (ae.below f)).nm ab.out) f).mono ?_
     rintro e ev ⟨rfl,cp⟩
     go_wp2_with fail
     refine E.out _ _ (⟨(I.out.on (ae.below cp)).cell.1,(J.out.on (ae.below cp)).cell F a (by simp)⟩) ?_
     clear E K
     try simp only [ac]
     clear f
     have f:=cp
     clear cp
     refine aa.one (i:=10) (o:=⟨none,_,_,_,_,_⟩) (by kernel_rfl) rfl (fun K E=>?_)
     obtain ⟨z0,z1,Z,z3⟩:=f.cell z 0 (by simp)
     have V:=f.lt z 0 (by simp)
     have Y:=f.frozen z 0 (by simp)
     have co:=f.set z 0 (M) [(D,0)] (by simp) R.out.1 (fun p G=>by simp only [List.mem_cons,List.not_mem_nil,or_false] at G; rcases G with rfl <;> first | exact ⟨by simp,(Ne.symm (U.out.2 (z,0) (by simp)))⟩)
     go_simp
     refine E.out _ _ (⟨(I.out.on (ae.below co)).cell.1,(J.out.on (ae.below co)).cell F a (by simp)⟩) ?_
     clear E K
     try simp only [ac]
     clear f z0 z1 Z z3 V Y
     change aa _ _ _ _ _ _ _ _ (fil ev z (M))
     generalize fil ev z (M)=es at *
     have f:=co
     clear co
     refine aa.one (i:=11) (o:=⟨none,_,_,_,_,_⟩) (by kernel_rfl) rfl (fun K E=>?_)
     obtain ⟨z0,z1,Z,z3⟩:=f.cell D 0 (by simp)
     have V:=f.lt D 0 (by simp)
     have Y:=f.frozen D 0 (by simp)
     have cn:=f.set D 0 (O) [(z,M)] (by simp) U.out.1 (fun p G=>by simp only [List.mem_cons,List.not_mem_nil,or_false] at G; rcases G with rfl <;> first | exact ⟨by simp,(U.out.2 (z,0) (by simp))⟩)
     go_simp
     refine E.out _ _ (⟨(I.out.on (ae.below cn)).cell.1,(J.out.on (ae.below cn)).cell F a (by simp)⟩) ?_
     clear E K
     try simp only [ac]
     clear f z0 z1 Z z3 V Y
     change aa _ _ _ _ _ _ _ _ (fil es D (O))
     generalize fil es D (O)=hy at *
     have f:=cn
     clear cn
     refine aa.done (by kernel_rfl) ?_ _
     refine NoPanic.normal ?_
     go_wp2_with fail
     go_meet
     exact ⟨_,_,rfl,rfl,hid (f.perm (by simp)),hid ⟨R.out.1,U.out.1,(U.out.2 (z,0) (by simp))⟩⟩
   ·skip
    go_simp
    refine E.out _ _ (⟨(I.out.on (ae.below f.zero)).cell.1,(J.out.on (ae.below f.zero)).cell F a (by simp)⟩) ?_
    clear E K
    try simp only [ac]
    have U:=hid f.fresh
    have fd:=f.zero
    clear f
    generalize de.alloc (.cells #[.int .u64 0,.int .u64 0,.int .u64 0,.int .u64 0] 24)=er at *
    generalize de.heap.size=D at *
    have f:=fd
    clear fd
    refine aa.two (i:=3) (j:=8) (o:=⟨some 27,_,_,_,_,_⟩) (p:=⟨some 10,_,_,_,_,_⟩) (by kernel_rfl) rfl rfl (fun K E=>?_) (fun K E=>?_)
    ·skip
     go_simp
     with_reducible refine (ah (bg 1 m gn M _ (by decide) ML.out M0.out (SD.out.on (ae.below f)).nm ad.out) f).mono ?_
     rintro e ep ⟨rfl,cm⟩
     go_wp2_with fail
     refine E.out _ _ (⟨(I.out.on (ae.below cm)).cell.1,(J.out.on (ae.below cm)).cell F a (by simp)⟩) ?_
     clear E K
     try simp only [ac]
     clear f
     have f:=cm
     clear cm
     refine aa.two (i:=7) (j:=8) (o:=⟨some 31,_,_,_,_,_⟩) (p:=⟨some 10,_,_,_,_,_⟩) (by kernel_rfl) rfl rfl (fun K E=>?_) (fun K E=>?_)
     ·skip
      go_simp
      with_reducible refine (ah (bg a m gn O _ AL.out ML.out M0.out (SD.out.on (ae.below f)).nm ab.out) f).mono ?_
      rintro e eo ⟨rfl,cl⟩
      go_wp2_with fail
      refine E.out _ _ (⟨(I.out.on (ae.below cl)).cell.1,(J.out.on (ae.below cl)).cell F a (by simp)⟩) ?_
      clear E K
      try simp only [ac]
      clear f
      have f:=cl
      clear cl
      refine aa.one (i:=8) (o:=⟨some 10,_,_,_,_,_⟩) (by kernel_rfl) rfl (fun K E=>?_)
      go_simp
      refine E.out _ _ (⟨(I.out.on (ae.below f.zero)).cell.1,(J.out.on (ae.below f.zero)).cell F a (by simp)⟩) ?_
      clear E K
      try simp only [ac]
      have R:=hid f.fresh
      have fc:=f.zero
      clear f
      generalize eo.alloc (.cells #[.int .u64 0,.int .u64 0,.int .u64 0,.int .u64 0] 24)=en at *
      generalize eo.heap.size=z at *
      have f:=fc
      clear fc
      refine aa.one (i:=10) (o:=⟨none,_,_,_,_,_⟩) (by kernel_rfl) rfl (fun K E=>?_)
      obtain ⟨z0,z1,Z,z3⟩:=f.cell z 0 (by simp)
      have V:=f.lt z 0 (by simp)
      have Y:=f.frozen z 0 (by simp)
      have ck:=f.set z 0 (M) [(D,0)] (by simp) R.out.1 (fun p G=>by simp only [List.mem_cons,List.not_mem_nil,or_false] at G; rcases G with rfl <;> first | exact ⟨by simp,(R.out.2 (D,0) (by simp))⟩)
      go_simp
      refine E.out _ _ (⟨(I.out.on (ae.below ck)).cell.1,(J.out.on (ae.below ck)).cell F a (by simp)⟩) ?_
      clear E K
      try simp only [ac]
      clear f z0 z1 Z z3 V Y
      change aa _ _ _ _ _ _ _ _ (fil en z (M))
      generalize fil en z (M)=em at *
      have f:=ck
      clear ck
      refine aa.one (i:=11) (o:=⟨none,_,_,_,_,_⟩) (by kernel_rfl) rfl (fun K E=>?_)
      obtain ⟨z0,z1,Z,z3⟩:=f.cell D 0 (by simp)
      have V:=f.lt D 0 (by simp)
      have Y:=f.frozen D 0 (by simp)
      have cj:=f.set D 0 (O) [(z,M)] (by simp) U.out.1 (fun p G=>by simp only [List.mem_cons,List.not_mem_nil,or_false] at G; rcases G with rfl <;> first | exact ⟨by simp,(Ne.symm (R.out.2 (D,0) (by simp)))⟩)
      go_simp
      refine E.out _ _ (⟨(I.out.on (ae.below cj)).cell.1,(J.out.on (ae.below cj)).cell F a (by simp)⟩) ?_
      clear E K
      try simp only [ac]
      clear f z0 z1 Z z3 V Y
      change aa _ _ _ _ _ _ _ _ (fil em D (O))
      generalize fil em D (O)=hx at *
      have f:=cj
      clear cj
      refine aa.done (by kernel_rfl) ?_ _
      refine NoPanic.normal ?_
      go_wp2_with fail
      go_meet
      exact ⟨_,_,rfl,rfl,hid (f.perm (by simp)),hid ⟨R.out.1,U.out.1,(Ne.symm (R.out.2 (D,0) (by simp)))⟩⟩
     ·skip
      go_simp
      refine E.out _ _ (⟨(I.out.on (ae.below f.zero)).cell.1,(J.out.on (ae.below f.zero)).cell F a (by simp)⟩) ?_
      clear E K
      try simp only [ac]
      have R:=hid f.fresh
      have fb:=f.zero
      clear f
      generalize ep.alloc (.cells #[.int .u64 0,.int .u64 0,.int .u64 0,.int .u64 0] 24)=hw at *
      generalize ep.heap.size=z at *
      have f:=fb
      clear fb
      refine aa.one (i:=7) (o:=⟨some 31,_,_,_,_,_⟩) (by kernel_rfl) rfl (fun K E=>?_)
      go_simp
      with_reducible refine (ah (bg a m gn O _ AL.out ML.out M0.out (SD.out.on (ae.below f)).nm ab.out) f).mono ?_
      rintro e el ⟨rfl,cf⟩
      go_wp2_with fail
      refine E.out _ _ (⟨(I.out.on (ae.below cf)).cell.1,(J.out.on (ae.below cf)).cell F a (by simp)⟩) ?_
      clear E K
      try simp only [ac]
      clear f
      have f:=cf
      clear cf
      refine aa.one (i:=10) (o:=⟨none,_,_,_,_,_⟩) (by kernel_rfl) rfl (fun K E=>?_)
      obtain ⟨z0,z1,Z,z3⟩:=f.cell z 0 (by simp)
      have V:=f.lt z 0 (by simp)
      have Y:=f.frozen z 0 (by simp)
      have cd:=f.set z 0 (M) [(D,0)] (by simp) R.out.1 (fun p G=>by simp only [List.mem_cons,List.not_mem_nil,or_false] at G; rcases G with rfl <;> first | exact ⟨by simp,(R.out.2 (D,0) (by simp))⟩)
      go_simp
      refine E.out _ _ (⟨(I.out.on (ae.below cd)).cell.1,(J.out.on (ae.below cd)).cell F a (by simp)⟩) ?_
      clear E K
      try simp only [ac]
      clear f z0 z1 Z z3 V Y
      change aa _ _ _ _ _ _ _ _ (fil el z (M))
      generalize fil el z (M)=ek at *
      have f:=cd
      clear cd
      refine aa.one (i:=11) (o:=⟨none,_,_,_,_,_⟩) (by kernel_rfl) rfl (fun K E=>?_)
      obtain ⟨z0,z1,Z,z3⟩:=f.cell D 0 (by simp)
      have V:=f.lt D 0 (by simp)
      have Y:=f.frozen D 0 (by simp)
      have cc:=f.set D 0 (O) [(z,M)] (by simp) U.out.1 (fun p G=>by simp only [List.mem_cons,List.not_mem_nil,or_false] at G; rcases G with rfl <;> first | exact ⟨by simp,(Ne.symm (R.out.2 (D,0) (by simp)))⟩)
      go_simp
      refine E.out _ _ (⟨(I.out.on (ae.below cc)).cell.1,(J.out.on (ae.below cc)).cell F a (by simp)⟩) ?_
      clear E K
      try simp only [ac]
      clear f z0 z1 Z z3 V Y
      change aa _ _ _ _ _ _ _ _ (fil ek D (O))
      generalize fil ek D (O)=hu at *
      have f:=cc
      clear cc
      refine aa.done (by kernel_rfl) ?_ _
      refine NoPanic.normal ?_
      go_wp2_with fail
      go_meet
      exact ⟨_,_,rfl,rfl,hid (f.perm (by simp)),hid ⟨R.out.1,U.out.1,(Ne.symm (R.out.2 (D,0) (by simp)))⟩⟩
    ·skip
     go_simp
     refine E.out _ _ (⟨(I.out.on (ae.below f.zero)).cell.1,(J.out.on (ae.below f.zero)).cell F a (by simp)⟩) ?_
     clear E K
     try simp only [ac]
     have R:=hid f.fresh
     have fa:=f.zero
     clear f
     generalize er.alloc (.cells #[.int .u64 0,.int .u64 0,.int .u64 0,.int .u64 0] 24)=ht at *
     generalize er.heap.size=z at *
     have f:=fa
     clear fa
     refine aa.one (i:=3) (o:=⟨some 27,_,_,_,_,_⟩) (by kernel_rfl) rfl (fun K E=>?_)
     go_simp
     with_reducible refine (ah (bg 1 m gn M _ (by decide) ML.out M0.out (SD.out.on (ae.below f)).nm ad.out) f).mono ?_
     rintro e hr ⟨rfl,cb⟩
     go_wp2_with fail
     refine E.out _ _ (⟨(I.out.on (ae.below cb)).cell.1,(J.out.on (ae.below cb)).cell F a (by simp)⟩) ?_
     clear E K
     try simp only [ac]
     clear f
     have f:=cb
     clear cb
     refine aa.one (i:=7) (o:=⟨some 31,_,_,_,_,_⟩) (by kernel_rfl) rfl (fun K E=>?_)
     go_simp
     with_reducible refine (ah (bg a m gn O _ AL.out ML.out M0.out (SD.out.on (ae.below f)).nm ab.out) f).mono ?_
     rintro e ej ⟨rfl,ca⟩
     go_wp2_with fail
     refine E.out _ _ (⟨(I.out.on (ae.below ca)).cell.1,(J.out.on (ae.below ca)).cell F a (by simp)⟩) ?_
     clear E K
     try simp only [ac]
     clear f
     have f:=ca
     clear ca
     refine aa.one (i:=10) (o:=⟨none,_,_,_,_,_⟩) (by kernel_rfl) rfl (fun K E=>?_)
     obtain ⟨z0,z1,Z,z3⟩:=f.cell z 0 (by simp)
     have V:=f.lt z 0 (by simp)
     have Y:=f.frozen z 0 (by simp)
     have bZ:=f.set z 0 (M) [(D,0)] (by simp) R.out.1 (fun p G=>by simp only [List.mem_cons,List.not_mem_nil,or_false] at G; rcases G with rfl <;> first | exact ⟨by simp,(R.out.2 (D,0) (by simp))⟩)
     go_simp
     refine E.out _ _ (⟨(I.out.on (ae.below bZ)).cell.1,(J.out.on (ae.below bZ)).cell F a (by simp)⟩) ?_
     clear E K
     try simp only [ac]
     clear f z0 z1 Z z3 V Y
     change aa _ _ _ _ _ _ _ _ (fil ej z (M))
     generalize fil ej z (M)=ei at *
     have f:=bZ
     clear bZ
     refine aa.one (i:=11) (o:=⟨none,_,_,_,_,_⟩) (by kernel_rfl) rfl (fun K E=>?_)
     obtain ⟨z0,z1,Z,z3⟩:=f.cell D 0 (by simp)
     have V:=f.lt D 0 (by simp)
     have Y:=f.frozen D 0 (by simp)
     have bY:=f.set D 0 (O) [(z,M)] (by simp) U.out.1 (fun p G=>by simp only [List.mem_cons,List.not_mem_nil,or_false] at G; rcases G with rfl <;> first | exact ⟨by simp,(Ne.symm (R.out.2 (D,0) (by simp)))⟩)
     go_simp
     refine E.out _ _ (⟨(I.out.on (ae.below bY)).cell.1,(J.out.on (ae.below bY)).cell F a (by simp)⟩) ?_
     clear E K
     try simp only [ac]
     clear f z0 z1 Z z3 V Y
     change aa _ _ _ _ _ _ _ _ (fil ei D (O))
     generalize fil ei D (O)=hl at *
     have f:=bY
     clear bY
     refine aa.done (by kernel_rfl) ?_ _
     refine NoPanic.normal ?_
     go_wp2_with fail
     go_meet
     exact ⟨_,_,rfl,rfl,hid (f.perm (by simp)),hid ⟨R.out.1,U.out.1,(Ne.symm (R.out.2 (D,0) (by simp)))⟩⟩
  ·skip
   go_simp
   refine E.out _ _ (⟨(I.out.on (ae.below f.zero)).cell.1,(J.out.on (ae.below f.zero)).cell F a (by simp)⟩) ?_
   clear E K
   try simp only [ac]
   have R:=hid f.fresh
   have eZ:=f.zero
   clear f
   generalize wd.alloc (.cells #[.int .u64 0,.int .u64 0,.int .u64 0,.int .u64 0] 24)=eh at *
   generalize wd.heap.size=z at *
   have f:=eZ
   clear eZ
   refine aa.two (i:=2) (j:=9) (o:=⟨some 26,_,_,_,_,_⟩) (p:=⟨some 11,_,_,_,_,_⟩) (by kernel_rfl) rfl rfl (fun K E=>?_) (fun K E=>?_)
   ·skip
    go_simp
    with_reducible refine (dh 1 1 f (by decide) (by decide)).mono ?_
    rintro e eg ⟨rfl,bX⟩
    go_wp2_with fail
    refine E.out _ _ (⟨(I.out.on (ae.below bX)).cell.1,(J.out.on (ae.below bX)).cell F a (by simp)⟩) ?_
    clear E K
    try simp only [ac]
    clear f
    have f:=bX
    clear bX
    refine aa.two (i:=3) (j:=9) (o:=⟨some 27,_,_,_,_,_⟩) (p:=⟨some 11,_,_,_,_,_⟩) (by kernel_rfl) rfl rfl (fun K E=>?_) (fun K E=>?_)
    ·skip
     go_simp
     with_reducible refine (ah (bg 1 m gn M _ (by decide) ML.out M0.out (SD.out.on (ae.below f)).nm ad.out) f).mono ?_
     rintro e ef ⟨rfl,bW⟩
     go_wp2_with fail
     refine E.out _ _ (⟨(I.out.on (ae.below bW)).cell.1,(J.out.on (ae.below bW)).cell F a (by simp)⟩) ?_
     clear E K
     try simp only [ac]
     clear f
     have f:=bW
     clear bW
     refine aa.two (i:=7) (j:=9) (o:=⟨some 31,_,_,_,_,_⟩) (p:=⟨some 11,_,_,_,_,_⟩) (by kernel_rfl) rfl rfl (fun K E=>?_) (fun K E=>?_)
     ·skip
      go_simp
      with_reducible refine (ah (bg a m gn O _ AL.out ML.out M0.out (SD.out.on (ae.below f)).nm ab.out) f).mono ?_
      rintro e ee ⟨rfl,bV⟩
      go_wp2_with fail
      refine E.out _ _ (⟨(I.out.on (ae.below bV)).cell.1,(J.out.on (ae.below bV)).cell F a (by simp)⟩) ?_
      clear E K
      try simp only [ac]
      clear f
      have f:=bV
      clear bV
      refine aa.one (i:=9) (o:=⟨some 11,_,_,_,_,_⟩) (by kernel_rfl) rfl (fun K E=>?_)
      go_simp
      refine E.out _ _ (⟨(I.out.on (ae.below f.zero)).cell.1,(J.out.on (ae.below f.zero)).cell F a (by simp)⟩) ?_
      clear E K
      try simp only [ac]
      have U:=hid f.fresh
      have eY:=f.zero
      clear f
      generalize ee.alloc (.cells #[.int .u64 0,.int .u64 0,.int .u64 0,.int .u64 0] 24)=ed at *
      generalize ee.heap.size=D at *
      have f:=eY
      clear eY
      refine aa.one (i:=10) (o:=⟨none,_,_,_,_,_⟩) (by kernel_rfl) rfl (fun K E=>?_)
      obtain ⟨z0,z1,Z,z3⟩:=f.cell z 0 (by simp)
      have V:=f.lt z 0 (by simp)
      have Y:=f.frozen z 0 (by simp)
      have bU:=f.set z 0 (M) [(D,0)] (by simp) R.out.1 (fun p G=>by simp only [List.mem_cons,List.not_mem_nil,or_false] at G; rcases G with rfl <;> first | exact ⟨by simp,(Ne.symm (U.out.2 (z,0) (by simp)))⟩)
      go_simp
      refine E.out _ _ (⟨(I.out.on (ae.below bU)).cell.1,(J.out.on (ae.below bU)).cell F a (by simp)⟩) ?_
      clear E K
      try simp only [ac]
      clear f z0 z1 Z z3 V Y
      change aa _ _ _ _ _ _ _ _ (fil ed z (M))
      generalize fil ed z (M)=ea at *
      have f:=bU
      clear bU
      refine aa.one (i:=11) (o:=⟨none,_,_,_,_,_⟩) (by kernel_rfl) rfl (fun K E=>?_)
      obtain ⟨z0,z1,Z,z3⟩:=f.cell D 0 (by simp)
      have V:=f.lt D 0 (by simp)
      have Y:=f.frozen D 0 (by simp)
      have bS:=f.set D 0 (O) [(z,M)] (by simp) U.out.1 (fun p G=>by simp only [List.mem_cons,List.not_mem_nil,or_false] at G; rcases G with rfl <;> first | exact ⟨by simp,(U.out.2 (z,0) (by simp))⟩)
      go_simp
      refine E.out _ _ (⟨(I.out.on (ae.below bS)).cell.1,(J.out.on (ae.below bS)).cell F a (by simp)⟩) ?_
      clear E K
      try simp only [ac]
      clear f z0 z1 Z z3 V Y
      change aa _ _ _ _ _ _ _ _ (fil ea D (O))
      generalize fil ea D (O)=hj at *
      have f:=bS
      clear bS
      refine aa.done (by kernel_rfl) ?_ _
      refine NoPanic.normal ?_
      go_wp2_with fail
      go_meet
      exact ⟨_,_,rfl,rfl,hid (f.perm (by simp)),hid ⟨R.out.1,U.out.1,(U.out.2 (z,0) (by simp))⟩⟩
     ·skip
      go_simp
      refine E.out _ _ (⟨(I.out.on (ae.below f.zero)).cell.1,(J.out.on (ae.below f.zero)).cell F a (by simp)⟩) ?_
      clear E K
      try simp only [ac]
      have U:=hid f.fresh
      have eX:=f.zero
      clear f
      generalize ef.alloc (.cells #[.int .u64 0,.int .u64 0,.int .u64 0,.int .u64 0] 24)=hg at *
      generalize ef.heap.size=D at *
      have f:=eX
      clear eX
      refine aa.one (i:=7) (o:=⟨some 31,_,_,_,_,_⟩) (by kernel_rfl) rfl (fun K E=>?_)
      go_simp
      with_reducible refine (ah (bg a m gn O _ AL.out ML.out M0.out (SD.out.on (ae.below f)).nm ab.out) f).mono ?_
      rintro e dZ ⟨rfl,bR⟩
      go_wp2_with fail
      refine E.out _ _ (⟨(I.out.on (ae.below bR)).cell.1,(J.out.on (ae.below bR)).cell F a (by simp)⟩) ?_
      clear E K
      try simp only [ac]
      clear f
      have f:=bR
      clear bR
      refine aa.one (i:=10) (o:=⟨none,_,_,_,_,_⟩) (by kernel_rfl) rfl (fun K E=>?_)
      obtain ⟨z0,z1,Z,z3⟩:=f.cell z 0 (by simp)
      have V:=f.lt z 0 (by simp)
      have Y:=f.frozen z 0 (by simp)
      have bQ:=f.set z 0 (M) [(D,0)] (by simp) R.out.1 (fun p G=>by simp only [List.mem_cons,List.not_mem_nil,or_false] at G; rcases G with rfl <;> first | exact ⟨by simp,(Ne.symm (U.out.2 (z,0) (by simp)))⟩)
      go_simp
      refine E.out _ _ (⟨(I.out.on (ae.below bQ)).cell.1,(J.out.on (ae.below bQ)).cell F a (by simp)⟩) ?_
      clear E K
      try simp only [ac]
      clear f z0 z1 Z z3 V Y
      change aa _ _ _ _ _ _ _ _ (fil dZ z (M))
      generalize fil dZ z (M)=dY at *
      have f:=bQ
      clear bQ
      refine aa.one (i:=11) (o:=⟨none,_,_,_,_,_⟩) (by kernel_rfl) rfl (fun K E=>?_)
      obtain ⟨z0,z1,Z,z3⟩:=f.cell D 0 (by simp)
      have V:=f.lt D 0 (by simp)
      have Y:=f.frozen D 0 (by simp)
      have bP:=f.set D 0 (O) [(z,M)] (by simp) U.out.1 (fun p G=>by simp only [List.mem_cons,List.not_mem_nil,or_false] at G; rcases G with rfl <;> first | exact ⟨by simp,(U.out.2 (z,0) (by simp))⟩)
      go_simp
      refine E.out _ _ (⟨(I.out.on (ae.below bP)).cell.1,(J.out.on (ae.below bP)).cell F a (by simp)⟩) ?_
      clear E K
      try simp only [ac]
      clear f z0 z1 Z z3 V Y
      change aa _ _ _ _ _ _ _ _ (fil dY D (O))
      generalize fil dY D (O)=he at *
      have f:=bP
      clear bP
      refine aa.done (by kernel_rfl) ?_ _
      refine NoPanic.normal ?_
      go_wp2_with fail
      go_meet
      exact ⟨_,_,rfl,rfl,hid (f.perm (by simp)),hid ⟨R.out.1,U.out.1,(U.out.2 (z,0) (by simp))⟩⟩
    ·skip
     go_simp
     refine E.out _ _ (⟨(I.out.on (ae.below f.zero)).cell.1,(J.out.on (ae.below f.zero)).cell F a (by simp)⟩) ?_
     clear E K
     try simp only [ac]
     have U:=hid f.fresh
     have eW:=f.zero
     clear f
     generalize eg.alloc (.cells #[.int .u64 0,.int .u64 0,.int .u64 0,.int .u64 0] 24)=ha at *
     generalize eg.heap.size=D at *
     have f:=eW
     clear eW
     refine aa.one (i:=3) (o:=⟨some 27,_,_,_,_,_⟩) (by kernel_rfl) rfl (fun K E=>?_)
     go_simp
     with_reducible refine (ah (bg 1 m gn M _ (by decide) ML.out M0.out (SD.out.on (ae.below f)).nm ad.out) f).mono ?_
     rintro e gZ ⟨rfl,bO⟩
     go_wp2_with fail
     refine E.out _ _ (⟨(I.out.on (ae.below bO)).cell.1,(J.out.on (ae.below bO)).cell F a (by simp)⟩) ?_
     clear E K
     try simp only [ac]
     clear f
     have f:=bO
     clear bO
     refine aa.one (i:=7) (o:=⟨some 31,_,_,_,_,_⟩) (by kernel_rfl) rfl (fun K E=>?_)
     go_simp
     with_reducible refine (ah (bg a m gn O _ AL.out ML.out M0.out (SD.out.on (ae.below f)).nm ab.out) f).mono ?_
     rintro e dX ⟨rfl,bN⟩
     go_wp2_with fail
     refine E.out _ _ (⟨(I.out.on (ae.below bN)).cell.1,(J.out.on (ae.below bN)).cell F a (by simp)⟩) ?_
     clear E K
     try simp only [ac]
     clear f
     have f:=bN
     clear bN
     refine aa.one (i:=10) (o:=⟨none,_,_,_,_,_⟩) (by kernel_rfl) rfl (fun K E=>?_)
     obtain ⟨z0,z1,Z,z3⟩:=f.cell z 0 (by simp)
     have V:=f.lt z 0 (by simp)
     have Y:=f.frozen z 0 (by simp)
     have bK:=f.set z 0 (M) [(D,0)] (by simp) R.out.1 (fun p G=>by simp only [List.mem_cons,List.not_mem_nil,or_false] at G; rcases G with rfl <;> first | exact ⟨by simp,(Ne.symm (U.out.2 (z,0) (by simp)))⟩)
     go_simp
     refine E.out _ _ (⟨(I.out.on (ae.below bK)).cell.1,(J.out.on (ae.below bK)).cell F a (by simp)⟩) ?_
     clear E K
     try simp only [ac]
     clear f z0 z1 Z z3 V Y
     change aa _ _ _ _ _ _ _ _ (fil dX z (M))
     generalize fil dX z (M)=dW at *
     have f:=bK
     clear bK
     refine aa.one (i:=11) (o:=⟨none,_,_,_,_,_⟩) (by kernel_rfl) rfl (fun K E=>?_)
     obtain ⟨z0,z1,Z,z3⟩:=f.cell D 0 (by simp)
     have V:=f.lt D 0 (by simp)
     have Y:=f.frozen D 0 (by simp)
     have bG:=f.set D 0 (O) [(z,M)] (by simp) U.out.1 (fun p G=>by simp only [List.mem_cons,List.not_mem_nil,or_false] at G; rcases G with rfl <;> first | exact ⟨by simp,(U.out.2 (z,0) (by simp))⟩)
     go_simp
     refine E.out _ _ (⟨(I.out.on (ae.below bG)).cell.1,(J.out.on (ae.below bG)).cell F a (by simp)⟩) ?_
     clear E K
     try simp only [ac]
     clear f z0 z1 Z z3 V Y
     change aa _ _ _ _ _ _ _ _ (fil dW D (O))
     generalize fil dW D (O)=gY at *
     have f:=bG
     clear bG
     refine aa.done (by kernel_rfl) ?_ _
     refine NoPanic.normal ?_
     go_wp2_with fail
     go_meet
     exact ⟨_,_,rfl,rfl,hid (f.perm (by simp)),hid ⟨R.out.1,U.out.1,(U.out.2 (z,0) (by simp))⟩⟩
   ·skip
    go_simp
    refine E.out _ _ (⟨(I.out.on (ae.below f.zero)).cell.1,(J.out.on (ae.below f.zero)).cell F a (by simp)⟩) ?_
    clear E K
    try simp only [ac]
    have U:=hid f.fresh
    have eV:=f.zero
    clear f
    generalize eh.alloc (.cells #[.int .u64 0,.int .u64 0,.int .u64 0,.int .u64 0] 24)=gX at *
    generalize eh.heap.size=D at *
    have f:=eV
    clear eV
    refine aa.one (i:=2) (o:=⟨some 26,_,_,_,_,_⟩) (by kernel_rfl) rfl (fun K E=>?_)
    go_simp
    with_reducible refine (dh 1 1 f (by decide) (by decide)).mono ?_
    rintro e gW ⟨rfl,bA⟩
    go_wp2_with fail
    refine E.out _ _ (⟨(I.out.on (ae.below bA)).cell.1,(J.out.on (ae.below bA)).cell F a (by simp)⟩) ?_
    clear E K
    try simp only [ac]
    clear f
    have f:=bA
    clear bA
    refine aa.one (i:=3) (o:=⟨some 27,_,_,_,_,_⟩) (by kernel_rfl) rfl (fun K E=>?_)
    go_simp
    with_reducible refine (ah (bg 1 m gn M _ (by decide) ML.out M0.out (SD.out.on (ae.below f)).nm ad.out) f).mono ?_
    rintro e gV ⟨rfl,bz⟩
    go_wp2_with fail
    refine E.out _ _ (⟨(I.out.on (ae.below bz)).cell.1,(J.out.on (ae.below bz)).cell F a (by simp)⟩) ?_
    clear E K
    try simp only [ac]
    clear f
    have f:=bz
    clear bz
    refine aa.one (i:=7) (o:=⟨some 31,_,_,_,_,_⟩) (by kernel_rfl) rfl (fun K E=>?_)
    go_simp
    with_reducible refine (ah (bg a m gn O _ AL.out ML.out M0.out (SD.out.on (ae.below f)).nm ab.out) f).mono ?_
    rintro e dV ⟨rfl,bx⟩
    go_wp2_with fail
    refine E.out _ _ (⟨(I.out.on (ae.below bx)).cell.1,(J.out.on (ae.below bx)).cell F a (by simp)⟩) ?_
    clear E K
    try simp only [ac]
    clear f
    have f:=bx
    clear bx
    refine aa.one (i:=10) (o:=⟨none,_,_,_,_,_⟩) (by kernel_rfl) rfl (fun K E=>?_)
    obtain ⟨z0,z1,Z,z3⟩:=f.cell z 0 (by simp)
    have V:=f.lt z 0 (by simp)
    have Y:=f.frozen z 0 (by simp)
    have bv:=f.set z 0 (M) [(D,0)] (by simp) R.out.1 (fun p G=>by simp only [List.mem_cons,List.not_mem_nil,or_false] at G; rcases G with rfl <;> first | exact ⟨by simp,(Ne.symm (U.out.2 (z,0) (by simp)))⟩)
    go_simp
    refine E.out _ _ (⟨(I.out.on (ae.below bv)).cell.1,(J.out.on (ae.below bv)).cell F a (by simp)⟩) ?_
    clear E K
    try simp only [ac]
    clear f z0 z1 Z z3 V Y
    change aa _ _ _ _ _ _ _ _ (fil dV z (M))
    generalize fil dV z (M)=dU at *
    have f:=bv
    clear bv
    refine aa.one (i:=11) (o:=⟨none,_,_,_,_,_⟩) (by kernel_rfl) rfl (fun K E=>?_)
    obtain ⟨z0,z1,Z,z3⟩:=f.cell D 0 (by simp)
    have V:=f.lt D 0 (by simp)
    have Y:=f.frozen D 0 (by simp)
    have bu:=f.set D 0 (O) [(z,M)] (by simp) U.out.1 (fun p G=>by simp only [List.mem_cons,List.not_mem_nil,or_false] at G; rcases G with rfl <;> first | exact ⟨by simp,(U.out.2 (z,0) (by simp))⟩)
    go_simp
    refine E.out _ _ (⟨(I.out.on (ae.below bu)).cell.1,(J.out.on (ae.below bu)).cell F a (by simp)⟩) ?_
    clear E K
    try simp only [ac]
    clear f z0 z1 Z z3 V Y
    change aa _ _ _ _ _ _ _ _ (fil dU D (O))
    generalize fil dU D (O)=gU at *
    have f:=bu
    clear bu
    refine aa.done (by kernel_rfl) ?_ _
    refine NoPanic.normal ?_
    go_wp2_with fail
    go_meet
    exact ⟨_,_,rfl,rfl,hid (f.perm (by simp)),hid ⟨R.out.1,U.out.1,(U.out.2 (z,0) (by simp))⟩⟩
  ·skip
   go_simp
   refine E.out _ _ (⟨(I.out.on (ae.below f.zero)).cell.1,(J.out.on (ae.below f.zero)).cell F a (by simp)⟩) ?_
   clear E K
   try simp only [ac]
   have U:=hid f.fresh
   have eU:=f.zero
   clear f
   generalize wd.alloc (.cells #[.int .u64 0,.int .u64 0,.int .u64 0,.int .u64 0] 24)=dT at *
   generalize wd.heap.size=D at *
   have f:=eU
   clear eU
   refine aa.two (i:=2) (j:=8) (o:=⟨some 26,_,_,_,_,_⟩) (p:=⟨some 10,_,_,_,_,_⟩) (by kernel_rfl) rfl rfl (fun K E=>?_) (fun K E=>?_)
   ·skip
    go_simp
    with_reducible refine (dh 1 1 f (by decide) (by decide)).mono ?_
    rintro e dO ⟨rfl,bk⟩
    go_wp2_with fail
    refine E.out _ _ (⟨(I.out.on (ae.below bk)).cell.1,(J.out.on (ae.below bk)).cell F a (by simp)⟩) ?_
    clear E K
    try simp only [ac]
    clear f
    have f:=bk
    clear bk
    refine aa.two (i:=3) (j:=8) (o:=⟨some 27,_,_,_,_,_⟩) (p:=⟨some 10,_,_,_,_,_⟩) (by kernel_rfl) rfl rfl (fun K E=>?_) (fun K E=>?_)
    ·skip
     go_simp
     with_reducible refine (ah (bg 1 m gn M _ (by decide) ML.out M0.out (SD.out.on (ae.below f)).nm ad.out) f).mono ?_
     rintro e dG ⟨rfl,bd⟩
     go_wp2_with fail
     refine E.out _ _ (⟨(I.out.on (ae.below bd)).cell.1,(J.out.on (ae.below bd)).cell F a (by simp)⟩) ?_
     clear E K
     try simp only [ac]
     clear f
     have f:=bd
     clear bd
     refine aa.two (i:=7) (j:=8) (o:=⟨some 31,_,_,_,_,_⟩) (p:=⟨some 10,_,_,_,_,_⟩) (by kernel_rfl) rfl rfl (fun K E=>?_) (fun K E=>?_)
     ·skip
      go_simp
      with_reducible refine (ah (bg a m gn O _ AL.out ML.out M0.out (SD.out.on (ae.below f)).nm ab.out) f).mono ?_
      rintro e dC ⟨rfl,bb⟩
      go_wp2_with fail
      refine E.out _ _ (⟨(I.out.on (ae.below bb)).cell.1,(J.out.on (ae.below bb)).cell F a (by simp)⟩) ?_
      clear E K
      try simp only [ac]
      clear f
      have f:=bb
      clear bb
      refine aa.one (i:=8) (o:=⟨some 10,_,_,_,_,_⟩) (by kernel_rfl) rfl (fun K E=>?_)
      go_simp
      refine E.out _ _ (⟨(I.out.on (ae.below f.zero)).cell.1,(J.out.on (ae.below f.zero)).cell F a (by simp)⟩) ?_
      clear E K
      try simp only [ac]
      have R:=hid f.fresh
      have eT:=f.zero
      clear f
      generalize dC.alloc (.cells #[.int .u64 0,.int .u64 0,.int .u64 0,.int .u64 0] 24)=dB at *
      generalize dC.heap.size=z at *
      have f:=eT
      clear eT
      refine aa.one (i:=10) (o:=⟨none,_,_,_,_,_⟩) (by kernel_rfl) rfl (fun K E=>?_)
      obtain ⟨z0,z1,Z,z3⟩:=f.cell z 0 (by simp)
      have V:=f.lt z 0 (by simp)
      have Y:=f.frozen z 0 (by simp)
      have ba:=f.set z 0 (M) [(D,0)] (by simp) R.out.1 (fun p G=>by simp only [List.mem_cons,List.not_mem_nil,or_false] at G; rcases G with rfl <;> first | exact ⟨by simp,(R.out.2 (D,0) (by simp))⟩)
      go_simp
      refine E.out _ _ (⟨(I.out.on (ae.below ba)).cell.1,(J.out.on (ae.below ba)).cell F a (by simp)⟩) ?_
      clear E K
      try simp only [ac]
      clear f z0 z1 Z z3 V Y
      change aa _ _ _ _ _ _ _ _ (fil dB z (M))
      generalize fil dB z (M)=dA at *
      have f:=ba
      clear ba
      refine aa.one (i:=11) (o:=⟨none,_,_,_,_,_⟩) (by kernel_rfl) rfl (fun K E=>?_)
      obtain ⟨z0,z1,Z,z3⟩:=f.cell D 0 (by simp)
      have V:=f.lt D 0 (by simp)
      have Y:=f.frozen D 0 (by simp)
      have aW:=f.set D 0 (O) [(z,M)] (by simp) U.out.1 (fun p G=>by simp only [List.mem_cons,List.not_mem_nil,or_false] at G; rcases G with rfl <;> first | exact ⟨by simp,(Ne.symm (R.out.2 (D,0) (by simp)))⟩)
      go_simp
      refine E.out _ _ (⟨(I.out.on (ae.below aW)).cell.1,(J.out.on (ae.below aW)).cell F a (by simp)⟩) ?_
      clear E K
      try simp only [ac]
      clear f z0 z1 Z z3 V Y
      change aa _ _ _ _ _ _ _ _ (fil dA D (O))
      generalize fil dA D (O)=gS at *
      have f:=aW
      clear aW
      refine aa.done (by kernel_rfl) ?_ _
      refine NoPanic.normal ?_
      go_wp2_with fail
      go_meet
      exact ⟨_,_,rfl,rfl,hid (f.perm (by simp)),hid ⟨R.out.1,U.out.1,(Ne.symm (R.out.2 (D,0) (by simp)))⟩⟩
     ·skip
      go_simp
      refine E.out _ _ (⟨(I.out.on (ae.below f.zero)).cell.1,(J.out.on (ae.below f.zero)).cell F a (by simp)⟩) ?_
      clear E K
      try simp only [ac]
      have R:=hid f.fresh
      have eS:=f.zero
      clear f
      generalize dG.alloc (.cells #[.int .u64 0,.int .u64 0,.int .u64 0,.int .u64 0] 24)=gR at *
      generalize dG.heap.size=z at *
      have f:=eS
      clear eS
      refine aa.one (i:=7) (o:=⟨some 31,_,_,_,_,_⟩) (by kernel_rfl) rfl (fun K E=>?_)
      go_simp
      with_reducible refine (ah (bg a m gn O _ AL.out ML.out M0.out (SD.out.on (ae.below f)).nm ab.out) f).mono ?_
      rintro e dz ⟨rfl,aN⟩
      go_wp2_with fail
      refine E.out _ _ (⟨(I.out.on (ae.below aN)).cell.1,(J.out.on (ae.below aN)).cell F a (by simp)⟩) ?_
      clear E K
      try simp only [ac]
      clear f
      have f:=aN
      clear aN
      refine aa.one (i:=10) (o:=⟨none,_,_,_,_,_⟩) (by kernel_rfl) rfl (fun K E=>?_)
      obtain ⟨z0,z1,Z,z3⟩:=f.cell z 0 (by simp)
      have V:=f.lt z 0 (by simp)
      have Y:=f.frozen z 0 (by simp)
      have aM:=f.set z 0 (M) [(D,0)] (by simp) R.out.1 (fun p G=>by simp only [List.mem_cons,List.not_mem_nil,or_false] at G; rcases G with rfl <;> first | exact ⟨by simp,(R.out.2 (D,0) (by simp))⟩)
      go_simp
      refine E.out _ _ (⟨(I.out.on (ae.below aM)).cell.1,(J.out.on (ae.below aM)).cell F a (by simp)⟩) ?_
      clear E K
      try simp only [ac]
      clear f z0 z1 Z z3 V Y
      change aa _ _ _ _ _ _ _ _ (fil dz z (M))
      generalize fil dz z (M)=dy at *
      have f:=aM
      clear aM
      refine aa.one (i:=11) (o:=⟨none,_,_,_,_,_⟩) (by kernel_rfl) rfl (fun K E=>?_)
      obtain ⟨z0,z1,Z,z3⟩:=f.cell D 0 (by simp)
      have V:=f.lt D 0 (by simp)
      have Y:=f.frozen D 0 (by simp)
      have aL:=f.set D 0 (O) [(z,M)] (by simp) U.out.1 (fun p G=>by simp only [List.mem_cons,List.not_mem_nil,or_false] at G; rcases G with rfl <;> first | exact ⟨by simp,(Ne.symm (R.out.2 (D,0) (by simp)))⟩)
      go_simp
      refine E.out _ _ (⟨(I.out.on (ae.below aL)).cell.1,(J.out.on (ae.below aL)).cell F a (by simp)⟩) ?_
      clear E K
      try simp only [ac]
      clear f z0 z1 Z z3 V Y
      change aa _ _ _ _ _ _ _ _ (fil dy D (O))
      generalize fil dy D (O)=gQ at *
      have f:=aL
      clear aL
      refine aa.done (by kernel_rfl) ?_ _
      refine NoPanic.normal ?_
      go_wp2_with fail
      go_meet
      exact ⟨_,_,rfl,rfl,hid (f.perm (by simp)),hid ⟨R.out.1,U.out.1,(Ne.symm (R.out.2 (D,0) (by simp)))⟩⟩
    ·skip
     go_simp
     refine E.out _ _ (⟨(I.out.on (ae.below f.zero)).cell.1,(J.out.on (ae.below f.zero)).cell F a (by simp)⟩) ?_
     clear E K
     try simp only [ac]
     have R:=hid f.fresh
     have eR:=f.zero
     clear f
     generalize dO.alloc (.cells #[.int .u64 0,.int .u64 0,.int .u64 0,.int .u64 0] 24)=gP at *
     generalize dO.heap.size=z at *
     have f:=eR
     clear eR
     refine aa.one (i:=3) (o:=⟨some 27,_,_,_,_,_⟩) (by kernel_rfl) rfl (fun K E=>?_)
     go_simp
     with_reducible refine (ah (bg 1 m gn M _ (by decide) ML.out M0.out (SD.out.on (ae.below f)).nm ad.out) f).mono ?_
     rintro e gO ⟨rfl,aK⟩
     go_wp2_with fail
     refine E.out _ _ (⟨(I.out.on (ae.below aK)).cell.1,(J.out.on (ae.below aK)).cell F a (by simp)⟩) ?_
     clear E K
     try simp only [ac]
     clear f
     have f:=aK
     clear aK
     refine aa.one (i:=7) (o:=⟨some 31,_,_,_,_,_⟩) (by kernel_rfl) rfl (fun K E=>?_)
     go_simp
     with_reducible refine (ah (bg a m gn O _ AL.out ML.out M0.out (SD.out.on (ae.below f)).nm ab.out) f).mono ?_
     rintro e dw ⟨rfl,aJ⟩
     go_wp2_with fail
     refine E.out _ _ (⟨(I.out.on (ae.below aJ)).cell.1,(J.out.on (ae.below aJ)).cell F a (by simp)⟩) ?_
     clear E K
     try simp only [ac]
     clear f
     have f:=aJ
     clear aJ
     refine aa.one (i:=10) (o:=⟨none,_,_,_,_,_⟩) (by kernel_rfl) rfl (fun K E=>?_)
     obtain ⟨z0,z1,Z,z3⟩:=f.cell z 0 (by simp)
     have V:=f.lt z 0 (by simp)
     have Y:=f.frozen z 0 (by simp)
     have aI:=f.set z 0 (M) [(D,0)] (by simp) R.out.1 (fun p G=>by simp only [List.mem_cons,List.not_mem_nil,or_false] at G; rcases G with rfl <;> first | exact ⟨by simp,(R.out.2 (D,0) (by simp))⟩)
     go_simp
     refine E.out _ _ (⟨(I.out.on (ae.below aI)).cell.1,(J.out.on (ae.below aI)).cell F a (by simp)⟩) ?_
     clear E K
     try simp only [ac]
     clear f z0 z1 Z z3 V Y
     change aa _ _ _ _ _ _ _ _ (fil dw z (M))
     generalize fil dw z (M)=ds at *
     have f:=aI
     clear aI
     refine aa.one (i:=11) (o:=⟨none,_,_,_,_,_⟩) (by kernel_rfl) rfl (fun K E=>?_)
     obtain ⟨z0,z1,Z,z3⟩:=f.cell D 0 (by simp)
     have V:=f.lt D 0 (by simp)
     have Y:=f.frozen D 0 (by simp)
     have aG:=f.set D 0 (O) [(z,M)] (by simp) U.out.1 (fun p G=>by simp only [List.mem_cons,List.not_mem_nil,or_false] at G; rcases G with rfl <;> first | exact ⟨by simp,(Ne.symm (R.out.2 (D,0) (by simp)))⟩)
     go_simp
     refine E.out _ _ (⟨(I.out.on (ae.below aG)).cell.1,(J.out.on (ae.below aG)).cell F a (by simp)⟩) ?_
     clear E K
     try simp only [ac]
     clear f z0 z1 Z z3 V Y
     change aa _ _ _ _ _ _ _ _ (fil ds D (O))
     generalize fil ds D (O)=gN at *
     have f:=aG
     clear aG
     refine aa.done (by kernel_rfl) ?_ _
     refine NoPanic.normal ?_
     go_wp2_with fail
     go_meet
     exact ⟨_,_,rfl,rfl,hid (f.perm (by simp)),hid ⟨R.out.1,U.out.1,(Ne.symm (R.out.2 (D,0) (by simp)))⟩⟩
   ·skip
    go_simp
    refine E.out _ _ (⟨(I.out.on (ae.below f.zero)).cell.1,(J.out.on (ae.below f.zero)).cell F a (by simp)⟩) ?_
    clear E K
    try simp only [ac]
    have R:=hid f.fresh
    have eQ:=f.zero
    clear f
    generalize dT.alloc (.cells #[.int .u64 0,.int .u64 0,.int .u64 0,.int .u64 0] 24)=gM at *
    generalize dT.heap.size=z at *
    have f:=eQ
    clear eQ
    refine aa.one (i:=2) (o:=⟨some 26,_,_,_,_,_⟩) (by kernel_rfl) rfl (fun K E=>?_)
    go_simp
    with_reducible refine (dh 1 1 f (by decide) (by decide)).mono ?_
    rintro e gL ⟨rfl,aB⟩
    go_wp2_with fail
    refine E.out _ _ (⟨(I.out.on (ae.below aB)).cell.1,(J.out.on (ae.below aB)).cell F a (by simp)⟩) ?_
    clear E K
    try simp only [ac]
    clear f
    have f:=aB
    clear aB
    refine aa.one (i:=3) (o:=⟨some 27,_,_,_,_,_⟩) (by kernel_rfl) rfl (fun K E=>?_)
    go_simp
    with_reducible refine (ah (bg 1 m gn M _ (by decide) ML.out M0.out (SD.out.on (ae.below f)).nm ad.out) f).mono ?_
    rintro e gA ⟨rfl,az⟩
    go_wp2_with fail
    refine E.out _ _ (⟨(I.out.on (ae.below az)).cell.1,(J.out.on (ae.below az)).cell F a (by simp)⟩) ?_
    clear E K
    try simp only [ac]
    clear f
    have f:=az
    clear az
    refine aa.one (i:=7) (o:=⟨some 31,_,_,_,_,_⟩) (by kernel_rfl) rfl (fun K E=>?_)
    go_simp
    with_reducible refine (ah (bg a m gn O _ AL.out ML.out M0.out (SD.out.on (ae.below f)).nm ab.out) f).mono ?_
    rintro e cW ⟨rfl,ax⟩
    go_wp2_with fail
    refine E.out _ _ (⟨(I.out.on (ae.below ax)).cell.1,(J.out.on (ae.below ax)).cell F a (by simp)⟩) ?_
    clear E K
    try simp only [ac]
    clear f
    have f:=ax
    clear ax
    refine aa.one (i:=10) (o:=⟨none,_,_,_,_,_⟩) (by kernel_rfl) rfl (fun K E=>?_)
    obtain ⟨z0,z1,Z,z3⟩:=f.cell z 0 (by simp)
    have V:=f.lt z 0 (by simp)
    have Y:=f.frozen z 0 (by simp)
    have an:=f.set z 0 (M) [(D,0)] (by simp) R.out.1 (fun p G=>by simp only [List.mem_cons,List.not_mem_nil,or_false] at G; rcases G with rfl <;> first | exact ⟨by simp,(R.out.2 (D,0) (by simp))⟩)
    go_simp
    refine E.out _ _ (⟨(I.out.on (ae.below an)).cell.1,(J.out.on (ae.below an)).cell F a (by simp)⟩) ?_
    clear E K
    try simp only [ac]
    clear f z0 z1 Z z3 V Y
    change aa _ _ _ _ _ _ _ _ (fil cW z (M))
    generalize fil cW z (M)=cV at *
    have f:=an
    clear an
    refine aa.one (i:=11) (o:=⟨none,_,_,_,_,_⟩) (by kernel_rfl) rfl (fun K E=>?_)
    obtain ⟨z0,z1,Z,z3⟩:=f.cell D 0 (by simp)
    have V:=f.lt D 0 (by simp)
    have Y:=f.frozen D 0 (by simp)
    have al:=f.set D 0 (O) [(z,M)] (by simp) U.out.1 (fun p G=>by simp only [List.mem_cons,List.not_mem_nil,or_false] at G; rcases G with rfl <;> first | exact ⟨by simp,(Ne.symm (R.out.2 (D,0) (by simp)))⟩)
    go_simp
    refine E.out _ _ (⟨(I.out.on (ae.below al)).cell.1,(J.out.on (ae.below al)).cell F a (by simp)⟩) ?_
    clear E K
    try simp only [ac]
    clear f z0 z1 Z z3 V Y
    change aa _ _ _ _ _ _ _ _ (fil cV D (O))
    generalize fil cV D (O)=gz at *
    have f:=al
    clear al
    refine aa.done (by kernel_rfl) ?_ _
    refine NoPanic.normal ?_
    go_wp2_with fail
    go_meet
    exact ⟨_,_,rfl,rfl,hid (f.perm (by simp)),hid ⟨R.out.1,U.out.1,(Ne.symm (R.out.2 (D,0) (by simp)))⟩⟩
 case rest =>
  obtain ⟨z,D,rfl,rfl,H2,DD⟩:=hcut
  go_wp2_with fail
  go_loopw [33] (fun s wr=>∃ i k p:Nat,i+k=c∧s=.int .i64 (i:Int)∧Hid (p=a ^ (n / 2 ^ k) * 2 ^ 256 % m)∧Hid (ae wv [(z,p),(D,O)] wr)) (fun s _=>c - (intOf s).toNat)
  case atStart=>exact ⟨0,c,M,by omega,rfl,hid (show M=a ^ (n / 2 ^ c) * 2 ^ 256 % m by rw [gJ.out,ad.out]),H2⟩
  case round =>
   obtain ⟨i,k,p,hk,rfl,P,H⟩:=hrel
   clear H2
   have PL:=hid (show p<m by rw [P.out]; exact Nat.mod_lt _ (by have:=M1.out; omega))
   by_cases h0:k=0
   ·subst h0
    have hP:¬ ((i:Int)<(c:Int)):=by omega
    have PE:=hid (show p=a ^ n * 2 ^ 256 % m by have:=P.out; rwa [Nat.pow_zero,Nat.div_one] at this)
    obtain ⟨k0,k1,k2⟩:=(I.out.on H.out.below).cell
    have kl:=(I.out.on H.out.below).lt
    obtain ⟨fR,fQ,fP,fO⟩:=H.out.cell (z) (p) (by simp)
    have db:=H.out.lt (z) (p) (by simp)
    have fN:=Nat.le_of_lt db
    go_wp2_with fail
    clear k0 k1 k2 kl
    clear fR fQ fP fO db fN
    refine (ah (leave_b (a ^ n) p m iv gi gn gs gb gl _ (Nat.lt_trans PL.out ML.out) ML.out (by have:=M1.out; omega) IV.out CI.out (SD.out.on (ae.below H.out)) PE.out) H.out).mono ?_
    rintro e w6 ⟨rfl,h⟩
    have H6:=hid h
    clear h H
    have HQ:=hid (J.out.on H6.out.below)
    obtain ⟨z0,z1,Z,z3⟩:=HQ.out.cell aA 0 (by simp)
    have V:=HQ.out.lt aA 0 (by simp)
    have Y:=HQ.out.frozen aA 0 (by simp)
    have HZ:=hid (HQ.out.set aA 0 (a ^ n % m) [] (by simp) (by rw [fo]; exact DZ.out) (by simp))
    go_wp2
    clear z0 z1 Z z3 V Y
    try rw [Exit.noGoto_ret]
    change bodyPost _ _ _ _ _ (fil w6 aA (a ^ n % m))
    generalize fil w6 aA (a ^ n % m)=wz at *
    obtain ⟨k0,k1,k2,k3⟩:=HZ.out.cell aA (a ^ n % m) (by simp)
    exact bodyPost_ret (v:=.tuple #[af (a ^ n % m),.int .i64 0]) (by simp [results,Tryz.results80,go_sem,k0,k1,k2,k3]) rfl ⟨rfl,HZ.out.1⟩
   ·obtain ⟨j,rfl⟩:∃ j,k=j+1:=⟨k - 1,by omega⟩
    clear h0
    have A1:IntKind.i64.wrap ((c:Int) - 1)=(c:Int) - 1:=IntWalk.i64_in _ (by omega)
    have A2:IntKind.i64.wrap ((c:Int) - 1 - (i:Int))=(j:Int):=by rw [IntWalk.i64_in _ (by omega)]; omega
    have hQ:(i:Int)<(c:Int):=by omega
    obtain ⟨t,et⟩:∃ x,a ^ (n / 2 ^ (j+1)) * a ^ (n / 2 ^ (j+1)) * 2 ^ 256 % m=x:=⟨_,rfl⟩
    have Et:=hid et
    clear et
    obtain ⟨u,eu⟩:∃ x,a ^ (n / 2 ^ (j+1)) * a ^ (n / 2 ^ (j+1)) * a * 2 ^ 256 % m=x:=⟨_,rfl⟩
    have Eu:=hid eu
    clear eu
    have TL:=hid (show t<m by rw [← Et.out]; exact Nat.mod_lt _ (by have:=M1.out; omega))
    have S0:=hid (show aV n j=0→t=a ^ (n / 2 ^ j) * 2 ^ 256 % m from fun hb=>by rw [← Et.out,pow_step0 a hb])
    have S1:=hid (show aV n j=1→u=a ^ (n / 2 ^ j) * 2 ^ 256 % m from fun hb=>by rw [← Eu.out,pow_step1 a hb])
    have JB:=hid (show (j:Int)≤9223372036854775807 by omega)
    go_upto_region 9 with fail
    go_cut [] (fun wx=>Hid (ae wv [(z,t),(D,O)] wx))
    case first =>
     obtain ⟨k0,k1,k2⟩:=(I.out.on H.out.below).cell
     have kl:=(I.out.on H.out.below).lt
     obtain ⟨fM,fL,fK,fJ⟩:=H.out.cell (z) (p) (by simp)
     have da:=H.out.lt (z) (p) (by simp)
     have fI:=Nat.le_of_lt da
     go_wp2_with fail
     clear k0 k1 k2 kl
     clear fM fL fK fJ da fI
     refine (ah (smul_b p p (a ^ (n / 2 ^ (j+1))) (a ^ (n / 2 ^ (j+1))) t m iv gi gn gs gb gl _ PL.out PL.out ML.out IV.out CI.out (SD.out.on (ae.below H.out)) P.out P.out Et.out) H.out).mono ?_
     rintro e w7 ⟨rfl,h⟩
     have H7:=hid h
     clear h H
     obtain ⟨gI,gH,gG,gF⟩:=H7.out.cell (z) (p) (by simp)
     have fH:=H7.out.lt (z) (p) (by simp)
     have gE:=Nat.le_of_lt fH
     have hN:=H7.out.frozen z p (by simp)
     have HZ:=hid (H7.out.set z p t [(D,O)] (by simp) DD.out.1 (fun q hq=>by simp only [List.mem_cons,List.not_mem_nil,or_false] at hq; subst hq; exact ⟨by simp,Ne.symm DD.out.2.2⟩))
     go_wp2_with fail
     go_meet
     exact HZ
    case rest =>
     have H4:Hid (ae wv [(z,t),(D,O)] wc):=hcut
     clear hcut H
     have HN:=hid (J.out.on H4.out.below)
     obtain ⟨n0,n1,n2,n3⟩:=HN.out.cell dr n (by simp)
     have nl:=HN.out.lt dr n (by simp)
     have hb:=bitAt_lt n j
     obtain ⟨b,eb⟩:∃ b,aV n j=b:=⟨_,rfl⟩
     have gC:Hid ((bi n (j:Int):Int)=(b:Int)):=hid (by unfold bi; rw [if_neg (by omega),Int.toNat_natCast,eb])
     rw [eb] at hb
     have EB:=hid eb
     clear eb
     go_wp2_with fail
     clear n0 n1 n2 n3 nl HN
     refine (bit_at n (j:Int) (b:Int) H4.out NL.out (by omega) JB.out gC.out).mono ?_
     rintro e w8 ⟨rfl,h⟩
     have H8:=hid h
     clear h H4
     by_cases gj:b=1
     ·subst gj
      obtain ⟨k0,k1,k2⟩:=(I.out.on H8.out.below).cell
      have kl:=(I.out.on H8.out.below).lt
      obtain ⟨fG,fF,fE,fD⟩:=H8.out.cell (z) (t) (by simp)
      have cZ:=H8.out.lt (z) (t) (by simp)
      have fC:=Nat.le_of_lt cZ
      obtain ⟨fw,fv,fu,ft⟩:=H8.out.cell (D) (O) (by simp)
      have cX:=H8.out.lt (D) (O) (by simp)
      have fs:=Nat.le_of_lt cX
      go_wp2_with fail
      clear k0 k1 k2 kl
      clear fG fF fE fD cZ fC fw fv fu ft cX fs
      refine (ah (smul_b t O (a ^ (n / 2 ^ (j+1)) * a ^ (n / 2 ^ (j+1))) a u m iv gi gn gs gb gl _ TL.out gK.out ML.out IV.out CI.out (SD.out.on (ae.below H8.out)) Et.out.symm ab.out.symm Eu.out) H8.out).mono ?_
      rintro e w9 ⟨rfl,h⟩
      have H9:=hid h
      clear h H8
      obtain ⟨fB,fA,fz,fy⟩:=H9.out.cell (z) (t) (by simp)
      have cY:=H9.out.lt (z) (t) (by simp)
      have fx:=Nat.le_of_lt cY
      have gr:=H9.out.frozen z t (by simp)
      have HZ:=hid (H9.out.set z t u [(D,O)] (by simp) DD.out.1 (fun q hq=>by simp only [List.mem_cons,List.not_mem_nil,or_false] at hq; subst hq; exact ⟨by simp,Ne.symm DD.out.2.2⟩))
      go_wp2_with fail
      clear fB fA fz fy cY fx gr
      go_roundw
      case measure=>simp [intOf]; omega
      case rel=>exact ⟨i+1,j,u,by omega,by simp,hid (S1.out EB.out),HZ⟩
     ·have gD:b=0:=by omega
      subst gD
      clear gj
      go_wp2_with fail
      go_roundw
      case measure=>simp [intOf]; omega
      case rel=>exact ⟨i+1,j,t,by omega,by simp,hid (S0.out EB.out),H8⟩
end
end Go.Proofs.YtmapkbdjnnionaaGreatDoor

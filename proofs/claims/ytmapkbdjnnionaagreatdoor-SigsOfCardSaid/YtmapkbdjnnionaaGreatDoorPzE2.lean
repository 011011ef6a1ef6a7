import Derived.Test.YtmapkbdjnnionaaGreatDoorPzE1
set_option maxRecDepth 100000
set_option maxHeartbeats 8000000
set_option linter.all false
namespace Go.Proofs.YtmapkbdjnnionaaGreatDoor
section
open Go.RowKit
theorem mexp_of (a n m:Nat) (w:World) (hn:n<2 ^ 256) (hm:m<2 ^ 256) (hv:1<m∧a<m) (hF:∀ (c:Nat),aq n=c→∀ (u u':World) (l:List (Nat×Nat)),ae u l u'→Calls Tryz.prog 100 #[af m,.int .i64 (c:Int)] u' fun e w2=>∃ g,e=.returned (pform g)∧ae u ((g,m) :: l) w2):Calls Tryz.prog 80 #[af a,af n,af m] w fun e w'=>e=.returned (.tuple #[af (a ^ n % m),.int .i64 0])∧Below w.heap.size w w':=by
 have AL:=hid (Nat.lt_trans hv.2 hm)
 have ML:=hid hm
 have M1:=hid hv.1
 have AM:=hid hv.2
 have NL:=hid hn
 have HV:Hid (decide (1<m∧a<m)=true):=hid (by simpa using hv)
 have dm:=cK n 256 hn
 have fn:=pow_first a n
 obtain ⟨c,ec⟩:∃ c,aq n=c:=⟨_,rfl⟩
 have hc:=hF c ec
 rw [ec] at dm fn
 have EC:=hid (show (aq n:Int)=(c:Int) by rw [ec])
 have CF:=hid hc
 have C2:=hid dm
 have gz:=hid fn
 clear hm hv hn ec hc fn hF
 have H0:=hid ((((((ae.refl w).new a).new n).new m).zero).perm (l':=[(w.heap.size+1+1+1,0),(w.heap.size+1+1,m),(w.heap.size+1,n),(w.heap.size,a)]) (by simp))
 have DZ:=hid (show w.heap.size≤w.heap.size+1+1+1 by omega)
 have DN:=hid (show ∀ p∈[(w.heap.size,a),(w.heap.size+1,n),(w.heap.size+1+1,m)],p.1≠w.heap.size+1+1+1 by simp; try omega)
 go_enter Tryz.func80,Tryz.ntmps80
 go_wp2_with fail
 have bI:((((w.alloc (.cells (ai a) 24)).alloc (.cells (ai n) 24)).alloc (.cells (ai m) 24)).alloc (.cells #[.int .u64 0,.int .u64 0,.int .u64 0,.int .u64 0] 24)).heap.size=w.heap.size+1+1+1+1:=by simp only [show ∀ (w:World) (o:Obj),(w.alloc o).heap.size=w.heap.size+1 from fun w o=>Array.size_push _]
 generalize (((w.alloc (.cells (ai a) 24)).alloc (.cells (ai n) 24)).alloc (.cells (ai m) 24)).alloc (.cells #[.int .u64 0,.int .u64 0,.int .u64 0,.int .u64 0] 24)=w0 at *
 generalize w.heap.size+1+1+1+1=fZ at *
 generalize w.heap.size+1+1+1=ax at *
 generalize w.heap.size+1+1=gc at *
 generalize w.heap.size+1=df at *
 generalize fm:w.heap.size=F at *
 have ge:Hid (Sl1 (w0.alloc (.cells #[.int .u64 (wd a 0:Int),.int .u64 (wd a 1:Int),.int .u64 (wd a 2:Int),.int .u64 (wd a 3:Int)] 24)) fZ a):=hid (by rw [← bI]; exact heap_alloc_new _ _)
 have gi:=hid (H0.out.alloc (.cells #[.int .u64 (wd a 0:Int),.int .u64 (wd a 1:Int),.int .u64 (wd a 2:Int),.int .u64 (wd a 3:Int)] 24))
 clear H0 bI
 generalize w0.alloc (.cells #[.int .u64 (wd a 0:Int),.int .u64 (wd a 1:Int),.int .u64 (wd a 2:Int),.int .u64 (wd a 3:Int)] 24)=gm at *
 refine (ah (gor1_b m a fZ true gm ge.out ML.out AL.out HV.out) gi.out).mono ?_
 rintro e w1 ⟨rfl,h⟩
 have H1:=hid h
 clear h gi
 obtain ⟨aU,aT,aS,aR⟩:=H1.out.cell (df) (n) (by simp)
 have ay:=H1.out.lt (df) (n) (by simp)
 have aQ:=Nat.le_of_lt ay
 go_wp2_with fail
 clear aU aT aS aR ay aQ
 refine (b8 n (c:Int) H1.out NL.out EC.out).mono ?_
 rintro e w2 ⟨rfl,h⟩
 have H2:=hid h
 clear h H1
 obtain ⟨bq,bp,bo,bn⟩:=H2.out.cell (gc) (m) (by simp)
 have aC:=H2.out.lt (gc) (m) (by simp)
 have bm:=Nat.le_of_lt aC
 go_wp2_with fail
 clear bq bp bo bn aC bm
 refine (CF.out _ _ _ H2.out).mono ?_
 rintro e wf ⟨gb,rfl,h⟩
 have HF:=hid h
 clear h H2 ge
 go_upto_region 5 with fail
 have I:=hid (R3.new wf 116 (.func (.func 127) #[] #[]) (.func (.func 127) #[] #[]) (.func (.func 65) #[] #[.pointer (some ⟨gb,0,none⟩)]))
 have J:=hid (HF.out.alloc (.cells #[.func (.func 127) #[] #[],.func (.func 127) #[] #[],.func (.func 65) #[] #[.pointer (some ⟨gb,0,none⟩)]] 116))
 clear HF
 generalize wf.alloc (.cells #[.func (.func 127) #[] #[],.func (.func 127) #[] #[],.func (.func 65) #[] #[.pointer (some ⟨gb,0,none⟩)]] 116)=wv at *
 generalize wf.heap.size=gf at *
 go_cut [10,11] (fun s10 s11 wx=>∃ z D:Nat,s10=.pointer (some ⟨z,0,none⟩)∧s11=.pointer (some ⟨D,0,none⟩)∧Hid (ae wv [(z,1),(D,a)] wx)∧Hid (wv.heap.size≤z∧wv.heap.size≤D∧z≠D))
 case first =>
  have f:=(ae.refl wv).drew
  refine wp_region_noPanic ?_
  refine aa.region (fun (L:Array Bool) (w':World)=>w'.cell? ⟨gf,0,none⟩=some (.func (.func 127) #[] #[])∧(w'.cell? ⟨F,0,none⟩=some (.int .u64 (wd (a) 0:Int))∧w'.cell? ⟨F,1,none⟩=some (.int .u64 (wd (a) 1:Int))∧w'.cell? ⟨F,2,none⟩=some (.int .u64 (wd (a) 2:Int))∧w'.cell? ⟨F,3,none⟩=some (.int .u64 (wd (a) 3:Int)))) (by kernel_rfl) ?_
  generalize wv.drew=wd at *
  refine aa.q 0 ⟨some 24,_,_,_,_,_⟩ ⟨(I.out.on (ae.below f)).cell.1,(J.out.on (ae.below f)).cell F a (by simp)⟩ ?_
  try simp only [ac]
  refine aa.tk (i:=1) (o:=⟨some 25,_,_,_,_,_⟩) (v:=?_) [] (y:=Or.inl ⟨by rfl,?_⟩) (s:=⟨(I.out.on (ae.below f)).cell.1,(J.out.on (ae.below f)).cell F a (by simp)⟩) (H:=?_)
  rotate_left
  ·intro w hY; obtain ⟨up,hL⟩:=hY; have hX:=hL.2.1; clear hL; (try dsimp only at hX); go_simp; try with_reducible rfl
  try simp only [ac]
  refine aa.q 4 ⟨some 28,_,_,_,_,_⟩ ⟨(I.out.on (ae.below f)).cell.1,(J.out.on (ae.below f)).cell F a (by simp)⟩ ?_
  try simp only [ac]
  refine aa.tk (i:=5) (o:=⟨some 29,_,_,_,_,_⟩) (v:=?_) [] (y:=Or.inl ⟨by rfl,?_⟩) (s:=⟨(I.out.on (ae.below f)).cell.1,(J.out.on (ae.below f)).cell F a (by simp)⟩) (H:=?_)
  rotate_left
  ·intro w hY; obtain ⟨up,hL⟩:=hY; have hX:=hL.2.1; clear hL; (try dsimp only at hX); go_simp; try with_reducible rfl
  try simp only [ac]
  refine aa.tk (i:=6) (o:=⟨some 30,_,_,_,_,_⟩) (v:=?_) [] (y:=Or.inl ⟨by rfl,?_⟩) (s:=⟨(I.out.on (ae.below f)).cell.1,(J.out.on (ae.below f)).cell F a (by simp)⟩) (H:=?_)
  rotate_left
  ·intro w hY; obtain ⟨up,hL⟩:=hY; have hX:=hL.2.2; clear hL; (try dsimp only at hX); go_simp; try with_reducible rfl
  try simp only [ac]
  refine aa.three (i:=2) (j:=8) (k:=9) (o:=⟨some 26,_,_,_,_,_⟩) (p:=⟨some 10,_,_,_,_,_⟩) (q:=⟨some 11,_,_,_,_,_⟩) (by kernel_rfl) rfl rfl rfl (fun K E=>?_) (fun K E=>?_) (fun K E=>?_)
  ·skip
   go_simp
   with_reducible refine (dh 1 1 f (by decide) (by decide)).mono ?_
   rintro e dc ⟨rfl,aE⟩
   go_wp2_with fail
   refine E.out _ _ (⟨(I.out.on (ae.below aE)).cell.1,(J.out.on (ae.below aE)).cell F a (by simp)⟩) ?_
   clear E K
   try simp only [ac]
   clear f
   have f:=aE
   clear aE
   refine aa.three (i:=3) (j:=8) (k:=9) (o:=⟨some 27,_,_,_,_,_⟩) (p:=⟨some 10,_,_,_,_,_⟩) (q:=⟨some 11,_,_,_,_,_⟩) (by kernel_rfl) rfl rfl rfl (fun K E=>?_) (fun K E=>?_) (fun K E=>?_)
   ·skip
    go_simp
    with_reducible refine (ah (aH 1 _) f).mono ?_
    rintro e db ⟨rfl,ao⟩
    go_wp2_with fail
    refine E.out _ _ (⟨(I.out.on (ae.below ao)).cell.1,(J.out.on (ae.below ao)).cell F a (by simp)⟩) ?_
    clear E K
    try simp only [ac]
    clear f
    have f:=ao
    clear ao
    refine aa.three (i:=7) (j:=8) (k:=9) (o:=⟨some 31,_,_,_,_,_⟩) (p:=⟨some 10,_,_,_,_,_⟩) (q:=⟨some 11,_,_,_,_,_⟩) (by kernel_rfl) rfl rfl rfl (fun K E=>?_) (fun K E=>?_) (fun K E=>?_)
    ·skip
     go_simp
     with_reducible refine (ah (aH a _) f).mono ?_
     rintro e da ⟨rfl,dN⟩
     go_wp2_with fail
     refine E.out _ _ (⟨(I.out.on (ae.below dN)).cell.1,(J.out.on (ae.below dN)).cell F a (by simp)⟩) ?_
     clear E K
     try simp only [ac]
     clear f
     have f:=dN
     clear dN
     refine aa.two (i:=8) (j:=9) (o:=⟨some 10,_,_,_,_,_⟩) (p:=⟨some 11,_,_,_,_,_⟩) (by kernel_rfl) rfl rfl (fun K E=>?_) (fun K E=>?_)
     ·skip
      go_simp
      refine E.out _ _ (⟨(I.out.on (ae.below f.zero)).cell.1,(J.out.on (ae.below f.zero)).cell F a (by simp)⟩) ?_
      clear E K
      try simp only [ac]
      have M:=hid f.fresh
      have fX:=f.zero
      clear f
      generalize da.alloc (.cells #[.int .u64 0,.int .u64 0,.int .u64 0,.int .u64 0] 24)=fT at *
      generalize da.heap.size=z at *
      have f:=fX
      clear fX
      refine aa.one (i:=9) (o:=⟨some 11,_,_,_,_,_⟩) (by kernel_rfl) rfl (fun K E=>?_)
      go_simp
      refine E.out _ _ (⟨(I.out.on (ae.below f.zero)).cell.1,(J.out.on (ae.below f.zero)).cell F a (by simp)⟩) ?_
      clear E K
      try simp only [ac]
      have O:=hid f.fresh
      have fW:=f.zero
      clear f
      generalize fT.alloc (.cells #[.int .u64 0,.int .u64 0,.int .u64 0,.int .u64 0] 24)=fS at *
      generalize fT.heap.size=D at *
      have f:=fW
      clear fW
      refine aa.one (i:=10) (o:=⟨none,_,_,_,_,_⟩) (by kernel_rfl) rfl (fun K E=>?_)
      obtain ⟨Z,Y,V,z3⟩:=f.cell z 0 (by simp)
      have R:=f.lt z 0 (by simp)
      have U:=f.frozen z 0 (by simp)
      have de:=f.set z 0 (1) [(D,0)] (by simp) M.out.1 (fun p G=>by simp only [List.mem_cons,List.not_mem_nil,or_false] at G; rcases G with rfl <;> first | exact ⟨by simp,(Ne.symm (O.out.2 (z,0) (by simp)))⟩)
      go_simp
      refine E.out _ _ (⟨(I.out.on (ae.below de)).cell.1,(J.out.on (ae.below de)).cell F a (by simp)⟩) ?_
      clear E K
      try simp only [ac]
      clear f Z Y V z3 R U
      change aa _ _ _ _ _ _ _ _ (fil fS z (1))
      generalize fil fS z (1)=fR at *
      have f:=de
      clear de
      refine aa.one (i:=11) (o:=⟨none,_,_,_,_,_⟩) (by kernel_rfl) rfl (fun K E=>?_)
      obtain ⟨Z,Y,V,z3⟩:=f.cell D 0 (by simp)
      have R:=f.lt D 0 (by simp)
      have U:=f.frozen D 0 (by simp)
      have dd:=f.set D 0 (a) [(z,1)] (by simp) O.out.1 (fun p G=>by simp only [List.mem_cons,List.not_mem_nil,or_false] at G; rcases G with rfl <;> first | exact ⟨by simp,(O.out.2 (z,0) (by simp))⟩)
      go_simp
      refine E.out _ _ (⟨(I.out.on (ae.below dd)).cell.1,(J.out.on (ae.below dd)).cell F a (by simp)⟩) ?_
      clear E K
      try simp only [ac]
      clear f Z Y V z3 R U
      change aa _ _ _ _ _ _ _ _ (fil fR D (a))
      generalize fil fR D (a)=hA at *
      have f:=dd
      clear dd
      refine aa.done (by kernel_rfl) ?_ _
      refine NoPanic.normal ?_
      go_wp2_with fail
      go_meet
      exact ⟨_,_,rfl,rfl,hid (f.perm (by simp)),hid ⟨M.out.1,O.out.1,(O.out.2 (z,0) (by simp))⟩⟩
     ·skip
      go_simp
      refine E.out _ _ (⟨(I.out.on (ae.below f.zero)).cell.1,(J.out.on (ae.below f.zero)).cell F a (by simp)⟩) ?_
      clear E K
      try simp only [ac]
      have O:=hid f.fresh
      have fV:=f.zero
      clear f
      generalize da.alloc (.cells #[.int .u64 0,.int .u64 0,.int .u64 0,.int .u64 0] 24)=fQ at *
      generalize da.heap.size=D at *
      have f:=fV
      clear fV
      refine aa.one (i:=8) (o:=⟨some 10,_,_,_,_,_⟩) (by kernel_rfl) rfl (fun K E=>?_)
      go_simp
      refine E.out _ _ (⟨(I.out.on (ae.below f.zero)).cell.1,(J.out.on (ae.below f.zero)).cell F a (by simp)⟩) ?_
      clear E K
      try simp only [ac]
      have M:=hid f.fresh
      have fU:=f.zero
      clear f
      generalize fQ.alloc (.cells #[.int .u64 0,.int .u64 0,.int .u64 0,.int .u64 0] 24)=fP at *
      generalize fQ.heap.size=z at *
      have f:=fU
      clear fU
      refine aa.one (i:=10) (o:=⟨none,_,_,_,_,_⟩) (by kernel_rfl) rfl (fun K E=>?_)
      obtain ⟨Z,Y,V,z3⟩:=f.cell z 0 (by simp)
      have R:=f.lt z 0 (by simp)
      have U:=f.frozen z 0 (by simp)
      have cS:=f.set z 0 (1) [(D,0)] (by simp) M.out.1 (fun p G=>by simp only [List.mem_cons,List.not_mem_nil,or_false] at G; rcases G with rfl <;> first | exact ⟨by simp,(M.out.2 (D,0) (by simp))⟩)
      go_simp
      refine E.out _ _ (⟨(I.out.on (ae.below cS)).cell.1,(J.out.on (ae.below cS)).cell F a (by simp)⟩) ?_
      clear E K
      try simp only [ac]
      clear f Z Y V z3 R U
      change aa _ _ _ _ _ _ _ _ (fil fP z (1))
      generalize fil fP z (1)=eN at *
      have f:=cS
      clear cS
      refine aa.one (i:=11) (o:=⟨none,_,_,_,_,_⟩) (by kernel_rfl) rfl (fun K E=>?_)
      obtain ⟨Z,Y,V,z3⟩:=f.cell D 0 (by simp)
      have R:=f.lt D 0 (by simp)
      have U:=f.frozen D 0 (by simp)
      have cR:=f.set D 0 (a) [(z,1)] (by simp) O.out.1 (fun p G=>by simp only [List.mem_cons,List.not_mem_nil,or_false] at G; rcases G with rfl <;> first | exact ⟨by simp,(Ne.symm (M.out.2 (D,0) (by simp)))⟩)
      go_simp
      refine E.out _ _ (⟨(I.out.on (ae.below cR)).cell.1,(J.out.on (ae.below cR)).cell F a (by simp)⟩) ?_
      clear E K
      try simp only [ac]
      clear f Z Y V z3 R U
      change aa _ _ _ _ _ _ _ _ (fil eN D (a))
      generalize fil eN D (a)=hy at *
      have f:=cR
      clear cR
      refine aa.done (by kernel_rfl) ?_ _
      refine NoPanic.normal ?_
      go_wp2_with fail
      go_meet
      exact ⟨_,_,rfl,rfl,hid (f.perm (by simp)),hid ⟨M.out.1,O.out.1,(Ne.symm (M.out.2 (D,0) (by simp)))⟩⟩
    ·skip
     go_simp
     refine E.out _ _ (⟨(I.out.on (ae.below f.zero)).cell.1,(J.out.on (ae.below f.zero)).cell F a (by simp)⟩) ?_
     clear E K
     try simp only [ac]
     have M:=hid f.fresh
     have fl:=f.zero
     clear f
     generalize db.alloc (.cells #[.int .u64 0,.int .u64 0,.int .u64 0,.int .u64 0] 24)=eM at *
     generalize db.heap.size=z at *
     have f:=fl
     clear fl
     refine aa.two (i:=7) (j:=9) (o:=⟨some 31,_,_,_,_,_⟩) (p:=⟨some 11,_,_,_,_,_⟩) (by kernel_rfl) rfl rfl (fun K E=>?_) (fun K E=>?_)
     ·skip
      go_simp
      with_reducible refine (ah (aH a _) f).mono ?_
      rintro e eL ⟨rfl,cQ⟩
      go_wp2_with fail
      refine E.out _ _ (⟨(I.out.on (ae.below cQ)).cell.1,(J.out.on (ae.below cQ)).cell F a (by simp)⟩) ?_
      clear E K
      try simp only [ac]
      clear f
      have f:=cQ
      clear cQ
      refine aa.one (i:=9) (o:=⟨some 11,_,_,_,_,_⟩) (by kernel_rfl) rfl (fun K E=>?_)
      go_simp
      refine E.out _ _ (⟨(I.out.on (ae.below f.zero)).cell.1,(J.out.on (ae.below f.zero)).cell F a (by simp)⟩) ?_
      clear E K
      try simp only [ac]
      have O:=hid f.fresh
      have fk:=f.zero
      clear f
      generalize eL.alloc (.cells #[.int .u64 0,.int .u64 0,.int .u64 0,.int .u64 0] 24)=eK at *
      generalize eL.heap.size=D at *
      have f:=fk
      clear fk
      refine aa.one (i:=10) (o:=⟨none,_,_,_,_,_⟩) (by kernel_rfl) rfl (fun K E=>?_)
      obtain ⟨Z,Y,V,z3⟩:=f.cell z 0 (by simp)
      have R:=f.lt z 0 (by simp)
      have U:=f.frozen z 0 (by simp)
      have cP:=f.set z 0 (1) [(D,0)] (by simp) M.out.1 (fun p G=>by simp only [List.mem_cons,List.not_mem_nil,or_false] at G; rcases G with rfl <;> first | exact ⟨by simp,(Ne.symm (O.out.2 (z,0) (by simp)))⟩)
      go_simp
      refine E.out _ _ (⟨(I.out.on (ae.below cP)).cell.1,(J.out.on (ae.below cP)).cell F a (by simp)⟩) ?_
      clear E K
      try simp only [ac]
      clear f Z Y V z3 R U
      change aa _ _ _ _ _ _ _ _ (fil eK z (1))
      generalize fil eK z (1)=eJ at *
      have f:=cP
      clear cP
      refine aa.one (i:=11) (o:=⟨none,_,_,_,_,_⟩) (by kernel_rfl) rfl (fun K E=>?_)
      obtain ⟨Z,Y,V,z3⟩:=f.cell D 0 (by simp)
      have R:=f.lt D 0 (by simp)
      have U:=f.frozen D 0 (by simp)
      have cO:=f.set D 0 (a) [(z,1)] (by simp) O.out.1 (fun p G=>by simp only [List.mem_cons,List.not_mem_nil,or_false] at G; rcases G with rfl <;> first | exact ⟨by simp,(O.out.2 (z,0) (by simp))⟩)
      go_simp
      refine E.out _ _ (⟨(I.out.on (ae.below cO)).cell.1,(J.out.on (ae.below cO)).cell F a (by simp)⟩) ?_
      clear E K
      try simp only [ac]
      clear f Z Y V z3 R U
      change aa _ _ _ _ _ _ _ _ (fil eJ D (a))
      generalize fil eJ D (a)=hx at *
      have f:=cO
      clear cO
      refine aa.done (by kernel_rfl) ?_ _
      refine NoPanic.normal ?_
      go_wp2_with fail
      go_meet
      exact ⟨_,_,rfl,rfl,hid (f.perm (by simp)),hid ⟨M.out.1,O.out.1,(O.out.2 (z,0) (by simp))⟩⟩
     ·skip
      go_simp
      refine E.out _ _ (⟨(I.out.on (ae.below f.zero)).cell.1,(J.out.on (ae.below f.zero)).cell F a (by simp)⟩) ?_
      clear E K
      try simp only [ac]
      have O:=hid f.fresh
      have fj:=f.zero
      clear f
      generalize eM.alloc (.cells #[.int .u64 0,.int .u64 0,.int .u64 0,.int .u64 0] 24)=hw at *
      generalize eM.heap.size=D at *
      have f:=fj
      clear fj
      refine aa.one (i:=7) (o:=⟨some 31,_,_,_,_,_⟩) (by kernel_rfl) rfl (fun K E=>?_)
      go_simp
      with_reducible refine (ah (aH a _) f).mono ?_
      rintro e eI ⟨rfl,cN⟩
      go_wp2_with fail
      refine E.out _ _ (⟨(I.out.on (ae.below cN)).cell.1,(J.out.on (ae.below cN)).cell F a (by simp)⟩) ?_
      clear E K
      try simp only [ac]
      clear f
      have f:=cN
      clear cN
      refine aa.one (i:=10) (o:=⟨none,_,_,_,_,_⟩) (by kernel_rfl) rfl (fun K E=>?_)
      obtain ⟨Z,Y,V,z3⟩:=f.cell z 0 (by simp)
      have R:=f.lt z 0 (by simp)
      have U:=f.frozen z 0 (by simp)
      have cI:=f.set z 0 (1) [(D,0)] (by simp) M.out.1 (fun p G=>by simp only [List.mem_cons,List.not_mem_nil,or_false] at G; rcases G with rfl <;> first | exact ⟨by simp,(Ne.symm (O.out.2 (z,0) (by simp)))⟩)
      go_simp
      refine E.out _ _ (⟨(I.out.on (ae.below cI)).cell.1,(J.out.on (ae.below cI)).cell F a (by simp)⟩) ?_
      clear E K
      try simp only [ac]
      clear f Z Y V z3 R U
      change aa _ _ _ _ _ _ _ _ (fil eI z (1))
      generalize fil eI z (1)=eH at *
      have f:=cI
      clear cI
      refine aa.one (i:=11) (o:=⟨none,_,_,_,_,_⟩) (by kernel_rfl) rfl (fun K E=>?_)
      obtain ⟨Z,Y,V,z3⟩:=f.cell D 0 (by simp)
      have R:=f.lt D 0 (by simp)
      have U:=f.frozen D 0 (by simp)
      have cH:=f.set D 0 (a) [(z,1)] (by simp) O.out.1 (fun p G=>by simp only [List.mem_cons,List.not_mem_nil,or_false] at G; rcases G with rfl <;> first | exact ⟨by simp,(O.out.2 (z,0) (by simp))⟩)
      go_simp
      refine E.out _ _ (⟨(I.out.on (ae.below cH)).cell.1,(J.out.on (ae.below cH)).cell F a (by simp)⟩) ?_
      clear E K
      try simp only [ac]
      clear f Z Y V z3 R U
      change aa _ _ _ _ _ _ _ _ (fil eH D (a))
      generalize fil eH D (a)=hu at *
      have f:=cH
      clear cH
      refine aa.done (by kernel_rfl) ?_ _
      refine NoPanic.normal ?_
      go_wp2_with fail
      go_meet
      exact ⟨_,_,rfl,rfl,hid (f.perm (by simp)),hid ⟨M.out.1,O.out.1,(O.out.2 (z,0) (by simp))⟩⟩
    ·skip
     go_simp
     refine E.out _ _ (⟨(I.out.on (ae.below f.zero)).cell.1,(J.out.on (ae.below f.zero)).cell F a (by simp)⟩) ?_
     clear E K
     try simp only [ac]
     have O:=hid f.fresh
     have fi:=f.zero
     clear f
     generalize db.alloc (.cells #[.int .u64 0,.int .u64 0,.int .u64 0,.int .u64 0] 24)=eG at *
     generalize db.heap.size=D at *
     have f:=fi
     clear fi
     refine aa.two (i:=7) (j:=8) (o:=⟨some 31,_,_,_,_,_⟩) (p:=⟨some 10,_,_,_,_,_⟩) (by kernel_rfl) rfl rfl (fun K E=>?_) (fun K E=>?_)
     ·skip
      go_simp
      with_reducible refine (ah (aH a _) f).mono ?_
      rintro e eF ⟨rfl,cE⟩
      go_wp2_with fail
      refine E.out _ _ (⟨(I.out.on (ae.below cE)).cell.1,(J.out.on (ae.below cE)).cell F a (by simp)⟩) ?_
      clear E K
      try simp only [ac]
      clear f
      have f:=cE
      clear cE
      refine aa.one (i:=8) (o:=⟨some 10,_,_,_,_,_⟩) (by kernel_rfl) rfl (fun K E=>?_)
      go_simp
      refine E.out _ _ (⟨(I.out.on (ae.below f.zero)).cell.1,(J.out.on (ae.below f.zero)).cell F a (by simp)⟩) ?_
      clear E K
      try simp only [ac]
      have M:=hid f.fresh
      have fh:=f.zero
      clear f
      generalize eF.alloc (.cells #[.int .u64 0,.int .u64 0,.int .u64 0,.int .u64 0] 24)=eE at *
      generalize eF.heap.size=z at *
      have f:=fh
      clear fh
      refine aa.one (i:=10) (o:=⟨none,_,_,_,_,_⟩) (by kernel_rfl) rfl (fun K E=>?_)
      obtain ⟨Z,Y,V,z3⟩:=f.cell z 0 (by simp)
      have R:=f.lt z 0 (by simp)
      have U:=f.frozen z 0 (by simp)
      have cB:=f.set z 0 (1) [(D,0)] (by simp) M.out.1 (fun p G=>by simp only [List.mem_cons,List.not_mem_nil,or_false] at G; rcases G with rfl <;> first | exact ⟨by simp,(M.out.2 (D,0) (by simp))⟩)
      go_simp
      refine E.out _ _ (⟨(I.out.on (ae.below cB)).cell.1,(J.out.on (ae.below cB)).cell F a (by simp)⟩) ?_
      clear E K
      try simp only [ac]
      clear f Z Y V z3 R U
      change aa _ _ _ _ _ _ _ _ (fil eE z (1))
      generalize fil eE z (1)=eD at *
      have f:=cB
      clear cB
      refine aa.one (i:=11) (o:=⟨none,_,_,_,_,_⟩) (by kernel_rfl) rfl (fun K E=>?_)
      obtain ⟨Z,Y,V,z3⟩:=f.cell D 0 (by simp)
      have R:=f.lt D 0 (by simp)
      have U:=f.frozen D 0 (by simp)
      have cA:=f.set D 0 (a) [(z,1)] (by simp) O.out.1 (fun p G=>by simp only [List.mem_cons,List.not_mem_nil,or_false] at G; rcases G with rfl <;> first | exact ⟨by simp,(Ne.symm (M.out.2 (D,0) (by simp)))⟩)
      go_simp
      refine E.out _ _ (⟨(I.out.on (ae.below cA)).cell.1,(J.out.on (ae.below cA)).cell F a (by simp)⟩) ?_
      clear E K
      try simp only [ac]
      clear f Z Y V z3 R U
      change aa _ _ _ _ _ _ _ _ (fil eD D (a))
      generalize fil eD D (a)=ht at *
      have f:=cA
      clear cA
      refine aa.done (by kernel_rfl) ?_ _
      refine NoPanic.normal ?_
      go_wp2_with fail
      go_meet
      exact ⟨_,_,rfl,rfl,hid (f.perm (by simp)),hid ⟨M.out.1,O.out.1,(Ne.symm (M.out.2 (D,0) (by simp)))⟩⟩
     ·skip
      go_simp
      refine E.out _ _ (⟨(I.out.on (ae.below f.zero)).cell.1,(J.out.on (ae.below f.zero)).cell F a (by simp)⟩) ?_
      clear E K
      try simp only [ac]
      have M:=hid f.fresh
      have fg:=f.zero
      clear f
      generalize eG.alloc (.cells #[.int .u64 0,.int .u64 0,.int .u64 0,.int .u64 0] 24)=hr at *
      generalize eG.heap.size=z at *
      have f:=fg
      clear fg
      refine aa.one (i:=7) (o:=⟨some 31,_,_,_,_,_⟩) (by kernel_rfl) rfl (fun K E=>?_)
      go_simp
      with_reducible refine (ah (aH a _) f).mono ?_
      rintro e eC ⟨rfl,cz⟩
      go_wp2_with fail
      refine E.out _ _ (⟨(I.out.on (ae.below cz)).cell.1,(J.out.on (ae.below cz)).cell F a (by simp)⟩) ?_
      clear E K
      try simp only [ac]
      clear f
      have f:=cz
      clear cz
      refine aa.one (i:=10) (o:=⟨none,_,_,_,_,_⟩) (by kernel_rfl) rfl (fun K E=>?_)
      obtain ⟨Z,Y,V,z3⟩:=f.cell z 0 (by simp)
      have R:=f.lt z 0 (by simp)
      have U:=f.frozen z 0 (by simp)
      have cy:=f.set z 0 (1) [(D,0)] (by simp) M.out.1 (fun p G=>by simp only [List.mem_cons,List.not_mem_nil,or_false] at G; rcases G with rfl <;> first | exact ⟨by simp,(M.out.2 (D,0) (by simp))⟩)
      go_simp
      refine E.out _ _ (⟨(I.out.on (ae.below cy)).cell.1,(J.out.on (ae.below cy)).cell F a (by simp)⟩) ?_
      clear E K
      try simp only [ac]
      clear f Z Y V z3 R U
      change aa _ _ _ _ _ _ _ _ (fil eC z (1))
      generalize fil eC z (1)=eB at *
      have f:=cy
      clear cy
      refine aa.one (i:=11) (o:=⟨none,_,_,_,_,_⟩) (by kernel_rfl) rfl (fun K E=>?_)
      obtain ⟨Z,Y,V,z3⟩:=f.cell D 0 (by simp)
      have R:=f.lt D 0 (by simp)
      have U:=f.frozen D 0 (by simp)
      have cx:=f.set D 0 (a) [(z,1)] (by simp) O.out.1 (fun p G=>by simp only [List.mem_cons,List.not_mem_nil,or_false] at G; rcases G with rfl <;> first | exact ⟨by simp,(Ne.symm (M.out.2 (D,0) (by simp)))⟩)
      go_simp
      refine E.out _ _ (⟨(I.out.on (ae.below cx)).cell.1,(J.out.on (ae.below cx)).cell F a (by simp)⟩) ?_
      clear E K
      try simp only [ac]
      clear f Z Y V z3 R U
      change aa _ _ _ _ _ _ _ _ (fil eB D (a))
      generalize fil eB D (a)=ho at *
      have f:=cx
      clear cx
      refine aa.done (by kernel_rfl) ?_ _
      refine NoPanic.normal ?_
      go_wp2_with fail
      go_meet
      exact ⟨_,_,rfl,rfl,hid (f.perm (by simp)),hid ⟨M.out.1,O.out.1,(Ne.symm (M.out.2 (D,0) (by simp)))⟩⟩
   ·skip
    go_simp
    refine E.out _ _ (⟨(I.out.on (ae.below f.zero)).cell.1,(J.out.on (ae.below f.zero)).cell F a (by simp)⟩) ?_
    clear E K
    try simp only [ac]
    have M:=hid f.fresh
    have ff:=f.zero
    clear f
    generalize dc.alloc (.cells #[.int .u64 0,.int .u64 0,.int .u64 0,.int .u64 0] 24)=eA at *
    generalize dc.heap.size=z at *
    have f:=ff
    clear ff
    refine aa.two (i:=3) (j:=9) (o:=⟨some 27,_,_,_,_,_⟩) (p:=⟨some 11,_,_,_,_,_⟩) (by kernel_rfl) rfl rfl (fun K E=>?_) (fun K E=>?_)
    ·skip
     go_simp
     with_reducible refine (ah (aH 1 _) f).mono ?_
     rintro e ez ⟨rfl,cw⟩
     go_wp2_with fail
     refine E.out _ _ (⟨(I.out.on (ae.below cw)).cell.1,(J.out.on (ae.below cw)).cell F a (by simp)⟩) ?_
     clear E K
     try simp only [ac]
     clear f
     have f:=cw
     clear cw
     refine aa.two (i:=7) (j:=9) (o:=⟨some 31,_,_,_,_,_⟩) (p:=⟨some 11,_,_,_,_,_⟩) (by kernel_rfl) rfl rfl (fun K E=>?_) (fun K E=>?_)
     ·skip
      go_simp
      with_reducible refine (ah (aH a _) f).mono ?_
      rintro e ey ⟨rfl,cv⟩
      go_wp2_with fail
      refine E.out _ _ (⟨(I.out.on (ae.below cv)).cell.1,(J.out.on (ae.below cv)).cell F a (by simp)⟩) ?_
      clear E K
      try simp only [ac]
      clear f
      have f:=cv
      clear cv
      refine aa.one (i:=9) (o:=⟨some 11,_,_,_,_,_⟩) (by kernel_rfl) rfl (fun K E=>?_)
      go_simp
      refine E.out _ _ (⟨(I.out.on (ae.below f.zero)).cell.1,(J.out.on (ae.below f.zero)).cell F a (by simp)⟩) ?_
      clear E K
      try simp only [ac]
      have O:=hid f.fresh
      have fe:=f.zero
      clear f
      generalize ey.alloc (.cells #[.int .u64 0,.int .u64 0,.int .u64 0,.int .u64 0] 24)=ex at *
      generalize ey.heap.size=D at *
      have f:=fe
      clear fe
      refine aa.one (i:=10) (o:=⟨none,_,_,_,_,_⟩) (by kernel_rfl) rfl (fun K E=>?_)
      obtain ⟨Z,Y,V,z3⟩:=f.cell z 0 (by simp)
      have R:=f.lt z 0 (by simp)
      have U:=f.frozen z 0 (by simp)
      have cu:=f.set z 0 (1) [(D,0)] (by simp) M.out.1 (fun p G=>by simp only [List.mem_cons,List.not_mem_nil,or_false] at G; rcases G with rfl <;> first | exact ⟨by simp,(Ne.symm (O.out.2 (z,0) (by simp)))⟩)
      go_simp
      refine E.out _ _ (⟨(I.out.on (ae.below cu)).cell.1,(J.out.on (ae.below cu)).cell F a (by simp)⟩) ?_
      clear E K
      try simp only [ac]
      clear f Z Y V z3 R U
      change aa _ _ _ _ _ _ _ _ (fil ex z (1))
      generalize fil ex z (1)=ew at *
      have f:=cu
      clear cu
      refine aa.one (i:=11) (o:=⟨none,_,_,_,_,_⟩) (by kernel_rfl) rfl (fun K E=>?_)
      obtain ⟨Z,Y,V,z3⟩:=f.cell D 0 (by simp)
      have R:=f.lt D 0 (by simp)
      have U:=f.frozen D 0 (by simp)
      have ct:=f.set D 0 (a) [(z,1)] (by simp) O.out.1 (fun p G=>by simp only [List.mem_cons,List.not_mem_nil,or_false] at G; rcases G with rfl <;> first | exact ⟨by simp,(O.out.2 (z,0) (by simp))⟩)
      go_simp
      refine E.out _ _ (⟨(I.out.on (ae.below ct)).cell.1,(J.out.on (ae.below ct)).cell F a (by simp)⟩) ?_
      clear E K
      try simp only [ac]
      clear f Z Y V z3 R U
      change aa _ _ _ _ _ _ _ _ (fil ew D (a))
      generalize fil ew D (a)=hl at *
      have f:=ct
      clear ct
      refine aa.done (by kernel_rfl) ?_ _
      refine NoPanic.normal ?_
      go_wp2_with fail
      go_meet
      exact ⟨_,_,rfl,rfl,hid (f.perm (by simp)),hid ⟨M.out.1,O.out.1,(O.out.2 (z,0) (by simp))⟩⟩
     ·skip
      go_simp
      refine E.out _ _ (⟨(I.out.on (ae.below f.zero)).cell.1,(J.out.on (ae.below f.zero)).cell F a (by simp)⟩) ?_
      clear E K
      try simp only [ac]
      have O:=hid f.fresh
      have fd:=f.zero
      clear f
      generalize ez.alloc (.cells #[.int .u64 0,.int .u64 0,.int .u64 0,.int .u64 0] 24)=hj at *
      generalize ez.heap.size=D at *
      have f:=fd
      clear fd
      refine aa.one (i:=7) (o:=⟨some 31,_,_,_,_,_⟩) (by kernel_rfl) rfl (fun K E=>?_)
      go_simp
      with_reducible refine (ah (aH a _) f).mono ?_
      rintro e ev ⟨rfl,cs⟩
      go_wp2_with fail
      refine E.out _ _ (⟨(I.out.on (ae.below cs)).cell.1,(J.out.on (ae.below cs)).cell F a (by simp)⟩) ?_
      clear E K
      try simp only [ac]
      clear f
      have f:=cs
      clear cs
      refine aa.one (i:=10) (o:=⟨none,_,_,_,_,_⟩) (by kernel_rfl) rfl (fun K E=>?_)
      obtain ⟨Z,Y,V,z3⟩:=f.cell z 0 (by simp)
      have R:=f.lt z 0 (by simp)
      have U:=f.frozen z 0 (by simp)
      have cq:=f.set z 0 (1) [(D,0)] (by simp) M.out.1 (fun p G=>by simp only [List.mem_cons,List.not_mem_nil,or_false] at G; rcases G with rfl <;> first | exact ⟨by simp,(Ne.symm (O.out.2 (z,0) (by simp)))⟩)
      go_simp
      refine E.out _ _ (⟨(I.out.on (ae.below cq)).cell.1,(J.out.on (ae.below cq)).cell F a (by simp)⟩) ?_
      clear E K
      try simp only [ac]
      clear f Z Y V z3 R U
      change aa _ _ _ _ _ _ _ _ (fil ev z (1))
      generalize fil ev z (1)=es at *
      have f:=cq
      clear cq
      refine aa.one (i:=11) (o:=⟨none,_,_,_,_,_⟩) (by kernel_rfl) rfl (fun K E=>?_)
      obtain ⟨Z,Y,V,z3⟩:=f.cell D 0 (by simp)
      have R:=f.lt D 0 (by simp)
      have U:=f.frozen D 0 (by simp)
      have cp:=f.set D 0 (a) [(z,1)] (by simp) O.out.1 (fun p G=>by simp only [List.mem_cons,List.not_mem_nil,or_false] at G; rcases G with rfl <;> first | exact ⟨by simp,(O.out.2 (z,0) (by simp))⟩)
      go_simp
      refine E.out _ _ (⟨(I.out.on (ae.below cp)).cell.1,(J.out.on (ae.below cp)).cell F a (by simp)⟩) ?_
      clear E K
      try simp only [ac]
      clear f Z Y V z3 R U
      change aa _ _ _ _ _ _ _ _ (fil es D (a))
      generalize fil es D (a)=hg at *
      have f:=cp
      clear cp
      refine aa.done (by kernel_rfl) ?_ _
      refine NoPanic.normal ?_
      go_wp2_with fail
      go_meet
      exact ⟨_,_,rfl,rfl,hid (f.perm (by simp)),hid ⟨M.out.1,O.out.1,(O.out.2 (z,0) (by simp))⟩⟩
    ·skip
     go_simp
     refine E.out _ _ (⟨(I.out.on (ae.below f.zero)).cell.1,(J.out.on (ae.below f.zero)).cell F a (by simp)⟩) ?_
     clear E K
     try simp only [ac]
     have O:=hid f.fresh
     have fc:=f.zero
     clear f
     generalize eA.alloc (.cells #[.int .u64 0,.int .u64 0,.int .u64 0,.int .u64 0] 24)=he at *
     generalize eA.heap.size=D at *
     have f:=fc
     clear fc
     refine aa.one (i:=3) (o:=⟨some 27,_,_,_,_,_⟩) (by kernel_rfl) rfl (fun K E=>?_)
     go_simp
     with_reducible refine (ah (aH 1 _) f).mono ?_
     rintro e ha ⟨rfl,co⟩
     go_wp2_with fail
     refine E.out _ _ (⟨(I.out.on (ae.below co)).cell.1,(J.out.on (ae.below co)).cell F a (by simp)⟩) ?_
     clear E K
     try simp only [ac]
     clear f
     have f:=co
     clear co
     refine aa.one (i:=7) (o:=⟨some 31,_,_,_,_,_⟩) (by kernel_rfl) rfl (fun K E=>?_)
     go_simp
     with_reducible refine (ah (aH a _) f).mono ?_
     rintro e er ⟨rfl,cn⟩
     go_wp2_with fail
     refine E.out _ _ (⟨(I.out.on (ae.below cn)).cell.1,(J.out.on (ae.below cn)).cell F a (by simp)⟩) ?_
     clear E K
     try simp only [ac]
     clear f
     have f:=cn
     clear cn
     refine aa.one (i:=10) (o:=⟨none,_,_,_,_,_⟩) (by kernel_rfl) rfl (fun K E=>?_)
     obtain ⟨Z,Y,V,z3⟩:=f.cell z 0 (by simp)
     have R:=f.lt z 0 (by simp)
     have U:=f.frozen z 0 (by simp)
     have cm:=f.set z 0 (1) [(D,0)] (by simp) M.out.1 (fun p G=>by simp only [List.mem_cons,List.not_mem_nil,or_false] at G; rcases G with rfl <;> first | exact ⟨by simp,(Ne.symm (O.out.2 (z,0) (by simp)))⟩)
     go_simp
     refine E.out _ _ (⟨(I.out.on (ae.below cm)).cell.1,(J.out.on (ae.below cm)).cell F a (by simp)⟩) ?_
     clear E K
     try simp only [ac]
     clear f Z Y V z3 R U
     change aa _ _ _ _ _ _ _ _ (fil er z (1))
     generalize fil er z (1)=ep at *
     have f:=cm
     clear cm
     refine aa.one (i:=11) (o:=⟨none,_,_,_,_,_⟩) (by kernel_rfl) rfl (fun K E=>?_)
     obtain ⟨Z,Y,V,z3⟩:=f.cell D 0 (by simp)
     have R:=f.lt D 0 (by simp)
     have U:=f.frozen D 0 (by simp)
     have cl:=f.set D 0 (a) [(z,1)] (by simp) O.out.1 (fun p G=>by simp only [List.mem_cons,List.not_mem_nil,or_false] at G; rcases G with rfl <;> first | exact ⟨by simp,(O.out.2 (z,0) (by simp))⟩)
     go_simp
     refine E.out _ _ (⟨(I.out.on (ae.below cl)).cell.1,(J.out.on (ae.below cl)).cell F a (by simp)⟩) ?_
     clear E K
     try simp only [ac]
     clear f Z Y V z3 R U
     change aa _ _ _ _ _ _ _ _ (fil ep D (a))
     generalize fil ep D (a)=gZ at *
     have f:=cl
     clear cl
     refine aa.done (by kernel_rfl) ?_ _
     refine NoPanic.normal ?_
     go_wp2_with fail
     go_meet
     exact ⟨_,_,rfl,rfl,hid (f.perm (by simp)),hid ⟨M.out.1,O.out.1,(O.out.2 (z,0) (by simp))⟩⟩
   ·skip
    go_simp
    refine E.out _ _ (⟨(I.out.on (ae.below f.zero)).cell.1,(J.out.on (ae.below f.zero)).cell F a (by simp)⟩) ?_
    clear E K
    try simp only [ac]
    have O:=hid f.fresh
    have fb:=f.zero
    clear f
    generalize dc.alloc (.cells #[.int .u64 0,.int .u64 0,.int .u64 0,.int .u64 0] 24)=eo at *
    generalize dc.heap.size=D at *
    have f:=fb
    clear fb
    refine aa.two (i:=3) (j:=8) (o:=⟨some 27,_,_,_,_,_⟩) (p:=⟨some 10,_,_,_,_,_⟩) (by kernel_rfl) rfl rfl (fun K E=>?_) (fun K E=>?_)
    ·skip
     go_simp
     with_reducible refine (ah (aH 1 _) f).mono ?_
     rintro e en ⟨rfl,ck⟩
     go_wp2_with fail
     refine E.out _ _ (⟨(I.out.on (ae.below ck)).cell.1,(J.out.on (ae.below ck)).cell F a (by simp)⟩) ?_
     clear E K
     try simp only [ac]
     clear f
     have f:=ck
     clear ck
     refine aa.two (i:=7) (j:=8) (o:=⟨some 31,_,_,_,_,_⟩) (p:=⟨some 10,_,_,_,_,_⟩) (by kernel_rfl) rfl rfl (fun K E=>?_) (fun K E=>?_)
     ·skip
      go_simp
      with_reducible refine (ah (aH a _) f).mono ?_
      rintro e em ⟨rfl,cj⟩
      go_wp2_with fail
      refine E.out _ _ (⟨(I.out.on (ae.below cj)).cell.1,(J.out.on (ae.below cj)).cell F a (by simp)⟩) ?_
      clear E K
      try simp only [ac]
      clear f
      have f:=cj
      clear cj
      refine aa.one (i:=8) (o:=⟨some 10,_,_,_,_,_⟩) (by kernel_rfl) rfl (fun K E=>?_)
      go_simp
      refine E.out _ _ (⟨(I.out.on (ae.below f.zero)).cell.1,(J.out.on (ae.below f.zero)).cell F a (by simp)⟩) ?_
      clear E K
      try simp only [ac]
      have M:=hid f.fresh
      have fa:=f.zero
      clear f
      generalize em.alloc (.cells #[.int .u64 0,.int .u64 0,.int .u64 0,.int .u64 0] 24)=el at *
      generalize em.heap.size=z at *
      have f:=fa
      clear fa
      refine aa.one (i:=10) (o:=⟨none,_,_,_,_,_⟩) (by kernel_rfl) rfl (fun K E=>?_)
      obtain ⟨Z,Y,V,z3⟩:=f.cell z 0 (by simp)
      have R:=f.lt z 0 (by simp)
      have U:=f.frozen z 0 (by simp)
      have cf:=f.set z 0 (1) [(D,0)] (by simp) M.out.1 (fun p G=>by simp only [List.mem_cons,List.not_mem_nil,or_false] at G; rcases G with rfl <;> first | exact ⟨by simp,(M.out.2 (D,0) (by simp))⟩)
      go_simp
      refine E.out _ _ (⟨(I.out.on (ae.below cf)).cell.1,(J.out.on (ae.below cf)).cell F a (by simp)⟩) ?_
      clear E K
      try simp only [ac]
      clear f Z Y V z3 R U
      change aa _ _ _ _ _ _ _ _ (fil el z (1))
      generalize fil el z (1)=ek at *
      have f:=cf
      clear cf
      refine aa.one (i:=11) (o:=⟨none,_,_,_,_,_⟩) (by kernel_rfl) rfl (fun K E=>?_)
      obtain ⟨Z,Y,V,z3⟩:=f.cell D 0 (by simp)
      have R:=f.lt D 0 (by simp)
      have U:=f.frozen D 0 (by simp)
      have cd:=f.set D 0 (a) [(z,1)] (by simp) O.out.1 (fun p G=>by simp only [List.mem_cons,List.not_mem_nil,or_false] at G; rcases G with rfl <;> first | exact ⟨by simp,(Ne.symm (M.out.2 (D,0) (by simp)))⟩)
      go_simp
      refine E.out _ _ (⟨(I.out.on (ae.below cd)).cell.1,(J.out.on (ae.below cd)).cell F a (by simp)⟩) ?_
      clear E K
      try simp only [ac]
      clear f Z Y V z3 R U
      change aa _ _ _ _ _ _ _ _ (fil ek D (a))
      generalize fil ek D (a)=gY at *
      have f:=cd
      clear cd
      refine aa.done (by kernel_rfl) ?_ _
      refine NoPanic.normal ?_
      go_wp2_with fail
      go_meet
      exact ⟨_,_,rfl,rfl,hid (f.perm (by simp)),hid ⟨M.out.1,O.out.1,(Ne.symm (M.out.2 (D,0) (by simp)))⟩⟩
     ·skip
      go_simp
      refine E.out _ _ (⟨(I.out.on (ae.below f.zero)).cell.1,(J.out.on (ae.below f.zero)).cell F a (by simp)⟩) ?_
      clear E K
      try simp only [ac]
      have M:=hid f.fresh
      have eZ:=f.zero
      clear f
      generalize en.alloc (.cells #[.int .u64 0,.int .u64 0,.int .u64 0,.int .u64 0] 24)=gX at *
      generalize en.heap.size=z at *
      have f:=eZ
      clear eZ
      refine aa.one (i:=7) (o:=⟨some 31,_,_,_,_,_⟩) (by kernel_rfl) rfl (fun K E=>?_)
      go_simp
      with_reducible refine (ah (aH a _) f).mono ?_
      rintro e ej ⟨rfl,cc⟩
      go_wp2_with fail
      refine E.out _ _ (⟨(I.out.on (ae.below cc)).cell.1,(J.out.on (ae.below cc)).cell F a (by simp)⟩) ?_
      clear E K
      try simp only [ac]
      clear f
      have f:=cc
      clear cc
      refine aa.one (i:=10) (o:=⟨none,_,_,_,_,_⟩) (by kernel_rfl) rfl (fun K E=>?_)
      obtain ⟨Z,Y,V,z3⟩:=f.cell z 0 (by simp)
      have R:=f.lt z 0 (by simp)
      have U:=f.frozen z 0 (by simp)
      have cb:=f.set z 0 (1) [(D,0)] (by simp) M.out.1 (fun p G=>by simp only [List.mem_cons,List.not_mem_nil,or_false] at G; rcases G with rfl <;> first | exact ⟨by simp,(M.out.2 (D,0) (by simp))⟩)
      go_simp
      refine E.out _ _ (⟨(I.out.on (ae.below cb)).cell.1,(J.out.on (ae.below cb)).cell F a (by simp)⟩) ?_
      clear E K
      try simp only [ac]
      clear f Z Y V z3 R U
      change aa _ _ _ _ _ _ _ _ (fil ej z (1))
      generalize fil ej z (1)=ei at *
      have f:=cb
      clear cb
      refine aa.one (i:=11) (o:=⟨none,_,_,_,_,_⟩) (by kernel_rfl) rfl (fun K E=>?_)
      obtain ⟨Z,Y,V,z3⟩:=f.cell D 0 (by simp)
      have R:=f.lt D 0 (by simp)
      have U:=f.frozen D 0 (by simp)
      have ca:=f.set D 0 (a) [(z,1)] (by simp) O.out.1 (fun p G=>by simp only [List.mem_cons,List.not_mem_nil,or_false] at G; rcases G with rfl <;> first | exact ⟨by simp,(Ne.symm (M.out.2 (D,0) (by simp)))⟩)
      go_simp
      refine E.out _ _ (⟨(I.out.on (ae.below ca)).cell.1,(J.out.on (ae.below ca)).cell F a (by simp)⟩) ?_
      clear E K
      try simp only [ac]
      clear f Z Y V z3 R U
      change aa _ _ _ _ _ _ _ _ (fil ei D (a))
      generalize fil ei D (a)=gW at *
      have f:=ca
      clear ca
      refine aa.done (by kernel_rfl) ?_ _
      refine NoPanic.normal ?_
      go_wp2_with fail
      go_meet
      exact ⟨_,_,rfl,rfl,hid (f.perm (by simp)),hid ⟨M.out.1,O.out.1,(Ne.symm (M.out.2 (D,0) (by simp)))⟩⟩
    ·skip
     go_simp
     refine E.out _ _ (⟨(I.out.on (ae.below f.zero)).cell.1,(J.out.on (ae.below f.zero)).cell F a (by simp)⟩) ?_
     clear E K
     try simp only [ac]
     have M:=hid f.fresh
     have eY:=f.zero
     clear f
     generalize eo.alloc (.cells #[.int .u64 0,.int .u64 0,.int .u64 0,.int .u64 0] 24)=gV at *
     generalize eo.heap.size=z at *
     have f:=eY
     clear eY
     refine aa.one (i:=3) (o:=⟨some 27,_,_,_,_,_⟩) (by kernel_rfl) rfl (fun K E=>?_)
     go_simp
     with_reducible refine (ah (aH 1 _) f).mono ?_
     rintro e gU ⟨rfl,bZ⟩
     go_wp2_with fail
     refine E.out _ _ (⟨(I.out.on (ae.below bZ)).cell.1,(J.out.on (ae.below bZ)).cell F a (by simp)⟩) ?_
     clear E K
     try simp only [ac]
     clear f
     have f:=bZ
     clear bZ
     refine aa.one (i:=7) (o:=⟨some 31,_,_,_,_,_⟩) (by kernel_rfl) rfl (fun K E=>?_)
     go_simp
     with_reducible refine (ah (aH a _) f).mono ?_
     rintro e eh ⟨rfl,bY⟩
     go_wp2_with fail
     refine E.out _ _ (⟨(I.out.on (ae.below bY)).cell.1,(J.out.on (ae.below bY)).cell F a (by simp)⟩) ?_
     clear E K
     try simp only [ac]
     clear f
     have f:=bY
     clear bY
     refine aa.one (i:=10) (o:=⟨none,_,_,_,_,_⟩) (by kernel_rfl) rfl (fun K E=>?_)
     obtain ⟨Z,Y,V,z3⟩:=f.cell z 0 (by simp)
     have R:=f.lt z 0 (by simp)
     have U:=f.frozen z 0 (by simp)
     have bX:=f.set z 0 (1) [(D,0)] (by simp) M.out.1 (fun p G=>by simp only [List.mem_cons,List.not_mem_nil,or_false] at G; rcases G with rfl <;> first | exact ⟨by simp,(M.out.2 (D,0) (by simp))⟩)
     go_simp
     refine E.out _ _ (⟨(I.out.on (ae.below bX)).cell.1,(J.out.on (ae.below bX)).cell F a (by simp)⟩) ?_
     clear E K
     try simp only [ac]
     clear f Z Y V z3 R U
     change aa _ _ _ _ _ _ _ _ (fil eh z (1))
     generalize fil eh z (1)=eg at *
     have f:=bX
     clear bX
     refine aa.one (i:=11) (o:=⟨none,_,_,_,_,_⟩) (by kernel_rfl) rfl (fun K E=>?_)
     obtain ⟨Z,Y,V,z3⟩:=f.cell D 0 (by simp)
     have R:=f.lt D 0 (by simp)
     have U:=f.frozen D 0 (by simp)
     have bW:=f.set D 0 (a) [(z,1)] (by simp) O.out.1 (fun p G=>by simp only [List.mem_cons,List.not_mem_nil,or_false] at G; rcases G with rfl <;> first | exact ⟨by simp,(Ne.symm (M.out.2 (D,0) (by simp)))⟩)
     go_simp
     refine E.out _ _ (⟨(I.out.on (ae.below bW)).cell.1,(J.out.on (ae.below bW)).cell F a (by simp)⟩) ?_
     clear E K
     try simp only [ac]
     clear f Z Y V z3 R U
     change aa _ _ _ _ _ _ _ _ (fil eg D (a))
     generalize fil eg D (a)=gS at *
     have f:=bW
     clear bW
     refine aa.done (by kernel_rfl) ?_ _
     refine NoPanic.normal ?_
     go_wp2_with fail
     go_meet
     exact ⟨_,_,rfl,rfl,hid (f.perm (by simp)),hid ⟨M.out.1,O.out.1,(Ne.symm (M.out.2 (D,0) (by simp)))⟩⟩
  ·skip
   go_simp
   refine E.out _ _ (⟨(I.out.on (ae.below f.zero)).cell.1,(J.out.on (ae.below f.zero)).cell F a (by simp)⟩) ?_
   clear E K
   try simp only [ac]
   have M:=hid f.fresh
   have eX:=f.zero
   clear f
   generalize wd.alloc (.cells #[.int .u64 0,.int .u64 0,.int .u64 0,.int .u64 0] 24)=ef at *
   generalize wd.heap.size=z at *
   have f:=eX
   clear eX
   refine aa.two (i:=2) (j:=9) (o:=⟨some 26,_,_,_,_,_⟩) (p:=⟨some 11,_,_,_,_,_⟩) (by kernel_rfl) rfl rfl (fun K E=>?_) (fun K E=>?_)
   ·skip
    go_simp
    with_reducible refine (dh 1 1 f (by decide) (by decide)).mono ?_
    rintro e ee ⟨rfl,bV⟩
    go_wp2_with fail
    refine E.out _ _ (⟨(I.out.on (ae.below bV)).cell.1,(J.out.on (ae.below bV)).cell F a (by simp)⟩) ?_
    clear E K
    try simp only [ac]
    clear f
    have f:=bV
    clear bV
    refine aa.two (i:=3) (j:=9) (o:=⟨some 27,_,_,_,_,_⟩) (p:=⟨some 11,_,_,_,_,_⟩) (by kernel_rfl) rfl rfl (fun K E=>?_) (fun K E=>?_)
    ·skip
     go_simp
     with_reducible refine (ah (aH 1 _) f).mono ?_
     rintro e ed ⟨rfl,bU⟩
     go_wp2_with fail
     refine E.out _ _ (⟨(I.out.on (ae.below bU)).cell.1,(J.out.on (ae.below bU)).cell F a (by simp)⟩) ?_
     clear E K
     try simp only [ac]
     clear f
     have f:=bU
     clear bU
     refine aa.two (i:=7) (j:=9) (o:=⟨some 31,_,_,_,_,_⟩) (p:=⟨some 11,_,_,_,_,_⟩) (by kernel_rfl) rfl rfl (fun K E=>?_) (fun K E=>?_)
     ·skip
      go_simp
      with_reducible refine (ah (aH a _) f).mono ?_
      rintro e ea ⟨rfl,bS⟩
      go_wp2_with fail
      refine E.out _ _ (⟨(I.out.on (ae.below bS)).cell.1,(J.out.on (ae.below bS)).cell F a (by simp)⟩) ?_
      clear E K
      try simp only [ac]
      clear f
      have f:=bS
      clear bS
      refine aa.one (i:=9) (o:=⟨some 11,_,_,_,_,_⟩) (by kernel_rfl) rfl (fun K E=>?_)
      go_simp
      refine E.out _ _ (⟨(I.out.on (ae.below f.zero)).cell.1,(J.out.on (ae.below f.zero)).cell F a (by simp)⟩) ?_
      clear E K
      try simp only [ac]
      have O:=hid f.fresh
      have eW:=f.zero
      clear f
      generalize ea.alloc (.cells #[.int .u64 0,.int .u64 0,.int .u64 0,.int .u64 0] 24)=dZ at *
      generalize ea.heap.size=D at *
      have f:=eW
      clear eW
      refine aa.one (i:=10) (o:=⟨none,_,_,_,_,_⟩) (by kernel_rfl) rfl (fun K E=>?_)
      obtain ⟨Z,Y,V,z3⟩:=f.cell z 0 (by simp)
      have R:=f.lt z 0 (by simp)
      have U:=f.frozen z 0 (by simp)
      have bR:=f.set z 0 (1) [(D,0)] (by simp) M.out.1 (fun p G=>by simp only [List.mem_cons,List.not_mem_nil,or_false] at G; rcases G with rfl <;> first | exact ⟨by simp,(Ne.symm (O.out.2 (z,0) (by simp)))⟩)
      go_simp
      refine E.out _ _ (⟨(I.out.on (ae.below bR)).cell.1,(J.out.on (ae.below bR)).cell F a (by simp)⟩) ?_
      clear E K
      try simp only [ac]
      clear f Z Y V z3 R U
      change aa _ _ _ _ _ _ _ _ (fil dZ z (1))
      generalize fil dZ z (1)=dY at *
      have f:=bR
      clear bR
      refine aa.one (i:=11) (o:=⟨none,_,_,_,_,_⟩) (by kernel_rfl) rfl (fun K E=>?_)
      obtain ⟨Z,Y,V,z3⟩:=f.cell D 0 (by simp)
      have R:=f.lt D 0 (by simp)
      have U:=f.frozen D 0 (by simp)
      have bQ:=f.set D 0 (a) [(z,1)] (by simp) O.out.1 (fun p G=>by simp only [List.mem_cons,List.not_mem_nil,or_false] at G; rcases G with rfl <;> first | exact ⟨by simp,(O.out.2 (z,0) (by simp))⟩)
      go_simp
      refine E.out _ _ (⟨(I.out.on (ae.below bQ)).cell.1,(J.out.on (ae.below bQ)).cell F a (by simp)⟩) ?_
      clear E K
      try simp only [ac]
      clear f Z Y V z3 R U
      change aa _ _ _ _ _ _ _ _ (fil dY D (a))
      generalize fil dY D (a)=gR at *
      have f:=bQ
      clear bQ
      refine aa.done (by kernel_rfl) ?_ _
      refine NoPanic.normal ?_
      go_wp2_with fail
      go_meet
      exact ⟨_,_,rfl,rfl,hid (f.perm (by simp)),hid ⟨M.out.1,O.out.1,(O.out.2 (z,0) (by simp))⟩⟩
     ·skip
      go_simp
      refine E.out _ _ (⟨(I.out.on (ae.below f.zero)).cell.1,(J.out.on (ae.below f.zero)).cell F a (by simp)⟩) ?_
      clear E K
      try simp only [ac]
      have O:=hid f.fresh
      have eV:=f.zero
      clear f
      generalize ed.alloc (.cells #[.int .u64 0,.int .u64 0,.int .u64 0,.int .u64 0] 24)=gQ at *
      generalize ed.heap.size=D at *
      have f:=eV
      clear eV
      refine aa.one (i:=7) (o:=⟨some 31,_,_,_,_,_⟩) (by kernel_rfl) rfl (fun K E=>?_)
      go_simp
      with_reducible refine (ah (aH a _) f).mono ?_
      rintro e dX ⟨rfl,bP⟩
      go_wp2_with fail
      refine E.out _ _ (⟨(I.out.on (ae.below bP)).cell.1,(J.out.on (ae.below bP)).cell F a (by simp)⟩) ?_
      clear E K
      try simp only [ac]
      clear f
      have f:=bP
      clear bP
      refine aa.one (i:=10) (o:=⟨none,_,_,_,_,_⟩) (by kernel_rfl) rfl (fun K E=>?_)
      obtain ⟨Z,Y,V,z3⟩:=f.cell z 0 (by simp)
      have R:=f.lt z 0 (by simp)
      have U:=f.frozen z 0 (by simp)
      have bO:=f.set z 0 (1) [(D,0)] (by simp) M.out.1 (fun p G=>by simp only [List.mem_cons,List.not_mem_nil,or_false] at G; rcases G with rfl <;> first | exact ⟨by simp,(Ne.symm (O.out.2 (z,0) (by simp)))⟩)
      go_simp
      refine E.out _ _ (⟨(I.out.on (ae.below bO)).cell.1,(J.out.on (ae.below bO)).cell F a (by simp)⟩) ?_
      clear E K
      try simp only [ac]
      clear f Z Y V z3 R U
      change aa _ _ _ _ _ _ _ _ (fil dX z (1))
      generalize fil dX z (1)=dW at *
      have f:=bO
      clear bO
      refine aa.one (i:=11) (o:=⟨none,_,_,_,_,_⟩) (by kernel_rfl) rfl (fun K E=>?_)
      obtain ⟨Z,Y,V,z3⟩:=f.cell D 0 (by simp)
      have R:=f.lt D 0 (by simp)
      have U:=f.frozen D 0 (by simp)
      have bN:=f.set D 0 (a) [(z,1)] (by simp) O.out.1 (fun p G=>by simp only [List.mem_cons,List.not_mem_nil,or_false] at G; rcases G with rfl <;> first | exact ⟨by simp,(O.out.2 (z,0) (by simp))⟩)
      go_simp
      refine E.out _ _ (⟨(I.out.on (ae.below bN)).cell.1,(J.out.on (ae.below bN)).cell F a (by simp)⟩) ?_
      clear E K
      try simp only [ac]
      clear f Z Y V z3 R U
      change aa _ _ _ _ _ _ _ _ (fil dW D (a))
      generalize fil dW D (a)=gP at *
      have f:=bN
      clear bN
      refine aa.done (by kernel_rfl) ?_ _
      refine NoPanic.normal ?_
      go_wp2_with fail
      go_meet
      exact ⟨_,_,rfl,rfl,hid (f.perm (by simp)),hid ⟨M.out.1,O.out.1,(O.out.2 (z,0) (by simp))⟩⟩
    ·skip
     go_simp
     refine E.out _ _ (⟨(I.out.on (ae.below f.zero)).cell.1,(J.out.on (ae.below f.zero)).cell F a (by simp)⟩) ?_
     clear E K
     try simp only [ac]
     have O:=hid f.fresh
     have eU:=f.zero
     clear f
     generalize ee.alloc (.cells #[.int .u64 0,.int .u64 0,.int .u64 0,.int .u64 0] 24)=gO at *
     generalize ee.heap.size=D at *
     have f:=eU
     clear eU
     refine aa.one (i:=3) (o:=⟨some 27,_,_,_,_,_⟩) (by kernel_rfl) rfl (fun K E=>?_)
     go_simp
     with_reducible refine (ah (aH 1 _) f).mono ?_
     rintro e gN ⟨rfl,bK⟩
     go_wp2_with fail
     refine E.out _ _ (⟨(I.out.on (ae.below bK)).cell.1,(J.out.on (ae.below bK)).cell F a (by simp)⟩) ?_
     clear E K
     try simp only [ac]
     clear f
     have f:=bK
     clear bK
     refine aa.one (i:=7) (o:=⟨some 31,_,_,_,_,_⟩) (by kernel_rfl) rfl (fun K E=>?_)
     go_simp
     with_reducible refine (ah (aH a _) f).mono ?_
     rintro e dV ⟨rfl,bG⟩
     go_wp2_with fail
     refine E.out _ _ (⟨(I.out.on (ae.below bG)).cell.1,(J.out.on (ae.below bG)).cell F a (by simp)⟩) ?_
     clear E K
     try simp only [ac]
     clear f
     have f:=bG
     clear bG
     refine aa.one (i:=10) (o:=⟨none,_,_,_,_,_⟩) (by kernel_rfl) rfl (fun K E=>?_)
     obtain ⟨Z,Y,V,z3⟩:=f.cell z 0 (by simp)
     have R:=f.lt z 0 (by simp)
     have U:=f.frozen z 0 (by simp)
     have bA:=f.set z 0 (1) [(D,0)] (by simp) M.out.1 (fun p G=>by simp only [List.mem_cons,List.not_mem_nil,or_false] at G; rcases G with rfl <;> first | exact ⟨by simp,(Ne.symm (O.out.2 (z,0) (by simp)))⟩)
     go_simp
     refine E.out _ _ (⟨(I.out.on (ae.below bA)).cell.1,(J.out.on (ae.below bA)).cell F a (by simp)⟩) ?_
     clear E K
     try simp only [ac]
     clear f Z Y V z3 R U
     change aa _ _ _ _ _ _ _ _ (fil dV z (1))
     generalize fil dV z (1)=dU at *
     have f:=bA
     clear bA
     refine aa.one (i:=11) (o:=⟨none,_,_,_,_,_⟩) (by kernel_rfl) rfl (fun K E=>?_)
     obtain ⟨Z,Y,V,z3⟩:=f.cell D 0 (by simp)
     have R:=f.lt D 0 (by simp)
     have U:=f.frozen D 0 (by simp)
     have bz:=f.set D 0 (a) [(z,1)] (by simp) O.out.1 (fun p G=>by simp only [List.mem_cons,List.not_mem_nil,or_false] at G; rcases G with rfl <;> first | exact ⟨by simp,(O.out.2 (z,0) (by simp))⟩)
     go_simp
     refine E.out _ _ (⟨(I.out.on (ae.below bz)).cell.1,(J.out.on (ae.below bz)).cell F a (by simp)⟩) ?_
     clear E K
     try simp only [ac]
     clear f Z Y V z3 R U
     change aa _ _ _ _ _ _ _ _ (fil dU D (a))
     generalize fil dU D (a)=gM at *
     have f:=bz
     clear bz
     refine aa.done (by kernel_rfl) ?_ _
     refine NoPanic.normal ?_
     go_wp2_with fail
     go_meet
     exact ⟨_,_,rfl,rfl,hid (f.perm (by simp)),hid ⟨M.out.1,O.out.1,(O.out.2 (z,0) (by simp))⟩⟩
   ·skip
    go_simp
    refine E.out _ _ (⟨(I.out.on (ae.below f.zero)).cell.1,(J.out.on (ae.below f.zero)).cell F a (by simp)⟩) ?_
    clear E K
    try simp only [ac]
    have O:=hid f.fresh
    have eT:=f.zero
    clear f
    generalize ef.alloc (.cells #[.int .u64 0,.int .u64 0,.int .u64 0,.int .u64 0] 24)=gL at *
    generalize ef.heap.size=D at *
    have f:=eT
    clear eT
    refine aa.one (i:=2) (o:=⟨some 26,_,_,_,_,_⟩) (by kernel_rfl) rfl (fun K E=>?_)
    go_simp
    with_reducible refine (dh 1 1 f (by decide) (by decide)).mono ?_
    rintro e gK ⟨rfl,bx⟩
    go_wp2_with fail
    refine E.out _ _ (⟨(I.out.on (ae.below bx)).cell.1,(J.out.on (ae.below bx)).cell F a (by simp)⟩) ?_
    clear E K
    try simp only [ac]
    clear f
    have f:=bx
    clear bx
    refine aa.one (i:=3) (o:=⟨some 27,_,_,_,_,_⟩) (by kernel_rfl) rfl (fun K E=>?_)
    go_simp
    with_reducible refine (ah (aH 1 _) f).mono ?_
    rintro e gJ ⟨rfl,bv⟩
    go_wp2_with fail
    refine E.out _ _ (⟨(I.out.on (ae.below bv)).cell.1,(J.out.on (ae.below bv)).cell F a (by simp)⟩) ?_
    clear E K
    try simp only [ac]
    clear f
    have f:=bv
    clear bv
    refine aa.one (i:=7) (o:=⟨some 31,_,_,_,_,_⟩) (by kernel_rfl) rfl (fun K E=>?_)
    go_simp
    with_reducible refine (ah (aH a _) f).mono ?_
    rintro e dT ⟨rfl,bu⟩
    go_wp2_with fail
    refine E.out _ _ (⟨(I.out.on (ae.below bu)).cell.1,(J.out.on (ae.below bu)).cell F a (by simp)⟩) ?_
    clear E K
    try simp only [ac]
    clear f
    have f:=bu
    clear bu
    refine aa.one (i:=10) (o:=⟨none,_,_,_,_,_⟩) (by kernel_rfl) rfl (fun K E=>?_)
    obtain ⟨Z,Y,V,z3⟩:=f.cell z 0 (by simp)
    have R:=f.lt z 0 (by simp)
    have U:=f.frozen z 0 (by simp)
    have bk:=f.set z 0 (1) [(D,0)] (by simp) M.out.1 (fun p G=>by simp only [List.mem_cons,List.not_mem_nil,or_false] at G; rcases G with rfl <;> first | exact ⟨by simp,(Ne.symm (O.out.2 (z,0) (by simp)))⟩)
    go_simp
    refine E.out _ _ (⟨(I.out.on (ae.below bk)).cell.1,(J.out.on (ae.below bk)).cell F a (by simp)⟩) ?_
    clear E K
    try simp only [ac]
    clear f Z Y V z3 R U
    change aa _ _ _ _ _ _ _ _ (fil dT z (1))
    generalize fil dT z (1)=dO at *
    have f:=bk
    clear bk
    refine aa.one (i:=11) (o:=⟨none,_,_,_,_,_⟩) (by kernel_rfl) rfl (fun K E=>?_)
    obtain ⟨Z,Y,V,z3⟩:=f.cell D 0 (by simp)
    have R:=f.lt D 0 (by simp)
    have U:=f.frozen D 0 (by simp)
    have bd:=f.set D 0 (a) [(z,1)] (by simp) O.out.1 (fun p G=>by simp only [List.mem_cons,List.not_mem_nil,or_false] at G; rcases G with rfl <;> first | exact ⟨by simp,(O.out.2 (z,0) (by simp))⟩)
    go_simp
    refine E.out _ _ (⟨(I.out.on (ae.below bd)).cell.1,(J.out.on (ae.below bd)).cell F a (by simp)⟩) ?_
    clear E K
    try simp only [ac]
    clear f Z Y V z3 R U
    change aa _ _ _ _ _ _ _ _ (fil dO D (a))
    generalize fil dO D (a)=gI at *
    have f:=bd
    clear bd
    refine aa.done (by kernel_rfl) ?_ _
    refine NoPanic.normal ?_
    go_wp2_with fail
    go_meet
    exact ⟨_,_,rfl,rfl,hid (f.perm (by simp)),hid ⟨M.out.1,O.out.1,(O.out.2 (z,0) (by simp))⟩⟩
  ·skip
   go_simp
   refine E.out _ _ (⟨(I.out.on (ae.below f.zero)).cell.1,(J.out.on (ae.below f.zero)).cell F a (by simp)⟩) ?_
   clear E K
   try simp only [ac]
   have O:=hid f.fresh
   have eS:=f.zero
   clear f
   generalize wd.alloc (.cells #[.int .u64 0,.int .u64 0,.int .u64 0,.int .u64 0] 24)=dG at *
   generalize wd.heap.size=D at *
   have f:=eS
   clear eS
   refine aa.two (i:=2) (j:=8) (o:=⟨some 26,_,_,_,_,_⟩) (p:=⟨some 10,_,_,_,_,_⟩) (by kernel_rfl) rfl rfl (fun K E=>?_) (fun K E=>?_)
   ·skip
    go_simp
    with_reducible refine (dh 1 1 f (by decide) (by decide)).mono ?_
    rintro e dC ⟨rfl,bb⟩
    go_wp2_with fail
    refine E.out _ _ (⟨(I.out.on (ae.below bb)).cell.1,(J.out.on (ae.below bb)).cell F a (by simp)⟩) ?_
    clear E K
    try simp only [ac]
    clear f
    have f:=bb
    clear bb
    refine aa.two (i:=3) (j:=8) (o:=⟨some 27,_,_,_,_,_⟩) (p:=⟨some 10,_,_,_,_,_⟩) (by kernel_rfl) rfl rfl (fun K E=>?_) (fun K E=>?_)
    ·skip
     go_simp
     with_reducible refine (ah (aH 1 _) f).mono ?_
     rintro e dB ⟨rfl,ba⟩
     go_wp2_with fail
     refine E.out _ _ (⟨(I.out.on (ae.below ba)).cell.1,(J.out.on (ae.below ba)).cell F a (by simp)⟩) ?_
     clear E K
     try simp only [ac]
     clear f
     have f:=ba
     clear ba
     refine aa.two (i:=7) (j:=8) (o:=⟨some 31,_,_,_,_,_⟩) (p:=⟨some 10,_,_,_,_,_⟩) (by kernel_rfl) rfl rfl (fun K E=>?_) (fun K E=>?_)
     ·skip
      go_simp
      with_reducible refine (ah (aH a _) f).mono ?_
      rintro e dA ⟨rfl,aW⟩
      go_wp2_with fail
      refine E.out _ _ (⟨(I.out.on (ae.below aW)).cell.1,(J.out.on (ae.below aW)).cell F a (by simp)⟩) ?_
      clear E K
      try simp only [ac]
      clear f
      have f:=aW
      clear aW
      refine aa.one (i:=8) (o:=⟨some 10,_,_,_,_,_⟩) (by kernel_rfl) rfl (fun K E=>?_)
      go_simp
      refine E.out _ _ (⟨(I.out.on (ae.below f.zero)).cell.1,(J.out.on (ae.below f.zero)).cell F a (by simp)⟩) ?_
      clear E K
      try simp only [ac]
      have M:=hid f.fresh
      have eR:=f.zero
      clear f
      generalize dA.alloc (.cells #[.int .u64 0,.int .u64 0,.int .u64 0,.int .u64 0] 24)=dz at *
      generalize dA.heap.size=z at *
      have f:=eR
      clear eR
      refine aa.one (i:=10) (o:=⟨none,_,_,_,_,_⟩) (by kernel_rfl) rfl (fun K E=>?_)
      obtain ⟨Z,Y,V,z3⟩:=f.cell z 0 (by simp)
      have R:=f.lt z 0 (by simp)
      have U:=f.frozen z 0 (by simp)
      have aN:=f.set z 0 (1) [(D,0)] (by simp) M.out.1 (fun p G=>by simp only [List.mem_cons,List.not_mem_nil,or_false] at G; rcases G with rfl <;> first | exact ⟨by simp,(M.out.2 (D,0) (by simp))⟩)
      go_simp
      refine E.out _ _ (⟨(I.out.on (ae.below aN)).cell.1,(J.out.on (ae.below aN)).cell F a (by simp)⟩) ?_
      clear E K
      try simp only [ac]
      clear f Z Y V z3 R U
      change aa _ _ _ _ _ _ _ _ (fil dz z (1))
      generalize fil dz z (1)=dy at *
      have f:=aN
      clear aN
      refine aa.one (i:=11) (o:=⟨none,_,_,_,_,_⟩) (by kernel_rfl) rfl (fun K E=>?_)
      obtain ⟨Z,Y,V,z3⟩:=f.cell D 0 (by simp)
      have R:=f.lt D 0 (by simp)
      have U:=f.frozen D 0 (by simp)
      have aM:=f.set D 0 (a) [(z,1)] (by simp) O.out.1 (fun p G=>by simp only [List.mem_cons,List.not_mem_nil,or_false] at G; rcases G with rfl <;> first | exact ⟨by simp,(Ne.symm (M.out.2 (D,0) (by simp)))⟩)
      go_simp
      refine E.out _ _ (⟨(I.out.on (ae.below aM)).cell.1,(J.out.on (ae.below aM)).cell F a (by simp)⟩) ?_
      clear E K
      try simp only [ac]
      clear f Z Y V z3 R U
      change aa _ _ _ _ _ _ _ _ (fil dy D (a))
      generalize fil dy D (a)=gH at *
      have f:=aM
      clear aM
      refine aa.done (by kernel_rfl) ?_ _
      refine NoPanic.normal ?_
      go_wp2_with fail
      go_meet
      exact ⟨_,_,rfl,rfl,hid (f.perm (by simp)),hid ⟨M.out.1,O.out.1,(Ne.symm (M.out.2 (D,0) (by simp)))⟩⟩
     ·skip
      go_simp
      refine E.out _ _ (⟨(I.out.on (ae.below f.zero)).cell.1,(J.out.on (ae.below f.zero)).cell F a (by simp)⟩) ?_
      clear E K
      try simp only [ac]
      have M:=hid f.fresh
      have eQ:=f.zero
      clear f
      generalize dB.alloc (.cells #[.int .u64 0,.int .u64 0,.int .u64 0,.int .u64 0] 24)=gG at *
      generalize dB.heap.size=z at *
      have f:=eQ
      clear eQ
      refine aa.one (i:=7) (o:=⟨some 31,_,_,_,_,_⟩) (by kernel_rfl) rfl (fun K E=>?_)
      go_simp
      with_reducible refine (ah (aH a _) f).mono ?_
      rintro e dw ⟨rfl,aL⟩
      go_wp2_with fail
      refine E.out _ _ (⟨(I.out.on (ae.below aL)).cell.1,(J.out.on (ae.below aL)).cell F a (by simp)⟩) ?_
      clear E K
      try simp only [ac]
      clear f
      have f:=aL
      clear aL
      refine aa.one (i:=10) (o:=⟨none,_,_,_,_,_⟩) (by kernel_rfl) rfl (fun K E=>?_)
      obtain ⟨Z,Y,V,z3⟩:=f.cell z 0 (by simp)
      have R:=f.lt z 0 (by simp)
      have U:=f.frozen z 0 (by simp)
      have aK:=f.set z 0 (1) [(D,0)] (by simp) M.out.1 (fun p G=>by simp only [List.mem_cons,List.not_mem_nil,or_false] at G; rcases G with rfl <;> first | exact ⟨by simp,(M.out.2 (D,0) (by simp))⟩)
      go_simp
      refine E.out _ _ (⟨(I.out.on (ae.below aK)).cell.1,(J.out.on (ae.below aK)).cell F a (by simp)⟩) ?_
      clear E K
      try simp only [ac]
      clear f Z Y V z3 R U
      change aa _ _ _ _ _ _ _ _ (fil dw z (1))
      generalize fil dw z (1)=ds at *
      have f:=aK
      clear aK
      refine aa.one (i:=11) (o:=⟨none,_,_,_,_,_⟩) (by kernel_rfl) rfl (fun K E=>?_)
      obtain ⟨Z,Y,V,z3⟩:=f.cell D 0 (by simp)
      have R:=f.lt D 0 (by simp)
      have U:=f.frozen D 0 (by simp)
      have aJ:=f.set D 0 (a) [(z,1)] (by simp) O.out.1 (fun p G=>by simp only [List.mem_cons,List.not_mem_nil,or_false] at G; rcases G with rfl <;> first | exact ⟨by simp,(Ne.symm (M.out.2 (D,0) (by simp)))⟩)
      go_simp
      refine E.out _ _ (⟨(I.out.on (ae.below aJ)).cell.1,(J.out.on (ae.below aJ)).cell F a (by simp)⟩) ?_
      clear E K
      try simp only [ac]
      clear f Z Y V z3 R U
      change aa _ _ _ _ _ _ _ _ (fil ds D (a))
      generalize fil ds D (a)=gF at *
      have f:=aJ
      clear aJ
      refine aa.done (by kernel_rfl) ?_ _
      refine NoPanic.normal ?_
      go_wp2_with fail
      go_meet
      exact ⟨_,_,rfl,rfl,hid (f.perm (by simp)),hid ⟨M.out.1,O.out.1,(Ne.symm (M.out.2 (D,0) (by simp)))⟩⟩
    ·skip
     go_simp
     refine E.out _ _ (⟨(I.out.on (ae.below f.zero)).cell.1,(J.out.on (ae.below f.zero)).cell F a (by simp)⟩) ?_
     clear E K
     try simp only [ac]
     have M:=hid f.fresh
     have eP:=f.zero
     clear f
     generalize dC.alloc (.cells #[.int .u64 0,.int .u64 0,.int .u64 0,.int .u64 0] 24)=gE at *
     generalize dC.heap.size=z at *
     have f:=eP
     clear eP
     refine aa.one (i:=3) (o:=⟨some 27,_,_,_,_,_⟩) (by kernel_rfl) rfl (fun K E=>?_)
     go_simp
     with_reducible refine (ah (aH 1 _) f).mono ?_
     rintro e gD ⟨rfl,aI⟩
     go_wp2_with fail
     refine E.out _ _ (⟨(I.out.on (ae.below aI)).cell.1,(J.out.on (ae.below aI)).cell F a (by simp)⟩) ?_
     clear E K
     try simp only [ac]
     clear f
     have f:=aI
     clear aI
     refine aa.one (i:=7) (o:=⟨some 31,_,_,_,_,_⟩) (by kernel_rfl) rfl (fun K E=>?_)
     go_simp
     with_reducible refine (ah (aH a _) f).mono ?_
     rintro e dr ⟨rfl,aG⟩
     go_wp2_with fail
     refine E.out _ _ (⟨(I.out.on (ae.below aG)).cell.1,(J.out.on (ae.below aG)).cell F a (by simp)⟩) ?_
     clear E K
     try simp only [ac]
     clear f
     have f:=aG
     clear aG
     refine aa.one (i:=10) (o:=⟨none,_,_,_,_,_⟩) (by kernel_rfl) rfl (fun K E=>?_)
     obtain ⟨Z,Y,V,z3⟩:=f.cell z 0 (by simp)
     have R:=f.lt z 0 (by simp)
     have U:=f.frozen z 0 (by simp)
     have aB:=f.set z 0 (1) [(D,0)] (by simp) M.out.1 (fun p G=>by simp only [List.mem_cons,List.not_mem_nil,or_false] at G; rcases G with rfl <;> first | exact ⟨by simp,(M.out.2 (D,0) (by simp))⟩)
     go_simp
     refine E.out _ _ (⟨(I.out.on (ae.below aB)).cell.1,(J.out.on (ae.below aB)).cell F a (by simp)⟩) ?_
     clear E K
     try simp only [ac]
     clear f Z Y V z3 R U
     change aa _ _ _ _ _ _ _ _ (fil dr z (1))
     generalize fil dr z (1)=dk at *
     have f:=aB
     clear aB
     refine aa.one (i:=11) (o:=⟨none,_,_,_,_,_⟩) (by kernel_rfl) rfl (fun K E=>?_)
     obtain ⟨Z,Y,V,z3⟩:=f.cell D 0 (by simp)
     have R:=f.lt D 0 (by simp)
     have U:=f.frozen D 0 (by simp)
     have aA:=f.set D 0 (a) [(z,1)] (by simp) O.out.1 (fun p G=>by simp only [List.mem_cons,List.not_mem_nil,or_false] at G; rcases G with rfl <;> first | exact ⟨by simp,(Ne.symm (M.out.2 (D,0) (by simp)))⟩)
     go_simp
     refine E.out _ _ (⟨(I.out.on (ae.below aA)).cell.1,(J.out.on (ae.below aA)).cell F a (by simp)⟩) ?_
     clear E K
     try simp only [ac]
     clear f Z Y V z3 R U
     change aa _ _ _ _ _ _ _ _ (fil dk D (a))
     generalize fil dk D (a)=gC at *
     have f:=aA
     clear aA
     refine aa.done (by kernel_rfl) ?_ _
     refine NoPanic.normal ?_
     go_wp2_with fail
     go_meet
     exact ⟨_,_,rfl,rfl,hid (f.perm (by simp)),hid ⟨M.out.1,O.out.1,(Ne.symm (M.out.2 (D,0) (by simp)))⟩⟩
   ·skip
    go_simp
    refine E.out _ _ (⟨(I.out.on (ae.below f.zero)).cell.1,(J.out.on (ae.below f.zero)).cell F a (by simp)⟩) ?_
    clear E K
    try simp only [ac]
    have M:=hid f.fresh
    have eO:=f.zero
    clear f
    generalize dG.alloc (.cells #[.int .u64 0,.int .u64 0,.int .u64 0,.int .u64 0] 24)=gB at *
    generalize dG.heap.size=z at *
    have f:=eO
    clear eO
    refine aa.one (i:=2) (o:=⟨some 26,_,_,_,_,_⟩) (by kernel_rfl) rfl (fun K E=>?_)
    go_simp
    with_reducible refine (dh 1 1 f (by decide) (by decide)).mono ?_
    rintro e gA ⟨rfl,az⟩
    go_wp2_with fail
    refine E.out _ _ (⟨(I.out.on (ae.below az)).cell.1,(J.out.on (ae.below az)).cell F a (by simp)⟩) ?_
    clear E K
    try simp only [ac]
    clear f
    have f:=az
    clear az
    refine aa.one (i:=3) (o:=⟨some 27,_,_,_,_,_⟩) (by kernel_rfl) rfl (fun K E=>?_)
    go_simp
    with_reducible refine (ah (aH 1 _) f).mono ?_
    rintro e gk ⟨rfl,an⟩
    go_wp2_with fail
    refine E.out _ _ (⟨(I.out.on (ae.below an)).cell.1,(J.out.on (ae.below an)).cell F a (by simp)⟩) ?_
    clear E K
    try simp only [ac]
    clear f
    have f:=an
    clear an
    refine aa.one (i:=7) (o:=⟨some 31,_,_,_,_,_⟩) (by kernel_rfl) rfl (fun K E=>?_)
    go_simp
    with_reducible refine (ah (aH a _) f).mono ?_
    rintro e cU ⟨rfl,al⟩
    go_wp2_with fail
    refine E.out _ _ (⟨(I.out.on (ae.below al)).cell.1,(J.out.on (ae.below al)).cell F a (by simp)⟩) ?_
    clear E K
    try simp only [ac]
    clear f
    have f:=al
    clear al
    refine aa.one (i:=10) (o:=⟨none,_,_,_,_,_⟩) (by kernel_rfl) rfl (fun K E=>?_)
    obtain ⟨Z,Y,V,z3⟩:=f.cell z 0 (by simp)
    have R:=f.lt z 0 (by simp)
    have U:=f.frozen z 0 (by simp)
    have ad:=f.set z 0 (1) [(D,0)] (by simp) M.out.1 (fun p G=>by simp only [List.mem_cons,List.not_mem_nil,or_false] at G; rcases G with rfl <;> first | exact ⟨by simp,(M.out.2 (D,0) (by simp))⟩)
    go_simp
    refine E.out _ _ (⟨(I.out.on (ae.below ad)).cell.1,(J.out.on (ae.below ad)).cell F a (by simp)⟩) ?_
    clear E K
    try simp only [ac]
    clear f Z Y V z3 R U
    change aa _ _ _ _ _ _ _ _ (fil cU z (1))
    generalize fil cU z (1)=cT at *
    have f:=ad
    clear ad
    refine aa.one (i:=11) (o:=⟨none,_,_,_,_,_⟩) (by kernel_rfl) rfl (fun K E=>?_)
    obtain ⟨Z,Y,V,z3⟩:=f.cell D 0 (by simp)
    have R:=f.lt D 0 (by simp)
    have U:=f.frozen D 0 (by simp)
    have ab:=f.set D 0 (a) [(z,1)] (by simp) O.out.1 (fun p G=>by simp only [List.mem_cons,List.not_mem_nil,or_false] at G; rcases G with rfl <;> first | exact ⟨by simp,(Ne.symm (M.out.2 (D,0) (by simp)))⟩)
    go_simp
    refine E.out _ _ (⟨(I.out.on (ae.below ab)).cell.1,(J.out.on (ae.below ab)).cell F a (by simp)⟩) ?_
    clear E K
    try simp only [ac]
    clear f Z Y V z3 R U
    change aa _ _ _ _ _ _ _ _ (fil cT D (a))
    generalize fil cT D (a)=gj at *
    have f:=ab
    clear ab
    refine aa.done (by kernel_rfl) ?_ _
    refine NoPanic.normal ?_
    go_wp2_with fail
    go_meet
    exact ⟨_,_,rfl,rfl,hid (f.perm (by simp)),hid ⟨M.out.1,O.out.1,(Ne.symm (M.out.2 (D,0) (by simp)))⟩⟩
 case rest =>
  obtain ⟨z,D,rfl,rfl,H2,DD⟩:=hcut
  go_wp2_with fail
  go_loopw [33] (fun s wr=>∃ i k p:Nat,i+k=c∧s=.int .i64 (i:Int)∧Hid (p=a ^ (n / 2 ^ k) % m)∧Hid (ae wv [(z,p),(D,a)] wr)) (fun s _=>c - (intOf s).toNat)
  case atStart=>exact ⟨0,c,1,by omega,rfl,hid (show 1=a ^ (n / 2 ^ c) % m by rw [gz.out,Nat.mod_eq_of_lt M1.out]),H2⟩
  case round =>
   obtain ⟨i,k,p,hk,rfl,P,H⟩:=hrel
   clear H2
   have PL:=hid (show p<m by rw [P.out]; exact Nat.mod_lt _ (by have:=M1.out; omega))
   by_cases h0:k=0
   ·subst h0
    have hB:¬ ((i:Int)<(c:Int)):=by omega
    have PE:=hid (show p=a ^ n % m by have:=P.out; rwa [Nat.pow_zero,Nat.div_one] at this)
    obtain ⟨k0,k1,k2⟩:=(I.out.on H.out.below).cell
    have kl:=(I.out.on H.out.below).lt
    obtain ⟨fO,fN,fM,fL⟩:=H.out.cell (z) (p) (by simp)
    have cZ:=H.out.lt (z) (p) (by simp)
    have fK:=Nat.le_of_lt cZ
    go_wp2_with fail
    clear k0 k1 k2 kl
    clear fO fN fM fL cZ fK
    refine (ah (aH p _) H.out).mono ?_
    rintro e w6 ⟨rfl,h⟩
    have H6:=hid h
    clear h H
    have HQ:=hid (J.out.on H6.out.below)
    obtain ⟨Z,Y,V,z3⟩:=HQ.out.cell ax 0 (by simp)
    have R:=HQ.out.lt ax 0 (by simp)
    have U:=HQ.out.frozen ax 0 (by simp)
    have HZ:=hid (HQ.out.set ax 0 (p) [] (by simp) (by rw [fm]; exact DZ.out) (by simp))
    go_wp2
    clear Z Y V z3 R U
    try rw [Exit.noGoto_ret]
    change bodyPost _ _ _ _ _ (fil w6 ax (p))
    generalize fil w6 ax (p)=wz at *
    obtain ⟨k0,k1,k2,k3⟩:=HZ.out.cell ax (p) (by simp)
    exact bodyPost_ret (v:=.tuple #[af (p),.int .i64 0]) (by simp [results,Tryz.results80,go_sem,k0,k1,k2,k3]) rfl ⟨by rw [← PE.out],HZ.out.1⟩
   ·obtain ⟨j,rfl⟩:∃ j,k=j+1:=⟨k - 1,by omega⟩
    clear h0
    have A1:IntKind.i64.wrap ((c:Int) - 1)=(c:Int) - 1:=IntWalk.i64_in _ (by omega)
    have A2:IntKind.i64.wrap ((c:Int) - 1 - (i:Int))=(j:Int):=by rw [IntWalk.i64_in _ (by omega)]; omega
    have hC:(i:Int)<(c:Int):=by omega
    obtain ⟨t,et⟩:∃ x,p * p % m=x:=⟨_,rfl⟩
    have Et:=hid et
    clear et
    obtain ⟨u,eu⟩:∃ x,p * p % m * a % m=x:=⟨_,rfl⟩
    have Eu:=hid eu
    clear eu
    have P2:=hid (Nat.lt_trans PL.out ML.out)
    have TL:=hid (show t<m by rw [← Et.out]; exact Nat.mod_lt _ (by have:=M1.out; omega))
    have T2:=hid (Nat.lt_trans TL.out ML.out)
    have M0:=hid (show m≠0 by have:=M1.out; omega)
    have EU:=hid (show t * a % m=u by rw [← Eu.out,Et.out])
    have S0:=hid (show aV n j=0→t=a ^ (n / 2 ^ j) % m from fun hb=>by rw [← Et.out,P.out,exp_step0 hb])
    have S1:=hid (show aV n j=1→u=a ^ (n / 2 ^ j) % m from fun hb=>by rw [← Eu.out,P.out,exp_step1 hb])
    have JB:=hid (show (j:Int)≤9223372036854775807 by omega)
    go_upto_region 9 with fail
    go_cut [] (fun wx=>Hid (ae wv [(z,t),(D,a)] wx))
    case first =>
     obtain ⟨k0,k1,k2⟩:=(I.out.on H.out.below).cell
     have kl:=(I.out.on H.out.below).lt
     obtain ⟨fJ,fI,fH,fG⟩:=H.out.cell (z) (p) (by simp)
     have cY:=H.out.lt (z) (p) (by simp)
     have fF:=Nat.le_of_lt cY
     go_wp2_with fail
     clear k0 k1 k2 kl
     clear fJ fI fH fG cY fF
     refine (ah (rmul_b p p m t gb _ ((J.out.on H.out.below).nm gb m (by simp)) P2.out P2.out ML.out M0.out Et.out) H.out).mono ?_
     rintro e w7 ⟨rfl,h⟩
     have H7:=hid h
     clear h H
     obtain ⟨gy,gx,gw,gu⟩:=H7.out.cell (z) (p) (by simp)
     have fE:=H7.out.lt (z) (p) (by simp)
     have gs:=Nat.le_of_lt fE
     have hz:=H7.out.frozen z p (by simp)
     have HZ:=hid (H7.out.set z p t [(D,a)] (by simp) DD.out.1 (fun q hq=>by simp only [List.mem_cons,List.not_mem_nil,or_false] at hq; subst hq; exact ⟨by simp,Ne.symm DD.out.2.2⟩))
     go_wp2_with fail
     go_meet
     exact HZ
    case rest =>
     have H4:Hid (ae wv [(z,t),(D,a)] wc):=hcut
     clear hcut H
     have HN:=hid (J.out.on H4.out.below)
     obtain ⟨n0,n1,n2,n3⟩:=HN.out.cell df n (by simp)
     have nl:=HN.out.lt df n (by simp)
     have hb:=bitAt_lt n j
     obtain ⟨b,eb⟩:∃ b,aV n j=b:=⟨_,rfl⟩
     have gn:Hid ((bi n (j:Int):Int)=(b:Int)):=hid (by unfold bi; rw [if_neg (by omega),Int.toNat_natCast,eb])
     rw [eb] at hb
     have EB:=hid eb
     clear eb
     go_wp2_with fail
     clear n0 n1 n2 n3 nl HN
     refine (bit_at n (j:Int) (b:Int) H4.out NL.out (by omega) JB.out gn.out).mono ?_
     rintro e w8 ⟨rfl,h⟩
     have H8:=hid h
     clear h H4
     by_cases fY:b=1
     ·subst fY
      obtain ⟨k0,k1,k2⟩:=(I.out.on H8.out.below).cell
      have kl:=(I.out.on H8.out.below).lt
      obtain ⟨fD,fC,fB,fA⟩:=H8.out.cell (z) (t) (by simp)
      have cX:=H8.out.lt (z) (t) (by simp)
      have fz:=Nat.le_of_lt cX
      obtain ⟨ft,fs,fq,fp⟩:=H8.out.cell (D) (a) (by simp)
      have cV:=H8.out.lt (D) (a) (by simp)
      have fo:=Nat.le_of_lt cV
      go_wp2_with fail
      clear k0 k1 k2 kl
      clear fD fC fB fA cX fz ft fs fq fp cV fo
      refine (ah (rmul_b t a m u gb _ ((J.out.on H8.out.below).nm gb m (by simp)) T2.out AL.out ML.out M0.out EU.out) H8.out).mono ?_
      rintro e w9 ⟨rfl,h⟩
      have H9:=hid h
      clear h H8
      obtain ⟨fy,fx,fw,fv⟩:=H9.out.cell (z) (t) (by simp)
      have cW:=H9.out.lt (z) (t) (by simp)
      have fu:=Nat.le_of_lt cW
      have gd:=H9.out.frozen z t (by simp)
      have HZ:=hid (H9.out.set z t u [(D,a)] (by simp) DD.out.1 (fun q hq=>by simp only [List.mem_cons,List.not_mem_nil,or_false] at hq; subst hq; exact ⟨by simp,Ne.symm DD.out.2.2⟩))
      go_wp2_with fail
      clear fy fx fw fv cW fu gd
      go_roundw
      case measure=>simp [intOf]; omega
      case rel=>exact ⟨i+1,j,u,by omega,by simp,hid (S1.out EB.out),HZ⟩
     ·have gr:b=0:=by omega
      subst gr
      clear fY
      go_wp2_with fail
      go_roundw
      case measure=>simp [intOf]; omega
      case rel=>exact ⟨i+1,j,t,by omega,by simp,hid (S0.out EB.out),H8⟩
theorem mexp_short (a n m:Nat) (w:World) (z:n<2 ^ 256) (D:m<2 ^ 256) (f:1<m∧a<m) (hc:aq n≤16):Calls Tryz.prog 80 #[af a,af n,af m] w fun e w'=>e=.returned (.tuple #[af (a ^ n % m),.int .i64 0])∧Below w.heap.size w w' :=
 mexp_of a n m w z D f (fun c E u F l h=>form_at m c h (by rw [← E]; exact hc))
end
end Go.Proofs.YtmapkbdjnnionaaGreatDoor

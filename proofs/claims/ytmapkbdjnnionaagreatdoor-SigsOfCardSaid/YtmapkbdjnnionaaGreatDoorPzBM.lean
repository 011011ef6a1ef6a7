import Derived.Test.YtmapkbdjnnionaaGreatDoorPzBL
import Derived.Test.YtmapkbdjnnionaaGreatDoorPzAV
set_option maxRecDepth 100000
set_option maxHeartbeats 8000000
set_option linter.all false
namespace Go.Proofs.YtmapkbdjnnionaaGreatDoor
section
open Go.RowKit
theorem rbits_b (x:Nat) (c:Int) (w:World) (f:x<2 ^ 256) (hc:(aq x:Int)=c):Calls Tryz.prog 58 #[af x] w fun e w'=>e=.returned (.int .i64 c)∧Below w.heap.size w w':=by
 subst hc; exact rbits_any x w f
theorem rep_parts {x y m h l t:Nat} (E:x<m) (D:y<m) (F:m<18446744073709551616) (z:x * y / 18446744073709551616=h) (f:x * y % 18446744073709551616=l) (G:x * y % m=t):h<m∧l<18446744073709551616∧(h * 18446744073709551616+l) % m=t:=by
 refine ⟨?_,?_,?_⟩
 ·rw [← z]; exact (Nat.div_lt_iff_lt_mul (by decide)).2 (Nat.mul_lt_mul_of_lt_of_le E (Nat.le_of_lt (Nat.lt_trans D F)) (by omega))
 ·rw [← f]; exact Nat.mod_lt _ (by decide)
 ·rw [← z,← f,Nat.div_add_mod']; exact G
theorem bitAt_word {n j q p:Nat} (f:n<2 ^ 256) (z:j / 64=q) (D:j % 64=p):wd n q / 2 ^ p % 2=aV n j:=by
 have e:((j:Nat):Int)=64 * ((q:Nat):Int)+((p:Nat):Int):=by omega
 have hb:=bi_word n p (j:Int) (q:Int) f e (by omega)
 rw [wi_nat n q f] at hb
 rw [hb]; unfold bi; rw [if_neg (by omega),Int.toNat_natCast]
theorem and_bit {x p b:Nat} (z:x<18446744073709551616) (h:x / 2 ^ p % 2=b):bits .and .u64 ((x:Int) / 2 ^ p) 1=(b:Int):=by
 have f:((x:Int) / 2 ^ p)=((x / 2 ^ p:Nat):Int):=by simp
 have D:=Nat.div_le_self x (2 ^ p)
 have:=u64_and_nat (x / 2 ^ p) 1 (by omega) (by decide)
 rw [nat_mask1,h] at this
 rw [f]
 exact this
theorem rword4_any (a n m r:Nat) (w:World) (V:1<m) (hm:m<18446744073709551616) (ha:a<m) (hn:n<2 ^ 256) (hr:a ^ n % m=r):Calls Tryz.prog 57 #[.int .u64 (a:Int),af n,.int .u64 (m:Int)] w fun e w'=>e=.returned (.int .u64 (r:Int))∧Below w.heap.size w w':=by
 have dm:=cK n 256 hn
 have J:=pow_first a n
 obtain ⟨c,ec⟩:∃ c,aq n=c:=⟨_,rfl⟩
 rw [ec] at dm J
 have EC:=hid (show (aq n:Int)=(c:Int) by rw [ec])
 have U:=hid hm
 have M1:=hid V
 have AM:=hid ha
 have NL:=hid hn
 have ad:=hid J
 have HR:=hid hr
 have ay:Int.tmod 1 (m:Int)=1:=by rw [Int.tmod_eq_emod_of_nonneg (by decide)]; exact Int.emod_eq_of_lt (by decide) (by omega)
 have aA:¬ m=0:=by omega
 clear hm V ha hn ec J hr
 have H0:=hid (((ae.refl w).new n).perm (l':=[(w.heap.size,n)]) (by simp))
 go_enter Tryz.func57,Tryz.ntmps57
 go_upto_region 1 with fail
 generalize w.alloc (.cells (ai n) 24)=w0 at *
 generalize aB:w.heap.size=g4 at *
 obtain ⟨aN,aM,aL,aK⟩:=H0.out.cell (g4) (n) (by simp)
 have ax:=H0.out.lt (g4) (n) (by simp)
 have aJ:=Nat.le_of_lt ax
 go_wp2_with fail
 clear aN aM aL aK ax aJ
 refine (ah (rbits_b n (c:Int) _ NL.out EC.out) H0.out).mono ?_
 rintro e w1 ⟨rfl,h⟩
 have H1:=hid h
 clear h H0
 have ar:IntKind.i64.wrap ((c:Int) - 1)=(c:Int) - 1:=IntWalk.i64_in _ (by omega)
 go_wp2_with fail
 go_loopw [7,8] (fun s7 s8 wr=>∃ (k r:Nat) (z:Int),k≤c∧Hid (z=(k:Int) - 1)∧s8=.int .i64 z∧s7=.int .u64 (r:Int)∧Hid (r=a ^ (n / 2 ^ k) % m)∧Hid (ae w [(g4,n)] wr)) (fun _ s _=>(intOf s+1).toNat)
 case atStart=>exact ⟨c,1,(c:Int) - 1,Nat.le_refl _,hid rfl,rfl,rfl,hid (show 1=a ^ (n / 2 ^ c) % m by rw [ad.out,Nat.mod_eq_of_lt M1.out]),H1⟩
 case round =>
  obtain ⟨k,f,z,hk,hz,rfl,rfl,P,H⟩:=hrel
  clear H1
  have RL:=hid (show f<m by rw [P.out]; exact Nat.mod_lt _ (by have:=M1.out; omega))
  by_cases h0:k=0
  ·subst h0
   obtain rfl:z = -1:=by have:=hz.out; omega
   have PE:=hid (show f=r by have:=P.out; rw [Nat.pow_zero,Nat.div_one] at this; rw [this]; exact HR.out)
   go_wp2
   exact bodyPost_ret (v:=.int .u64 (f:Int)) (by simp [results,Tryz.results57,go_sem]) rfl ⟨by rw [PE.out],H.out.1⟩
  ·obtain ⟨j,rfl⟩:∃ j,k=j+1:=⟨k - 1,by omega⟩
   obtain rfl:z=(j:Int):=by have:=hz.out; omega
   clear h0 hz
   obtain ⟨t,Z⟩:∃ x,f * f % m=x:=⟨_,rfl⟩
   obtain ⟨u,eu⟩:∃ x,t * a % m=x:=⟨_,rfl⟩
   have S0:=hid (show aV n j=0→t=a ^ (n / 2 ^ j) % m from fun hb=>by rw [← Z,P.out,exp_step0 hb])
   have S1:=hid (show aV n j=1→u=a ^ (n / 2 ^ j) % m from fun hb=>by rw [← eu,← Z,P.out,exp_step1 hb])
   obtain ⟨h1,O⟩:∃ z,f * f / 18446744073709551616=z:=⟨_,rfl⟩
   obtain ⟨l1,L⟩:∃ z,f * f % 18446744073709551616=z:=⟨_,rfl⟩
   obtain ⟨h2,M⟩:∃ z,t * a / 18446744073709551616=z:=⟨_,rfl⟩
   obtain ⟨l2,K⟩:∃ z,t * a % 18446744073709551616=z:=⟨_,rfl⟩
   have tm:t<m:=by rw [← Z]; exact Nat.mod_lt _ (by have:=M1.out; omega)
   have R6:=hid (rep_parts RL.out RL.out U.out O L Z)
   have U6:=hid (rep_parts tm AM.out U.out M K eu)
   have RW:=hid (show f<18446744073709551616 from Nat.lt_trans RL.out U.out)
   have TW:=hid (show t<18446744073709551616 from Nat.lt_trans tm U.out)
   have AW:=hid (show a<18446744073709551616 from Nat.lt_trans AM.out U.out)
   have ap:=hid O
   have an:=hid L
   have ao:=hid M
   have al:=hid K
   clear Z eu O L M K tm
   have y3:IntKind.i64.wrap ((j:Int) - 1)=(j:Int) - 1:=IntWalk.i64_in _ (by omega)
   obtain ⟨q,eq⟩:∃ q,j / 64=q:=⟨_,rfl⟩
   obtain ⟨p,ep⟩:∃ p,j % 64=p:=⟨_,rfl⟩
   have e1:(j:Int) / 64=(q:Int):=by omega
   have e2:(j:Int) % 64=(p:Int):=by omega
   have e3:Int.tdiv (j:Int) 64=(q:Int):=by rw [Int.tdiv_eq_ediv_of_nonneg (by omega)]; exact e1
   have e4:Int.tmod (j:Int) 64=(p:Int):=by rw [Int.tmod_eq_emod_of_nonneg (by omega)]; exact e2
   have az:p<64:=by omega
   obtain ⟨b,eb⟩:∃ b,aV n j=b:=⟨_,rfl⟩
   have Y:b=0∨b=1:=by have:=bitAt_lt n j; omega
   have EB:=hid (show wd n q / 2 ^ p % 2=b by rw [← eb,bitAt_word NL.out eq ep])
   rw [eb] at S0 S1
   have ab:q=0∨q=1∨q=2∨q=3:=by omega
   clear eq ep eb
   go_wp2_with fail
   refine (ah (rmul64_b f f h1 l1 _ RW.out RW.out ap.out an.out) H.out).mono ?_
   rintro e w2 ⟨rfl,h⟩
   have H2:=hid h
   clear h H
   go_wp2_with fail
   refine (ah (div64_any h1 l1 m _ t _ R6.out.1 R6.out.2.1 U.out rfl R6.out.2.2) H2.out).mono ?_
   rintro e w3 ⟨rfl,h⟩
   have H3:=hid h
   clear h H2
   have QB:=hid Y
   clear Y
   rcases ab with rfl | rfl | rfl | rfl
   all_goals
    obtain ⟨I,G,F,E⟩:=H3.out.cell (g4) (n) (by simp)
    have cB:=H3.out.lt (g4) (n) (by simp)
    have D:=Nat.le_of_lt cB
    rcases QB.out with R | R
    ·subst R
     have s0:=S0.out rfl; clear S0 S1
     have ST:=hid s0; clear s0
     have ev:=and_bit (aO n _) EB.out
     go_wp2_with fail
     clear I G F E cB D
     go_roundw
     case measure=>first | (simp [intOf]; done) | (simp [intOf]; omega)
     case rel=>exact ⟨j,t,(j:Int) - 1,by omega,hid rfl,rfl,rfl,ST,H3⟩
    ·subst R
     have s0:=S1.out rfl; clear S0 S1
     have ST:=hid s0; clear s0
     have ev:=and_bit (aO n _) EB.out
     go_wp2_with fail
     clear I G F E cB D
     clear ev
     refine (ah (rmul64_b t a h2 l2 _ TW.out AW.out ao.out al.out) H3.out).mono ?_
     rintro e w4 ⟨rfl,h⟩
     have H4:=hid h
     clear h H3
     go_wp2_with fail
     refine (ah (div64_any h2 l2 m _ u _ U6.out.1 U6.out.2.1 U.out rfl U6.out.2.2) H4.out).mono ?_
     rintro e w5 ⟨rfl,h⟩
     have H5:=hid h
     clear h H4
     go_wp2_with fail
     go_roundw
     case measure=>first | (simp [intOf]; done) | (simp [intOf]; omega)
     case rel=>exact ⟨j,u,(j:Int) - 1,by omega,hid rfl,rfl,rfl,ST,H5⟩
theorem rbit_b (x:Nat) (n b:Int) (w:World) (f:x<2 ^ 256) (hb:(bi x n:Int)=b):Calls Tryz.prog 59 #[af x,.int .i64 n] w fun e w'=>e=.returned (.int .u64 b)∧Below w.heap.size w w':=by
 subst hb; exact rbit_any x n w f
theorem rmexp_word (a n m r:Nat) (w:World) (ha:a<2 ^ 256) (hn:n<2 ^ 256) (hm:m<2 ^ 256) (O:1<m∧a<m) (hr:a ^ n % m=r) (V:m<18446744073709551616):Calls Tryz.prog 40 #[af a,af n,af m] w fun e w'=>e=.returned (.tuple #[af r,.int .i64 0])∧Below w.heap.size w w':=by
 have HA:=hid ha
 have HN:=hid hn
 have HM:=hid hm
 have HV:=hid (show decide (1<m∧a<m∧a<m)=true from decide_eq_true ⟨O.1,O.2,O.2⟩)
 have M1:=hid O.1
 have AM:=hid O.2
 have HW:=hid (show decide (m<18446744073709551616)=true from decide_eq_true V)
 have R:=hid (rwd_one V)
 have Z:=hid (rwd_one (Nat.lt_trans O.2 V))
 have HR:=hid hr
 have RL:=hid (show r<18446744073709551616 by rw [← hr]; exact Nat.lt_trans (Nat.mod_lt _ (by omega)) V)
 clear ha hn hm O hr V
 have U:=hid ((((((ae.refl w).new a).new n).new m).zero).perm (l':=[(w.heap.size+1+1+1,0),(w.heap.size+1+1,m),(w.heap.size+1,n),(w.heap.size,a)]) (by simp))
 have DZ:=hid (show w.heap.size≤w.heap.size+1+1+1 by omega)
 have DN:=hid (show ∀ p∈[(w.heap.size,a),(w.heap.size+1,n),(w.heap.size+1+1,m)],p.1≠w.heap.size+1+1+1 by simp; try omega)
 go_enter Tryz.func40,Tryz.ntmps40
 go_upto_region 1 with fail
 generalize (((w.alloc (.cells (ai a) 24)).alloc (.cells (ai n) 24)).alloc (.cells (ai m) 24)).alloc (.cells #[.int .u64 0,.int .u64 0,.int .u64 0,.int .u64 0] 24)=w0 at *
 generalize w.heap.size+1+1+1=f at *
 generalize w.heap.size+1+1=D at *
 generalize w.heap.size+1=Y at *
 generalize M:w.heap.size=E at *
 obtain ⟨aN,aM,aL,aK⟩:=U.out.cell (E) (a) (by simp)
 have ax:=U.out.lt (E) (a) (by simp)
 have aJ:=Nat.le_of_lt ax
 obtain ⟨bZ,bX,bW,bV⟩:=U.out.cell (D) (m) (by simp)
 have bd:=U.out.lt (D) (m) (by simp)
 have bU:=Nat.le_of_lt bd
 go_wp2_with fail
 clear aN aM aL aK ax aJ bZ bX bW bV bd bU
 refine (ah (rmay_any a a m true _ HA.out HA.out HM.out HV.out) U.out).mono ?_
 rintro e w1 ⟨rfl,h⟩
 have H1:=hid h
 clear h U
 obtain ⟨aU,aT,aS,aR⟩:=H1.out.cell (D) (m) (by simp)
 have ay:=H1.out.lt (D) (m) (by simp)
 have aQ:=Nat.le_of_lt ay
 go_wp2_with fail
 clear aU aT aS aR ay aQ
 refine (ah (rword_any m true _ HM.out HW.out) H1.out).mono ?_
 rintro e w2 ⟨rfl,h⟩
 have L:=hid h
 clear h H1
 obtain ⟨bq,bp,bo,bn⟩:=L.out.cell (E) (a) (by simp)
 have aC:=L.out.lt (E) (a) (by simp)
 have bm:=Nat.le_of_lt aC
 obtain ⟨cZ,cY,cX,cW⟩:=L.out.cell (Y) (n) (by simp)
 have bG:=L.out.lt (Y) (n) (by simp)
 have cV:=Nat.le_of_lt bG
 obtain ⟨K,J,I,G⟩:=L.out.cell (D) (m) (by simp)
 have z:=L.out.lt (D) (m) (by simp)
 have F:=Nat.le_of_lt z
 go_wp2_with fail
 clear bq bp bo bn aC bm cZ cY cX cW bG cV K J I G z F
 refine (ah (rword4_any (wd a 0) n (wd m 0) r _ (by rw [R.out]; exact M1.out) (aO m 0) (by rw [R.out,Z.out]; exact AM.out) HN.out (by rw [R.out,Z.out]; exact HR.out)) L.out).mono ?_
 rintro e w3 ⟨rfl,h⟩
 have H3:=hid h
 clear h L
 go_wp2_with fail
 refine (ah (rof_any r _ RL.out) H3.out).mono ?_
 rintro e w4 ⟨rfl,h⟩
 have H4:=hid h
 clear h H3
 obtain ⟨z0,z1,z2,z3⟩:=H4.out.cell f 0 (by simp)
 have zl:=H4.out.lt f 0 (by simp)
 have zf:=H4.out.frozen f 0 (by simp)
 have HZ:=hid (H4.out.set f 0 (r) [] (by simp) (by rw [M]; exact DZ.out) (by simp))
 go_wp2
 clear z0 z1 z2 z3 zl zf
 try rw [Exit.noGoto_ret]
 change bodyPost _ _ _ _ _ (fil w4 f (r))
 generalize fil w4 f (r)=wz at *
 obtain ⟨k0,k1,k2,k3⟩:=HZ.out.cell f (r) (by simp)
 exact bodyPost_ret (v:=.tuple #[af (r),.int .i64 0]) (by simp [results,Tryz.results40,go_sem,k0,k1,k2,k3]) rfl ⟨rfl,HZ.out.1⟩
theorem rmexp_wide (a n m r:Nat) (w:World) (ha:a<2 ^ 256) (hn:n<2 ^ 256) (hm:m<2 ^ 256) (hv:1<m∧a<m) (hr:a ^ n % m=r) (hs:¬ m<18446744073709551616):Calls Tryz.prog 40 #[af a,af n,af m] w fun e w'=>e=.returned (.tuple #[af r,.int .i64 0])∧Below w.heap.size w w':=by
 have HA:=hid ha
 have HN:=hid hn
 have HM:=hid hm
 have HV:=hid (show decide (1<m∧a<m∧a<m)=true from decide_eq_true ⟨hv.1,hv.2,hv.2⟩)
 have M1:=hid hv.1
 have AM:=hid hv.2
 have HW:=hid (show decide (m<18446744073709551616)=false from decide_eq_false hs)
 have dm:=cK n 256 hn
 have ck:=pow_first a n
 obtain ⟨c,ec⟩:∃ c,aq n=c:=⟨_,rfl⟩
 rw [ec] at dm ck
 have EC:=hid (show (aq n:Int)=(c:Int) by rw [ec])
 have cv:=hid ck
 have HR:=hid hr
 clear ec ck
 clear ha hn hm hv hr hs
 have H0:=hid ((((((ae.refl w).new a).new n).new m).zero).perm (l':=[(w.heap.size+1+1+1,0),(w.heap.size+1+1,m),(w.heap.size+1,n),(w.heap.size,a)]) (by simp))
 have DZ:=hid (show w.heap.size≤w.heap.size+1+1+1 by omega)
 have DN:=hid (show ∀ p∈[(w.heap.size,a),(w.heap.size+1,n),(w.heap.size+1+1,m)],p.1≠w.heap.size+1+1+1 by simp; try omega)
 go_enter Tryz.func40,Tryz.ntmps40
 go_upto_region 1 with fail
 generalize (((w.alloc (.cells (ai a) 24)).alloc (.cells (ai n) 24)).alloc (.cells (ai m) 24)).alloc (.cells #[.int .u64 0,.int .u64 0,.int .u64 0,.int .u64 0] 24)=w0 at *
 generalize w.heap.size+1+1+1=E at *
 generalize w.heap.size+1+1=D at *
 generalize w.heap.size+1=J at *
 generalize cj:w.heap.size=K at *
 obtain ⟨aN,aM,aL,aK⟩:=H0.out.cell (K) (a) (by simp)
 have ax:=H0.out.lt (K) (a) (by simp)
 have aJ:=Nat.le_of_lt ax
 obtain ⟨bZ,bX,bW,bV⟩:=H0.out.cell (D) (m) (by simp)
 have bd:=H0.out.lt (D) (m) (by simp)
 have bU:=Nat.le_of_lt bd
 go_wp2_with fail
 clear aN aM aL aK ax aJ bZ bX bW bV bd bU
 refine (ah (rmay_any a a m true _ HA.out HA.out HM.out HV.out) H0.out).mono ?_
 rintro e w1 ⟨rfl,h⟩
 have H1:=hid h
 clear h H0
 obtain ⟨aU,aT,aS,aR⟩:=H1.out.cell (D) (m) (by simp)
 have ay:=H1.out.lt (D) (m) (by simp)
 have aQ:=Nat.le_of_lt ay
 go_wp2_with fail
 clear aU aT aS aR ay aQ
 refine (ah (rword_any m false _ HM.out HW.out) H1.out).mono ?_
 rintro e w2 ⟨rfl,h⟩
 have H2:=hid h
 clear h H1
 go_wp2_with fail
 refine (ah (rof_b 1 1 _ (by decide) rfl) H2.out).mono ?_
 rintro e w3 ⟨rfl,h⟩
 have H3:=hid h
 clear h H2
 go_upto_region 6 with fail
 have F8:=hid H3.out.fresh
 have cf:=hid (H3.out.new 1)
 clear H3
 generalize w3.alloc (.cells (ai 1) 24)=cy at *
 generalize w3.heap.size=L at *
 obtain ⟨ct,cs,cq,cp⟩:=cf.out.cell (J) (n) (by simp)
 have cB:=cf.out.lt (J) (n) (by simp)
 have co:=Nat.le_of_lt cB
 go_wp2_with fail
 clear ct cs cq cp cB co
 refine (ah (rbits_b n (c:Int) _ HN.out EC.out) cf.out).mono ?_
 rintro e w4 ⟨rfl,h⟩
 have H4:=hid h
 clear h cf
 have cz:IntKind.i64.wrap ((c:Int) - 1)=(c:Int) - 1:=IntWalk.i64_in _ (by omega)
 go_wp2_with fail
 go_loopw [9] (fun s9 wr=>∃ (k F:Nat) (z:Int),k≤c∧Hid (z=(k:Int) - 1)∧s9=.int .i64 z∧Hid (F=a ^ (n / 2 ^ k) % m)∧Hid (ae w [(L,F),(E,0),(D,m),(J,n),(K,a)] wr)) (fun s _=>(intOf s+1).toNat)
 case atStart=>exact ⟨c,1,(c:Int) - 1,Nat.le_refl _,hid rfl,rfl,hid (show 1=a ^ (n / 2 ^ c) % m by rw [cv.out,Nat.mod_eq_of_lt M1.out]),H4⟩
 case round =>
  obtain ⟨k,F,z,hk,hz,rfl,P,H⟩:=hrel
  clear H4
  have RL:=hid (show F<m by rw [P.out]; exact Nat.mod_lt _ (by have:=M1.out; omega))
  by_cases h0:k=0
  ·subst h0
   obtain rfl:z = -1:=by have:=hz.out; omega
   have PE:=hid (show F=r by have:=P.out; rw [Nat.pow_zero,Nat.div_one] at this; rw [this]; exact HR.out)
   obtain ⟨aA,az,ar,ap⟩:=H.out.cell (L) (F) (by simp)
   have G:=H.out.lt (L) (F) (by simp)
   have ao:=Nat.le_of_lt G
   go_upto_region 12 with fail
   clear aA az ar ap G ao
   obtain ⟨aA,az,ar,ap⟩:=H.out.cell (L) (F) (by simp)
   have G:=H.out.lt (L) (F) (by simp)
   have ao:=Nat.le_of_lt G
   obtain ⟨z0,z1,z2,z3⟩:=H.out.cell E 0 (by simp)
   have zl:=H.out.lt E 0 (by simp)
   have zf:=H.out.frozen E 0 (by simp)
   have HZ:=hid (H.out.set E 0 (F) [] (by simp) (by rw [cj]; exact DZ.out) (by simp))
   go_wp2
   clear z0 z1 z2 z3 zl zf
   try rw [Exit.noGoto_ret]
   change bodyPost _ _ _ _ _ (fil wr E (F))
   generalize fil wr E (F)=wz at *
   obtain ⟨k0,k1,k2,k3⟩:=HZ.out.cell E (F) (by simp)
   exact bodyPost_ret (v:=.tuple #[af (F),.int .i64 0]) (by simp [results,Tryz.results40,go_sem,k0,k1,k2,k3]) rfl ⟨(by rw [PE.out]),HZ.out.1⟩
  ·obtain ⟨j,rfl⟩:∃ j,k=j+1:=⟨k - 1,by omega⟩
   obtain rfl:z=(j:Int):=by have:=hz.out; omega
   clear h0 hz
   obtain ⟨t,et⟩:∃ x,F * F % m=x:=⟨_,rfl⟩
   obtain ⟨u,eu⟩:∃ x,t * a % m=x:=⟨_,rfl⟩
   have S0:=hid (show aV n j=0→t=a ^ (n / 2 ^ j) % m from fun hb=>by rw [← et,P.out,exp_step0 hb])
   have S1:=hid (show aV n j=1→u=a ^ (n / 2 ^ j) % m from fun hb=>by rw [← eu,← et,P.out,exp_step1 hb])
   have TL:=hid (show t<m by rw [← et]; exact Nat.mod_lt _ (by have:=M1.out; omega))
   have ET:=hid et
   have EU:=hid eu
   clear et eu
   have y3:IntKind.i64.wrap ((j:Int) - 1)=(j:Int) - 1:=IntWalk.i64_in _ (by omega)
   obtain ⟨b,eb⟩:∃ b,aV n j=b:=⟨_,rfl⟩
   have cu:b=0∨b=1:=by have:=bitAt_lt n j; omega
   have EB:=hid (show ((bi n (j:Int):Nat):Int)=(b:Int) by unfold bi; rw [if_neg (by omega),Int.toNat_natCast,eb])
   rw [eb] at S0 S1
   clear eb
   have QB:=hid cu
   clear cu
   obtain ⟨cd,cc,cb,ca⟩:=H.out.cell (L) (F) (by simp)
   have an:=H.out.lt (L) (F) (by simp)
   have bY:=Nat.le_of_lt an
   obtain ⟨bz,bx,bv,bu⟩:=H.out.cell (D) (m) (by simp)
   have ab:=H.out.lt (D) (m) (by simp)
   have bq:=Nat.le_of_lt ab
   go_wp2_with fail
   clear cd cc cb ca an bY bz bx bv bu ab bq
   refine (ah (rtimes_any F F m t _ RL.out RL.out HM.out ET.out) H.out).mono ?_
   rintro e w31 ⟨rfl,h⟩
   have bb:=hid h
   clear h H
   obtain ⟨V,U,R,O⟩:=bb.out.cell (L) (F) (by simp)
   have f:=bb.out.lt (L) (F) (by simp)
   have M:=Nat.le_of_lt f
   have cm:=bb.out.frozen L F (by simp)
   have aB:=hid (bb.out.set L F t [(E,0),(D,m),(J,n),(K,a)] (by simp) F8.out.1 (fun p hp=>by simp only [List.mem_cons,List.not_mem_nil,or_false] at hp; rcases hp with rfl | rfl | rfl | rfl <;> first | exact ⟨by simp,F8.out.2 (E,0) (by simp)⟩ | exact ⟨by simp,F8.out.2 (D,m) (by simp)⟩ | exact ⟨by simp,F8.out.2 (J,n) (by simp)⟩ | exact ⟨by simp,F8.out.2 (K,a) (by simp)⟩))
   go_upto_region 10 with fail
   clear V U R O f M cm
   clear bb
   change Code.wp _ _ _ _ (fil w31 L t)
   generalize fil w31 L t=cx at *
   obtain ⟨V,U,R,O⟩:=aB.out.cell (J) (n) (by simp)
   have f:=aB.out.lt (J) (n) (by simp)
   have M:=Nat.le_of_lt f
   go_wp2_with fail
   clear V U R O f M
   rcases QB.out with cn | cn
   ·subst cn
    have s0:=S0.out rfl; clear S0 S1
    have ST:=hid s0; clear s0
    refine (ah (rbit_b n (j:Int) (0:Int) _ HN.out EB.out) aB.out).mono ?_
    rintro e w32 ⟨rfl,h⟩
    have I:=hid h
    clear h aB
    go_wp2_with fail
    go_roundw
    case measure=>first | (simp [intOf]; done) | (simp [intOf]; omega)
    case rel=>exact ⟨j,t,(j:Int) - 1,by omega,hid rfl,rfl,ST,I⟩
   ·subst cn
    have s0:=S1.out rfl; clear S0 S1
    have ST:=hid s0; clear s0
    refine (ah (rbit_b n (j:Int) (1:Int) _ HN.out EB.out) aB.out).mono ?_
    rintro e w32 ⟨rfl,h⟩
    have I:=hid h
    clear h aB
    obtain ⟨bS,bR,bQ,bP⟩:=I.out.cell (L) (t) (by simp)
    have al:=I.out.lt (L) (t) (by simp)
    have bO:=Nat.le_of_lt al
    obtain ⟨bp,bo,bn,bm⟩:=I.out.cell (K) (a) (by simp)
    have Z:=I.out.lt (K) (a) (by simp)
    have bk:=Nat.le_of_lt Z
    obtain ⟨aW,aI,aG,aE⟩:=I.out.cell (D) (m) (by simp)
    have Y:=I.out.lt (D) (m) (by simp)
    have aC:=Nat.le_of_lt Y
    go_wp2_with fail
    clear bS bR bQ bP al bO bp bo bn bm Z bk aW aI aG aE Y aC
    refine (ah (rtimes_any t a m u _ TL.out AM.out HM.out EU.out) I.out).mono ?_
    rintro e w33 ⟨rfl,h⟩
    have ba:=hid h
    clear h I
    obtain ⟨bN,bK,bI,bG⟩:=ba.out.cell (L) (t) (by simp)
    have ad:=ba.out.lt (L) (t) (by simp)
    have bA:=Nat.le_of_lt ad
    have cl:=ba.out.frozen L t (by simp)
    have cw:=hid (ba.out.set L t u [(E,0),(D,m),(J,n),(K,a)] (by simp) F8.out.1 (fun p hp=>by simp only [List.mem_cons,List.not_mem_nil,or_false] at hp; rcases hp with rfl | rfl | rfl | rfl <;> first | exact ⟨by simp,F8.out.2 (E,0) (by simp)⟩ | exact ⟨by simp,F8.out.2 (D,m) (by simp)⟩ | exact ⟨by simp,F8.out.2 (J,n) (by simp)⟩ | exact ⟨by simp,F8.out.2 (K,a) (by simp)⟩))
    go_wp2_with fail
    clear bN bK bI bG ad bA cl
    clear ba
    go_roundw
    case measure=>first | (simp [intOf]; done) | (simp [intOf]; omega)
    case rel=>exact ⟨j,u,(j:Int) - 1,by omega,hid rfl,rfl,ST,cw⟩
theorem rmexp_some (a n m r:Nat) (w:World) (G:a<2 ^ 256) (E:n<2 ^ 256) (F:m<2 ^ 256) (f:1<m∧a<m) (D:a ^ n % m=r):Calls Tryz.prog 40 #[af a,af n,af m] w fun e w'=>e=.returned (.tuple #[af r,.int .i64 0])∧Below w.heap.size w w':=by
 by_cases z:m<18446744073709551616
 ·exact rmexp_word a n m r w G E F f D z
 ·exact rmexp_wide a n m r w G E F f D z
theorem num_one:(.agg #[.int .u64 1,.int .u64 0,.int .u64 0,.int .u64 0]:Value)=af 1:=num_small 1 (by decide)
theorem cJ (p:Nat) (c:Int) (w:World) (f:p<2 ^ 256) (hc:aD p 1=c):Calls Tryz.prog 29 #[af p,.agg #[.int .u64 1,.int .u64 0,.int .u64 0,.int .u64 0]] w fun e w'=>e=.returned (.int .i64 c)∧Below w.heap.size w w':=by
 rw [num_one]; exact dt p 1 c w f (by decide) hc
theorem r6may_a (p q g a:Nat) (w:World) (O:p<2 ^ 256) (R:a<2 ^ 256) (hv:¬ 1<p):Calls Tryz.prog 39 #[gv p q g,af a] w fun e w'=>e=.returned (.bool false)∧Below w.heap.size w w':=by
 obtain ⟨U,E⟩:∃ z,aD p 1=z:=⟨_,rfl⟩
 have Z:¬ 0<U:=by rw [← E]; unfold aD; split <;> (try split) <;> omega
 have Ec1:=hid E
 clear E
 have PL:=hid O
 have AL:=hid R
 clear O R
 clear hv
 have G:=hid ((((Eg.of (ae.refl w) p q g 26)).new a).perm (l':=[(w.heap.size+1,a)]) (by simp))
 go_enter Tryz.func39,Tryz.ntmps39
 go_upto_region 1 with fail
 generalize (w.alloc (.cells (aY p q g) 26)).alloc (.cells (ai a) 24)=w0 at *
 generalize w.heap.size+1=f at *
 generalize D:w.heap.size=ab at *
 obtain ⟨bQ,bP,bO,bN⟩:=G.out.gp
 have Y:=G.out.gl
 have bR:=Nat.le_of_lt Y
 obtain ⟨bZ,bX,bW,bV⟩:=G.out.cell (f) (a) (by simp)
 have V:=G.out.lt (f) (a) (by simp)
 have bU:=Nat.le_of_lt V
 go_wp2_with fail
 clear bQ bP bO bN Y bR bZ bX bW bV V bU
 refine (bc (cJ p U _ PL.out Ec1.out) G.out).mono ?_
 rintro e w1 ⟨rfl,h⟩
 have F:=hid h
 clear h G
 obtain ⟨dB,dA,dz,dy⟩:=F.out.gp
 have bK:=F.out.gl
 have dC:=Nat.le_of_lt bK
 obtain ⟨M,L,K,J⟩:=F.out.cell (f) (a) (by simp)
 have cv:=F.out.lt (f) (a) (by simp)
 have I:=Nat.le_of_lt cv
 go_wp2
 exact bodyPost_ret (v:=.bool false) (by first | (simp [results,Tryz.results39,go_sem]; done) | (simp [results,Tryz.results39,go_sem]; omega)) rfl ⟨rfl,by first | exact F.out.1.1 | (rw [← D]; exact F.out.1.1)⟩
theorem r6may_b (p q g a:Nat) (w:World) (R:p<2 ^ 256) (U:a<2 ^ 256) (O:1<p∧a=0):Calls Tryz.prog 39 #[gv p q g,af a] w fun e w'=>e=.returned (.bool false)∧Below w.heap.size w w':=by
 obtain ⟨V,E⟩:∃ z,aD p 1=z:=⟨_,rfl⟩
 have ab:0<V:=by rw [← E]; unfold aD; split <;> (try split) <;> omega
 have Ec1:=hid E
 clear E
 have qa:∀ w,(Op.equalIn 10000 24 (af a) (.agg #[.int .u64 0,.int .u64 0,.int .u64 0,.int .u64 0])).run Tryz.prog w=.ok true w:=by rw [dp]; exact eq_yes a 0 O.2
 have PL:=hid R
 have AL:=hid U
 clear R U
 clear O
 have G:=hid ((((Eg.of (ae.refl w) p q g 26)).new a).perm (l':=[(w.heap.size+1,a)]) (by simp))
 go_enter Tryz.func39,Tryz.ntmps39
 go_upto_region 1 with fail
 generalize (w.alloc (.cells (aY p q g) 26)).alloc (.cells (ai a) 24)=w0 at *
 generalize w.heap.size+1=f at *
 generalize D:w.heap.size=ad at *
 obtain ⟨bQ,bP,bO,bN⟩:=G.out.gp
 have Z:=G.out.gl
 have bR:=Nat.le_of_lt Z
 obtain ⟨bZ,bX,bW,bV⟩:=G.out.cell (f) (a) (by simp)
 have Y:=G.out.lt (f) (a) (by simp)
 have bU:=Nat.le_of_lt Y
 go_wp2_with fail
 clear bQ bP bO bN Z bR bZ bX bW bV Y bU
 refine (bc (cJ p V _ PL.out Ec1.out) G.out).mono ?_
 rintro e w1 ⟨rfl,h⟩
 have F:=hid h
 clear h G
 obtain ⟨dB,dA,dz,dy⟩:=F.out.gp
 have bK:=F.out.gl
 have dC:=Nat.le_of_lt bK
 obtain ⟨M,L,K,J⟩:=F.out.cell (f) (a) (by simp)
 have cv:=F.out.lt (f) (a) (by simp)
 have I:=Nat.le_of_lt cv
 go_wp2
 exact bodyPost_ret (v:=.bool false) (by first | (simp [results,Tryz.results39,go_sem]; done) | (simp [results,Tryz.results39,go_sem]; omega)) rfl ⟨rfl,by first | exact F.out.1.1 | (rw [← D]; exact F.out.1.1)⟩
theorem r6may_c (p q g a:Nat) (w:World) (V:p<2 ^ 256) (R:a<2 ^ 256) (U:1<p∧a≠0∧¬ a<p):Calls Tryz.prog 39 #[gv p q g,af a] w fun e w'=>e=.returned (.bool false)∧Below w.heap.size w w':=by
 obtain ⟨c1,F⟩:∃ z,aD p 1=z:=⟨_,rfl⟩
 have ad:0<c1:=by rw [← F]; unfold aD; split <;> (try split) <;> omega
 have Ec1:=hid F
 clear F
 have qa:∀ w,(Op.equalIn 10000 24 (af a) (.agg #[.int .u64 0,.int .u64 0,.int .u64 0,.int .u64 0])).run Tryz.prog w=.ok false w:=by rw [dp]; exact eq_no a 0 R (by decide) U.2.1
 obtain ⟨Z,E⟩:∃ z,aD a p=z:=⟨_,rfl⟩
 have ab:¬ Z<0:=by rw [← E]; unfold aD; split <;> (try split) <;> omega
 have Ec2:=hid E
 clear E
 have PL:=hid V
 have AL:=hid R
 clear V R
 clear U
 have O:=hid ((((Eg.of (ae.refl w) p q g 26)).new a).perm (l':=[(w.heap.size+1,a)]) (by simp))
 go_enter Tryz.func39,Tryz.ntmps39
 go_upto_region 1 with fail
 generalize (w.alloc (.cells (aY p q g) 26)).alloc (.cells (ai a) 24)=w0 at *
 generalize w.heap.size+1=f at *
 generalize D:w.heap.size=al at *
 obtain ⟨bQ,bP,bO,bN⟩:=O.out.gp
 have aW:=O.out.gl
 have bR:=Nat.le_of_lt aW
 obtain ⟨bZ,bX,bW,bV⟩:=O.out.cell (f) (a) (by simp)
 have bd:=O.out.lt (f) (a) (by simp)
 have bU:=Nat.le_of_lt bd
 go_wp2_with fail
 clear bQ bP bO bN aW bR bZ bX bW bV bd bU
 refine (bc (cJ p c1 _ PL.out Ec1.out) O.out).mono ?_
 rintro e w1 ⟨rfl,h⟩
 have M:=hid h
 clear h O
 obtain ⟨dB,dA,dz,dy⟩:=M.out.gp
 have bK:=M.out.gl
 have dC:=Nat.le_of_lt bK
 obtain ⟨L,K,J,I⟩:=M.out.cell (f) (a) (by simp)
 have Y:=M.out.lt (f) (a) (by simp)
 have G:=Nat.le_of_lt Y
 go_wp2_with fail
 clear dB dA dz dy bK dC L K J I Y G
 refine (bc (dt a p Z _ AL.out PL.out Ec2.out) M.out).mono ?_
 rintro e w2 ⟨rfl,h⟩
 have H2:=hid h
 clear h M
 go_wp2
 exact bodyPost_ret (v:=.bool false) (by first | (simp [results,Tryz.results39,go_sem]; done) | (simp [results,Tryz.results39,go_sem]; omega)) rfl ⟨rfl,by first | exact H2.out.1.1 | (rw [← D]; exact H2.out.1.1)⟩
theorem r6may_d (p q g a:Nat) (w:World) (V:p<2 ^ 256) (R:a<2 ^ 256) (U:1<p∧a≠0∧a<p):Calls Tryz.prog 39 #[gv p q g,af a] w fun e w'=>e=.returned (.bool true)∧Below w.heap.size w w':=by
 obtain ⟨c1,F⟩:∃ z,aD p 1=z:=⟨_,rfl⟩
 have ad:0<c1:=by rw [← F]; unfold aD; split <;> (try split) <;> omega
 have Ec1:=hid F
 clear F
 have qa:∀ w,(Op.equalIn 10000 24 (af a) (.agg #[.int .u64 0,.int .u64 0,.int .u64 0,.int .u64 0])).run Tryz.prog w=.ok false w:=by rw [dp]; exact eq_no a 0 R (by decide) U.2.1
 obtain ⟨Z,E⟩:∃ z,aD a p=z:=⟨_,rfl⟩
 have ab:Z<0:=by rw [← E]; unfold aD; split <;> (try split) <;> omega
 have Ec2:=hid E
 clear E
 have PL:=hid V
 have AL:=hid R
 clear V R
 clear U
 have O:=hid ((((Eg.of (ae.refl w) p q g 26)).new a).perm (l':=[(w.heap.size+1,a)]) (by simp))
 go_enter Tryz.func39,Tryz.ntmps39
 go_upto_region 1 with fail
 generalize (w.alloc (.cells (aY p q g) 26)).alloc (.cells (ai a) 24)=w0 at *
 generalize w.heap.size+1=f at *
 generalize D:w.heap.size=al at *
 obtain ⟨bQ,bP,bO,bN⟩:=O.out.gp
 have aW:=O.out.gl
 have bR:=Nat.le_of_lt aW
 obtain ⟨bZ,bX,bW,bV⟩:=O.out.cell (f) (a) (by simp)
 have bd:=O.out.lt (f) (a) (by simp)
 have bU:=Nat.le_of_lt bd
 go_wp2_with fail
 clear bQ bP bO bN aW bR bZ bX bW bV bd bU
 refine (bc (cJ p c1 _ PL.out Ec1.out) O.out).mono ?_
 rintro e w1 ⟨rfl,h⟩
 have M:=hid h
 clear h O
 obtain ⟨dB,dA,dz,dy⟩:=M.out.gp
 have bK:=M.out.gl
 have dC:=Nat.le_of_lt bK
 obtain ⟨L,K,J,I⟩:=M.out.cell (f) (a) (by simp)
 have Y:=M.out.lt (f) (a) (by simp)
 have G:=Nat.le_of_lt Y
 go_wp2_with fail
 clear dB dA dz dy bK dC L K J I Y G
 refine (bc (dt a p Z _ AL.out PL.out Ec2.out) M.out).mono ?_
 rintro e w2 ⟨rfl,h⟩
 have H2:=hid h
 clear h M
 go_wp2
 exact bodyPost_ret (v:=.bool true) (by first | (simp [results,Tryz.results39,go_sem]; done) | (simp [results,Tryz.results39,go_sem]; omega)) rfl ⟨rfl,by first | exact H2.out.1.1 | (rw [← D]; exact H2.out.1.1)⟩
theorem r6may_any (p q g a:Nat) (v:Bool) (w:World) (f:p<2 ^ 256) (z:a<2 ^ 256) (G:decide (0<a∧a<p)=v):Calls Tryz.prog 39 #[gv p q g,af a] w fun e w'=>e=.returned (.bool v)∧Below w.heap.size w w':=by
 subst G
 by_cases D:1<p
 ·by_cases F:a=0
  ·rw [decide_eq_false (fun h=>by omega)]; exact r6may_b p q g a w f z ⟨D,F⟩
  ·by_cases E:a<p
   ·rw [decide_eq_true (show 0<a∧a<p by omega)]; exact r6may_d p q g a w f z ⟨D,F,E⟩
   ·rw [decide_eq_false (fun h=>E h.2)]; exact r6may_c p q g a w f z ⟨D,F,E⟩
 ·rw [decide_eq_false (fun h=>by omega)]; exact r6may_a p q g a w f z D
theorem r6in_none (p q g a:Nat) (w:World) (G:p<2 ^ 256) (F:q<2 ^ 256) (I:a<2 ^ 256) (E:¬ (0<a∧a<p)):Calls Tryz.prog 28 #[gv p q g,af a] w fun e w'=>e=.returned (.bool false)∧Below w.heap.size w w':=by
 have VM:=hid (show decide (0<a∧a<p)=false from decide_eq_false E)
 have PL:=hid G
 have QL:=hid F
 have AL:=hid I
 clear G F I
 clear E
 have f:=hid ((((Eg.of (ae.refl w) p q g 26)).new a).perm (l':=[(w.heap.size+1,a)]) (by simp))
 go_enter Tryz.func28,Tryz.ntmps28
 go_upto_region 1 with fail
 generalize (w.alloc (.cells (aY p q g) 26)).alloc (.cells (ai a) 24)=w0 at *
 generalize w.heap.size+1=D at *
 generalize z:w.heap.size=M at *
 obtain ⟨bQ,bP,bO,bN⟩:=f.out.gp
 obtain ⟨cQ,cP,cO,cN⟩:=f.out.gq
 obtain ⟨Z,cT,cS,cR⟩:=f.out.gg
 have K:=f.out.gl
 have bR:=Nat.le_of_lt K
 obtain ⟨O,R,U,V⟩:=f.out.cell (D) (a) (by simp)
 have J:=f.out.lt (D) (a) (by simp)
 have Y:=Nat.le_of_lt J
 go_wp2_with fail
 clear bQ bP bO bN cQ cP cO cN Z cT cS cR K bR O R U V J Y
 refine (bc (r6may_any p q g a false _ PL.out AL.out VM.out) f.out).mono ?_
 rintro e w1 ⟨rfl,h⟩
 have L:=hid h
 clear h f
 go_wp2
 exact bodyPost_ret (v:=.bool false) (by first | (simp [results,Tryz.results28,go_sem]; done) | (simp [results,Tryz.results28,go_sem]; omega)) rfl ⟨rfl,by first | exact L.out.1.1 | (rw [← z]; exact L.out.1.1)⟩
theorem r6in_no (p q g a:Nat) (w:World) (hp:p<2 ^ 256) (hq:q<2 ^ 256) (ha:a<2 ^ 256) (hv:(0<a∧a<p)∧a ^ q % p≠1):Calls Tryz.prog 28 #[gv p q g,af a] w fun e w'=>e=.returned (.bool false)∧Below w.heap.size w w':=by
 have VM:=hid (show decide (0<a∧a<p)=true from decide_eq_true hv.1)
 have V1:=hid (show 1<p∧a<p by omega)
 obtain ⟨x,Y⟩:∃ z,a ^ q % p=z:=⟨_,rfl⟩
 have EX:=hid Y
 have qx:∀ w,(Op.equalIn 10000 24 (af x) (.agg #[.int .u64 1,.int .u64 0,.int .u64 0,.int .u64 0])).run Tryz.prog w=.ok false w:=by rw [num_one]; exact eq_no x 1 (by rw [← Y]; exact Nat.lt_trans (Nat.mod_lt _ (by omega)) hp) (by decide) (by rw [← Y]; exact hv.2)
 clear Y
 have PL:=hid hp
 have QL:=hid hq
 have AL:=hid ha
 clear hp hq ha
 clear hv
 have K:=hid ((((Eg.of (ae.refl w) p q g 26)).new a).perm (l':=[(w.heap.size+1,a)]) (by simp))
 go_enter Tryz.func28,Tryz.ntmps28
 go_upto_region 1 with fail
 generalize (w.alloc (.cells (aY p q g) 26)).alloc (.cells (ai a) 24)=w0 at *
 generalize w.heap.size+1=D at *
 generalize L:w.heap.size=ad at *
 obtain ⟨bQ,bP,bO,bN⟩:=K.out.gp
 obtain ⟨cQ,cP,cO,cN⟩:=K.out.gq
 obtain ⟨cU,cT,cS,cR⟩:=K.out.gg
 have aW:=K.out.gl
 have bR:=Nat.le_of_lt aW
 obtain ⟨cq,co,cn,ck⟩:=K.out.cell (D) (a) (by simp)
 have bk:=K.out.lt (D) (a) (by simp)
 have cj:=Nat.le_of_lt bk
 go_wp2_with fail
 clear bQ bP bO bN cQ cP cO cN cU cT cS cR aW bR cq co cn ck bk cj
 refine (bc (r6may_any p q g a true _ PL.out AL.out VM.out) K.out).mono ?_
 rintro e w1 ⟨rfl,h⟩
 have M:=hid h
 clear h K
 obtain ⟨dB,dA,dz,dy⟩:=M.out.gp
 obtain ⟨V,U,R,O⟩:=M.out.gq
 have bK:=M.out.gl
 have dC:=Nat.le_of_lt bK
 obtain ⟨J,I,G,F⟩:=M.out.cell (D) (a) (by simp)
 have f:=M.out.lt (D) (a) (by simp)
 have E:=Nat.le_of_lt f
 go_wp2_with fail
 clear dB dA dz dy V U R O bK dC J I G F f E
 refine (bc (rmexp_some a q p x _ AL.out QL.out PL.out V1.out EX.out) M.out).mono ?_
 rintro e w2 ⟨rfl,h⟩
 have H2:=hid h
 clear h M
 go_upto_region 4 with fail
 have Z:=hid (H2.out.new x)
 clear H2
 generalize w2.alloc (.cells (ai x) 24)=ab at *
 generalize w2.heap.size=g5 at *
 obtain ⟨bq,bp,bo,bn⟩:=Z.out.cell (g5) (x) (by simp)
 have aC:=Z.out.lt (g5) (x) (by simp)
 have bm:=Nat.le_of_lt aC
 go_wp2
 exact bodyPost_ret (v:=.bool false) (by first | (simp [results,Tryz.results28,go_sem]; done) | (simp [results,Tryz.results28,go_sem]; omega)) rfl ⟨rfl,by first | exact Z.out.1.1 | (rw [← L]; exact Z.out.1.1)⟩
theorem r6in_yes (p q g a:Nat) (w:World) (hp:p<2 ^ 256) (hq:q<2 ^ 256) (ha:a<2 ^ 256) (Z:(0<a∧a<p)∧a ^ q % p=1):Calls Tryz.prog 28 #[gv p q g,af a] w fun e w'=>e=.returned (.bool true)∧Below w.heap.size w w':=by
 have VM:=hid (show decide (0<a∧a<p)=true from decide_eq_true Z.1)
 have V1:=hid (show 1<p∧a<p by omega)
 obtain ⟨x,ex⟩:∃ z,a ^ q % p=z:=⟨_,rfl⟩
 have EX:=hid ex
 have qx:∀ w,(Op.equalIn 10000 24 (af x) (.agg #[.int .u64 1,.int .u64 0,.int .u64 0,.int .u64 0])).run Tryz.prog w=.ok true w:=by rw [num_one]; exact eq_yes x 1 (by rw [← ex]; exact Z.2)
 clear ex
 have PL:=hid hp
 have QL:=hid hq
 have AL:=hid ha
 clear hp hq ha
 clear Z
 have K:=hid ((((Eg.of (ae.refl w) p q g 26)).new a).perm (l':=[(w.heap.size+1,a)]) (by simp))
 go_enter Tryz.func28,Tryz.ntmps28
 go_upto_region 1 with fail
 generalize (w.alloc (.cells (aY p q g) 26)).alloc (.cells (ai a) 24)=w0 at *
 generalize w.heap.size+1=D at *
 generalize L:w.heap.size=ad at *
 obtain ⟨bQ,bP,bO,bN⟩:=K.out.gp
 obtain ⟨cQ,cP,cO,cN⟩:=K.out.gq
 obtain ⟨cU,cT,cS,cR⟩:=K.out.gg
 have aW:=K.out.gl
 have bR:=Nat.le_of_lt aW
 obtain ⟨cq,co,cn,ck⟩:=K.out.cell (D) (a) (by simp)
 have bk:=K.out.lt (D) (a) (by simp)
 have cj:=Nat.le_of_lt bk
 go_wp2_with fail
 clear bQ bP bO bN cQ cP cO cN cU cT cS cR aW bR cq co cn ck bk cj
 refine (bc (r6may_any p q g a true _ PL.out AL.out VM.out) K.out).mono ?_
 rintro e w1 ⟨rfl,h⟩
 have M:=hid h
 clear h K
 obtain ⟨dB,dA,dz,dy⟩:=M.out.gp
 obtain ⟨V,U,R,O⟩:=M.out.gq
 have bK:=M.out.gl
 have dC:=Nat.le_of_lt bK
 obtain ⟨J,I,G,F⟩:=M.out.cell (D) (a) (by simp)
 have f:=M.out.lt (D) (a) (by simp)
 have E:=Nat.le_of_lt f
 go_wp2_with fail
 clear dB dA dz dy V U R O bK dC J I G F f E
 refine (bc (rmexp_some a q p x _ AL.out QL.out PL.out V1.out EX.out) M.out).mono ?_
 rintro e w2 ⟨rfl,h⟩
 have H2:=hid h
 clear h M
 go_upto_region 4 with fail
 have Y:=hid (H2.out.new x)
 clear H2
 generalize w2.alloc (.cells (ai x) 24)=ab at *
 generalize w2.heap.size=g5 at *
 obtain ⟨bq,bp,bo,bn⟩:=Y.out.cell (g5) (x) (by simp)
 have aC:=Y.out.lt (g5) (x) (by simp)
 have bm:=Nat.le_of_lt aC
 go_wp2
 exact bodyPost_ret (v:=.bool true) (by first | (simp [results,Tryz.results28,go_sem]; done) | (simp [results,Tryz.results28,go_sem]; omega)) rfl ⟨rfl,by first | exact Y.out.1.1 | (rw [← L]; exact Y.out.1.1)⟩
theorem r6in_any (p q g a:Nat) (v:Bool) (w:World) (E:p<2 ^ 256) (D:q<2 ^ 256) (F:a<2 ^ 256) (G:decide ((0<a∧a<p)∧a ^ q % p=1)=v):Calls Tryz.prog 28 #[gv p q g,af a] w fun e w'=>e=.returned (.bool v)∧Below w.heap.size w w':=by
 subst G
 by_cases f:0<a∧a<p
 ·by_cases z:a ^ q % p=1
  ·rw [decide_eq_true (show (0<a∧a<p)∧a ^ q % p=1 from ⟨f,z⟩)]; exact r6in_yes p q g a w E D F ⟨f,z⟩
  ·rw [decide_eq_false (fun h=>z h.2)]; exact r6in_no p q g a w E D F ⟨f,z⟩
 ·rw [decide_eq_false (fun h=>f h.1)]; exact r6in_none p q g a w E D F f
theorem r6fine_p (p q g:Nat) (w:World) (I:p<2 ^ 256) (G:q<2 ^ 256) (J:g<2 ^ 256) (hv:¬ 1<p):Calls Tryz.prog 15 #[gv p q g] w fun e w'=>e=.returned (.bool false)∧Below w.heap.size w w':=by
 obtain ⟨Z,D⟩:∃ z,aD p 1=z:=⟨_,rfl⟩
 have ab:¬ 0<Z:=by rw [← D]; unfold aD; split <;> (try split) <;> omega
 have Ec1:=hid D
 clear D
 have PL:=hid I
 have QL:=hid G
 have GL:=hid J
 clear I G J
 clear hv
 have F:=hid (((Eg.of (ae.refl w) p q g 26)).perm (l':=[]) (by simp))
 go_enter Tryz.func15,Tryz.ntmps15
 go_upto_region 1 with fail
 generalize w.alloc (.cells (aY p q g) 26)=w0 at *
 generalize f:w.heap.size=ad at *
 obtain ⟨bQ,bP,bO,bN⟩:=F.out.gp
 obtain ⟨cQ,cP,cO,cN⟩:=F.out.gq
 obtain ⟨cU,cT,cS,cR⟩:=F.out.gg
 have aW:=F.out.gl
 have bR:=Nat.le_of_lt aW
 go_wp2_with fail
 clear bQ bP bO bN cQ cP cO cN cU cT cS cR aW bR
 refine (bc (cJ p Z _ PL.out Ec1.out) F.out).mono ?_
 rintro e w1 ⟨rfl,h⟩
 have E:=hid h
 clear h F
 obtain ⟨dB,dA,dz,dy⟩:=E.out.gp
 obtain ⟨O,M,L,K⟩:=E.out.gq
 obtain ⟨Y,V,U,R⟩:=E.out.gg
 have bK:=E.out.gl
 have dC:=Nat.le_of_lt bK
 go_wp2
 exact bodyPost_ret (v:=.bool false) (by first | (simp [results,Tryz.results15,go_sem]; done) | (simp [results,Tryz.results15,go_sem]; omega)) rfl ⟨rfl,by first | exact E.out.1.1 | (rw [← f]; exact E.out.1.1)⟩
theorem r6fine_q (p q g:Nat) (w:World) (hp:p<2 ^ 256) (Z:q<2 ^ 256) (hg:g<2 ^ 256) (hv:1<p∧¬ 1<q):Calls Tryz.prog 15 #[gv p q g] w fun e w'=>e=.returned (.bool false)∧Below w.heap.size w w':=by
 obtain ⟨c1,E⟩:∃ z,aD p 1=z:=⟨_,rfl⟩
 have aG:0<c1:=by rw [← E]; unfold aD; split <;> (try split) <;> omega
 have Ec1:=hid E
 clear E
 obtain ⟨c2,D⟩:∃ z,aD q 1=z:=⟨_,rfl⟩
 have aE:¬ 0<c2:=by rw [← D]; unfold aD; split <;> (try split) <;> omega
 have Ec2:=hid D
 clear D
 have PL:=hid hp
 have QL:=hid Z
 have GL:=hid hg
 clear hp Z hg
 clear hv
 have I:=hid (((Eg.of (ae.refl w) p q g 26)).perm (l':=[]) (by simp))
 go_enter Tryz.func15,Tryz.ntmps15
 go_upto_region 1 with fail
 generalize w.alloc (.cells (aY p q g) 26)=w0 at *
 generalize f:w.heap.size=aI at *
 obtain ⟨bQ,bP,bO,bN⟩:=I.out.gp
 obtain ⟨cQ,cP,cO,cN⟩:=I.out.gq
 obtain ⟨cU,cT,cS,cR⟩:=I.out.gg
 have aW:=I.out.gl
 have bR:=Nat.le_of_lt aW
 go_wp2_with fail
 clear bQ bP bO bN cQ cP cO cN cU cT cS cR aW bR
 refine (bc (cJ p c1 _ PL.out Ec1.out) I.out).mono ?_
 rintro e w1 ⟨rfl,h⟩
 have G:=hid h
 clear h I
 obtain ⟨dB,dA,dz,dy⟩:=G.out.gp
 obtain ⟨M,L,K,J⟩:=G.out.gq
 obtain ⟨Y,V,U,R⟩:=G.out.gg
 have bK:=G.out.gl
 have dC:=Nat.le_of_lt bK
 go_wp2_with fail
 clear dB dA dz dy M L K J Y V U R bK dC
 refine (bc (cJ q c2 _ QL.out Ec2.out) G.out).mono ?_
 rintro e w2 ⟨rfl,h⟩
 have F:=hid h
 clear h G
 obtain ⟨ax,ar,ap,ao⟩:=F.out.gp
 obtain ⟨an,al,ad,ab⟩:=F.out.gq
 obtain ⟨aC,aB,aA,az⟩:=F.out.gg
 have O:=F.out.gl
 have ay:=Nat.le_of_lt O
 go_wp2
 exact bodyPost_ret (v:=.bool false) (by first | (simp [results,Tryz.results15,go_sem]; done) | (simp [results,Tryz.results15,go_sem]; omega)) rfl ⟨rfl,by first | exact F.out.1.1 | (rw [← f]; exact F.out.1.1)⟩
theorem r6fine_n (p q g:Nat) (w:World) (hp:p<2 ^ 256) (hq:q<2 ^ 256) (hg:g<2 ^ 256) (hv:1<p∧1<q∧¬ ((0<g∧g<p)∧g ^ q % p=1)):Calls Tryz.prog 15 #[gv p q g] w fun e w'=>e=.returned (.bool false)∧Below w.heap.size w w':=by
 obtain ⟨c1,F⟩:∃ z,aD p 1=z:=⟨_,rfl⟩
 have bd:0<c1:=by rw [← F]; unfold aD; split <;> (try split) <;> omega
 have Ec1:=hid F
 clear F
 obtain ⟨c2,E⟩:∃ z,aD q 1=z:=⟨_,rfl⟩
 have bb:0<c2:=by rw [← E]; unfold aD; split <;> (try split) <;> omega
 have Ec2:=hid E
 clear E
 have VI:=hid (show decide ((0<g∧g<p)∧g ^ q % p=1)=false from decide_eq_false hv.2.2)
 have PL:=hid hp
 have QL:=hid hq
 have GL:=hid hg
 clear hp hq hg
 clear hv
 have K:=hid (((Eg.of (ae.refl w) p q g 26)).perm (l':=[]) (by simp))
 go_enter Tryz.func15,Tryz.ntmps15
 go_upto_region 1 with fail
 generalize w.alloc (.cells (aY p q g) 26)=w0 at *
 generalize D:w.heap.size=bk at *
 obtain ⟨bQ,bP,bO,bN⟩:=K.out.gp
 obtain ⟨cQ,cP,cO,cN⟩:=K.out.gq
 obtain ⟨cU,cT,cS,cR⟩:=K.out.gg
 have aW:=K.out.gl
 have bR:=Nat.le_of_lt aW
 go_wp2_with fail
 clear bQ bP bO bN cQ cP cO cN cU cT cS cR aW bR
 refine (bc (cJ p c1 _ PL.out Ec1.out) K.out).mono ?_
 rintro e w1 ⟨rfl,h⟩
 have J:=hid h
 clear h K
 obtain ⟨dB,dA,dz,dy⟩:=J.out.gp
 obtain ⟨Z,Y,V,U⟩:=J.out.gq
 obtain ⟨aE,aC,aB,aA⟩:=J.out.gg
 have bK:=J.out.gl
 have dC:=Nat.le_of_lt bK
 go_wp2_with fail
 clear dB dA dz dy Z Y V U aE aC aB aA bK dC
 refine (bc (cJ q c2 _ QL.out Ec2.out) J.out).mono ?_
 rintro e w2 ⟨rfl,h⟩
 have I:=hid h
 clear h J
 obtain ⟨an,al,ad,ab⟩:=I.out.gp
 obtain ⟨R,O,M,L⟩:=I.out.gq
 obtain ⟨az,ay,ax,ar⟩:=I.out.gg
 have f:=I.out.gl
 have ap:=Nat.le_of_lt f
 go_wp2_with fail
 clear an al ad ab R O M L az ay ax ar f ap
 refine (bc (r6in_any p q g g false _ PL.out QL.out GL.out VI.out) I.out).mono ?_
 rintro e w3 ⟨rfl,h⟩
 have G:=hid h
 clear h I
 obtain ⟨aQ,aN,aM,aL⟩:=G.out.gp
 obtain ⟨aK,aJ,aI,aG⟩:=G.out.gq
 obtain ⟨ba,aU,aT,aS⟩:=G.out.gg
 have ao:=G.out.gl
 have aR:=Nat.le_of_lt ao
 go_wp2
 exact bodyPost_ret (v:=.bool false) (by first | (simp [results,Tryz.results15,go_sem]; done) | (simp [results,Tryz.results15,go_sem]; omega)) rfl ⟨rfl,by first | exact G.out.1.1 | (rw [← D]; exact G.out.1.1)⟩
theorem r6fine_o (p q g:Nat) (w:World) (hp:p<2 ^ 256) (hq:q<2 ^ 256) (hg:g<2 ^ 256) (hv:1<p∧1<q∧((0<g∧g<p)∧g ^ q % p=1)∧g=1):Calls Tryz.prog 15 #[gv p q g] w fun e w'=>e=.returned (.bool false)∧Below w.heap.size w w':=by
 obtain ⟨c1,F⟩:∃ z,aD p 1=z:=⟨_,rfl⟩
 have bd:0<c1:=by rw [← F]; unfold aD; split <;> (try split) <;> omega
 have Ec1:=hid F
 clear F
 obtain ⟨c2,E⟩:∃ z,aD q 1=z:=⟨_,rfl⟩
 have bb:0<c2:=by rw [← E]; unfold aD; split <;> (try split) <;> omega
 have Ec2:=hid E
 clear E
 have VI:=hid (show decide ((0<g∧g<p)∧g ^ q % p=1)=true from decide_eq_true hv.2.2.1)
 have qg:∀ w,(Op.equalIn 10000 24 (af g) (.agg #[.int .u64 1,.int .u64 0,.int .u64 0,.int .u64 0])).run Tryz.prog w=.ok true w:=by rw [num_one]; exact eq_yes g 1 hv.2.2.2
 have PL:=hid hp
 have QL:=hid hq
 have GL:=hid hg
 clear hp hq hg
 clear hv
 have K:=hid (((Eg.of (ae.refl w) p q g 26)).perm (l':=[]) (by simp))
 go_enter Tryz.func15,Tryz.ntmps15
 go_upto_region 1 with fail
 generalize w.alloc (.cells (aY p q g) 26)=w0 at *
 generalize D:w.heap.size=bk at *
 obtain ⟨bQ,bP,bO,bN⟩:=K.out.gp
 obtain ⟨cQ,cP,cO,cN⟩:=K.out.gq
 obtain ⟨cU,cT,cS,cR⟩:=K.out.gg
 have aW:=K.out.gl
 have bR:=Nat.le_of_lt aW
 go_wp2_with fail
 clear bQ bP bO bN cQ cP cO cN cU cT cS cR aW bR
 refine (bc (cJ p c1 _ PL.out Ec1.out) K.out).mono ?_
 rintro e w1 ⟨rfl,h⟩
 have J:=hid h
 clear h K
 obtain ⟨dB,dA,dz,dy⟩:=J.out.gp
 obtain ⟨Z,Y,V,U⟩:=J.out.gq
 obtain ⟨aE,aC,aB,aA⟩:=J.out.gg
 have bK:=J.out.gl
 have dC:=Nat.le_of_lt bK
 go_wp2_with fail
 clear dB dA dz dy Z Y V U aE aC aB aA bK dC
 refine (bc (cJ q c2 _ QL.out Ec2.out) J.out).mono ?_
 rintro e w2 ⟨rfl,h⟩
 have I:=hid h
 clear h J
 obtain ⟨an,al,ad,ab⟩:=I.out.gp
 obtain ⟨R,O,M,L⟩:=I.out.gq
 obtain ⟨az,ay,ax,ar⟩:=I.out.gg
 have f:=I.out.gl
 have ap:=Nat.le_of_lt f
 go_wp2_with fail
 clear an al ad ab R O M L az ay ax ar f ap
 refine (bc (r6in_any p q g g true _ PL.out QL.out GL.out VI.out) I.out).mono ?_
 rintro e w3 ⟨rfl,h⟩
 have G:=hid h
 clear h I
 obtain ⟨aQ,aN,aM,aL⟩:=G.out.gp
 obtain ⟨aK,aJ,aI,aG⟩:=G.out.gq
 obtain ⟨ba,aU,aT,aS⟩:=G.out.gg
 have ao:=G.out.gl
 have aR:=Nat.le_of_lt ao
 go_wp2
 exact bodyPost_ret (v:=.bool false) (by first | (simp [results,Tryz.results15,go_sem]; done) | (simp [results,Tryz.results15,go_sem]; omega)) rfl ⟨rfl,by first | exact G.out.1.1 | (rw [← D]; exact G.out.1.1)⟩
theorem r6fine_t (p q g:Nat) (w:World) (hp:p<2 ^ 256) (hq:q<2 ^ 256) (hg:g<2 ^ 256) (hv:1<p∧1<q∧((0<g∧g<p)∧g ^ q % p=1)∧g≠1):Calls Tryz.prog 15 #[gv p q g] w fun e w'=>e=.returned (.bool true)∧Below w.heap.size w w':=by
 obtain ⟨c1,F⟩:∃ z,aD p 1=z:=⟨_,rfl⟩
 have bd:0<c1:=by rw [← F]; unfold aD; split <;> (try split) <;> omega
 have Ec1:=hid F
 clear F
 obtain ⟨c2,E⟩:∃ z,aD q 1=z:=⟨_,rfl⟩
 have bb:0<c2:=by rw [← E]; unfold aD; split <;> (try split) <;> omega
 have Ec2:=hid E
 clear E
 have VI:=hid (show decide ((0<g∧g<p)∧g ^ q % p=1)=true from decide_eq_true hv.2.2.1)
 have qg:∀ w,(Op.equalIn 10000 24 (af g) (.agg #[.int .u64 1,.int .u64 0,.int .u64 0,.int .u64 0])).run Tryz.prog w=.ok false w:=by rw [num_one]; exact eq_no g 1 hg (by decide) hv.2.2.2
 have PL:=hid hp
 have QL:=hid hq
 have GL:=hid hg
 clear hp hq hg
 clear hv
 have K:=hid (((Eg.of (ae.refl w) p q g 26)).perm (l':=[]) (by simp))
 go_enter Tryz.func15,Tryz.ntmps15
 go_upto_region 1 with fail
 generalize w.alloc (.cells (aY p q g) 26)=w0 at *
 generalize D:w.heap.size=bk at *
 obtain ⟨bQ,bP,bO,bN⟩:=K.out.gp
 obtain ⟨cQ,cP,cO,cN⟩:=K.out.gq
 obtain ⟨cU,cT,cS,cR⟩:=K.out.gg
 have aW:=K.out.gl
 have bR:=Nat.le_of_lt aW
 go_wp2_with fail
 clear bQ bP bO bN cQ cP cO cN cU cT cS cR aW bR
 refine (bc (cJ p c1 _ PL.out Ec1.out) K.out).mono ?_
 rintro e w1 ⟨rfl,h⟩
 have J:=hid h
 clear h K
 obtain ⟨dB,dA,dz,dy⟩:=J.out.gp
 obtain ⟨Z,Y,V,U⟩:=J.out.gq
 obtain ⟨aE,aC,aB,aA⟩:=J.out.gg
 have bK:=J.out.gl
 have dC:=Nat.le_of_lt bK
 go_wp2_with fail
 clear dB dA dz dy Z Y V U aE aC aB aA bK dC
 refine (bc (cJ q c2 _ QL.out Ec2.out) J.out).mono ?_
 rintro e w2 ⟨rfl,h⟩
 have I:=hid h
 clear h J
 obtain ⟨an,al,ad,ab⟩:=I.out.gp
 obtain ⟨R,O,M,L⟩:=I.out.gq
 obtain ⟨az,ay,ax,ar⟩:=I.out.gg
 have f:=I.out.gl
 have ap:=Nat.le_of_lt f
 go_wp2_with fail
 clear an al ad ab R O M L az ay ax ar f ap
 refine (bc (r6in_any p q g g true _ PL.out QL.out GL.out VI.out) I.out).mono ?_
 rintro e w3 ⟨rfl,h⟩
 have G:=hid h
 clear h I
 obtain ⟨aQ,aN,aM,aL⟩:=G.out.gp
 obtain ⟨aK,aJ,aI,aG⟩:=G.out.gq
 obtain ⟨ba,aU,aT,aS⟩:=G.out.gg
 have ao:=G.out.gl
 have aR:=Nat.le_of_lt ao
 go_wp2
 exact bodyPost_ret (v:=.bool true) (by first | (simp [results,Tryz.results15,go_sem]; done) | (simp [results,Tryz.results15,go_sem]; omega)) rfl ⟨rfl,by first | exact G.out.1.1 | (rw [← D]; exact G.out.1.1)⟩
theorem dg (p q g:Nat) (v:Bool) (w:World) (D:p<2 ^ 256) (z:q<2 ^ 256) (E:g<2 ^ 256) (J:decide (1<q∧g≠1∧(0<g∧g<p)∧g ^ q % p=1)=v):Calls Tryz.prog 15 #[gv p q g] w fun e w'=>e=.returned (.bool v)∧Below w.heap.size w w':=by
 subst J
 by_cases G:1<p
 ·by_cases f:1<q
  ·by_cases F:(0<g∧g<p)∧g ^ q % p=1
   ·by_cases I:g=1
    ·rw [decide_eq_false (fun h=>h.2.1 I)]; exact r6fine_o p q g w D z E ⟨G,f,F,I⟩
    ·rw [decide_eq_true (show 1<q∧g≠1∧(0<g∧g<p)∧g ^ q % p=1 from ⟨f,I,F⟩)]; exact r6fine_t p q g w D z E ⟨G,f,F,I⟩
   ·rw [decide_eq_false (fun h=>F h.2.2)]; exact r6fine_n p q g w D z E ⟨G,f,F⟩
  ·rw [decide_eq_false (fun h=>f h.1)]; exact r6fine_q p q g w D z E ⟨G,f⟩
 ·rw [decide_eq_false (fun h=>by omega)]; exact r6fine_p p q g w D z E G
theorem r6mul_ok (p q g a b r:Nat) (e0:Int) (w:World) (hp:p<2 ^ 256) (ha:a<2 ^ 256) (hb:b<2 ^ 256) (va:0<a∧a<p) (vb:0<b∧b<p) (hD:∀ w,Calls Tryz.prog 24 #[af a,af b,af p] w fun x w'=>x=.returned (.tuple #[af r,.int .i64 e0])∧Below w.heap.size w w'):Calls Tryz.prog 31 #[gv p q g,af a,af b] w fun e w'=>e=.returned (.tuple #[af r,.int .i64 e0])∧Below w.heap.size w w':=by
 have VA:=hid (show decide (0<a∧a<p)=true from decide_eq_true va)
 have VB:=hid (show decide (0<b∧b<p)=true from decide_eq_true vb)
 have HD:=hid hD
 clear hD
 have PL:=hid hp
 have AL:=hid ha
 have BL:=hid hb
 clear hp ha hb
 clear va vb
 have K:=hid ((((((Eg.of (ae.refl w) p q g 26)).new a).new b).zero).perm (l':=[(w.heap.size+1+1+1,0),(w.heap.size+1+1,b),(w.heap.size+1,a)]) (by simp))
 have DZ:=hid (show w.heap.size≤w.heap.size+1+1+1∧w.heap.size≠w.heap.size+1+1+1 by omega)
 go_enter Tryz.func31,Tryz.ntmps31
 go_upto_region 1 with fail
 generalize (((w.alloc (.cells (aY p q g) 26)).alloc (.cells (ai a) 24)).alloc (.cells (ai b) 24)).alloc (.cells #[.int .u64 0,.int .u64 0,.int .u64 0,.int .u64 0] 24)=w0 at *
 generalize w.heap.size+1+1+1=f at *
 generalize w.heap.size+1+1=G at *
 generalize w.heap.size+1=I at *
 generalize aE:w.heap.size=bb at *
 obtain ⟨bQ,bP,bO,bN⟩:=K.out.gp
 obtain ⟨cQ,cP,cO,cN⟩:=K.out.gq
 obtain ⟨cU,cT,cS,cR⟩:=K.out.gg
 have aW:=K.out.gl
 have bR:=Nat.le_of_lt aW
 obtain ⟨cq,co,cn,ck⟩:=K.out.cell (I) (a) (by simp)
 have bk:=K.out.lt (I) (a) (by simp)
 have cj:=Nat.le_of_lt bk
 obtain ⟨ad,ab,Z,Y⟩:=K.out.cell (G) (b) (by simp)
 have D:=K.out.lt (G) (b) (by simp)
 have V:=Nat.le_of_lt D
 go_wp2_with fail
 clear bQ bP bO bN cQ cP cO cN cU cT cS cR aW bR cq co cn ck bk cj ad ab Z Y D V
 refine (bc (r6may_any p q g a true _ PL.out AL.out VA.out) K.out).mono ?_
 rintro e w1 ⟨rfl,h⟩
 have J:=hid h
 clear h K
 obtain ⟨dB,dA,dz,dy⟩:=J.out.gp
 obtain ⟨aK,aJ,aI,aG⟩:=J.out.gq
 obtain ⟨ba,aU,aT,aS⟩:=J.out.gg
 have bK:=J.out.gl
 have dC:=Nat.le_of_lt bK
 obtain ⟨ar,ap,ao,an⟩:=J.out.cell (I) (a) (by simp)
 have E:=J.out.lt (I) (a) (by simp)
 have al:=Nat.le_of_lt E
 obtain ⟨U,R,O,M⟩:=J.out.cell (G) (b) (by simp)
 have z:=J.out.lt (G) (b) (by simp)
 have L:=Nat.le_of_lt z
 go_wp2_with fail
 clear dB dA dz dy aK aJ aI aG ba aU aT aS bK dC ar ap ao an E al U R O M z L
 refine (bc (r6may_any p q g b true _ PL.out BL.out VB.out) J.out).mono ?_
 rintro e w2 ⟨rfl,h⟩
 have H2:=hid h
 clear h J
 obtain ⟨aQ,aN,aM,aL⟩:=H2.out.gp
 have aC:=H2.out.gl
 have aR:=Nat.le_of_lt aC
 obtain ⟨cZ,cY,cX,cW⟩:=H2.out.cell (I) (a) (by simp)
 have bG:=H2.out.lt (I) (a) (by simp)
 have cV:=Nat.le_of_lt bG
 obtain ⟨aB,aA,az,ay⟩:=H2.out.cell (G) (b) (by simp)
 have F:=H2.out.lt (G) (b) (by simp)
 have ax:=Nat.le_of_lt F
 go_wp2_with fail
 clear aQ aN aM aL aC aR cZ cY cX cW bG cV aB aA az ay F ax
 refine (bc (HD.out _) H2.out).mono ?_
 rintro e w3 ⟨rfl,h⟩
 have H3:=hid h
 clear h H2
 obtain ⟨z0,z1,z2,z3⟩:=H3.out.cell f 0 (by simp)
 have zl:=H3.out.lt f 0 (by simp)
 have zf:=H3.out.frozen f 0 (by simp)
 have HZ:=hid (H3.out.1.set f 0 (r) [] (by simp) (by rw [aE]; exact DZ.out.1) (by simp))
 go_wp2
 clear z0 z1 z2 z3 zl zf
 try rw [Exit.noGoto_ret]
 change bodyPost _ _ _ _ _ (fil w3 f (r))
 generalize fil w3 f (r)=wz at *
 obtain ⟨k0,k1,k2,k3⟩:=HZ.out.cell f (r) (by simp)
 exact bodyPost_ret (v:=.tuple #[af (r),.int .i64 e0]) (by simp [results,Tryz.results31,go_sem,k0,k1,k2,k3]) rfl ⟨rfl,HZ.out.1⟩
theorem r6exp_ok (p q g a n r:Nat) (e0:Int) (w:World) (hp:p<2 ^ 256) (ha:a<2 ^ 256) (va:0<a∧a<p) (hD:∀ w,Calls Tryz.prog 40 #[af a,af n,af p] w fun x w'=>x=.returned (.tuple #[af r,.int .i64 e0])∧Below w.heap.size w w'):Calls Tryz.prog 17 #[gv p q g,af a,af n] w fun e w'=>e=.returned (.tuple #[af r,.int .i64 e0])∧Below w.heap.size w w':=by
 have VA:=hid (show decide (0<a∧a<p)=true from decide_eq_true va)
 have HD:=hid hD
 clear hD
 have PL:=hid hp
 have AL:=hid ha
 clear hp ha
 clear va
 have D:=hid ((((((Eg.of (ae.refl w) p q g 26)).new a).new n).zero).perm (l':=[(w.heap.size+1+1+1,0),(w.heap.size+1+1,n),(w.heap.size+1,a)]) (by simp))
 have DZ:=hid (show w.heap.size≤w.heap.size+1+1+1∧w.heap.size≠w.heap.size+1+1+1 by omega)
 go_enter Tryz.func17,Tryz.ntmps17
 go_upto_region 1 with fail
 generalize (((w.alloc (.cells (aY p q g) 26)).alloc (.cells (ai a) 24)).alloc (.cells (ai n) 24)).alloc (.cells #[.int .u64 0,.int .u64 0,.int .u64 0,.int .u64 0] 24)=w0 at *
 generalize w.heap.size+1+1+1=f at *
 generalize w.heap.size+1+1=E at *
 generalize w.heap.size+1=F at *
 generalize Z:w.heap.size=ap at *
 obtain ⟨bQ,bP,bO,bN⟩:=D.out.gp
 obtain ⟨cQ,cP,cO,cN⟩:=D.out.gq
 obtain ⟨cU,cT,cS,cR⟩:=D.out.gg
 have aW:=D.out.gl
 have bR:=Nat.le_of_lt aW
 obtain ⟨cq,co,cn,ck⟩:=D.out.cell (F) (a) (by simp)
 have bk:=D.out.lt (F) (a) (by simp)
 have cj:=Nat.le_of_lt bk
 obtain ⟨L,K,J,I⟩:=D.out.cell (E) (n) (by simp)
 have z:=D.out.lt (E) (n) (by simp)
 have G:=Nat.le_of_lt z
 go_wp2_with fail
 clear bQ bP bO bN cQ cP cO cN cU cT cS cR aW bR cq co cn ck bk cj L K J I z G
 refine (bc (r6may_any p q g a true _ PL.out AL.out VA.out) D.out).mono ?_
 rintro e w1 ⟨rfl,h⟩
 have Y:=hid h
 clear h D
 obtain ⟨dB,dA,dz,dy⟩:=Y.out.gp
 have bK:=Y.out.gl
 have dC:=Nat.le_of_lt bK
 obtain ⟨ao,an,al,ad⟩:=Y.out.cell (F) (a) (by simp)
 have cv:=Y.out.lt (F) (a) (by simp)
 have ab:=Nat.le_of_lt cv
 obtain ⟨V,U,R,O⟩:=Y.out.cell (E) (n) (by simp)
 have da:=Y.out.lt (E) (n) (by simp)
 have M:=Nat.le_of_lt da
 go_wp2_with fail
 clear dB dA dz dy bK dC ao an al ad cv ab V U R O da M
 refine (bc (HD.out _) Y.out).mono ?_
 rintro e w2 ⟨rfl,h⟩
 have H2:=hid h
 clear h Y
 obtain ⟨z0,z1,z2,z3⟩:=H2.out.cell f 0 (by simp)
 have zl:=H2.out.lt f 0 (by simp)
 have zf:=H2.out.frozen f 0 (by simp)
 have HZ:=hid (H2.out.1.set f 0 (r) [] (by simp) (by rw [Z]; exact DZ.out.1) (by simp))
 go_wp2
 clear z0 z1 z2 z3 zl zf
 try rw [Exit.noGoto_ret]
 change bodyPost _ _ _ _ _ (fil w2 f (r))
 generalize fil w2 f (r)=wz at *
 obtain ⟨k0,k1,k2,k3⟩:=HZ.out.cell f (r) (by simp)
 exact bodyPost_ret (v:=.tuple #[af (r),.int .i64 e0]) (by simp [results,Tryz.results17,go_sem,k0,k1,k2,k3]) rfl ⟨rfl,HZ.out.1⟩
end
end Go.Proofs.YtmapkbdjnnionaaGreatDoor

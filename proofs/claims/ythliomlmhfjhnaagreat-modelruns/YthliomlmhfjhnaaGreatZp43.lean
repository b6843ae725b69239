/- Texts put together. -/
import Derived.Test.YthliomlmhfjhnaaGreatZp33
namespace Go.Proofs.YthliomlmhfjhnaaGreat
set_option maxRecDepth 20000
set_option maxHeartbeats 16000000
open Go.ChangeShapes Go.WideShapes Go.ChangeAt Go.RowKit
set_option linter.unusedVariables false
set_option linter.unusedSimpArgs false
theorem QfI (h v u t n:Int)(D DD XD UD VD ne ln nW cW:Nat)(xa:Addr)(ws:List Int)(e1:v*(D:Int)=(VD:Int))(e2:(D:Int)*(D:Int)=(DD:Int))(e3:(ne:Int)*(D:Int)=(XD:Int))(e4:u*(D:Int)=(UD:Int))(e5:(D:Int)*u=(UD:Int))(xlt:1<(ne:Int))(n1:ne≤4)
  (b0:D≤8) (b1:VD≤1000) (b2:DD≤1000) (b3:XD≤1000) (b4:UD≤1000) (l1:ln≤2) (w:World)
  (k10:∀ w,Calls Tryz.prog 36 #[.agg #[I4 (D:Int),I4 h,I4 (ln:Int),I4 v,I4 u,I4 (ne:Int),I4 t,I4 n]] w fun e w'=>e=.returned (.bool true)∧Bw w w')
  (k12:∀ w,Calls Tryz.prog 41 #[.agg #[I4 (D:Int),I4 h,I4 (ln:Int),I4 v,I4 u,I4 (ne:Int),I4 t,I4 n]] w fun e w'=>e=.returned (I4 (nW:Int))∧Bw w w')
  (rd:Reads .i8 w (some xa) nW ws) (hc:nW≤cW) (hn:nW≤100000) (hfit:offs (QaO ln ne D DD XD UD VD) (1+ln*pl ne+2)=nW) (hxa:xa.block<w.heap.size) :
  Calls Tryz.prog 39 #[.agg #[I4 (D:Int),I4 h,I4 (ln:Int),I4 v,I4 u,I4 (ne:Int),I4 t,I4 n],.slice (some xa) nW cW] w fun e w'=>∃ E L N O:SL,∃ Y U D',e=.returned (.tuple #[.agg #[I4 (D:Int),I4 h,I4 (ln:Int),I4 v,I4 u,I4 (ne:Int),I4 t,I4 n,E.w,L.w,N.w,O.w],I4 0]) ∧
   NewM w.heap.size w' E L N O Y U D' (Qar ln ne (seg (QaO ln ne D DD XD UD VD) ws))∧Bw w w':=by
 have cl:=fun i r hi hr=>Qbq (ln:=ln) (ne:=ne) (D:=D) (DD:=DD) (XD:=XD) (UD:=UD) (VD:=VD) i r hi hr
 have cu:=fun i j hi hj=>Qcy (ln:=ln) (ne:=ne) (D:=D) (DD:=DD) (XD:=XD) (UD:=UD) (VD:=VD) i j hi hj
 have cd:=fun i j hi hj=>Qbr (ln:=ln) (ne:=ne) (D:=D) (DD:=DD) (XD:=XD) (UD:=UD) (VD:=VD) i j hi hj
 have cn:=Qbp (ln:=ln) (ne:=ne) (D:=D) (DD:=DD) (XD:=XD) (UD:=UD) (VD:=VD)
 have co:=QbW (ln:=ln) (ne:=ne) (D:=D) (DD:=DD) (XD:=XD) (UD:=UD) (VD:=VD)
 have c0:QaO ln ne D DD XD UD VD 0=VD:=rfl
 obtain⟨cnt,ecnt⟩:∃ c,QaO ln ne D DD XD UD VD=c:=⟨_,rfl⟩
 rw[ecnt] at hfit cn co c0 ⊢
 simp only[ecnt] at cl cu cd
 clear ecnt
 have FIT:∀ k,k<1+ln*pl ne+2→offs cnt (k+1)≤nW:=fun k hk=>by rw[←hfit];exact QeN cnt hk
 have hb:=bNw (bNw (bS w) (.cells #[I4 (D:Int),I4 h,I4 (ln:Int),I4 v,I4 u,I4 (ne:Int),I4 t,I4 n] 23)) (.cells z12 27)
 have q0:Blk 23 ((w.alloc (.cells #[I4 (D:Int),I4 h,I4 (ln:Int),I4 v,I4 u,I4 (ne:Int),I4 t,I4 n] 23)).alloc (.cells z12 27)) w.heap.size #[I4 (D:Int),I4 h,I4 (ln:Int),I4 v,I4 u,I4 (ne:Int),I4 t,I4 n]:=(Blk.new 23 w _).kept (bNw bR _)
 have qr:Blk 27 ((w.alloc (.cells #[I4 (D:Int),I4 h,I4 (ln:Int),I4 v,I4 u,I4 (ne:Int),I4 t,I4 n] 23)).alloc (.cells z12 27)) (w.heap.size+1) z12:=Blk.new_at 27 (w.alloc _) _ _ (by simp)
 obtain⟨d0,d1,d2,d3,d4,d5,d6,d7⟩:=q0.cfg
 have HR:=hdn (And.intro rd (And.intro hc hfit))
 have HCN:=hdn (And.intro cl (And.intro cu (And.intro cd (And.intro cn (And.intro co (And.intro c0 FIT))))))
 clear rd hc hfit cl cu cd cn co c0 FIT
 go_enter Tryz.func39,Tryz.ntmps39
 go_wp2_with (first
  | (go_at_call 36;refine (k10 _).mono ?_;rintro e W1 ⟨rfl,h1⟩;replace q0:=q0.kept h1;replace qr:=qr.kept h1;replace hb:=bTn hb h1;clear h1 k10 d0 d1 d2 d3 d4 d5 d6 d7;obtain⟨d0,d1,d2,d3,d4,d5,d6,d7⟩:=q0.cfg)
  | (go_at_call 41;refine (k12 _).mono ?_;rintro e W2 ⟨rfl,h2⟩;replace q0:=q0.kept h2;replace qr:=qr.kept h2;replace hb:=bTn hb h2;obtain⟨A,eA⟩:∃ A,W2.alloc (.cells #[.slice (some xa) nW cW] 113)=A:=⟨_,rfl⟩;have bA:Bw W2 A:=eA ▸ bNw bR _;have zA:A.heap.size=W2.heap.size+1:=(by rw[←eA];simp);have qx:Blk 113 A W2.heap.size #[.slice (some xa) nW cW]:=eA ▸ Blk.new 113 W2 _;clear h2 k12 d0 d1 d2 d3 d4 d5 d6 d7;obtain⟨d0,d1,d2,d3,d4,d5,d6,d7⟩:=q0.cfg))
 have q0A:=q0.kept bA
 have qrA:=qr.kept bA
 have hs2:w.heap.size≤W2.heap.size:=hb.size
 have hrl:=qr.lt
 have hbA:=bTn hb bA
 clear d0 d1 d2 d3 d4 d5 d6 d7 q0 qr bA
 refine QdU (D:Int) h (ln:Int) v u (ne:Int) t n W2.heap.size w.heap.size xa.block nW ws cnt (by kernel_rfl) rfl ⟨_,rfl,rfl,rfl,rfl,by kernel_rfl⟩ ⟨_,rfl,rfl,rfl,rfl,by kernel_rfl⟩ ⟨_,rfl,rfl,rfl,rfl,by kernel_rfl⟩ ⟨_,rfl,rfl,rfl,rfl,by kernel_rfl⟩ ⟨_,rfl,rfl,rfl,rfl,by kernel_rfl⟩ ⟨_,rfl,rfl,rfl,rfl,by kernel_rfl⟩ ⟨_,rfl,rfl,rfl,rfl,by kernel_rfl⟩ ⟨_,rfl,rfl,rfl,rfl,by kernel_rfl⟩ ⟨_,rfl,rfl,rfl,rfl,by kernel_rfl⟩ ⟨_,rfl,rfl,rfl,rfl,by kernel_rfl⟩ (fun w=>by rw[HCN.out.2.2.2.2.2.1];go_simp;exact Qau (by omega) (by omega)) q0A rfl rfl rfl ⟨xa,cW,by simpa using qx,rfl,by simpa using HR.out.1.below hbA,by have:=HR.out.2.1;omega⟩ (by have:=HCN.out.2.2.2.2.2.2 0 (by omega);simpa [offs] using this) hn (by omega) (by omega) (by omega) (Nat.le_of_ble_eq_true rfl) ?_
 intro a W3 mb sE hs hd hkp v8 hmb qm tE hcut on3
 obtain⟨f,ef,ep⟩:=fPy [27,28,29,30,31,32,33,34,8] hs hd (fun s h'=>hkp s (QiV h'))
 simp only[ef] at v8
 simp only[List.foldl,v8,Act.put,List.setIfInBounds_toArray,List.set_cons_succ,List.set_cons_zero] at ep
 clear hs hd hkp v8 eA qx ef
 subst ep
 have INIT:Hid (ShI A W2.heap.size xa.block mb nW ws cnt ne (fun sE L=>#[I4 (D:Int),I4 h,I4 (ln:Int),I4 v,I4 u,I4 (ne:Int),I4 t,I4 n,sE.w,L.w,.slice none 0 0,.slice none 0 0]) sE (Qar ln ne (seg cnt ws)) 0 W3):=⟨on3,(by rw[Nat.zero_mul];exact hcut),tE,⟨none,0,0⟩,(fun _ _=>SL.nought),(fun _ _=>SL.nought),(fun _ _=>SL.nought),qm,TL.nil _ _ _ _ _ _⟩
 have HA:=hdn (And.intro hbA (And.intro q0A (And.intro qrA (And.intro hmb (And.intro zA (And.intro hs2 hrl))))))
 have K55:∀ (k:Nat) (z:Int) (W:World),k<1+ln*pl ne+2→(cnt k:Int)=z→QaH W W2.heap.size xa.block nW ws (offs cnt k)→Calls Tryz.prog 81 #[Pt W2.heap.size,I4 z] W fun e W'=>∃ s:SL,e=.returned (s.w)∧TS W.heap.size W' s (seg cnt ws k)∧QaH W' W2.heap.size xa.block nW ws (offs cnt (k+1))∧Only W2.heap.size W W':=fun k z W hk hz hcu=>by
  rw[←hz]
  exact Qc9 hcu (HCN.out.2.2.2.2.2.2 k hk) hn (by omega)
 clear hbA q0A qrA hmb zA on3 hcut tE qm hb
 go_wp2
 go_loopw [9,10,11] (fun i _ _ wr=>∃ k:Nat,k≤ln∧i=I4 k∧ShI A W2.heap.size xa.block mb nW ws cnt ne (fun sE L=>#[I4 (D:Int),I4 h,I4 (ln:Int),I4 v,I4 u,I4 (ne:Int),I4 t,I4 n,sE.w,L.w,.slice none 0 0,.slice none 0 0]) sE (Qar ln ne (seg cnt ws)) k wr) (fun i _ _ _=>ln-(intOf i).toNat)
 case atStart=>exact⟨0,Nat.zero_le _,rfl,INIT.out⟩
 case round =>
  obtain⟨k,hk,rfl,SH⟩:=hrel
  clear INIT
  obtain⟨WR,eWR⟩:∃ WR,WR=wr:=⟨_,rfl⟩
  subst eWR
  obtain⟨hbA,q0A,qrA,hmb,zA,hs2',hrl'⟩:=HA.out
  have sAW:=SH.only.size
  have q0R:=q0A.only SH.only (by omega)
  obtain⟨d0,d1,d2,d3,d4,d5,d6,d7⟩:=q0R.cfg
  by_cases hlt:k<ln
  ·have hlt':(k:Int)<(ln:Int):=by omega
   have hpl:(k+1)*pl ne≤ln*pl ne:=Nat.mul_le_mul_right _ (by omega)
   rw[Nat.add_mul,Nat.one_mul] at hpl
   have hpl2:pl ne=7+2*ne:=rfl
   have xlt1:W2.heap.size<WR.heap.size:=by omega
   have slt1:xa.block<WR.heap.size:=by omega
   have bA1:Bw WR (WR.alloc (.cells z9 65)):=bNw bR _
   have zA1:(WR.alloc (.cells z9 65)).heap.size=WR.heap.size+1:=by simp
   have hS0:LayS WR W2.heap.size xa.block WR.heap.size nW ws cnt (1+k*pl ne+0) z9 (WR.alloc (.cells z9 65)):=⟨Only.of_below bA1,SH.cut.below bA1,Blk.new 65 WR _⟩
   have HSH:=hdn SH
   have HQR:=hdn (And.intro q0R (And.intro zA1 (And.intro hpl hpl2)))
   have CC:Hid ((cnt (1+k*pl ne+0):Int)=(D:Int)∧(cnt (1+k*pl ne+1):Int)=(DD:Int)∧(cnt (1+k*pl ne+2):Int)=(DD:Int)∧(cnt (1+k*pl ne+3):Int)=(DD:Int)∧(cnt (1+k*pl ne+4):Int)=(DD:Int)∧(cnt (1+k*pl ne+5):Int)=(D:Int)∧(cnt (1+k*pl ne+6):Int)=(XD:Int)) :=
    ⟨by rw[HCN.out.1 k 0 hlt (by omega)];rfl,by rw[HCN.out.1 k 1 hlt (by omega)];rfl,by rw[HCN.out.1 k 2 hlt (by omega)];rfl,by rw[HCN.out.1 k 3 hlt (by omega)];rfl,by rw[HCN.out.1 k 4 hlt (by omega)];rfl,by rw[HCN.out.1 k 5 hlt (by omega)];rfl,by rw[HCN.out.1 k 6 hlt (by omega)];rfl⟩
   clear SH q0R q0A qrA hbA bA1 zA1 hmb zA hs2' hrl' hpl hpl2
   go_wp2_with (first
    | (go_at_call 81;refine (K55 (1+k*pl ne+0) (D:Int) _ (by have:=HQR.out.2.2;omega) CC.out.1 hS0.cut).mono ?_;rintro e Wc0 ⟨s0,rfl,ts0,hc0,on0⟩;obtain⟨V0,eV0,z0,o0,hS1,kp0,kq0⟩:=hS0.step nL xlt1 slt1 on0 hc0 0 rfl s0 (cs':=#[s0.w,.slice none 0 0,.slice none 0 0,.slice none 0 0,.slice none 0 0,.slice none 0 0,.slice none 0 0,.slice none 0 0,.slice none 0 0]) rfl;have t0:TS WR.heap.size V0 s0 (seg cnt ws (1+k*pl ne+0)):=(ts0.step kq0).le (by have:=HQR.out.2.1;omega); clear hS0 ts0 hc0 on0 d0 d1 d2 d3 d4 d5 d6 d7)
    | (go_at_call 81;refine (K55 (1+k*pl ne+1) (DD:Int) _ (by have:=HQR.out.2.2;omega) CC.out.2.1 hS1.cut).mono ?_;rintro e Wc1 ⟨s1,rfl,ts1,hc1,on1⟩;obtain⟨V1,eV1,z1,o1,hS2,kp1,kq1⟩:=hS1.step nL xlt1 slt1 on1 hc1 1 rfl s1 (cs':=#[s0.w,s1.w,.slice none 0 0,.slice none 0 0,.slice none 0 0,.slice none 0 0,.slice none 0 0,.slice none 0 0,.slice none 0 0]) rfl;have t1:TS WR.heap.size V1 s1 (seg cnt ws (1+k*pl ne+1)):=(ts1.step kq1).le hS1.only.size;replace t0:=t0.step kp1;clear hS1 ts1 hc1 on1 eV0 z0 o0 kp0 kq0)
    | (go_at_call 81;refine (K55 (1+k*pl ne+2) (DD:Int) _ (by have:=HQR.out.2.2;omega) CC.out.2.2.1 hS2.cut).mono ?_;rintro e Wc2 ⟨s2,rfl,ts2,hc2,on2⟩;obtain⟨V2,eV2,z2,o2,hS3,kp2,kq2⟩:=hS2.step nL xlt1 slt1 on2 hc2 2 rfl s2 (cs':=#[s0.w,s1.w,s2.w,.slice none 0 0,.slice none 0 0,.slice none 0 0,.slice none 0 0,.slice none 0 0,.slice none 0 0]) rfl;have t2:TS WR.heap.size V2 s2 (seg cnt ws (1+k*pl ne+2)):=(ts2.step kq2).le hS2.only.size;replace t0:=t0.step kp2;replace t1:=t1.step kp2;clear hS2 ts2 hc2 on2 eV1 z1 o1 kp1 kq1)
    | (go_at_call 81;refine (K55 (1+k*pl ne+3) (DD:Int) _ (by have:=HQR.out.2.2;omega) CC.out.2.2.2.1 hS3.cut).mono ?_;rintro e Wc3 ⟨s3,rfl,ts3,hc3,on3⟩;obtain⟨V3,eV3,z3,o3,hS4,kp3,kq3⟩:=hS3.step nL xlt1 slt1 on3 hc3 3 rfl s3 (cs':=#[s0.w,s1.w,s2.w,s3.w,.slice none 0 0,.slice none 0 0,.slice none 0 0,.slice none 0 0,.slice none 0 0]) rfl;have t3:TS WR.heap.size V3 s3 (seg cnt ws (1+k*pl ne+3)):=(ts3.step kq3).le hS3.only.size;replace t0:=t0.step kp3;replace t1:=t1.step kp3;replace t2:=t2.step kp3;clear hS3 ts3 hc3 on3 eV2 z2 o2 kp2 kq2)
    | (go_at_call 81;refine (K55 (1+k*pl ne+4) (DD:Int) _ (by have:=HQR.out.2.2;omega) CC.out.2.2.2.2.1 hS4.cut).mono ?_;rintro e Wc4 ⟨s4,rfl,ts4,hc4,on4⟩;obtain⟨V4,eV4,z4,o4,hS5,kp4,kq4⟩:=hS4.step nL xlt1 slt1 on4 hc4 4 rfl s4 (cs':=#[s0.w,s1.w,s2.w,s3.w,s4.w,.slice none 0 0,.slice none 0 0,.slice none 0 0,.slice none 0 0]) rfl;have t4:TS WR.heap.size V4 s4 (seg cnt ws (1+k*pl ne+4)):=(ts4.step kq4).le hS4.only.size;replace t0:=t0.step kp4;replace t1:=t1.step kp4;replace t2:=t2.step kp4;replace t3:=t3.step kp4;clear hS4 ts4 hc4 on4 eV3 z3 o3 kp3 kq3)
    | (go_at_call 81;refine (K55 (1+k*pl ne+5) (D:Int) _ (by have:=HQR.out.2.2;omega) CC.out.2.2.2.2.2.1 hS5.cut).mono ?_;rintro e Wc5 ⟨s5,rfl,ts5,hc5,on5⟩;obtain⟨V5,eV5,z5,o5,hS6,kp5,kq5⟩:=hS5.step nL xlt1 slt1 on5 hc5 5 rfl s5 (cs':=#[s0.w,s1.w,s2.w,s3.w,s4.w,s5.w,.slice none 0 0,.slice none 0 0,.slice none 0 0]) rfl;have t5:TS WR.heap.size V5 s5 (seg cnt ws (1+k*pl ne+5)):=(ts5.step kq5).le hS5.only.size;replace t0:=t0.step kp5;replace t1:=t1.step kp5;replace t2:=t2.step kp5;replace t3:=t3.step kp5;replace t4:=t4.step kp5;clear hS5 ts5 hc5 on5 eV4 z4 o4 kp4 kq4;obtain⟨d0,d1,d2,d3,d4,d5,d6,d7⟩:=(HQR.out.1.only hS6.only (by omega)).cfg)
    | (go_at_call 81;refine (K55 (1+k*pl ne+6) (XD:Int) _ (by have:=HQR.out.2.2;omega) CC.out.2.2.2.2.2.2 hS6.cut).mono ?_;rintro e Wc6 ⟨s6,rfl,ts6,hc6,on6⟩;obtain⟨V6,eV6,z6,o6,hS7,kp6,kq6⟩:=hS6.step nL xlt1 slt1 on6 hc6 6 rfl s6 (cs':=#[s0.w,s1.w,s2.w,s3.w,s4.w,s5.w,s6.w,.slice none 0 0,.slice none 0 0]) rfl;have t6:TS WR.heap.size V6 s6 (seg cnt ws (1+k*pl ne+6)):=(ts6.step kq6).le hS6.only.size;replace t0:=t0.step kp6;replace t1:=t1.step kp6;replace t2:=t2.step kp6;replace t3:=t3.step kp6;replace t4:=t4.step kp6;replace t5:=t5.step kp6;clear hS6 ts6 hc6 on6 eV5 z5 o5 kp5 kq5))
   clear z6 o6 eV6 kp6 kq6 d0 d1 d2 d3 d4 d5 d6 d7
   have NI0:Hid (NetI WR V6 W2.heap.size xa.block WR.heap.size nW ws cnt (1+k*pl ne+7) (fun uu dd=>#[s0.w,s1.w,s2.w,s3.w,s4.w,s5.w,s6.w,uu.w,dd.w]) ((Qar ln ne (seg cnt ws)).u k) ((Qar ln ne (seg cnt ws)).d k) 0 V6):=⟨hS7.only,hS7.cut,⟨⟨none,0,0⟩,⟨none,0,0⟩,(fun _=>SL.nought),(fun _=>SL.nought),hS7.blk,TG.nil _ _ _ _,TG.nil _ _ _ _,(fun g hg=>by cases hg)⟩,Keeps.refl _ _,Nat.le_refl _⟩
   have HT:=hdn (And.intro t0 (And.intro t1 (And.intro t2 (And.intro t3 (And.intro t4 (And.intro t5 t6))))))
   clear t0 t1 t2 t3 t4 t5 t6 hS7
   go_loopw [11] (fun j wr=>∃ q:Nat,q≤ne∧j=I4 q∧NetI WR V6 W2.heap.size xa.block WR.heap.size nW ws cnt (1+k*pl ne+7) (fun uu dd=>#[s0.w,s1.w,s2.w,s3.w,s4.w,s5.w,s6.w,uu.w,dd.w]) ((Qar ln ne (seg cnt ws)).u k) ((Qar ln ne (seg cnt ws)).d k) q wr) (fun j _=>ne-(intOf j).toNat)
   case atStart=>exact⟨0,Nat.zero_le _,rfl,NI0.out⟩
   case round =>
    obtain⟨q,hq,rfl,NI⟩:=hrel
    clear NI0
    have q0q:=HQR.out.1.only NI.only (by omega)
    obtain⟨d0,d1,d2,d3,d4,d5,d6,d7⟩:=q0q.cfg
    by_cases hl2:q<ne
    ·have hz3:(q:Int)<(ne:Int):=by omega
     obtain⟨uu,dd,RU,RD,qlb,tU,tD,hap⟩:=NI.nets
     have HNI:=hdn NI
     have hsz:=NI.only.size
     clear NI q0q
     go_wp2
     refine QeO (D:Int) h (ln:Int) v u (ne:Int) t n 88 7 W2.heap.size w.heap.size xa.block WR.heap.size nW (1+k*pl ne+7+2*q) q WR.heap.size ws cnt _ uu.a uu.n uu.c RU ((Qar ln ne (seg cnt ws)).u k) WR (by kernel_rfl) rfl ⟨_,rfl,rfl,rfl,rfl,by kernel_rfl⟩ ⟨_,rfl,rfl,rfl,rfl,by kernel_rfl⟩ ⟨_,rfl,rfl,rfl,rfl,by kernel_rfl⟩ ⟨_,rfl,rfl,rfl,rfl,by kernel_rfl⟩ ⟨_,rfl,rfl,rfl,rfl,by kernel_rfl⟩ ⟨_,rfl,rfl,rfl,rfl,by kernel_rfl⟩ ⟨_,rfl,rfl,rfl,rfl,by kernel_rfl⟩ ⟨_,rfl,rfl,rfl,rfl,by kernel_rfl⟩ ⟨_,rfl,rfl,rfl,rfl,by kernel_rfl⟩ ⟨_,rfl,rfl,rfl,rfl,by kernel_rfl⟩ ⟨_,rfl,rfl,rfl,rfl,by kernel_rfl⟩ ⟨_,rfl,rfl,rfl,rfl,by kernel_rfl⟩ (fun w=>by rw[HCN.out.2.1 k q hlt hl2];go_simp;exact Qau (by omega) (by omega)) (by decide) (Nat.le_of_ble_eq_true rfl) (by decide) HQR.out.1 rfl rfl rfl rfl HNI.out.only HNI.out.cut (HCN.out.2.2.2.2.2.2 _ (by have:=HQR.out.2.2;omega)) hn (by omega) (by omega) xlt1 slt1 nL nL hsz qlb rfl tU rfl (by omega) ?_
     intro a X1 vU SU hs hd hkp onX cutX blkX tgX obX k46X kbX szX
     obtain⟨f,ef,ep⟩:=fPy [88,89,90,91,92,93,94,95,96,97,98] hs hd (fun s h'=>hkp s (by simp at h';omega))
     simp only[List.foldl,Act.put,List.setIfInBounds_toArray,List.set_cons_succ,List.set_cons_zero] at ep
     clear hs hd hkp d0 d1 d2 d3 d4 d5 d6 d7 ef
     subst ep
     obtain⟨ua,un,uc,euv⟩:=tgX.slice
     subst euv
     have tDX:=tD.but kbX (fun g hg hu=>hap g hu hg) k46X
     go_wp2
     refine QeP (D:Int) h (ln:Int) v u (ne:Int) t n 99 8 W2.heap.size w.heap.size xa.block WR.heap.size nW (1+k*pl ne+7+2*q+1) q WR.heap.size ws cnt _ dd.a dd.n dd.c RD ((Qar ln ne (seg cnt ws)).d k) WR (by kernel_rfl) rfl ⟨_,rfl,rfl,rfl,rfl,by kernel_rfl⟩ ⟨_,rfl,rfl,rfl,rfl,by kernel_rfl⟩ ⟨_,rfl,rfl,rfl,rfl,by kernel_rfl⟩ ⟨_,rfl,rfl,rfl,rfl,by kernel_rfl⟩ ⟨_,rfl,rfl,rfl,rfl,by kernel_rfl⟩ ⟨_,rfl,rfl,rfl,rfl,by kernel_rfl⟩ ⟨_,rfl,rfl,rfl,rfl,by kernel_rfl⟩ ⟨_,rfl,rfl,rfl,rfl,by kernel_rfl⟩ ⟨_,rfl,rfl,rfl,rfl,by kernel_rfl⟩ ⟨_,rfl,rfl,rfl,rfl,by kernel_rfl⟩ ⟨_,rfl,rfl,rfl,rfl,by kernel_rfl⟩ ⟨_,rfl,rfl,rfl,rfl,by kernel_rfl⟩ (fun w=>by rw[HCN.out.2.2.1 k q hlt hl2];go_simp;exact Qau (by omega) (by omega)) (by decide) (Nat.le_of_ble_eq_true rfl) (by decide) HQR.out.1 rfl rfl rfl rfl onX cutX (HCN.out.2.2.2.2.2.2 _ (by have:=HQR.out.2.2;omega)) hn (by omega) (by omega) xlt1 slt1 nL nL (Nat.le_trans hsz szX) blkX rfl tDX rfl (by omega) ?_
     intro a X2 vD SD hs hd hkp onY cutY blkY tgY obY k46Y kbY szY
     obtain⟨f,ef,ep⟩:=fPy [99,100,101,102,103,104,105,106,107,108,109] hs hd (fun s h'=>hkp s (by simp at h';omega))
     simp only[List.foldl,Act.put,List.setIfInBounds_toArray,List.set_cons_succ,List.set_cons_zero] at ep
     clear hs hd hkp ef
     subst ep
     obtain⟨da,dn,dc,edv⟩:=tgY.slice
     subst edv
     have hap2:=Qec hap tD tgX obX obY
     have tUY:=tgX.but kbY (fun g hg hd'=>Qec hap tD tgX obX (.inl rfl) g hg hd') k46Y
     have NX:Hid (NetI WR V6 W2.heap.size xa.block WR.heap.size nW ws cnt (1+k*pl ne+7) (fun uu dd=>#[s0.w,s1.w,s2.w,s3.w,s4.w,s5.w,s6.w,uu.w,dd.w]) ((Qar ln ne (seg cnt ws)).u k) ((Qar ln ne (seg cnt ws)).d k) (q+1) X2):=⟨onY,(by rw[show 1+k*pl ne+7+2*(q+1)=1+k*pl ne+7+2*q+1+1 by omega];exact cutY),⟨⟨ua,un,uc⟩,⟨da,dn,dc⟩,_,_,blkY,tUY,tgY,hap2⟩,(HNI.out.k46.trans k46X).trans k46Y,Nat.le_trans (Nat.le_trans HNI.out.size szX) szY⟩
     clear onY cutY blkY tgY obY k46Y kbY szY onX cutX blkX tgX obX k46X kbX szX tDX tU tD hap hap2 tUY HNI qlb
     go_wp2
     go_roundw
     case rel=>exact⟨q+1,by omega,by go_num,NX.out⟩
     case measure=>simp[intOf];omega
    ·have hz3:¬(q:Int)<(ne:Int):=by omega
     have hz4:decide ((q:Int)<(ne:Int))=false:=by simp;omega
     obtain rfl:ne=q:=by omega
     obtain⟨uu,dd,RU,RD,qlb,tU,tD,hap⟩:=NI.nets
     obtain⟨Y,eY⟩:∃ Y,wr=Y:=⟨_,rfl⟩
     subst eY
     have kWR:∀ t,t≠113→Keeps t WR wr:=fun t ht=>HSH.out.cut.keeps NI.only ht
     obtain⟨t0,t1,t2,t3,t4,t5,t6⟩:=HT.out
     obtain⟨L,YL,UL,DL,qmb,tL⟩:=HSH.out.mod
     have qmy:=(kWR 27 (by decide)).blk qmb
     have tLy:=tL.step (kWR 65 (by decide)) (kWR 73 (by decide)) (kWR 24 (by decide))
     have tEy:=HSH.out.te.step (kWR 73 (by decide))
     obtain⟨A3,eA3⟩:∃ A3,wr.alloc (.cells #[s0.w,s1.w,s2.w,s3.w,s4.w,s5.w,s6.w,uu.w,dd.w] 65)=A3:=⟨_,rfl⟩
     have bA3:Bw wr A3:=eA3 ▸ bNw bR _
     have gA3:Blk 65 A3 wr.heap.size ((List.range 9).map fun r=>(nine s0 s1 s2 s3 s4 s5 s6 uu dd r).v).toArray:=eA3 ▸ Blk.new 65 wr _
     have sW:=NI.only.size
     have K46:Keeps 73 V6 A3:=NI.k46.trans (Keeps.of_below bA3)
     have sAW2:=HSH.out.only.size
     have hY:TY A.heap.size A3 (nine s0 s1 s2 s3 s4 s5 s6 uu dd) RU RD ((Qar ln ne (seg cnt ws)).f k) ((Qar ln ne (seg cnt ws)).un k) ((Qar ln ne (seg cnt ws)).dn k) ((Qar ln ne (seg cnt ws)).u k) ((Qar ln ne (seg cnt ws)).d k):=⟨fun j hj=>by
      rcases l7 (show j<7 by omega) with rfl|rfl|rfl|rfl|rfl|rfl|rfl
      ·exact (t0.step K46).le sAW2
      ·exact (t1.step K46).le sAW2
      ·exact (t2.step K46).le sAW2
      ·exact (t3.step K46).le sAW2
      ·exact (t4.step K46).le sAW2
      ·exact (t5.step K46).le sAW2
      ·exact (t6.step K46).le sAW2,(tU.below (B':=0) bA3).le sAW2,(tD.below (B':=0) bA3).le sAW2⟩
     have c0:=qlb.cell 0 rfl
     have c1:=qlb.cell 1 rfl
     have c2:=qlb.cell 2 rfl
     have c3:=qlb.cell 3 rfl
     have c4:=qlb.cell 4 rfl
     have c5:=qlb.cell 5 rfl
     have c6:=qlb.cell 6 rfl
     have c7:=qlb.cell 7 rfl
     have c8:=qlb.cell 8 rfl
     have c9:=qmy.cell 9 rfl
     have tL3:=tLy.below bA3
     have tE3:=tEy.below bA3
     have qm3:=qmy.kept bA3
     have on3':Only W2.heap.size A A3:=(HSH.out.only.trans NI.only).trans (Only.of_below bA3)
     have cut3:=NI.cut.below bA3
     have hmb':=HA.out.2.2.2.1
     have zA':=HA.out.2.2.2.2.1
     clear NI q0q kWR t0 t1 t2 t3 t4 t5 t6 qmb tL qmy tLy tEy K46 tU tD hap qlb bA3
     go_wp2_with (first
      | (at_builtin;refine QcZ rfl (.tmp 111) (.tmp 113) rfl A.heap.size k _ YL UL DL (Qar ln ne (seg cnt ws)) _ RU RD wr.heap.size 1 rfl rfl tL3 gA3 hY (by omega) on3'.size ?_;intro v' w6 hg6 hob6 k29 k46 tL6;obtain⟨Ls,eLs⟩:=tL6.slice;subst eLs;have qm6:=k29.blk qm3;obtain⟨V9,eV9,z9,o9,q9,on9,k9⟩:=QjG qm6 9 Ls (cs':=#[I4 (D:Int),I4 h,I4 (ln:Int),I4 v,I4 u,I4 (ne:Int),I4 t,I4 n,sE.w,Ls.w,.slice none 0 0,.slice none 0 0]) rfl rfl;have NS:Hid (ShI A W2.heap.size xa.block mb nW ws cnt ne (fun sE L=>#[I4 (D:Int),I4 h,I4 (ln:Int),I4 v,I4 u,I4 (ne:Int),I4 t,I4 n,sE.w,L.w,.slice none 0 0,.slice none 0 0]) sE (Qar ln ne (seg cnt ws)) (k+1) V9):=⟨(on3'.grown hg6 hob6).new hmb' on9,(by rw[show 1+(k+1)*pl ne=1+k*pl ne+7+2*ne by rw[Nat.add_mul];show _=1+k*(7+2*ne)+7+2*ne;show 1+(k*(7+2*ne)+1*(7+2*ne))=_;omega];exact (cut3.grown hg6 (fun e=>by have:=hob6 _ e;omega) (fun e=>by have:=hob6 _ e;omega)).only on9 (by omega) (by omega)),(tE3.step k46).step (k9 73 (by decide)),⟨Ls,_,_,_,q9,tL6.step (k9 65 (by decide)) (k9 73 (by decide)) (k9 24 (by decide))⟩⟩;clear hg6 hob6 k29 k46 tL6 qm6 q9 on9 k9 tL3 gA3 hY tE3 qm3 on3' cut3)
      )
     go_roundw
     case rel=>exact⟨k+1,by omega,by go_num,NS.out⟩
     case measure=>simp[intOf];omega
  ·have hge:¬(k:Int)<(ln:Int):=by omega
   have hge':decide ((k:Int)<(ln:Int))=false:=by simp;omega
   have ekl:k=ln:=by omega
   obtain⟨L,YL,UL,DL,qmb,tL⟩:=SH.mod
   have tE:=SH.te
   have onA:=SH.only
   have hcN:QaH WR W2.heap.size xa.block nW ws (offs cnt (1+ln*pl ne)):=by rw[←ekl];exact SH.cut
   have tL':TL A.heap.size WR (L.w) ln YL UL DL (Qar ln ne (seg cnt ws)):=by have h':=tL;rw[show k=ln from ekl] at h';exact h'
   have hqr:=HA.out.2.2.1
   have hbA':=HA.out.1
   have hmb':=HA.out.2.2.2.1
   have hsz7:=HA.out.2.2.2.2
   have EK:=hdn ekl
   clear SH tL ekl hbA q0A qrA hmb zA hs2' hrl'
   go_wp2_with (first
    | (go_at_call 81;refine (K55 (1+ln*pl ne) (D:Int) _ (by omega) (by rw[HCN.out.2.2.2.1]) hcN).mono ?_;rintro e X1 ⟨sN,rfl,tN,hcO,on1⟩;have kx:∀ t,t≠113→Keeps t WR X1:=fun t ht=>hcN.keeps on1 ht;obtain⟨X2,eX2,z10,o10,q2,on2,k2⟩:=QjG ((kx 27 (by decide)).blk qmb) 10 sN (cs':=#[I4 (D:Int),I4 h,I4 (ln:Int),I4 v,I4 u,I4 (ne:Int),I4 t,I4 n,sE.w,L.w,sN.w,.slice none 0 0]) rfl rfl;have k12:∀ t,t≠113→t≠27→Keeps t WR X2:=fun t h1 h2=>(kx t h1).trans (k2 t h2);have onX2:Only W2.heap.size A X2:=(onA.trans on1).new hmb' on2;replace tE:=tE.step (k12 73 (by decide) (by decide));replace tN:=(tN.le onA.size).step (k2 73 (by decide));replace tL':=tL'.step (k12 65 (by decide) (by decide)) (k12 73 (by decide) (by decide)) (k12 24 (by decide) (by decide));replace hcO:=hcO.only on2 (by have:=hsz7.1;omega) (by have:=hsz7.1;omega);clear hcN on1 kx on2 k2 k12 qmb d0 d1 d2 d3 d4 d5 d6 d7;obtain⟨d0,d1,d2,d3,d4,d5,d6,d7⟩:=(HA.out.2.1.only onX2 (by omega)).cfg)
    | (go_at_call 81;refine (K55 (1+ln*pl ne+1) (VD:Int) _ (by omega) (by rw[HCN.out.2.2.2.2.1]) hcO).mono ?_;rintro e X3 ⟨sO,rfl,tO,hcX,on3⟩;have kx:∀ t,t≠113→Keeps t X2 X3:=fun t ht=>hcO.keeps on3 ht;obtain⟨X4,eX4,z11,o11,q4,on4,k4⟩:=QjG ((kx 27 (by decide)).blk q2) 11 sO (cs':=#[I4 (D:Int),I4 h,I4 (ln:Int),I4 v,I4 u,I4 (ne:Int),I4 t,I4 n,sE.w,L.w,sN.w,sO.w]) rfl rfl;have k34:∀ t,t≠113→t≠27→Keeps t X2 X4:=fun t h1 h2=>(kx t h1).trans (k4 t h2);have onX4:Only W2.heap.size A X4:=(onX2.trans on3).new hmb' on4;replace tE:=tE.step (k34 73 (by decide) (by decide));replace tN:=tN.step (k34 73 (by decide) (by decide));replace tO:=(tO.le onX2.size).step (k4 73 (by decide));replace tL':=tL'.step (k34 65 (by decide) (by decide)) (k34 73 (by decide) (by decide)) (k34 24 (by decide) (by decide));have qr4:=hqr.only onX4 (by have:=hsz7;omega);clear hcO on3 kx on4 k4 k34 q2 onX2 hcX d0 d1 d2 d3 d4 d5 d6 d7 z10 o10 eX2;obtain⟨a0,a1,a2,a3,a4,a5,a6,a7,a8,a9,a10,a11⟩:=q4.c12;obtain⟨r0,r1,r2,r3,r4,r5,r6,r7,r8,r9,r10,r11⟩:=qr4.c12;obtain⟨f0,f1,f2,f3,f4,f5,f6,f7,f8,f9,f10,f11⟩:=qr4.o12))
   obtain⟨W6,eW6,q6,only6,hz6⟩:=Qe8 qr4 (I4 (D:Int)) (I4 h) (I4 (ln:Int)) (I4 v) (I4 u) (I4 (ne:Int)) (I4 t) (I4 n) (sE.w) (L.w) (sN.w) (sO.w)
   rw[eW6]
   have K6:∀ t,t≠27→Keeps t X4 W6:=fun t ht=>Keeps.of_only only6 qr4 ht
   have hle:w.heap.size≤A.heap.size:=by omega
   have tL6:TL w.heap.size W6 (L.w) (Qar ln ne (seg cnt ws)).ln YL UL DL (Qar ln ne (seg cnt ws)):=(tL'.step (K6 65 (by decide)) (K6 73 (by decide)) (K6 24 (by decide))).le hle
   obtain⟨L2,eL2,hN⟩:=tL6.new (E:=sE) (N:=sN) (O:=sO) ((tE.step (K6 73 (by decide))).le hle) ((tN.step (K6 73 (by decide))).le hle) ((tO.step (K6 73 (by decide))).le hle)
   obtain rfl:L=L2:=SL.v_inj eL2
   have bX4:Bw w X4:=Only.below hbA' (by omega) hbA'.size onX4
   have bW6:Bw w W6:=Only.below bX4 (by omega) bX4.size only6
   refine bodyPost_ret (v:=.tuple #[.agg #[I4 (D:Int),I4 h,I4 (ln:Int),I4 v,I4 u,I4 (ne:Int),I4 t,I4 n,sE.w,L.w,sN.w,sO.w],I4 0]) ?_ rfl ⟨sE,L,sN,sO,YL,UL,DL,rfl,hN,bW6⟩
   obtain⟨y0,y1,y2,y3,y4,y5,y6,y7,y8,y9,y10,y11⟩:=q6.c12
   simp[results,Tryz.results39,go_sem,y0,y1,y2,y3,y4,y5,y6,y7,y8,y9,y10,y11]
end Go.Proofs.YthliomlmhfjhnaaGreat

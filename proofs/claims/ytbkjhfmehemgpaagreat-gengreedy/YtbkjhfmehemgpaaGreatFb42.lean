/- Texts put together. -/
import Derived.Test.YtbkjhfmehemgpaaGreatFb36
namespace Go.Proofs.YtbkjhfmehemgpaaGreat
set_option maxRecDepth 20000
set_option maxHeartbeats 16000000
open Go.ChangeShapes Go.WideShapes Go.ChangeAt Go.RowKit
set_option linter.unusedVariables false
set_option linter.unusedSimpArgs false
theorem refShape_many (h v u t n:Int)(D DD XD UD VD ne ln nW cW:Nat)(xa:Addr)(ws:List Int)(e1:v*(D:Int)=(VD:Int))(e2:(D:Int)*(D:Int)=(DD:Int))(e3:(ne:Int)*(D:Int)=(XD:Int))(e4:u*(D:Int)=(UD:Int))(e5:(D:Int)*u=(UD:Int))(xlt:1<(ne:Int))(n1:ne≤4)
  (b0:D≤8) (b1:VD≤1000) (b2:DD≤1000) (b3:XD≤1000) (b4:UD≤1000) (l1:ln≤2) (w:World)
  (k10:∀ w,Calls Tryz.prog 46 #[.agg #[.int .i64 (D:Int),.int .i64 h,.int .i64 (ln:Int),.int .i64 v,.int .i64 u,.int .i64 (ne:Int),.int .i64 t,.int .i64 n]] w fun e w'=>e=.returned (.bool true)∧Below w.heap.size w w')
  (k12:∀ w,Calls Tryz.prog 37 #[.agg #[.int .i64 (D:Int),.int .i64 h,.int .i64 (ln:Int),.int .i64 v,.int .i64 u,.int .i64 (ne:Int),.int .i64 t,.int .i64 n]] w fun e w'=>e=.returned (.int .i64 (nW:Int))∧Below w.heap.size w w')
  (rd:Reads .i8 w (some xa) nW ws) (hc:nW≤cW) (hn:nW≤100000) (hfit:offs (planC ln ne D DD XD UD VD) (1+ln*pl ne+2)=nW) (hxa:xa.block<w.heap.size) :
  Calls Tryz.prog 33 #[.agg #[.int .i64 (D:Int),.int .i64 h,.int .i64 (ln:Int),.int .i64 v,.int .i64 u,.int .i64 (ne:Int),.int .i64 t,.int .i64 n],.slice (some xa) nW cW] w fun e w'=>∃ E L N O:SL,∃ Y U D',e=.returned (.tuple #[.agg #[.int .i64 (D:Int),.int .i64 h,.int .i64 (ln:Int),.int .i64 v,.int .i64 u,.int .i64 (ne:Int),.int .i64 t,.int .i64 n,.slice E.a E.n E.c,.slice L.a L.n L.c,.slice N.a N.n N.c,.slice O.a O.n O.c],.int .i64 0]) ∧
   NewM w.heap.size w' E L N O Y U D' (ofSeq ln ne (seg (planC ln ne D DD XD UD VD) ws))∧Below w.heap.size w w':=by
 have cl:=fun i r hi hr=>planC_list (ln:=ln) (ne:=ne) (D:=D) (DD:=DD) (XD:=XD) (UD:=UD) (VD:=VD) i r hi hr
 have cu:=fun i j hi hj=>planC_up (ln:=ln) (ne:=ne) (D:=D) (DD:=DD) (XD:=XD) (UD:=UD) (VD:=VD) i j hi hj
 have cd:=fun i j hi hj=>planC_down (ln:=ln) (ne:=ne) (D:=D) (DD:=DD) (XD:=XD) (UD:=UD) (VD:=VD) i j hi hj
 have cn:=planC_norm (ln:=ln) (ne:=ne) (D:=D) (DD:=DD) (XD:=XD) (UD:=UD) (VD:=VD)
 have co:=planC_out (ln:=ln) (ne:=ne) (D:=D) (DD:=DD) (XD:=XD) (UD:=UD) (VD:=VD)
 have c0:planC ln ne D DD XD UD VD 0=VD:=rfl
 obtain⟨cnt,ecnt⟩:∃ c,planC ln ne D DD XD UD VD=c:=⟨_,rfl⟩
 rw[ecnt] at hfit cn co c0 ⊢
 simp only[ecnt] at cl cu cd
 clear ecnt
 have FIT:∀ k,k<1+ln*pl ne+2→offs cnt (k+1)≤nW:=fun k hk=>by rw[←hfit];exact offs_mono cnt hk
 have hb:=bNw (bNw (Below.refl w.heap.size w) (.cells #[.int .i64 (D:Int),.int .i64 h,.int .i64 (ln:Int),.int .i64 v,.int .i64 u,.int .i64 (ne:Int),.int .i64 t,.int .i64 n] 23)) (.cells #[.int .i64 0,.int .i64 0,.int .i64 0,.int .i64 0,.int .i64 0,.int .i64 0,.int .i64 0,.int .i64 0,.slice none 0 0,.slice none 0 0,.slice none 0 0,.slice none 0 0] 34)
 have q0:Blk 23 ((w.alloc (.cells #[.int .i64 (D:Int),.int .i64 h,.int .i64 (ln:Int),.int .i64 v,.int .i64 u,.int .i64 (ne:Int),.int .i64 t,.int .i64 n] 23)).alloc (.cells #[.int .i64 0,.int .i64 0,.int .i64 0,.int .i64 0,.int .i64 0,.int .i64 0,.int .i64 0,.int .i64 0,.slice none 0 0,.slice none 0 0,.slice none 0 0,.slice none 0 0] 34)) w.heap.size #[.int .i64 (D:Int),.int .i64 h,.int .i64 (ln:Int),.int .i64 v,.int .i64 u,.int .i64 (ne:Int),.int .i64 t,.int .i64 n]:=(Blk.new 23 w _).kept (bNw (Below.refl _ _) _)
 have qr:Blk 34 ((w.alloc (.cells #[.int .i64 (D:Int),.int .i64 h,.int .i64 (ln:Int),.int .i64 v,.int .i64 u,.int .i64 (ne:Int),.int .i64 t,.int .i64 n] 23)).alloc (.cells #[.int .i64 0,.int .i64 0,.int .i64 0,.int .i64 0,.int .i64 0,.int .i64 0,.int .i64 0,.int .i64 0,.slice none 0 0,.slice none 0 0,.slice none 0 0,.slice none 0 0] 34)) (w.heap.size+1) #[.int .i64 0,.int .i64 0,.int .i64 0,.int .i64 0,.int .i64 0,.int .i64 0,.int .i64 0,.int .i64 0,.slice none 0 0,.slice none 0 0,.slice none 0 0,.slice none 0 0]:=Blk.new_at 34 (w.alloc _) _ _ (by simp)
 obtain⟨d0,d1,d2,d3,d4,d5,d6,d7⟩:=q0.cfg
 have HR:=hdn (And.intro rd (And.intro hc hfit))
 have HCN:=hdn (And.intro cl (And.intro cu (And.intro cd (And.intro cn (And.intro co (And.intro c0 FIT))))))
 clear rd hc hfit cl cu cd cn co c0 FIT
 go_enter Tryz.func33,Tryz.ntmps33
 go_wp2_with (first
  | (go_at_call 46;refine (k10 _).mono ?_;rintro e W1 ⟨rfl,h1⟩;replace q0:=q0.kept h1;replace qr:=qr.kept h1;replace hb:=bTn hb h1;clear h1 k10 d0 d1 d2 d3 d4 d5 d6 d7;obtain⟨d0,d1,d2,d3,d4,d5,d6,d7⟩:=q0.cfg)
  | (go_at_call 37;refine (k12 _).mono ?_;rintro e W2 ⟨rfl,h2⟩;replace q0:=q0.kept h2;replace qr:=qr.kept h2;replace hb:=bTn hb h2;obtain⟨A,eA⟩:∃ A,W2.alloc (.cells #[.slice (some xa) nW cW] 114)=A:=⟨_,rfl⟩;have bA:Below W2.heap.size W2 A:=eA ▸ bNw (Below.refl _ _) _;have zA:A.heap.size=W2.heap.size+1:=(by rw[←eA];simp);have qx:Blk 114 A W2.heap.size #[.slice (some xa) nW cW]:=eA ▸ Blk.new 114 W2 _;clear h2 k12 d0 d1 d2 d3 d4 d5 d6 d7;obtain⟨d0,d1,d2,d3,d4,d5,d6,d7⟩:=q0.cfg))
 have q0A:=q0.kept bA
 have qrA:=qr.kept bA
 have hs2:w.heap.size≤W2.heap.size:=hb.size
 have hrl:=qr.lt
 have hbA:=bTn hb bA
 clear d0 d1 d2 d3 d4 d5 d6 d7 q0 qr bA
 refine first_region (D:Int) h (ln:Int) v u (ne:Int) t n W2.heap.size w.heap.size xa.block nW ws cnt (by kernel_rfl) rfl ⟨_,rfl,rfl,rfl,rfl,by kernel_rfl⟩ ⟨_,rfl,rfl,rfl,rfl,by kernel_rfl⟩ ⟨_,rfl,rfl,rfl,rfl,by kernel_rfl⟩ ⟨_,rfl,rfl,rfl,rfl,by kernel_rfl⟩ ⟨_,rfl,rfl,rfl,rfl,by kernel_rfl⟩ ⟨_,rfl,rfl,rfl,rfl,by kernel_rfl⟩ ⟨_,rfl,rfl,rfl,rfl,by kernel_rfl⟩ ⟨_,rfl,rfl,rfl,rfl,by kernel_rfl⟩ ⟨_,rfl,rfl,rfl,rfl,by kernel_rfl⟩ ⟨_,rfl,rfl,rfl,rfl,by kernel_rfl⟩ (fun w=>by rw[HCN.out.2.2.2.2.2.1];go_simp;exact wrap_fits (by omega) (by omega)) q0A rfl rfl rfl ⟨xa,cW,by simpa using qx,rfl,by simpa using HR.out.1.below hbA,by have:=HR.out.2.1;omega⟩ (by have:=HCN.out.2.2.2.2.2.2 0 (by omega);simpa [offs] using this) hn (by omega) (by omega) (by omega) (Nat.le_of_ble_eq_true rfl) ?_
 intro a W3 mb sE hs hd hkp v8 hmb qm tE hcut on3
 have ep:=fPu [27,28,29,30,31,32,33,34,8] hs hd (fun s h'=>hkp s (firD_out h'))
 simp only[List.foldl] at ep
 rw[v8] at ep
 clear hs hd hkp v8 eA qx
 generalize a.tmps.getD 27 undef=g27,a.tmps.getD 28 undef=g28,a.tmps.getD 29 undef=g29,a.tmps.getD 30 undef=g30,a.tmps.getD 31 undef=g31,a.tmps.getD 32 undef=g32,a.tmps.getD 33 undef=g33,a.tmps.getD 34 undef=g34 at ep
 simp only[Act.put,List.setIfInBounds_toArray,List.set_cons_succ,List.set_cons_zero] at ep
 subst ep
 have INIT:Hid (ShI A W2.heap.size xa.block mb nW ws cnt ne (fun sE L=>#[.int .i64 (D:Int),.int .i64 h,.int .i64 (ln:Int),.int .i64 v,.int .i64 u,.int .i64 (ne:Int),.int .i64 t,.int .i64 n,.slice sE.a sE.n sE.c,.slice L.a L.n L.c,.slice none 0 0,.slice none 0 0]) sE (ofSeq ln ne (seg cnt ws)) 0 W3):=⟨on3,(by rw[Nat.zero_mul];exact hcut),tE,⟨none,0,0⟩,(fun _ _=>SL.nought),(fun _ _=>SL.nought),(fun _ _=>SL.nought),qm,TL.nil _ _ _ _ _ _⟩
 have HA:=hdn (And.intro hbA (And.intro q0A (And.intro qrA (And.intro hmb (And.intro zA (And.intro hs2 hrl))))))
 have K55:∀ (k:Nat) (z:Int) (W:World),k<1+ln*pl ne+2→(cnt k:Int)=z→CutAt W W2.heap.size xa.block nW ws (offs cnt k)→Calls Tryz.prog 61 #[.pointer (some ⟨W2.heap.size,0,none⟩),.int .i64 z] W fun e W'=>∃ s:SL,e=.returned (.slice s.a s.n s.c)∧TS W.heap.size W' s (seg cnt ws k)∧CutAt W' W2.heap.size xa.block nW ws (offs cnt (k+1))∧Only W2.heap.size W W':=fun k z W hk hz hcu=>by
  rw[←hz]
  exact next_seg hcu (HCN.out.2.2.2.2.2.2 k hk) hn (by omega)
 clear hbA q0A qrA hmb zA on3 hcut tE qm hb
 go_wp2
 go_loopw [9,10,11] (fun i _ _ wr=>∃ k:Nat,k≤ln∧i=.int .i64 k∧ShI A W2.heap.size xa.block mb nW ws cnt ne (fun sE L=>#[.int .i64 (D:Int),.int .i64 h,.int .i64 (ln:Int),.int .i64 v,.int .i64 u,.int .i64 (ne:Int),.int .i64 t,.int .i64 n,.slice sE.a sE.n sE.c,.slice L.a L.n L.c,.slice none 0 0,.slice none 0 0]) sE (ofSeq ln ne (seg cnt ws)) k wr) (fun i _ _ _=>ln-(intOf i).toNat)
 case atStart=>exact⟨0,Nat.zero_le _,rfl,INIT.out⟩
 case round =>
  obtain⟨k,hk,rfl,SH⟩:=hrel
  clear INIT
  obtain⟨WR,eWR⟩:∃ WR,WR=wr:=⟨_,rfl⟩
  subst eWR
  obtain⟨hbA,q0A,qrA,hmb,zA,hs2',hrl'⟩:=HA.out
  have sAW:=SH.only.size
  have q0R:=q0A.only SH.only (by omega)
  obtain⟨d0,d1,d2,d3,d4,d5,d6,d7⟩:=q0R.cfg
  by_cases hlt:k<ln
  ·have hlt':(k:Int)<(ln:Int):=by omega
   have hpl:(k+1)*pl ne≤ln*pl ne:=Nat.mul_le_mul_right _ (by omega)
   rw[Nat.add_mul,Nat.one_mul] at hpl
   have hpl2:pl ne=7+2*ne:=rfl
   have xlt1:W2.heap.size<WR.heap.size:=by omega
   have slt1:xa.block<WR.heap.size:=by omega
   have bA1:Below WR.heap.size WR (WR.alloc (.cells #[.slice none 0 0,.slice none 0 0,.slice none 0 0,.slice none 0 0,.slice none 0 0,.slice none 0 0,.slice none 0 0,.slice none 0 0,.slice none 0 0] 61)):=bNw (Below.refl _ _) _
   have zA1:(WR.alloc (.cells #[.slice none 0 0,.slice none 0 0,.slice none 0 0,.slice none 0 0,.slice none 0 0,.slice none 0 0,.slice none 0 0,.slice none 0 0,.slice none 0 0] 61)).heap.size=WR.heap.size+1:=by simp
   have hS0:LayS WR W2.heap.size xa.block WR.heap.size nW ws cnt (1+k*pl ne+0) #[.slice none 0 0,.slice none 0 0,.slice none 0 0,.slice none 0 0,.slice none 0 0,.slice none 0 0,.slice none 0 0,.slice none 0 0,.slice none 0 0] (WR.alloc (.cells #[.slice none 0 0,.slice none 0 0,.slice none 0 0,.slice none 0 0,.slice none 0 0,.slice none 0 0,.slice none 0 0,.slice none 0 0,.slice none 0 0] 61)):=⟨Only.of_below bA1,SH.cut.below bA1,Blk.new 61 WR _⟩
   have HSH:=hdn SH
   have HQR:=hdn (And.intro q0R (And.intro zA1 (And.intro hpl hpl2)))
   have CC:Hid ((cnt (1+k*pl ne+0):Int)=(D:Int)∧(cnt (1+k*pl ne+1):Int)=(DD:Int)∧(cnt (1+k*pl ne+2):Int)=(DD:Int)∧(cnt (1+k*pl ne+3):Int)=(DD:Int)∧(cnt (1+k*pl ne+4):Int)=(DD:Int)∧(cnt (1+k*pl ne+5):Int)=(D:Int)∧(cnt (1+k*pl ne+6):Int)=(XD:Int)) :=
    ⟨by rw[HCN.out.1 k 0 hlt (by omega)];rfl,by rw[HCN.out.1 k 1 hlt (by omega)];rfl,by rw[HCN.out.1 k 2 hlt (by omega)];rfl,by rw[HCN.out.1 k 3 hlt (by omega)];rfl,by rw[HCN.out.1 k 4 hlt (by omega)];rfl,by rw[HCN.out.1 k 5 hlt (by omega)];rfl,by rw[HCN.out.1 k 6 hlt (by omega)];rfl⟩
   clear SH q0R q0A qrA hbA bA1 zA1 hmb zA hs2' hrl' hpl hpl2
   go_wp2_with (first
    | (go_at_call 61;refine (K55 (1+k*pl ne+0) (D:Int) _ (by have:=HQR.out.2.2;omega) CC.out.1 hS0.cut).mono ?_;rintro e Wc0 ⟨s0,rfl,ts0,hc0,on0⟩;obtain⟨V0,eV0,z0,o0,hS1,kp0,kq0⟩:=hS0.step (Nat.le_refl _) xlt1 slt1 on0 hc0 0 rfl s0 (cs':=#[.slice s0.a s0.n s0.c,.slice none 0 0,.slice none 0 0,.slice none 0 0,.slice none 0 0,.slice none 0 0,.slice none 0 0,.slice none 0 0,.slice none 0 0]) rfl;have t0:TS WR.heap.size V0 s0 (seg cnt ws (1+k*pl ne+0)):=(ts0.step kq0).le (by have:=HQR.out.2.1;omega); clear hS0 ts0 hc0 on0 d0 d1 d2 d3 d4 d5 d6 d7)
    | (go_at_call 61;refine (K55 (1+k*pl ne+1) (DD:Int) _ (by have:=HQR.out.2.2;omega) CC.out.2.1 hS1.cut).mono ?_;rintro e Wc1 ⟨s1,rfl,ts1,hc1,on1⟩;obtain⟨V1,eV1,z1,o1,hS2,kp1,kq1⟩:=hS1.step (Nat.le_refl _) xlt1 slt1 on1 hc1 1 rfl s1 (cs':=#[.slice s0.a s0.n s0.c,.slice s1.a s1.n s1.c,.slice none 0 0,.slice none 0 0,.slice none 0 0,.slice none 0 0,.slice none 0 0,.slice none 0 0,.slice none 0 0]) rfl;have t1:TS WR.heap.size V1 s1 (seg cnt ws (1+k*pl ne+1)):=(ts1.step kq1).le hS1.only.size;replace t0:=t0.step kp1;clear hS1 ts1 hc1 on1 eV0 z0 o0 kp0 kq0)
    | (go_at_call 61;refine (K55 (1+k*pl ne+2) (DD:Int) _ (by have:=HQR.out.2.2;omega) CC.out.2.2.1 hS2.cut).mono ?_;rintro e Wc2 ⟨s2,rfl,ts2,hc2,on2⟩;obtain⟨V2,eV2,z2,o2,hS3,kp2,kq2⟩:=hS2.step (Nat.le_refl _) xlt1 slt1 on2 hc2 2 rfl s2 (cs':=#[.slice s0.a s0.n s0.c,.slice s1.a s1.n s1.c,.slice s2.a s2.n s2.c,.slice none 0 0,.slice none 0 0,.slice none 0 0,.slice none 0 0,.slice none 0 0,.slice none 0 0]) rfl;have t2:TS WR.heap.size V2 s2 (seg cnt ws (1+k*pl ne+2)):=(ts2.step kq2).le hS2.only.size;replace t0:=t0.step kp2;replace t1:=t1.step kp2;clear hS2 ts2 hc2 on2 eV1 z1 o1 kp1 kq1)
    | (go_at_call 61;refine (K55 (1+k*pl ne+3) (DD:Int) _ (by have:=HQR.out.2.2;omega) CC.out.2.2.2.1 hS3.cut).mono ?_;rintro e Wc3 ⟨s3,rfl,ts3,hc3,on3⟩;obtain⟨V3,eV3,z3,o3,hS4,kp3,kq3⟩:=hS3.step (Nat.le_refl _) xlt1 slt1 on3 hc3 3 rfl s3 (cs':=#[.slice s0.a s0.n s0.c,.slice s1.a s1.n s1.c,.slice s2.a s2.n s2.c,.slice s3.a s3.n s3.c,.slice none 0 0,.slice none 0 0,.slice none 0 0,.slice none 0 0,.slice none 0 0]) rfl;have t3:TS WR.heap.size V3 s3 (seg cnt ws (1+k*pl ne+3)):=(ts3.step kq3).le hS3.only.size;replace t0:=t0.step kp3;replace t1:=t1.step kp3;replace t2:=t2.step kp3;clear hS3 ts3 hc3 on3 eV2 z2 o2 kp2 kq2)
    | (go_at_call 61;refine (K55 (1+k*pl ne+4) (DD:Int) _ (by have:=HQR.out.2.2;omega) CC.out.2.2.2.2.1 hS4.cut).mono ?_;rintro e Wc4 ⟨s4,rfl,ts4,hc4,on4⟩;obtain⟨V4,eV4,z4,o4,hS5,kp4,kq4⟩:=hS4.step (Nat.le_refl _) xlt1 slt1 on4 hc4 4 rfl s4 (cs':=#[.slice s0.a s0.n s0.c,.slice s1.a s1.n s1.c,.slice s2.a s2.n s2.c,.slice s3.a s3.n s3.c,.slice s4.a s4.n s4.c,.slice none 0 0,.slice none 0 0,.slice none 0 0,.slice none 0 0]) rfl;have t4:TS WR.heap.size V4 s4 (seg cnt ws (1+k*pl ne+4)):=(ts4.step kq4).le hS4.only.size;replace t0:=t0.step kp4;replace t1:=t1.step kp4;replace t2:=t2.step kp4;replace t3:=t3.step kp4;clear hS4 ts4 hc4 on4 eV3 z3 o3 kp3 kq3)
    | (go_at_call 61;refine (K55 (1+k*pl ne+5) (D:Int) _ (by have:=HQR.out.2.2;omega) CC.out.2.2.2.2.2.1 hS5.cut).mono ?_;rintro e Wc5 ⟨s5,rfl,ts5,hc5,on5⟩;obtain⟨V5,eV5,z5,o5,hS6,kp5,kq5⟩:=hS5.step (Nat.le_refl _) xlt1 slt1 on5 hc5 5 rfl s5 (cs':=#[.slice s0.a s0.n s0.c,.slice s1.a s1.n s1.c,.slice s2.a s2.n s2.c,.slice s3.a s3.n s3.c,.slice s4.a s4.n s4.c,.slice s5.a s5.n s5.c,.slice none 0 0,.slice none 0 0,.slice none 0 0]) rfl;have t5:TS WR.heap.size V5 s5 (seg cnt ws (1+k*pl ne+5)):=(ts5.step kq5).le hS5.only.size;replace t0:=t0.step kp5;replace t1:=t1.step kp5;replace t2:=t2.step kp5;replace t3:=t3.step kp5;replace t4:=t4.step kp5;clear hS5 ts5 hc5 on5 eV4 z4 o4 kp4 kq4;obtain⟨d0,d1,d2,d3,d4,d5,d6,d7⟩:=(HQR.out.1.only hS6.only (by omega)).cfg)
    | (go_at_call 61;refine (K55 (1+k*pl ne+6) (XD:Int) _ (by have:=HQR.out.2.2;omega) CC.out.2.2.2.2.2.2 hS6.cut).mono ?_;rintro e Wc6 ⟨s6,rfl,ts6,hc6,on6⟩;obtain⟨V6,eV6,z6,o6,hS7,kp6,kq6⟩:=hS6.step (Nat.le_refl _) xlt1 slt1 on6 hc6 6 rfl s6 (cs':=#[.slice s0.a s0.n s0.c,.slice s1.a s1.n s1.c,.slice s2.a s2.n s2.c,.slice s3.a s3.n s3.c,.slice s4.a s4.n s4.c,.slice s5.a s5.n s5.c,.slice s6.a s6.n s6.c,.slice none 0 0,.slice none 0 0]) rfl;have t6:TS WR.heap.size V6 s6 (seg cnt ws (1+k*pl ne+6)):=(ts6.step kq6).le hS6.only.size;replace t0:=t0.step kp6;replace t1:=t1.step kp6;replace t2:=t2.step kp6;replace t3:=t3.step kp6;replace t4:=t4.step kp6;replace t5:=t5.step kp6;clear hS6 ts6 hc6 on6 eV5 z5 o5 kp5 kq5))
   clear z6 o6 eV6 kp6 kq6 d0 d1 d2 d3 d4 d5 d6 d7
   have NI0:Hid (NetI WR V6 W2.heap.size xa.block WR.heap.size nW ws cnt (1+k*pl ne+7) (fun uu dd=>#[.slice s0.a s0.n s0.c,.slice s1.a s1.n s1.c,.slice s2.a s2.n s2.c,.slice s3.a s3.n s3.c,.slice s4.a s4.n s4.c,.slice s5.a s5.n s5.c,.slice s6.a s6.n s6.c,.slice uu.a uu.n uu.c,.slice dd.a dd.n dd.c]) ((ofSeq ln ne (seg cnt ws)).u k) ((ofSeq ln ne (seg cnt ws)).d k) 0 V6):=⟨hS7.only,hS7.cut,⟨⟨none,0,0⟩,⟨none,0,0⟩,(fun _=>SL.nought),(fun _=>SL.nought),hS7.blk,TG.nil _ _ _ _,TG.nil _ _ _ _,(fun g hg=>by cases hg)⟩,Keeps.refl _ _,Nat.le_refl _⟩
   have HT:=hdn (And.intro t0 (And.intro t1 (And.intro t2 (And.intro t3 (And.intro t4 (And.intro t5 t6))))))
   clear t0 t1 t2 t3 t4 t5 t6 hS7
   go_loopw [11] (fun j wr=>∃ q:Nat,q≤ne∧j=.int .i64 q∧NetI WR V6 W2.heap.size xa.block WR.heap.size nW ws cnt (1+k*pl ne+7) (fun uu dd=>#[.slice s0.a s0.n s0.c,.slice s1.a s1.n s1.c,.slice s2.a s2.n s2.c,.slice s3.a s3.n s3.c,.slice s4.a s4.n s4.c,.slice s5.a s5.n s5.c,.slice s6.a s6.n s6.c,.slice uu.a uu.n uu.c,.slice dd.a dd.n dd.c]) ((ofSeq ln ne (seg cnt ws)).u k) ((ofSeq ln ne (seg cnt ws)).d k) q wr) (fun j _=>ne-(intOf j).toNat)
   case atStart=>exact⟨0,Nat.zero_le _,rfl,NI0.out⟩
   case round =>
    obtain⟨q,hq,rfl,NI⟩:=hrel
    clear NI0
    have q0q:=HQR.out.1.only NI.only (by omega)
    obtain⟨d0,d1,d2,d3,d4,d5,d6,d7⟩:=q0q.cfg
    by_cases hl2:q<ne
    ·have hz3:(q:Int)<(ne:Int):=by omega
     obtain⟨uu,dd,RU,RD,qlb,tU,tD,hap⟩:=NI.nets
     have HNI:=hdn NI
     have hsz:=NI.only.size
     clear NI q0q
     go_wp2
     refine net_regionU (D:Int) h (ln:Int) v u (ne:Int) t n 88 7 W2.heap.size w.heap.size xa.block WR.heap.size nW (1+k*pl ne+7+2*q) q WR.heap.size ws cnt _ uu.a uu.n uu.c RU ((ofSeq ln ne (seg cnt ws)).u k) WR (by kernel_rfl) rfl ⟨_,rfl,rfl,rfl,rfl,by kernel_rfl⟩ ⟨_,rfl,rfl,rfl,rfl,by kernel_rfl⟩ ⟨_,rfl,rfl,rfl,rfl,by kernel_rfl⟩ ⟨_,rfl,rfl,rfl,rfl,by kernel_rfl⟩ ⟨_,rfl,rfl,rfl,rfl,by kernel_rfl⟩ ⟨_,rfl,rfl,rfl,rfl,by kernel_rfl⟩ ⟨_,rfl,rfl,rfl,rfl,by kernel_rfl⟩ ⟨_,rfl,rfl,rfl,rfl,by kernel_rfl⟩ ⟨_,rfl,rfl,rfl,rfl,by kernel_rfl⟩ ⟨_,rfl,rfl,rfl,rfl,by kernel_rfl⟩ ⟨_,rfl,rfl,rfl,rfl,by kernel_rfl⟩ ⟨_,rfl,rfl,rfl,rfl,by kernel_rfl⟩ (fun w=>by rw[HCN.out.2.1 k q hlt hl2];go_simp;exact wrap_fits (by omega) (by omega)) (by decide) (Nat.le_of_ble_eq_true rfl) (by decide) HQR.out.1 rfl rfl rfl rfl HNI.out.only HNI.out.cut (HCN.out.2.2.2.2.2.2 _ (by have:=HQR.out.2.2;omega)) hn (by omega) (by omega) xlt1 slt1 (Nat.le_refl _) (Nat.le_refl _) hsz qlb rfl tU rfl (by omega) ?_
     intro a X1 vU SU hs hd hkp onX cutX blkX tgX obX k46X kbX szX
     have ep:=fPu [88,89,90,91,92,93,94,95,96,97,98] hs hd (fun s h'=>hkp s (by simp at h';omega))
     simp only[List.foldl] at ep
     clear hs hd hkp d0 d1 d2 d3 d4 d5 d6 d7
     generalize a.tmps.getD 88 undef=g88,a.tmps.getD 89 undef=g89,a.tmps.getD 90 undef=g90,a.tmps.getD 91 undef=g91,a.tmps.getD 92 undef=g92,a.tmps.getD 93 undef=g93,a.tmps.getD 94 undef=g94,a.tmps.getD 95 undef=g95,a.tmps.getD 96 undef=g96,a.tmps.getD 97 undef=g97,a.tmps.getD 98 undef=g98 at ep
     simp only[Act.put,List.setIfInBounds_toArray,List.set_cons_succ,List.set_cons_zero] at ep
     subst ep
     obtain⟨ua,un,uc,euv⟩:=tgX.slice
     subst euv
     have tDX:=tD.but kbX (fun g hg hu=>hap g hu hg) k46X
     go_wp2
     refine net_regionD (D:Int) h (ln:Int) v u (ne:Int) t n 99 8 W2.heap.size w.heap.size xa.block WR.heap.size nW (1+k*pl ne+7+2*q+1) q WR.heap.size ws cnt _ dd.a dd.n dd.c RD ((ofSeq ln ne (seg cnt ws)).d k) WR (by kernel_rfl) rfl ⟨_,rfl,rfl,rfl,rfl,by kernel_rfl⟩ ⟨_,rfl,rfl,rfl,rfl,by kernel_rfl⟩ ⟨_,rfl,rfl,rfl,rfl,by kernel_rfl⟩ ⟨_,rfl,rfl,rfl,rfl,by kernel_rfl⟩ ⟨_,rfl,rfl,rfl,rfl,by kernel_rfl⟩ ⟨_,rfl,rfl,rfl,rfl,by kernel_rfl⟩ ⟨_,rfl,rfl,rfl,rfl,by kernel_rfl⟩ ⟨_,rfl,rfl,rfl,rfl,by kernel_rfl⟩ ⟨_,rfl,rfl,rfl,rfl,by kernel_rfl⟩ ⟨_,rfl,rfl,rfl,rfl,by kernel_rfl⟩ ⟨_,rfl,rfl,rfl,rfl,by kernel_rfl⟩ ⟨_,rfl,rfl,rfl,rfl,by kernel_rfl⟩ (fun w=>by rw[HCN.out.2.2.1 k q hlt hl2];go_simp;exact wrap_fits (by omega) (by omega)) (by decide) (Nat.le_of_ble_eq_true rfl) (by decide) HQR.out.1 rfl rfl rfl rfl onX cutX (HCN.out.2.2.2.2.2.2 _ (by have:=HQR.out.2.2;omega)) hn (by omega) (by omega) xlt1 slt1 (Nat.le_refl _) (Nat.le_refl _) (Nat.le_trans hsz szX) blkX rfl tDX rfl (by omega) ?_
     intro a X2 vD SD hs hd hkp onY cutY blkY tgY obY k46Y kbY szY
     have ep:=fPu [99,100,101,102,103,104,105,106,107,108,109] hs hd (fun s h'=>hkp s (by simp at h';omega))
     simp only[List.foldl] at ep
     clear hs hd hkp
     generalize a.tmps.getD 99 undef=g99,a.tmps.getD 100 undef=g100,a.tmps.getD 101 undef=g101,a.tmps.getD 102 undef=g102,a.tmps.getD 103 undef=g103,a.tmps.getD 104 undef=g104,a.tmps.getD 105 undef=g105,a.tmps.getD 106 undef=g106,a.tmps.getD 107 undef=g107,a.tmps.getD 108 undef=g108,a.tmps.getD 109 undef=g109 at ep
     simp only[Act.put,List.setIfInBounds_toArray,List.set_cons_succ,List.set_cons_zero] at ep
     subst ep
     obtain⟨da,dn,dc,edv⟩:=tgY.slice
     subst edv
     have hap2:=apart_of hap tD tgX obX obY
     have tUY:=tgX.but kbY (fun g hg hd'=>apart_of hap tD tgX obX (.inl rfl) g hg hd') k46Y
     have NX:Hid (NetI WR V6 W2.heap.size xa.block WR.heap.size nW ws cnt (1+k*pl ne+7) (fun uu dd=>#[.slice s0.a s0.n s0.c,.slice s1.a s1.n s1.c,.slice s2.a s2.n s2.c,.slice s3.a s3.n s3.c,.slice s4.a s4.n s4.c,.slice s5.a s5.n s5.c,.slice s6.a s6.n s6.c,.slice uu.a uu.n uu.c,.slice dd.a dd.n dd.c]) ((ofSeq ln ne (seg cnt ws)).u k) ((ofSeq ln ne (seg cnt ws)).d k) (q+1) X2):=⟨onY,(by rw[show 1+k*pl ne+7+2*(q+1)=1+k*pl ne+7+2*q+1+1 by omega];exact cutY),⟨⟨ua,un,uc⟩,⟨da,dn,dc⟩,_,_,blkY,tUY,tgY,hap2⟩,(HNI.out.k46.trans k46X).trans k46Y,Nat.le_trans (Nat.le_trans HNI.out.size szX) szY⟩
     clear onY cutY blkY tgY obY k46Y kbY szY onX cutX blkX tgX obX k46X kbX szX tDX tU tD hap hap2 tUY HNI qlb
     go_wp2
     go_roundw
     case rel=>exact⟨q+1,by omega,by go_num,NX.out⟩
     case measure=>simp[intOf];omega
    ·have hz3:¬(q:Int)<(ne:Int):=by omega
     have hz4:decide ((q:Int)<(ne:Int))=false:=by simp;omega
     obtain rfl:ne=q:=by omega
     obtain⟨uu,dd,RU,RD,qlb,tU,tD,hap⟩:=NI.nets
     obtain⟨Y,eY⟩:∃ Y,wr=Y:=⟨_,rfl⟩
     subst eY
     have kWR:∀ t,t≠114→Keeps t WR wr:=fun t ht=>HSH.out.cut.keeps NI.only ht
     obtain⟨t0,t1,t2,t3,t4,t5,t6⟩:=HT.out
     obtain⟨L,YL,UL,DL,qmb,tL⟩:=HSH.out.mod
     have qmy:=(kWR 34 (by decide)).blk qmb
     have tLy:=tL.step (kWR 61 (by decide)) (kWR 118 (by decide)) (kWR 31 (by decide))
     have tEy:=HSH.out.te.step (kWR 118 (by decide))
     obtain⟨A3,eA3⟩:∃ A3,wr.alloc (.cells #[.slice s0.a s0.n s0.c,.slice s1.a s1.n s1.c,.slice s2.a s2.n s2.c,.slice s3.a s3.n s3.c,.slice s4.a s4.n s4.c,.slice s5.a s5.n s5.c,.slice s6.a s6.n s6.c,.slice uu.a uu.n uu.c,.slice dd.a dd.n dd.c] 61)=A3:=⟨_,rfl⟩
     have bA3:Below wr.heap.size wr A3:=eA3 ▸ bNw (Below.refl _ _) _
     have gA3:Blk 61 A3 wr.heap.size ((List.range 9).map fun r=>(nine s0 s1 s2 s3 s4 s5 s6 uu dd r).v).toArray:=eA3 ▸ Blk.new 61 wr _
     have sW:=NI.only.size
     have K46:Keeps 118 V6 A3:=NI.k46.trans (Keeps.of_below bA3)
     have sAW2:=HSH.out.only.size
     have hY:TY A.heap.size A3 (nine s0 s1 s2 s3 s4 s5 s6 uu dd) RU RD ((ofSeq ln ne (seg cnt ws)).f k) ((ofSeq ln ne (seg cnt ws)).un k) ((ofSeq ln ne (seg cnt ws)).dn k) ((ofSeq ln ne (seg cnt ws)).u k) ((ofSeq ln ne (seg cnt ws)).d k):=⟨fun j hj=>by
      rcases (show j=0∨j=1∨j=2∨j=3∨j=4∨j=5∨j=6 by omega) with rfl|rfl|rfl|rfl|rfl|rfl|rfl
      ·exact (t0.step K46).le sAW2
      ·exact (t1.step K46).le sAW2
      ·exact (t2.step K46).le sAW2
      ·exact (t3.step K46).le sAW2
      ·exact (t4.step K46).le sAW2
      ·exact (t5.step K46).le sAW2
      ·exact (t6.step K46).le sAW2,(tU.below (B':=0) bA3).le sAW2,(tD.below (B':=0) bA3).le sAW2⟩
     have c0:=qlb.cell 0 rfl
     have c1:=qlb.cell 1 rfl
     have c2:=qlb.cell 2 rfl
     have c3:=qlb.cell 3 rfl
     have c4:=qlb.cell 4 rfl
     have c5:=qlb.cell 5 rfl
     have c6:=qlb.cell 6 rfl
     have c7:=qlb.cell 7 rfl
     have c8:=qlb.cell 8 rfl
     have c9:=qmy.cell 9 rfl
     have tL3:=tLy.below bA3
     have tE3:=tEy.below bA3
     have qm3:=qmy.kept bA3
     have on3':Only W2.heap.size A A3:=(HSH.out.only.trans NI.only).trans (Only.of_below bA3)
     have cut3:=NI.cut.below bA3
     have hmb':=HA.out.2.2.2.1
     have zA':=HA.out.2.2.2.2.1
     clear NI q0q kWR t0 t1 t2 t3 t4 t5 t6 qmb tL qmy tLy tEy K46 tU tD hap qlb bA3
     go_wp2_with (first
      | (at_builtin;refine wpList_layer2 rfl (.tmp 111) (.tmp 113) rfl A.heap.size k _ YL UL DL (ofSeq ln ne (seg cnt ws)) _ RU RD wr.heap.size 1 rfl rfl tL3 gA3 hY (by omega) on3'.size ?_;intro v' w6 hg6 hob6 k29 k46 tL6;obtain⟨Ls,eLs⟩:=tL6.slice;subst eLs;have qm6:=k29.blk qm3;obtain⟨V9,eV9,z9,o9,q9,on9,k9⟩:=fin12 qm6 9 Ls (cs':=#[.int .i64 (D:Int),.int .i64 h,.int .i64 (ln:Int),.int .i64 v,.int .i64 u,.int .i64 (ne:Int),.int .i64 t,.int .i64 n,.slice sE.a sE.n sE.c,.slice Ls.a Ls.n Ls.c,.slice none 0 0,.slice none 0 0]) rfl rfl;have NS:Hid (ShI A W2.heap.size xa.block mb nW ws cnt ne (fun sE L=>#[.int .i64 (D:Int),.int .i64 h,.int .i64 (ln:Int),.int .i64 v,.int .i64 u,.int .i64 (ne:Int),.int .i64 t,.int .i64 n,.slice sE.a sE.n sE.c,.slice L.a L.n L.c,.slice none 0 0,.slice none 0 0]) sE (ofSeq ln ne (seg cnt ws)) (k+1) V9):=⟨(on3'.grown hg6 hob6).new hmb' on9,(by rw[show 1+(k+1)*pl ne=1+k*pl ne+7+2*ne by rw[Nat.add_mul];show _=1+k*(7+2*ne)+7+2*ne;show 1+(k*(7+2*ne)+1*(7+2*ne))=_;omega];exact (cut3.grown hg6 (fun e=>by have:=hob6 _ e;omega) (fun e=>by have:=hob6 _ e;omega)).only on9 (by omega) (by omega)),(tE3.step k46).step (k9 118 (by decide)),⟨Ls,_,_,_,q9,tL6.step (k9 61 (by decide)) (k9 118 (by decide)) (k9 31 (by decide))⟩⟩;clear hg6 hob6 k29 k46 tL6 qm6 q9 on9 k9 tL3 gA3 hY tE3 qm3 on3' cut3)
      )
     go_roundw
     case rel=>exact⟨k+1,by omega,by go_num,NS.out⟩
     case measure=>simp[intOf];omega
  ·have hge:¬(k:Int)<(ln:Int):=by omega
   have hge':decide ((k:Int)<(ln:Int))=false:=by simp;omega
   have ekl:k=ln:=by omega
   obtain⟨L,YL,UL,DL,qmb,tL⟩:=SH.mod
   have tE:=SH.te
   have onA:=SH.only
   have hcN:CutAt WR W2.heap.size xa.block nW ws (offs cnt (1+ln*pl ne)):=by rw[←ekl];exact SH.cut
   have tL':TL A.heap.size WR (.slice L.a L.n L.c) ln YL UL DL (ofSeq ln ne (seg cnt ws)):=by have h':=tL;rw[show k=ln from ekl] at h';exact h'
   have hqr:=HA.out.2.2.1
   have hbA':=HA.out.1
   have hmb':=HA.out.2.2.2.1
   have hsz7:=HA.out.2.2.2.2
   have EK:=hdn ekl
   clear SH tL ekl hbA q0A qrA hmb zA hs2' hrl'
   go_wp2_with (first
    | (go_at_call 61;refine (K55 (1+ln*pl ne) (D:Int) _ (by omega) (by rw[HCN.out.2.2.2.1]) hcN).mono ?_;rintro e X1 ⟨sN,rfl,tN,hcO,on1⟩;have kx:∀ t,t≠114→Keeps t WR X1:=fun t ht=>hcN.keeps on1 ht;obtain⟨X2,eX2,z10,o10,q2,on2,k2⟩:=fin12 ((kx 34 (by decide)).blk qmb) 10 sN (cs':=#[.int .i64 (D:Int),.int .i64 h,.int .i64 (ln:Int),.int .i64 v,.int .i64 u,.int .i64 (ne:Int),.int .i64 t,.int .i64 n,.slice sE.a sE.n sE.c,.slice L.a L.n L.c,.slice sN.a sN.n sN.c,.slice none 0 0]) rfl rfl;have k12:∀ t,t≠114→t≠34→Keeps t WR X2:=fun t h1 h2=>(kx t h1).trans (k2 t h2);have onX2:Only W2.heap.size A X2:=(onA.trans on1).new hmb' on2;replace tE:=tE.step (k12 118 (by decide) (by decide));replace tN:=(tN.le onA.size).step (k2 118 (by decide));replace tL':=tL'.step (k12 61 (by decide) (by decide)) (k12 118 (by decide) (by decide)) (k12 31 (by decide) (by decide));replace hcO:=hcO.only on2 (by have:=hsz7.1;omega) (by have:=hsz7.1;omega);clear hcN on1 kx on2 k2 k12 qmb d0 d1 d2 d3 d4 d5 d6 d7;obtain⟨d0,d1,d2,d3,d4,d5,d6,d7⟩:=(HA.out.2.1.only onX2 (by omega)).cfg)
    | (go_at_call 61;refine (K55 (1+ln*pl ne+1) (VD:Int) _ (by omega) (by rw[HCN.out.2.2.2.2.1]) hcO).mono ?_;rintro e X3 ⟨sO,rfl,tO,hcX,on3⟩;have kx:∀ t,t≠114→Keeps t X2 X3:=fun t ht=>hcO.keeps on3 ht;obtain⟨X4,eX4,z11,o11,q4,on4,k4⟩:=fin12 ((kx 34 (by decide)).blk q2) 11 sO (cs':=#[.int .i64 (D:Int),.int .i64 h,.int .i64 (ln:Int),.int .i64 v,.int .i64 u,.int .i64 (ne:Int),.int .i64 t,.int .i64 n,.slice sE.a sE.n sE.c,.slice L.a L.n L.c,.slice sN.a sN.n sN.c,.slice sO.a sO.n sO.c]) rfl rfl;have k34:∀ t,t≠114→t≠34→Keeps t X2 X4:=fun t h1 h2=>(kx t h1).trans (k4 t h2);have onX4:Only W2.heap.size A X4:=(onX2.trans on3).new hmb' on4;replace tE:=tE.step (k34 118 (by decide) (by decide));replace tN:=tN.step (k34 118 (by decide) (by decide));replace tO:=(tO.le onX2.size).step (k4 118 (by decide));replace tL':=tL'.step (k34 61 (by decide) (by decide)) (k34 118 (by decide) (by decide)) (k34 31 (by decide) (by decide));have qr4:=hqr.only onX4 (by have:=hsz7;omega);clear hcO on3 kx on4 k4 k34 q2 onX2 hcX d0 d1 d2 d3 d4 d5 d6 d7 z10 o10 eX2;obtain⟨a0,a1,a2,a3,a4,a5,a6,a7,a8,a9,a10,a11⟩:=q4.c12;obtain⟨r0,r1,r2,r3,r4,r5,r6,r7,r8,r9,r10,r11⟩:=qr4.c12;obtain⟨f0,f1,f2,f3,f4,f5,f6,f7,f8,f9,f10,f11⟩:=qr4.o12))
   obtain⟨W6,eW6,q6,only6,hz6⟩:=set12 qr4 (.int .i64 (D:Int)) (.int .i64 h) (.int .i64 (ln:Int)) (.int .i64 v) (.int .i64 u) (.int .i64 (ne:Int)) (.int .i64 t) (.int .i64 n) (.slice sE.a sE.n sE.c) (.slice L.a L.n L.c) (.slice sN.a sN.n sN.c) (.slice sO.a sO.n sO.c)
   rw[eW6]
   have K6:∀ t,t≠34→Keeps t X4 W6:=fun t ht=>Keeps.of_only only6 qr4 ht
   have hle:w.heap.size≤A.heap.size:=by omega
   have tL6:TL w.heap.size W6 (.slice L.a L.n L.c) (ofSeq ln ne (seg cnt ws)).ln YL UL DL (ofSeq ln ne (seg cnt ws)):=(tL'.step (K6 61 (by decide)) (K6 118 (by decide)) (K6 31 (by decide))).le hle
   obtain⟨L2,eL2,hN⟩:=tL6.new (E:=sE) (N:=sN) (O:=sO) ((tE.step (K6 118 (by decide))).le hle) ((tN.step (K6 118 (by decide))).le hle) ((tO.step (K6 118 (by decide))).le hle)
   obtain rfl:L=L2:=SL.v_inj eL2
   have bX4:Below w.heap.size w X4:=Only.below hbA' (by omega) hbA'.size onX4
   have bW6:Below w.heap.size w W6:=Only.below bX4 (by omega) bX4.size only6
   refine bodyPost_ret (v:=.tuple #[.agg #[.int .i64 (D:Int),.int .i64 h,.int .i64 (ln:Int),.int .i64 v,.int .i64 u,.int .i64 (ne:Int),.int .i64 t,.int .i64 n,.slice sE.a sE.n sE.c,.slice L.a L.n L.c,.slice sN.a sN.n sN.c,.slice sO.a sO.n sO.c],.int .i64 0]) ?_ rfl ⟨sE,L,sN,sO,YL,UL,DL,rfl,hN,bW6⟩
   obtain⟨y0,y1,y2,y3,y4,y5,y6,y7,y8,y9,y10,y11⟩:=q6.c12
   simp[results,Tryz.results33,go_sem,y0,y1,y2,y3,y4,y5,y6,y7,y8,y9,y10,y11]
theorem refShape_bad (d h l v u x t n:Int)(ok:okB d h l v u x t n=false)(sa:Option Addr)(nW cW:Nat)(w:World) :
  Calls Tryz.prog 33 #[.agg #[.int .i64 d,.int .i64 h,.int .i64 l,.int .i64 v,.int .i64 u,.int .i64 x,.int .i64 t,.int .i64 n],.slice sa nW cW] w fun e w'=>e=.returned (.tuple #[.agg #[.int .i64 0,.int .i64 0,.int .i64 0,.int .i64 0,.int .i64 0,.int .i64 0,.int .i64 0,.int .i64 0,nilS,nilS,nilS,nilS],.int .i64 20])∧Below w.heap.size w w':=by
 have k10:=refConfig_call d h l v u x t n
 simp only[ok] at k10
 clear ok
 have hb:=bNw (bNw (Below.refl w.heap.size w) (.cells #[.int .i64 d,.int .i64 h,.int .i64 l,.int .i64 v,.int .i64 u,.int .i64 x,.int .i64 t,.int .i64 n] 23)) (.cells #[.int .i64 0,.int .i64 0,.int .i64 0,.int .i64 0,.int .i64 0,.int .i64 0,.int .i64 0,.int .i64 0,nilS,nilS,nilS,nilS] 34)
 have q0:Blk 23 ((w.alloc (.cells #[.int .i64 d,.int .i64 h,.int .i64 l,.int .i64 v,.int .i64 u,.int .i64 x,.int .i64 t,.int .i64 n] 23)).alloc (.cells #[.int .i64 0,.int .i64 0,.int .i64 0,.int .i64 0,.int .i64 0,.int .i64 0,.int .i64 0,.int .i64 0,nilS,nilS,nilS,nilS] 34)) w.heap.size #[.int .i64 d,.int .i64 h,.int .i64 l,.int .i64 v,.int .i64 u,.int .i64 x,.int .i64 t,.int .i64 n]:=(Blk.new 23 w _).kept (bNw (Below.refl _ _) _)
 have qr:Blk 34 ((w.alloc (.cells #[.int .i64 d,.int .i64 h,.int .i64 l,.int .i64 v,.int .i64 u,.int .i64 x,.int .i64 t,.int .i64 n] 23)).alloc (.cells #[.int .i64 0,.int .i64 0,.int .i64 0,.int .i64 0,.int .i64 0,.int .i64 0,.int .i64 0,.int .i64 0,nilS,nilS,nilS,nilS] 34)) (w.heap.size+1) #[.int .i64 0,.int .i64 0,.int .i64 0,.int .i64 0,.int .i64 0,.int .i64 0,.int .i64 0,.int .i64 0,nilS,nilS,nilS,nilS]:=Blk.new_at 34 (w.alloc _) _ _ (by simp)
 obtain⟨d0,d1,d2,d3,d4,d5,d6,d7⟩:=q0.cfg
 go_enter Tryz.func33,Tryz.ntmps33
 go_wp2_with (first
  | (go_at_call 46;refine (k10 _).mono ?_;rintro e W1 ⟨rfl,h1⟩;replace qr:=qr.kept h1;replace hb:=bTn hb h1;clear h1 k10 d0 d1 d2 d3 d4 d5 d6 d7;obtain⟨z0,z1,z2,z3,z4,z5,z6,z7,z8,z9,z10,z11⟩:=qr.c12;obtain⟨o0,o1,o2,o3,o4,o5,o6,o7,o8,o9,o10,o11⟩:=qr.o12))
 obtain⟨W9,eW9,q9',only9,hz9⟩:=set12 qr (.int .i64 0) (.int .i64 0) (.int .i64 0) (.int .i64 0) (.int .i64 0) (.int .i64 0) (.int .i64 0) (.int .i64 0) nilS nilS nilS nilS
 rw[eW9]
 refine bodyPost_ret (v:=.tuple #[.agg #[.int .i64 0,.int .i64 0,.int .i64 0,.int .i64 0,.int .i64 0,.int .i64 0,.int .i64 0,.int .i64 0,nilS,nilS,nilS,nilS],.int .i64 20]) ?_ rfl ⟨rfl,Only.below hb (by omega) hb.size only9⟩
 obtain⟨y0,y1,y2,y3,y4,y5,y6,y7,y8,y9,y10,y11⟩:=q9'.c12
 simp[results,Tryz.results33,go_sem,y0,y1,y2,y3,y4,y5,y6,y7,y8,y9,y10,y11]
theorem refShape_len (d h l v u x t n:Int)(ok:okB d h l v u x t n=true)(sa:Option Addr)(nW cW:Nat)(hlen:(nW:Int)≠szZ d l v u x)(w:World) :
  Calls Tryz.prog 33 #[.agg #[.int .i64 d,.int .i64 h,.int .i64 l,.int .i64 v,.int .i64 u,.int .i64 x,.int .i64 t,.int .i64 n],.slice sa nW cW] w fun e w'=>e=.returned (.tuple #[.agg #[.int .i64 0,.int .i64 0,.int .i64 0,.int .i64 0,.int .i64 0,.int .i64 0,.int .i64 0,.int .i64 0,nilS,nilS,nilS,nilS],.int .i64 21])∧Below w.heap.size w w':=by
 have k10:=refConfig_call d h l v u x t n
 have k12:=refSize_call d h l v u x t n
 simp only[ok] at k10
 have es:sizeB d h l v u x t n=szZ d l v u x:=by unfold sizeB;rw[ok];rfl
 simp only[es] at k12
 obtain⟨Z,eZ⟩:∃ Z,szZ d l v u x=Z:=⟨_,rfl⟩
 rw[eZ] at hlen
 simp only[eZ] at k12
 have hZ:((nW:Int)==Z)=false:=by simp[hlen]
 have hZ2:((nW:Int) != Z)=true:=by simp[hlen]
 clear ok es eZ
 have hb:=bNw (bNw (Below.refl w.heap.size w) (.cells #[.int .i64 d,.int .i64 h,.int .i64 l,.int .i64 v,.int .i64 u,.int .i64 x,.int .i64 t,.int .i64 n] 23)) (.cells #[.int .i64 0,.int .i64 0,.int .i64 0,.int .i64 0,.int .i64 0,.int .i64 0,.int .i64 0,.int .i64 0,nilS,nilS,nilS,nilS] 34)
 have q0:Blk 23 ((w.alloc (.cells #[.int .i64 d,.int .i64 h,.int .i64 l,.int .i64 v,.int .i64 u,.int .i64 x,.int .i64 t,.int .i64 n] 23)).alloc (.cells #[.int .i64 0,.int .i64 0,.int .i64 0,.int .i64 0,.int .i64 0,.int .i64 0,.int .i64 0,.int .i64 0,nilS,nilS,nilS,nilS] 34)) w.heap.size #[.int .i64 d,.int .i64 h,.int .i64 l,.int .i64 v,.int .i64 u,.int .i64 x,.int .i64 t,.int .i64 n]:=(Blk.new 23 w _).kept (bNw (Below.refl _ _) _)
 have qr:Blk 34 ((w.alloc (.cells #[.int .i64 d,.int .i64 h,.int .i64 l,.int .i64 v,.int .i64 u,.int .i64 x,.int .i64 t,.int .i64 n] 23)).alloc (.cells #[.int .i64 0,.int .i64 0,.int .i64 0,.int .i64 0,.int .i64 0,.int .i64 0,.int .i64 0,.int .i64 0,nilS,nilS,nilS,nilS] 34)) (w.heap.size+1) #[.int .i64 0,.int .i64 0,.int .i64 0,.int .i64 0,.int .i64 0,.int .i64 0,.int .i64 0,.int .i64 0,nilS,nilS,nilS,nilS]:=Blk.new_at 34 (w.alloc _) _ _ (by simp)
 obtain⟨d0,d1,d2,d3,d4,d5,d6,d7⟩:=q0.cfg
 go_enter Tryz.func33,Tryz.ntmps33
 go_wp2_with (first
  | (go_at_call 46;refine (k10 _).mono ?_;rintro e W1 ⟨rfl,h1⟩;replace q0:=q0.kept h1;replace qr:=qr.kept h1;replace hb:=bTn hb h1;clear h1 k10 d0 d1 d2 d3 d4 d5 d6 d7;obtain⟨d0,d1,d2,d3,d4,d5,d6,d7⟩:=q0.cfg)
  | (go_at_call 37;refine (k12 _).mono ?_;rintro e W2 ⟨rfl,h2⟩;replace qr:=qr.kept h2;replace hb:=bTn hb h2;clear h2 k12 d0 d1 d2 d3 d4 d5 d6 d7;obtain⟨z0,z1,z2,z3,z4,z5,z6,z7,z8,z9,z10,z11⟩:=qr.c12;obtain⟨o0,o1,o2,o3,o4,o5,o6,o7,o8,o9,o10,o11⟩:=qr.o12))
 obtain⟨W9,eW9,q9',only9,hz9⟩:=set12 qr (.int .i64 0) (.int .i64 0) (.int .i64 0) (.int .i64 0) (.int .i64 0) (.int .i64 0) (.int .i64 0) (.int .i64 0) nilS nilS nilS nilS
 rw[eW9]
 refine bodyPost_ret (v:=.tuple #[.agg #[.int .i64 0,.int .i64 0,.int .i64 0,.int .i64 0,.int .i64 0,.int .i64 0,.int .i64 0,.int .i64 0,nilS,nilS,nilS,nilS],.int .i64 21]) ?_ rfl ⟨rfl,Only.below hb (by omega) hb.size only9⟩
 obtain⟨y0,y1,y2,y3,y4,y5,y6,y7,y8,y9,y10,y11⟩:=q9'.c12
 simp[results,Tryz.results33,go_sem,y0,y1,y2,y3,y4,y5,y6,y7,y8,y9,y10,y11]
theorem refShape_good (d h l v u x t n:Int)(ok:okB d h l v u x t n=true)(xa:Addr)(nW cW:Nat)(ws:List Int)(w:World)(rd:Reads .i8 w (some xa) nW ws)(hc:nW≤cW)(hlen:(nW:Int)=szZ d l v u x) :
  Calls Tryz.prog 33 #[.agg #[.int .i64 d,.int .i64 h,.int .i64 l,.int .i64 v,.int .i64 u,.int .i64 x,.int .i64 t,.int .i64 n],.slice (some xa) nW cW] w fun e w'=>∃ E L N O:SL,∃ Y U D',e=.returned (.tuple #[.agg #[.int .i64 d,.int .i64 h,.int .i64 l,.int .i64 v,.int .i64 u,.int .i64 x,.int .i64 t,.int .i64 n,.slice E.a E.n E.c,.slice L.a L.n L.c,.slice N.a N.n N.c,.slice O.a O.n O.c],.int .i64 0])∧NewM w.heap.size w' E L N O Y U D' (shapeV d l v u x ws)∧Below w.heap.size w w':=by
 have dm:=dims_of ok
 have k10:=refConfig_call d h l v u x t n
 have k12:=refSize_call d h l v u x t n
 simp only[ok] at k10
 have es:sizeB d h l v u x t n=(nW:Int):=by unfold sizeB;rw[ok,hlen];rfl
 simp only[es] at k12
 have hfit:nW=offs (cntOf d l v u x) (allT l x):=by have:=dm.sz;omega
 have hxa:xa.block<w.heap.size:=by
  have c:=rd.cell xa rfl 0 (by have:=dm.sz0;omega)
  have:=World.block_lt_of_cell? _ _ c
  simpa [Addr.add] using this
 have hx:x=0∨2≤x:=by
  unfold okB expertsB at ok
  simp only[Bool.and_eq_true,decide_eq_true_eq] at ok
  omega
 rcases hx with hx|hx
 ·have n1:netsN x=1:=by unfold netsN;rw[hx];rfl
  have hf1:=hfit
  unfold cntOf allT at hf1
  rw[n1] at hf1
  have key:=refShape_few h v u x t n d.toNat (d*d).toNat (x*d).toNat (u*d).toNat (v*d).toNat l.toNat nW cW xa ws (by rw[←dm.ed];exact dm.e1) (by rw[←dm.ed];exact dm.e2) (by rw[←dm.ed];exact dm.e3) (by rw[←dm.ed];exact dm.e4) (by rw[←dm.ed,Int.mul_comm];exact dm.e4) (by omega)
   dm.b0 dm.b1 dm.b2 dm.b3 dm.b4 dm.l1 w (by rw[←dm.ed,←dm.el];exact k10) (by rw[←dm.ed,←dm.el];exact k12) rd hc (by have:=dm.sz1;omega) hf1.symm hxa
  rw[←dm.ed,←dm.el] at key
  unfold shapeV cntOf
  rw[n1]
  exact key
 ·have en:x=(netsN x:Int):=by have:=dm.en;omega
  have hf1:=hfit
  unfold cntOf allT at hf1
  have key:=refShape_many h v u t n d.toNat (d*d).toNat (x*d).toNat (u*d).toNat (v*d).toNat (netsN x) l.toNat nW cW xa ws (by rw[←dm.ed];exact dm.e1) (by rw[←dm.ed];exact dm.e2) (by rw[←dm.ed,←en];exact dm.e3) (by rw[←dm.ed];exact dm.e4) (by rw[←dm.ed,Int.mul_comm];exact dm.e4) (by omega) dm.n1
   dm.b0 dm.b1 dm.b2 dm.b3 dm.b4 dm.l1 w (by rw[←dm.ed,←dm.el,←en];exact k10) (by rw[←dm.ed,←dm.el,←en];exact k12) rd hc (by have:=dm.sz1;omega) hf1.symm hxa
  rw[←dm.ed,←dm.el,←en] at key
  exact key
def shG (d h l v u x t n:Int)(zs:List Int):Bool:=okB d h l v u x t n && decide ((zs.length:Int)=szZ d l v u x)
def shC (g:Bool)(z:Int):Int:=if g then z else 0
def shE (d h l v u x t n:Int)(zs:List Int):Int:=if okB d h l v u x t n then (if (zs.length:Int)=szZ d l v u x then 0 else 21) else 20
def shM (d h l v u x t n:Int)(zs:List Int):ModV:=if shG d h l v u x t n zs then shapeV d l v u x zs else noV
theorem refShape_any (d h l v u x t n:Int)(s:SL)(zs:List Int)(w:World)(hs:IsS w s zs) :
  Calls Tryz.prog 33 #[.agg #[.int .i64 d,.int .i64 h,.int .i64 l,.int .i64 v,.int .i64 u,.int .i64 x,.int .i64 t,.int .i64 n],.slice s.a s.n s.c] w fun e w'=>∃ E L N O:SL,∃ Y U D',e=.returned (.tuple #[.agg #[.int .i64 (shC (shG d h l v u x t n zs) d),.int .i64 (shC (shG d h l v u x t n zs) h),.int .i64 (shC (shG d h l v u x t n zs) l),.int .i64 (shC (shG d h l v u x t n zs) v),.int .i64 (shC (shG d h l v u x t n zs) u),.int .i64 (shC (shG d h l v u x t n zs) x),.int .i64 (shC (shG d h l v u x t n zs) t),.int .i64 (shC (shG d h l v u x t n zs) n),.slice E.a E.n E.c,.slice L.a L.n L.c,.slice N.a N.n N.c,.slice O.a O.n O.c],.int .i64 (shE d h l v u x t n zs)])∧NewM w.heap.size w' E L N O Y U D' (shM d h l v u x t n zs)∧Below w.heap.size w w':=by
 have hlen:=hs.reads.len
 cases ok:okB d h l v u x t n with
 | false =>
  have e1:(shG d h l v u x t n zs)=false:=by unfold shG;rw[ok];rfl
  have e2:shE d h l v u x t n zs=20:=by unfold shE;rw[ok];rfl
  have e3:shM d h l v u x t n zs=noV:=by unfold shM;rw[e1];rfl
  have e4:∀ z,shC (shG d h l v u x t n zs) z=0:=fun z=>by unfold shC;rw[e1];rfl
  simp only[e2,e3,e4]
  exact (refShape_bad d h l v u x t n ok s.a s.n s.c w).mono fun e w' hh=>⟨⟨none,0,0⟩,⟨none,0,0⟩,⟨none,0,0⟩,⟨none,0,0⟩,fun _ _=>SL.nought,fun _ _=>SL.nought,fun _ _=>SL.nought,hh.1,NewM.none_ _ _ _ _ _,hh.2⟩
 | true =>
  by_cases hl:(zs.length:Int)=szZ d l v u x
  ·have e1:(shG d h l v u x t n zs)=true:=by unfold shG;rw[ok];simp[hl]
   have e2:shE d h l v u x t n zs=0:=by unfold shE;rw[ok];simp[hl]
   have e3:shM d h l v u x t n zs=shapeV d l v u x zs:=by unfold shM;rw[e1];rfl
   have e4:∀ z,shC (shG d h l v u x t n zs) z=z:=fun z=>by unfold shC;rw[e1];rfl
   simp only[e2,e3,e4]
   have dm:=dims_of ok
   obtain⟨xa,hx⟩:=hs.reads.some_ (by have:=dm.sz;have:=dm.sz0;omega)
   have hr:=hs.reads
   have hc:=hs.cap
   rw[hx] at hr ⊢
   exact refShape_good d h l v u x t n ok xa s.n s.c zs w hr hc (by omega)
  ·have e1:(shG d h l v u x t n zs)=false:=by unfold shG;rw[ok];simp[hl]
   have e2:shE d h l v u x t n zs=21:=by unfold shE;rw[ok];simp[hl]
   have e3:shM d h l v u x t n zs=noV:=by unfold shM;rw[e1];rfl
   have e4:∀ z,shC (shG d h l v u x t n zs) z=0:=fun z=>by unfold shC;rw[e1];rfl
   simp only[e2,e3,e4]
   exact (refShape_len d h l v u x t n ok s.a s.n s.c (by omega) w).mono fun e w' hh=>⟨⟨none,0,0⟩,⟨none,0,0⟩,⟨none,0,0⟩,⟨none,0,0⟩,fun _ _=>SL.nought,fun _ _=>SL.nought,fun _ _=>SL.nought,hh.1,NewM.none_ _ _ _ _ _,hh.2⟩
end Go.Proofs.YtbkjhfmehemgpaaGreat

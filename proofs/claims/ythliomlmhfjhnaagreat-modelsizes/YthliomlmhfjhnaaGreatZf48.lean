/- Texts put together. -/
import Derived.Test.YthliomlmhfjhnaaGreatRows
import Derived.Test.YthliomlmhfjhnaaGreatZf47
namespace Go.Proofs.YthliomlmhfjhnaaGreat
set_option maxRecDepth 20000
set_option maxHeartbeats 16000000
open Go.ChangeShapes Go.WideShapes Go.ChangeAt Go.RowKit
set_option linter.unusedVariables false
set_option linter.unusedSimpArgs false
section
theorem refShape_typed (h v u x t n:Int)(D DD XD UD VD ln nW cW:Nat)(xa:Addr)(ws:List Int)(e1:v*(D:Int)=(VD:Int))(e2:(D:Int)*(D:Int)=(DD:Int))(e3:x*(D:Int)=(XD:Int))(e4:u*(D:Int)=(UD:Int))(e5:(D:Int)*u=(UD:Int))(xlt:x<1)
  (b0:D≤8) (b1:VD≤1000) (b2:DD≤1000) (b3:XD≤1000) (b4:UD≤1000) (l1:ln≤2) (w:World)
  (k10:∀ w,Calls Tryz.prog 36 #[.agg #[.int .i64 (D:Int),.int .i64 h,.int .i64 (ln:Int),.int .i64 v,.int .i64 u,.int .i64 x,.int .i64 t,.int .i64 n]] w fun e w'=>e=.returned (.bool true)∧Below w.heap.size w w')
  (k12:∀ w,Calls Tryz.prog 41 #[.agg #[.int .i64 (D:Int),.int .i64 h,.int .i64 (ln:Int),.int .i64 v,.int .i64 u,.int .i64 x,.int .i64 t,.int .i64 n]] w fun e w'=>e=.returned (.int .i64 (nW:Int))∧Below w.heap.size w w')
  (rd:Reads .i8 w (some xa) nW ws) (hc:nW≤cW) (hn:nW≤100000) (hfit:offs (planC ln 1 D DD XD UD VD) (1+ln*pl 1+2)=nW) (hxa:xa.block<w.heap.size) :
  Calls Tryz.prog 39 #[.agg #[.int .i64 (D:Int),.int .i64 h,.int .i64 (ln:Int),.int .i64 v,.int .i64 u,.int .i64 x,.int .i64 t,.int .i64 n],.slice (some xa) nW cW] w fun e w'=>∃ E L N O:SL,∃ Y U D',e=.returned (.tuple #[.agg #[.int .i64 (D:Int),.int .i64 h,.int .i64 (ln:Int),.int .i64 v,.int .i64 u,.int .i64 x,.int .i64 t,.int .i64 n,.slice E.a E.n E.c,.slice L.a L.n L.c,.slice N.a N.n N.c,.slice O.a O.n O.c],.int .i64 0]) ∧
   TM w.heap.size w' E L N O Y U D' (ofSeq ln 1 (seg (planC ln 1 D DD XD UD VD) ws))∧Below w.heap.size w w':=by
 have cl:=fun i r hi hr=>planC_list (ln:=ln) (ne:=1) (D:=D) (DD:=DD) (XD:=XD) (UD:=UD) (VD:=VD) i r hi hr
 have cu:=fun i j hi hj=>planC_up (ln:=ln) (ne:=1) (D:=D) (DD:=DD) (XD:=XD) (UD:=UD) (VD:=VD) i j hi hj
 have cd:=fun i j hi hj=>planC_down (ln:=ln) (ne:=1) (D:=D) (DD:=DD) (XD:=XD) (UD:=UD) (VD:=VD) i j hi hj
 have cn:=planC_norm (ln:=ln) (ne:=1) (D:=D) (DD:=DD) (XD:=XD) (UD:=UD) (VD:=VD)
 have co:=planC_out (ln:=ln) (ne:=1) (D:=D) (DD:=DD) (XD:=XD) (UD:=UD) (VD:=VD)
 have c0:planC ln 1 D DD XD UD VD 0=VD:=rfl
 obtain⟨cnt,ecnt⟩:∃ c,planC ln 1 D DD XD UD VD=c:=⟨_,rfl⟩
 rw[ecnt] at hfit cn co c0 ⊢
 simp only[ecnt] at cl cu cd
 clear ecnt
 have FIT:∀ k,k<1+ln*pl 1+2→offs cnt (k+1)≤nW:=fun k hk=>by rw[←hfit];exact offs_mono cnt hk
 have hb:=bNw (bNw (Below.refl w.heap.size w) (.cells #[.int .i64 (D:Int),.int .i64 h,.int .i64 (ln:Int),.int .i64 v,.int .i64 u,.int .i64 x,.int .i64 t,.int .i64 n] 23)) (.cells #[.int .i64 0,.int .i64 0,.int .i64 0,.int .i64 0,.int .i64 0,.int .i64 0,.int .i64 0,.int .i64 0,.slice none 0 0,.slice none 0 0,.slice none 0 0,.slice none 0 0] 27)
 have q0:Blk 23 ((w.alloc (.cells #[.int .i64 (D:Int),.int .i64 h,.int .i64 (ln:Int),.int .i64 v,.int .i64 u,.int .i64 x,.int .i64 t,.int .i64 n] 23)).alloc (.cells #[.int .i64 0,.int .i64 0,.int .i64 0,.int .i64 0,.int .i64 0,.int .i64 0,.int .i64 0,.int .i64 0,.slice none 0 0,.slice none 0 0,.slice none 0 0,.slice none 0 0] 27)) w.heap.size #[.int .i64 (D:Int),.int .i64 h,.int .i64 (ln:Int),.int .i64 v,.int .i64 u,.int .i64 x,.int .i64 t,.int .i64 n]:=(Blk.new 23 w _).kept (bNw (Below.refl _ _) _)
 have qr:Blk 27 ((w.alloc (.cells #[.int .i64 (D:Int),.int .i64 h,.int .i64 (ln:Int),.int .i64 v,.int .i64 u,.int .i64 x,.int .i64 t,.int .i64 n] 23)).alloc (.cells #[.int .i64 0,.int .i64 0,.int .i64 0,.int .i64 0,.int .i64 0,.int .i64 0,.int .i64 0,.int .i64 0,.slice none 0 0,.slice none 0 0,.slice none 0 0,.slice none 0 0] 27)) (w.heap.size+1) #[.int .i64 0,.int .i64 0,.int .i64 0,.int .i64 0,.int .i64 0,.int .i64 0,.int .i64 0,.int .i64 0,.slice none 0 0,.slice none 0 0,.slice none 0 0,.slice none 0 0]:=Blk.new_at 27 (w.alloc _) _ _ (by simp)
 obtain⟨d0,d1,d2,d3,d4,d5,d6,d7⟩:=q0.cfg
 have HR:=hdn (And.intro rd (And.intro hc hfit))
 have HCN:=hdn (And.intro cl (And.intro cu (And.intro cd (And.intro cn (And.intro co (And.intro c0 FIT))))))
 clear rd hc hfit cl cu cd cn co c0 FIT
 go_enter Tryz.func39,Tryz.ntmps39
 go_wp2_with (first
  | (go_at_call 36;refine (k10 _).mono ?_;rintro e W1 ⟨rfl,h1⟩;replace q0:=q0.kept h1;replace qr:=qr.kept h1;replace hb:=bTn hb h1;clear h1 k10 d0 d1 d2 d3 d4 d5 d6 d7;obtain⟨d0,d1,d2,d3,d4,d5,d6,d7⟩:=q0.cfg)
  | (go_at_call 41;refine (k12 _).mono ?_;rintro e W2 ⟨rfl,h2⟩;replace q0:=q0.kept h2;replace qr:=qr.kept h2;replace hb:=bTn hb h2;obtain⟨A,eA⟩:∃ A,W2.alloc (.cells #[.slice (some xa) nW cW] 113)=A:=⟨_,rfl⟩;have bA:Below W2.heap.size W2 A:=eA ▸ bNw (Below.refl _ _) _;have zA:A.heap.size=W2.heap.size+1:=(by rw[←eA];simp);have qx:Blk 113 A W2.heap.size #[.slice (some xa) nW cW]:=eA ▸ Blk.new 113 W2 _;clear h2 k12 d0 d1 d2 d3 d4 d5 d6 d7;obtain⟨d0,d1,d2,d3,d4,d5,d6,d7⟩:=q0.cfg))
 have q0A:=q0.kept bA
 have qrA:=qr.kept bA
 have hs2:w.heap.size≤W2.heap.size:=hb.size
 have hrl:=qr.lt
 have hbA:=bTn hb bA
 clear d0 d1 d2 d3 d4 d5 d6 d7 q0 qr bA
 refine first_region (D:Int) h (ln:Int) v u x t n W2.heap.size w.heap.size xa.block nW ws cnt (by kernel_rfl) rfl ⟨_,rfl,rfl,rfl,rfl,by kernel_rfl⟩ ⟨_,rfl,rfl,rfl,rfl,by kernel_rfl⟩ ⟨_,rfl,rfl,rfl,rfl,by kernel_rfl⟩ ⟨_,rfl,rfl,rfl,rfl,by kernel_rfl⟩ ⟨_,rfl,rfl,rfl,rfl,by kernel_rfl⟩ ⟨_,rfl,rfl,rfl,rfl,by kernel_rfl⟩ ⟨_,rfl,rfl,rfl,rfl,by kernel_rfl⟩ ⟨_,rfl,rfl,rfl,rfl,by kernel_rfl⟩ ⟨_,rfl,rfl,rfl,rfl,by kernel_rfl⟩ ⟨_,rfl,rfl,rfl,rfl,by kernel_rfl⟩ (fun w=>by rw[HCN.out.2.2.2.2.2.1];go_simp;exact wrap_fits (by omega) (by omega)) q0A rfl rfl rfl ⟨xa,cW,by simpa using qx,rfl,by simpa using HR.out.1.below hbA,by have:=HR.out.2.1;omega⟩ (by have:=HCN.out.2.2.2.2.2.2 0 (by omega);simpa [offs] using this) hn (by omega) (by omega) (by omega) (Nat.le_of_ble_eq_true rfl) ?_
 intro a W3 mb sE hs hd hkp v8 hmb qm tE hcut on3
 have ep:=fPu [27,28,29,30,31,32,33,34,8] hs hd (fun s h'=>hkp s (firD_out h'))
 simp only[List.foldl] at ep
 rw[v8] at ep
 clear hs hd hkp v8 eA qx
 generalize a.tmps.getD 27 undef=g27,a.tmps.getD 28 undef=g28,a.tmps.getD 29 undef=g29,a.tmps.getD 30 undef=g30,a.tmps.getD 31 undef=g31,a.tmps.getD 32 undef=g32,a.tmps.getD 33 undef=g33,a.tmps.getD 34 undef=g34 at ep
 simp only[Act.put,List.setIfInBounds_toArray,List.set_cons_succ,List.set_cons_zero] at ep
 subst ep
 have INIT:Hid (ShI A W2.heap.size xa.block mb nW ws cnt 1 (fun sE L=>#[.int .i64 (D:Int),.int .i64 h,.int .i64 (ln:Int),.int .i64 v,.int .i64 u,.int .i64 x,.int .i64 t,.int .i64 n,.slice sE.a sE.n sE.c,.slice L.a L.n L.c,.slice none 0 0,.slice none 0 0]) sE (ofSeq ln 1 (seg cnt ws)) 0 W3):=⟨on3,(by rw[Nat.zero_mul];exact hcut),tE,⟨none,0,0⟩,(fun _ _=>SL.nought),(fun _ _=>SL.nought),(fun _ _=>SL.nought),qm,TL.nil _ _ _ _ _ _⟩
 have HA:=hdn (And.intro hbA (And.intro q0A (And.intro qrA (And.intro hmb (And.intro zA (And.intro hs2 hrl))))))
 have K55:∀ (k:Nat) (z:Int) (W:World),k<1+ln*pl 1+2→(cnt k:Int)=z→CutAt W W2.heap.size xa.block nW ws (offs cnt k)→Calls Tryz.prog 81 #[.pointer (some ⟨W2.heap.size,0,none⟩),.int .i64 z] W fun e W'=>∃ s:SL,e=.returned (.slice s.a s.n s.c)∧TS W.heap.size W' s (seg cnt ws k)∧CutAt W' W2.heap.size xa.block nW ws (offs cnt (k+1))∧Only W2.heap.size W W':=fun k z W hk hz hcu=>by
  rw[←hz]
  exact next_seg hcu (HCN.out.2.2.2.2.2.2 k hk) hn (by omega)
 clear hbA q0A qrA hmb zA on3 hcut tE qm hb
 go_wp2
 go_loopw [9,10,11] (fun i _ _ wr=>∃ k:Nat,k≤ln∧i=.int .i64 k∧ShI A W2.heap.size xa.block mb nW ws cnt 1 (fun sE L=>#[.int .i64 (D:Int),.int .i64 h,.int .i64 (ln:Int),.int .i64 v,.int .i64 u,.int .i64 x,.int .i64 t,.int .i64 n,.slice sE.a sE.n sE.c,.slice L.a L.n L.c,.slice none 0 0,.slice none 0 0]) sE (ofSeq ln 1 (seg cnt ws)) k wr) (fun i _ _ _=>ln-(intOf i).toNat)
 case atStart=>exact⟨0,Nat.zero_le _,rfl,INIT.out⟩
 case round =>
  obtain⟨k,hk,rfl,SH⟩:=hrel
  clear INIT
  obtain⟨WR,eWR⟩:∃ WR,WR=wr:=⟨_,rfl⟩
  subst eWR
  obtain⟨hbA,q0A,qrA,hmb,zA,hs2',hrl'⟩:=HA.out
  have sAW:=SH.only.size
  have q0R:=q0A.only SH.only (by omega)
  obtain⟨d0,d1,d2,d3,d4,d5,d6,d7⟩:=q0R.cfg
  by_cases hlt:k<ln
  ·have hlt':(k:Int)<(ln:Int):=by omega
   have hpl:(k+1)*pl 1≤ln*pl 1:=Nat.mul_le_mul_right _ (by omega)
   rw[Nat.add_mul,Nat.one_mul] at hpl
   have hpl2:pl 1=7+2*1:=rfl
   have xlt1:W2.heap.size<WR.heap.size:=by omega
   have slt1:xa.block<WR.heap.size:=by omega
   have bA1:Below WR.heap.size WR (WR.alloc (.cells #[.slice none 0 0,.slice none 0 0,.slice none 0 0,.slice none 0 0,.slice none 0 0,.slice none 0 0,.slice none 0 0,.slice none 0 0,.slice none 0 0] 65)):=bNw (Below.refl _ _) _
   have zA1:(WR.alloc (.cells #[.slice none 0 0,.slice none 0 0,.slice none 0 0,.slice none 0 0,.slice none 0 0,.slice none 0 0,.slice none 0 0,.slice none 0 0,.slice none 0 0] 65)).heap.size=WR.heap.size+1:=by simp
   have hS0:LayS WR W2.heap.size xa.block WR.heap.size nW ws cnt (1+k*pl 1+0) #[.slice none 0 0,.slice none 0 0,.slice none 0 0,.slice none 0 0,.slice none 0 0,.slice none 0 0,.slice none 0 0,.slice none 0 0,.slice none 0 0] (WR.alloc (.cells #[.slice none 0 0,.slice none 0 0,.slice none 0 0,.slice none 0 0,.slice none 0 0,.slice none 0 0,.slice none 0 0,.slice none 0 0,.slice none 0 0] 65)):=⟨Only.of_below bA1,SH.cut.below bA1,Blk.new 65 WR _⟩
   have HSH:=hdn SH
   have HQR:=hdn (And.intro q0R (And.intro zA1 (And.intro hpl hpl2)))
   have CC:Hid ((cnt (1+k*pl 1+0):Int)=(D:Int)∧(cnt (1+k*pl 1+1):Int)=(DD:Int)∧(cnt (1+k*pl 1+2):Int)=(DD:Int)∧(cnt (1+k*pl 1+3):Int)=(DD:Int)∧(cnt (1+k*pl 1+4):Int)=(DD:Int)∧(cnt (1+k*pl 1+5):Int)=(D:Int)∧(cnt (1+k*pl 1+6):Int)=(XD:Int)) :=
    ⟨by rw[HCN.out.1 k 0 hlt (by omega)];rfl,by rw[HCN.out.1 k 1 hlt (by omega)];rfl,by rw[HCN.out.1 k 2 hlt (by omega)];rfl,by rw[HCN.out.1 k 3 hlt (by omega)];rfl,by rw[HCN.out.1 k 4 hlt (by omega)];rfl,by rw[HCN.out.1 k 5 hlt (by omega)];rfl,by rw[HCN.out.1 k 6 hlt (by omega)];rfl⟩
   clear SH q0R q0A qrA hbA bA1 zA1 hmb zA hs2' hrl' hpl hpl2
   go_wp2_with (first
    | (go_at_call 81;refine (K55 (1+k*pl 1+0) (D:Int) _ (by have:=HQR.out.2.2;omega) CC.out.1 hS0.cut).mono ?_;rintro e Wc0 ⟨s0,rfl,ts0,hc0,on0⟩;obtain⟨V0,eV0,z0,o0,hS1,kp0,kq0⟩:=hS0.step (Nat.le_refl _) xlt1 slt1 on0 hc0 0 rfl s0 (cs':=#[.slice s0.a s0.n s0.c,.slice none 0 0,.slice none 0 0,.slice none 0 0,.slice none 0 0,.slice none 0 0,.slice none 0 0,.slice none 0 0,.slice none 0 0]) rfl;have t0:TS WR.heap.size V0 s0 (seg cnt ws (1+k*pl 1+0)):=(ts0.step kq0).le (by have:=HQR.out.2.1;omega); clear hS0 ts0 hc0 on0 d0 d1 d2 d3 d4 d5 d6 d7)
    | (go_at_call 81;refine (K55 (1+k*pl 1+1) (DD:Int) _ (by have:=HQR.out.2.2;omega) CC.out.2.1 hS1.cut).mono ?_;rintro e Wc1 ⟨s1,rfl,ts1,hc1,on1⟩;obtain⟨V1,eV1,z1,o1,hS2,kp1,kq1⟩:=hS1.step (Nat.le_refl _) xlt1 slt1 on1 hc1 1 rfl s1 (cs':=#[.slice s0.a s0.n s0.c,.slice s1.a s1.n s1.c,.slice none 0 0,.slice none 0 0,.slice none 0 0,.slice none 0 0,.slice none 0 0,.slice none 0 0,.slice none 0 0]) rfl;have t1:TS WR.heap.size V1 s1 (seg cnt ws (1+k*pl 1+1)):=(ts1.step kq1).le hS1.only.size;replace t0:=t0.step kp1;clear hS1 ts1 hc1 on1 eV0 z0 o0 kp0 kq0)
    | (go_at_call 81;refine (K55 (1+k*pl 1+2) (DD:Int) _ (by have:=HQR.out.2.2;omega) CC.out.2.2.1 hS2.cut).mono ?_;rintro e Wc2 ⟨s2,rfl,ts2,hc2,on2⟩;obtain⟨V2,eV2,z2,o2,hS3,kp2,kq2⟩:=hS2.step (Nat.le_refl _) xlt1 slt1 on2 hc2 2 rfl s2 (cs':=#[.slice s0.a s0.n s0.c,.slice s1.a s1.n s1.c,.slice s2.a s2.n s2.c,.slice none 0 0,.slice none 0 0,.slice none 0 0,.slice none 0 0,.slice none 0 0,.slice none 0 0]) rfl;have t2:TS WR.heap.size V2 s2 (seg cnt ws (1+k*pl 1+2)):=(ts2.step kq2).le hS2.only.size;replace t0:=t0.step kp2;replace t1:=t1.step kp2;clear hS2 ts2 hc2 on2 eV1 z1 o1 kp1 kq1)
    | (go_at_call 81;refine (K55 (1+k*pl 1+3) (DD:Int) _ (by have:=HQR.out.2.2;omega) CC.out.2.2.2.1 hS3.cut).mono ?_;rintro e Wc3 ⟨s3,rfl,ts3,hc3,on3⟩;obtain⟨V3,eV3,z3,o3,hS4,kp3,kq3⟩:=hS3.step (Nat.le_refl _) xlt1 slt1 on3 hc3 3 rfl s3 (cs':=#[.slice s0.a s0.n s0.c,.slice s1.a s1.n s1.c,.slice s2.a s2.n s2.c,.slice s3.a s3.n s3.c,.slice none 0 0,.slice none 0 0,.slice none 0 0,.slice none 0 0,.slice none 0 0]) rfl;have t3:TS WR.heap.size V3 s3 (seg cnt ws (1+k*pl 1+3)):=(ts3.step kq3).le hS3.only.size;replace t0:=t0.step kp3;replace t1:=t1.step kp3;replace t2:=t2.step kp3;clear hS3 ts3 hc3 on3 eV2 z2 o2 kp2 kq2)
    | (go_at_call 81;refine (K55 (1+k*pl 1+4) (DD:Int) _ (by have:=HQR.out.2.2;omega) CC.out.2.2.2.2.1 hS4.cut).mono ?_;rintro e Wc4 ⟨s4,rfl,ts4,hc4,on4⟩;obtain⟨V4,eV4,z4,o4,hS5,kp4,kq4⟩:=hS4.step (Nat.le_refl _) xlt1 slt1 on4 hc4 4 rfl s4 (cs':=#[.slice s0.a s0.n s0.c,.slice s1.a s1.n s1.c,.slice s2.a s2.n s2.c,.slice s3.a s3.n s3.c,.slice s4.a s4.n s4.c,.slice none 0 0,.slice none 0 0,.slice none 0 0,.slice none 0 0]) rfl;have t4:TS WR.heap.size V4 s4 (seg cnt ws (1+k*pl 1+4)):=(ts4.step kq4).le hS4.only.size;replace t0:=t0.step kp4;replace t1:=t1.step kp4;replace t2:=t2.step kp4;replace t3:=t3.step kp4;clear hS4 ts4 hc4 on4 eV3 z3 o3 kp3 kq3)
    | (go_at_call 81;refine (K55 (1+k*pl 1+5) (D:Int) _ (by have:=HQR.out.2.2;omega) CC.out.2.2.2.2.2.1 hS5.cut).mono ?_;rintro e Wc5 ⟨s5,rfl,ts5,hc5,on5⟩;obtain⟨V5,eV5,z5,o5,hS6,kp5,kq5⟩:=hS5.step (Nat.le_refl _) xlt1 slt1 on5 hc5 5 rfl s5 (cs':=#[.slice s0.a s0.n s0.c,.slice s1.a s1.n s1.c,.slice s2.a s2.n s2.c,.slice s3.a s3.n s3.c,.slice s4.a s4.n s4.c,.slice s5.a s5.n s5.c,.slice none 0 0,.slice none 0 0,.slice none 0 0]) rfl;have t5:TS WR.heap.size V5 s5 (seg cnt ws (1+k*pl 1+5)):=(ts5.step kq5).le hS5.only.size;replace t0:=t0.step kp5;replace t1:=t1.step kp5;replace t2:=t2.step kp5;replace t3:=t3.step kp5;replace t4:=t4.step kp5;clear hS5 ts5 hc5 on5 eV4 z4 o4 kp4 kq4;obtain⟨d0,d1,d2,d3,d4,d5,d6,d7⟩:=(HQR.out.1.only hS6.only (by omega)).cfg)
    | (go_at_call 81;refine (K55 (1+k*pl 1+6) (XD:Int) _ (by have:=HQR.out.2.2;omega) CC.out.2.2.2.2.2.2 hS6.cut).mono ?_;rintro e Wc6 ⟨s6,rfl,ts6,hc6,on6⟩;obtain⟨V6,eV6,z6,o6,hS7,kp6,kq6⟩:=hS6.step (Nat.le_refl _) xlt1 slt1 on6 hc6 6 rfl s6 (cs':=#[.slice s0.a s0.n s0.c,.slice s1.a s1.n s1.c,.slice s2.a s2.n s2.c,.slice s3.a s3.n s3.c,.slice s4.a s4.n s4.c,.slice s5.a s5.n s5.c,.slice s6.a s6.n s6.c,.slice none 0 0,.slice none 0 0]) rfl;have t6:TS WR.heap.size V6 s6 (seg cnt ws (1+k*pl 1+6)):=(ts6.step kq6).le hS6.only.size;replace t0:=t0.step kp6;replace t1:=t1.step kp6;replace t2:=t2.step kp6;replace t3:=t3.step kp6;replace t4:=t4.step kp6;replace t5:=t5.step kp6;clear hS6 ts6 hc6 on6 eV5 z5 o5 kp5 kq5))
   clear z6 o6 eV6 kp6 kq6 d0 d1 d2 d3 d4 d5 d6 d7
   have NI0:Hid (NetI WR V6 W2.heap.size xa.block WR.heap.size nW ws cnt (1+k*pl 1+7) (fun uu dd=>#[.slice s0.a s0.n s0.c,.slice s1.a s1.n s1.c,.slice s2.a s2.n s2.c,.slice s3.a s3.n s3.c,.slice s4.a s4.n s4.c,.slice s5.a s5.n s5.c,.slice s6.a s6.n s6.c,.slice uu.a uu.n uu.c,.slice dd.a dd.n dd.c]) ((ofSeq ln 1 (seg cnt ws)).u k) ((ofSeq ln 1 (seg cnt ws)).d k) 0 V6):=⟨hS7.only,hS7.cut,⟨⟨none,0,0⟩,⟨none,0,0⟩,(fun _=>SL.nought),(fun _=>SL.nought),hS7.blk,TG.nil _ _ _ _,TG.nil _ _ _ _,(fun g hg=>by cases hg)⟩,Keeps.refl _ _,Nat.le_refl _⟩
   have HT:=hdn (And.intro t0 (And.intro t1 (And.intro t2 (And.intro t3 (And.intro t4 (And.intro t5 t6))))))
   clear t0 t1 t2 t3 t4 t5 t6 hS7
   go_loopw [11] (fun j wr=>∃ q:Nat,q≤1∧j=.int .i64 q∧NetI WR V6 W2.heap.size xa.block WR.heap.size nW ws cnt (1+k*pl 1+7) (fun uu dd=>#[.slice s0.a s0.n s0.c,.slice s1.a s1.n s1.c,.slice s2.a s2.n s2.c,.slice s3.a s3.n s3.c,.slice s4.a s4.n s4.c,.slice s5.a s5.n s5.c,.slice s6.a s6.n s6.c,.slice uu.a uu.n uu.c,.slice dd.a dd.n dd.c]) ((ofSeq ln 1 (seg cnt ws)).u k) ((ofSeq ln 1 (seg cnt ws)).d k) q wr) (fun j _=>1-(intOf j).toNat)
   case atStart=>exact⟨0,Nat.zero_le _,rfl,NI0.out⟩
   case round =>
    obtain⟨q,hq,rfl,NI⟩:=hrel
    clear NI0
    have q0q:=HQR.out.1.only NI.only (by omega)
    obtain⟨d0,d1,d2,d3,d4,d5,d6,d7⟩:=q0q.cfg
    by_cases hl2:q<1
    ·have hz3:(q:Int)<1:=by omega
     obtain⟨uu,dd,RU,RD,qlb,tU,tD,hap⟩:=NI.nets
     have HNI:=hdn NI
     have hsz:=NI.only.size
     clear NI q0q
     go_wp2
     refine net_regionU (D:Int) h (ln:Int) v u x t n 88 7 W2.heap.size w.heap.size xa.block WR.heap.size nW (1+k*pl 1+7+2*q) q WR.heap.size ws cnt _ uu.a uu.n uu.c RU ((ofSeq ln 1 (seg cnt ws)).u k) WR (by kernel_rfl) rfl ⟨_,rfl,rfl,rfl,rfl,by kernel_rfl⟩ ⟨_,rfl,rfl,rfl,rfl,by kernel_rfl⟩ ⟨_,rfl,rfl,rfl,rfl,by kernel_rfl⟩ ⟨_,rfl,rfl,rfl,rfl,by kernel_rfl⟩ ⟨_,rfl,rfl,rfl,rfl,by kernel_rfl⟩ ⟨_,rfl,rfl,rfl,rfl,by kernel_rfl⟩ ⟨_,rfl,rfl,rfl,rfl,by kernel_rfl⟩ ⟨_,rfl,rfl,rfl,rfl,by kernel_rfl⟩ ⟨_,rfl,rfl,rfl,rfl,by kernel_rfl⟩ ⟨_,rfl,rfl,rfl,rfl,by kernel_rfl⟩ ⟨_,rfl,rfl,rfl,rfl,by kernel_rfl⟩ ⟨_,rfl,rfl,rfl,rfl,by kernel_rfl⟩ (fun w=>by rw[HCN.out.2.1 k q hlt hl2];go_simp;exact wrap_fits (by omega) (by omega)) (by decide) (Nat.le_of_ble_eq_true rfl) (by decide) HQR.out.1 rfl rfl rfl rfl HNI.out.only HNI.out.cut (HCN.out.2.2.2.2.2.2 _ (by have:=HQR.out.2.2;omega)) hn (by omega) (by omega) xlt1 slt1 (Nat.le_refl _) (Nat.le_refl _) hsz qlb rfl tU rfl (by omega) ?_
     intro a X1 vU SU hs hd hkp onX cutX blkX tgX obX k46X kbX szX
     have ep:=fPu [88,89,90,91,92,93,94,95,96,97,98] hs hd (fun s h'=>hkp s (by simp at h';omega))
     simp only[List.foldl] at ep
     clear hs hd hkp d0 d1 d2 d3 d4 d5 d6 d7
     generalize a.tmps.getD 88 undef=g88,a.tmps.getD 89 undef=g89,a.tmps.getD 90 undef=g90,a.tmps.getD 91 undef=g91,a.tmps.getD 92 undef=g92,a.tmps.getD 93 undef=g93,a.tmps.getD 94 undef=g94,a.tmps.getD 95 undef=g95,a.tmps.getD 96 undef=g96,a.tmps.getD 97 undef=g97,a.tmps.getD 98 undef=g98 at ep
     simp only[Act.put,List.setIfInBounds_toArray,List.set_cons_succ,List.set_cons_zero] at ep
     subst ep
     obtain⟨ua,un,uc,euv⟩:=tgX.slice
     subst euv
     have tDX:=tD.but kbX (fun g hg hu=>hap g hu hg) k46X
     go_wp2
     refine net_regionD (D:Int) h (ln:Int) v u x t n 99 8 W2.heap.size w.heap.size xa.block WR.heap.size nW (1+k*pl 1+7+2*q+1) q WR.heap.size ws cnt _ dd.a dd.n dd.c RD ((ofSeq ln 1 (seg cnt ws)).d k) WR (by kernel_rfl) rfl ⟨_,rfl,rfl,rfl,rfl,by kernel_rfl⟩ ⟨_,rfl,rfl,rfl,rfl,by kernel_rfl⟩ ⟨_,rfl,rfl,rfl,rfl,by kernel_rfl⟩ ⟨_,rfl,rfl,rfl,rfl,by kernel_rfl⟩ ⟨_,rfl,rfl,rfl,rfl,by kernel_rfl⟩ ⟨_,rfl,rfl,rfl,rfl,by kernel_rfl⟩ ⟨_,rfl,rfl,rfl,rfl,by kernel_rfl⟩ ⟨_,rfl,rfl,rfl,rfl,by kernel_rfl⟩ ⟨_,rfl,rfl,rfl,rfl,by kernel_rfl⟩ ⟨_,rfl,rfl,rfl,rfl,by kernel_rfl⟩ ⟨_,rfl,rfl,rfl,rfl,by kernel_rfl⟩ ⟨_,rfl,rfl,rfl,rfl,by kernel_rfl⟩ (fun w=>by rw[HCN.out.2.2.1 k q hlt hl2];go_simp;exact wrap_fits (by omega) (by omega)) (by decide) (Nat.le_of_ble_eq_true rfl) (by decide) HQR.out.1 rfl rfl rfl rfl onX cutX (HCN.out.2.2.2.2.2.2 _ (by have:=HQR.out.2.2;omega)) hn (by omega) (by omega) xlt1 slt1 (Nat.le_refl _) (Nat.le_refl _) (Nat.le_trans hsz szX) blkX rfl tDX rfl (by omega) ?_
     intro a X2 vD SD hs hd hkp onY cutY blkY tgY obY k46Y kbY szY
     have ep:=fPu [99,100,101,102,103,104,105,106,107,108,109] hs hd (fun s h'=>hkp s (by simp at h';omega))
     simp only[List.foldl] at ep
     clear hs hd hkp
     generalize a.tmps.getD 99 undef=g99,a.tmps.getD 100 undef=g100,a.tmps.getD 101 undef=g101,a.tmps.getD 102 undef=g102,a.tmps.getD 103 undef=g103,a.tmps.getD 104 undef=g104,a.tmps.getD 105 undef=g105,a.tmps.getD 106 undef=g106,a.tmps.getD 107 undef=g107,a.tmps.getD 108 undef=g108,a.tmps.getD 109 undef=g109 at ep
     simp only[Act.put,List.setIfInBounds_toArray,List.set_cons_succ,List.set_cons_zero] at ep
     subst ep
     obtain⟨da,dn,dc,edv⟩:=tgY.slice
     subst edv
     have hap2:=apart_of hap tD tgX obX obY
     have tUY:=tgX.but kbY (fun g hg hd'=>apart_of hap tD tgX obX (.inl rfl) g hg hd') k46Y
     have NX:Hid (NetI WR V6 W2.heap.size xa.block WR.heap.size nW ws cnt (1+k*pl 1+7) (fun uu dd=>#[.slice s0.a s0.n s0.c,.slice s1.a s1.n s1.c,.slice s2.a s2.n s2.c,.slice s3.a s3.n s3.c,.slice s4.a s4.n s4.c,.slice s5.a s5.n s5.c,.slice s6.a s6.n s6.c,.slice uu.a uu.n uu.c,.slice dd.a dd.n dd.c]) ((ofSeq ln 1 (seg cnt ws)).u k) ((ofSeq ln 1 (seg cnt ws)).d k) (q+1) X2):=⟨onY,(by rw[show 1+k*pl 1+7+2*(q+1)=1+k*pl 1+7+2*q+1+1 by omega];exact cutY),⟨⟨ua,un,uc⟩,⟨da,dn,dc⟩,_,_,blkY,tUY,tgY,hap2⟩,(HNI.out.k46.trans k46X).trans k46Y,Nat.le_trans (Nat.le_trans HNI.out.size szX) szY⟩
     clear onY cutY blkY tgY obY k46Y kbY szY onX cutX blkX tgX obX k46X kbX szX tDX tU tD hap hap2 tUY HNI qlb
     go_wp2
     go_roundw
     case rel=>exact⟨q+1,by omega,by go_num,NX.out⟩
     case measure=>simp[intOf];omega
    ·have hz3:¬(q:Int)<1:=by omega
     have hz4:decide ((q:Int)<1)=false:=by simp;omega
     obtain rfl:1=q:=by omega
     obtain⟨uu,dd,RU,RD,qlb,tU,tD,hap⟩:=NI.nets
     obtain⟨Y,eY⟩:∃ Y,wr=Y:=⟨_,rfl⟩
     subst eY
     have kWR:∀ t,t≠113→Keeps t WR wr:=fun t ht=>HSH.out.cut.keeps NI.only ht
     obtain⟨t0,t1,t2,t3,t4,t5,t6⟩:=HT.out
     obtain⟨L,YL,UL,DL,qmb,tL⟩:=HSH.out.mod
     have qmy:=(kWR 27 (by decide)).blk qmb
     have tLy:=tL.step (kWR 65 (by decide)) (kWR 73 (by decide)) (kWR 24 (by decide))
     have tEy:=HSH.out.te.step (kWR 73 (by decide))
     obtain⟨A3,eA3⟩:∃ A3,wr.alloc (.cells #[.slice s0.a s0.n s0.c,.slice s1.a s1.n s1.c,.slice s2.a s2.n s2.c,.slice s3.a s3.n s3.c,.slice s4.a s4.n s4.c,.slice s5.a s5.n s5.c,.slice s6.a s6.n s6.c,.slice uu.a uu.n uu.c,.slice dd.a dd.n dd.c] 65)=A3:=⟨_,rfl⟩
     have bA3:Below wr.heap.size wr A3:=eA3 ▸ bNw (Below.refl _ _) _
     have gA3:Blk 65 A3 wr.heap.size ((List.range 9).map fun r=>(nine s0 s1 s2 s3 s4 s5 s6 uu dd r).v).toArray:=eA3 ▸ Blk.new 65 wr _
     have sW:=NI.only.size
     have K46:Keeps 73 V6 A3:=NI.k46.trans (Keeps.of_below bA3)
     have sAW2:=HSH.out.only.size
     have hY:TY A.heap.size A3 (nine s0 s1 s2 s3 s4 s5 s6 uu dd) RU RD ((ofSeq ln 1 (seg cnt ws)).f k) ((ofSeq ln 1 (seg cnt ws)).un k) ((ofSeq ln 1 (seg cnt ws)).dn k) ((ofSeq ln 1 (seg cnt ws)).u k) ((ofSeq ln 1 (seg cnt ws)).d k):=⟨fun j hj=>by
      rcases (show j=0∨j=1∨j=2∨j=3∨j=4∨j=5∨j=6 by omega) with rfl|rfl|rfl|rfl|rfl|rfl|rfl
      ·exact (t0.step K46).le sAW2
      ·exact (t1.step K46).le sAW2
      ·exact (t2.step K46).le sAW2
      ·exact (t3.step K46).le sAW2
      ·exact (t4.step K46).le sAW2
      ·exact (t5.step K46).le sAW2
      ·exact (t6.step K46).le sAW2,(tU.below (B':=0) bA3).le sAW2,(tD.below (B':=0) bA3).le sAW2⟩
     have c0:=qlb.cell 0 rfl
     have c1:=qlb.cell 1 rfl
     have c2:=qlb.cell 2 rfl
     have c3:=qlb.cell 3 rfl
     have c4:=qlb.cell 4 rfl
     have c5:=qlb.cell 5 rfl
     have c6:=qlb.cell 6 rfl
     have c7:=qlb.cell 7 rfl
     have c8:=qlb.cell 8 rfl
     have c9:=qmy.cell 9 rfl
     have tL3:=tLy.below bA3
     have tE3:=tEy.below bA3
     have qm3:=qmy.kept bA3
     have on3':Only W2.heap.size A A3:=(HSH.out.only.trans NI.only).trans (Only.of_below bA3)
     have cut3:=NI.cut.below bA3
     have hmb':=HA.out.2.2.2.1
     have zA':=HA.out.2.2.2.2.1
     clear NI q0q kWR t0 t1 t2 t3 t4 t5 t6 qmb tL qmy tLy tEy K46 tU tD hap qlb bA3
     go_wp2_with (first
      | (at_builtin;refine wpList_layer2 rfl (.tmp 111) (.tmp 113) rfl A.heap.size k _ YL UL DL (ofSeq ln 1 (seg cnt ws)) _ RU RD wr.heap.size 1 rfl rfl tL3 gA3 hY (by omega) on3'.size ?_;intro v' w6 hg6 hob6 k29 k46 tL6;obtain⟨Ls,eLs⟩:=tL6.slice;subst eLs;have qm6:=k29.blk qm3;obtain⟨V9,eV9,z9,o9,q9,on9,k9⟩:=fin12 qm6 9 Ls (cs':=#[.int .i64 (D:Int),.int .i64 h,.int .i64 (ln:Int),.int .i64 v,.int .i64 u,.int .i64 x,.int .i64 t,.int .i64 n,.slice sE.a sE.n sE.c,.slice Ls.a Ls.n Ls.c,.slice none 0 0,.slice none 0 0]) rfl rfl;have NS:Hid (ShI A W2.heap.size xa.block mb nW ws cnt 1 (fun sE L=>#[.int .i64 (D:Int),.int .i64 h,.int .i64 (ln:Int),.int .i64 v,.int .i64 u,.int .i64 x,.int .i64 t,.int .i64 n,.slice sE.a sE.n sE.c,.slice L.a L.n L.c,.slice none 0 0,.slice none 0 0]) sE (ofSeq ln 1 (seg cnt ws)) (k+1) V9):=⟨(on3'.grown hg6 hob6).new hmb' on9,(by rw[show 1+(k+1)*pl 1=1+k*pl 1+7+2*1 by rw[Nat.add_mul];show _=1+k*(7+2*1)+7+2*1;show 1+(k*(7+2*1)+1*(7+2*1))=_;omega];exact (cut3.grown hg6 (fun e=>by have:=hob6 _ e;omega) (fun e=>by have:=hob6 _ e;omega)).only on9 (by omega) (by omega)),(tE3.step k46).step (k9 73 (by decide)),⟨Ls,_,_,_,q9,tL6.step (k9 65 (by decide)) (k9 73 (by decide)) (k9 24 (by decide))⟩⟩;clear hg6 hob6 k29 k46 tL6 qm6 q9 on9 k9 tL3 gA3 hY tE3 qm3 on3' cut3)
      )
     go_roundw
     case rel=>exact⟨k+1,by omega,by go_num,NS.out⟩
     case measure=>simp[intOf];omega
  ·have hge:¬(k:Int)<(ln:Int):=by omega
   have hge':decide ((k:Int)<(ln:Int))=false:=by simp;omega
   have ekl:k=ln:=by omega
   obtain⟨L,YL,UL,DL,qmb,tL⟩:=SH.mod
   have tE:=SH.te
   have onA:=SH.only
   have hcN:CutAt WR W2.heap.size xa.block nW ws (offs cnt (1+ln*pl 1)):=by rw[←ekl];exact SH.cut
   have tL':TL A.heap.size WR (.slice L.a L.n L.c) ln YL UL DL (ofSeq ln 1 (seg cnt ws)):=by have h':=tL;rw[show k=ln from ekl] at h';exact h'
   have hqr:=HA.out.2.2.1
   have hbA':=HA.out.1
   have hmb':=HA.out.2.2.2.1
   have hsz7:=HA.out.2.2.2.2
   have EK:=hdn ekl
   clear SH tL ekl hbA q0A qrA hmb zA hs2' hrl'
   go_wp2_with (first
    | (go_at_call 81;refine (K55 (1+ln*pl 1) (D:Int) _ (by omega) (by rw[HCN.out.2.2.2.1]) hcN).mono ?_;rintro e X1 ⟨sN,rfl,tN,hcO,on1⟩;have kx:∀ t,t≠113→Keeps t WR X1:=fun t ht=>hcN.keeps on1 ht;obtain⟨X2,eX2,z10,o10,q2,on2,k2⟩:=fin12 ((kx 27 (by decide)).blk qmb) 10 sN (cs':=#[.int .i64 (D:Int),.int .i64 h,.int .i64 (ln:Int),.int .i64 v,.int .i64 u,.int .i64 x,.int .i64 t,.int .i64 n,.slice sE.a sE.n sE.c,.slice L.a L.n L.c,.slice sN.a sN.n sN.c,.slice none 0 0]) rfl rfl;have k12:∀ t,t≠113→t≠27→Keeps t WR X2:=fun t h1 h2=>(kx t h1).trans (k2 t h2);have onX2:Only W2.heap.size A X2:=(onA.trans on1).new hmb' on2;replace tE:=tE.step (k12 73 (by decide) (by decide));replace tN:=(tN.le onA.size).step (k2 73 (by decide));replace tL':=tL'.step (k12 65 (by decide) (by decide)) (k12 73 (by decide) (by decide)) (k12 24 (by decide) (by decide));replace hcO:=hcO.only on2 (by have:=hsz7.1;omega) (by have:=hsz7.1;omega);clear hcN on1 kx on2 k2 k12 qmb d0 d1 d2 d3 d4 d5 d6 d7;obtain⟨d0,d1,d2,d3,d4,d5,d6,d7⟩:=(HA.out.2.1.only onX2 (by omega)).cfg)
    | (go_at_call 81;refine (K55 (1+ln*pl 1+1) (VD:Int) _ (by omega) (by rw[HCN.out.2.2.2.2.1]) hcO).mono ?_;rintro e X3 ⟨sO,rfl,tO,hcX,on3⟩;have kx:∀ t,t≠113→Keeps t X2 X3:=fun t ht=>hcO.keeps on3 ht;obtain⟨X4,eX4,z11,o11,q4,on4,k4⟩:=fin12 ((kx 27 (by decide)).blk q2) 11 sO (cs':=#[.int .i64 (D:Int),.int .i64 h,.int .i64 (ln:Int),.int .i64 v,.int .i64 u,.int .i64 x,.int .i64 t,.int .i64 n,.slice sE.a sE.n sE.c,.slice L.a L.n L.c,.slice sN.a sN.n sN.c,.slice sO.a sO.n sO.c]) rfl rfl;have k34:∀ t,t≠113→t≠27→Keeps t X2 X4:=fun t h1 h2=>(kx t h1).trans (k4 t h2);have onX4:Only W2.heap.size A X4:=(onX2.trans on3).new hmb' on4;replace tE:=tE.step (k34 73 (by decide) (by decide));replace tN:=tN.step (k34 73 (by decide) (by decide));replace tO:=(tO.le onX2.size).step (k4 73 (by decide));replace tL':=tL'.step (k34 65 (by decide) (by decide)) (k34 73 (by decide) (by decide)) (k34 24 (by decide) (by decide));have qr4:=hqr.only onX4 (by have:=hsz7;omega);clear hcO on3 kx on4 k4 k34 q2 onX2 hcX d0 d1 d2 d3 d4 d5 d6 d7 z10 o10 eX2;obtain⟨a0,a1,a2,a3,a4,a5,a6,a7,a8,a9,a10,a11⟩:=q4.c12;obtain⟨r0,r1,r2,r3,r4,r5,r6,r7,r8,r9,r10,r11⟩:=qr4.c12;obtain⟨f0,f1,f2,f3,f4,f5,f6,f7,f8,f9,f10,f11⟩:=qr4.o12))
   obtain⟨W6,eW6,q6,only6,hz6⟩:=set12 qr4 (.int .i64 (D:Int)) (.int .i64 h) (.int .i64 (ln:Int)) (.int .i64 v) (.int .i64 u) (.int .i64 x) (.int .i64 t) (.int .i64 n) (.slice sE.a sE.n sE.c) (.slice L.a L.n L.c) (.slice sN.a sN.n sN.c) (.slice sO.a sO.n sO.c)
   rw[eW6]
   have K6:∀ t,t≠27→Keeps t X4 W6:=fun t ht=>Keeps.of_only only6 qr4 ht
   have hle:w.heap.size≤A.heap.size:=by omega
   have tL6:TL w.heap.size W6 (.slice L.a L.n L.c) (ofSeq ln 1 (seg cnt ws)).ln YL UL DL (ofSeq ln 1 (seg cnt ws)):=(tL'.step (K6 65 (by decide)) (K6 73 (by decide)) (K6 24 (by decide))).le hle
   obtain⟨L2,eL2,hN⟩:=tL6.new (E:=sE) (N:=sN) (O:=sO) ((tE.step (K6 73 (by decide))).le hle) ((tN.step (K6 73 (by decide))).le hle) ((tO.step (K6 73 (by decide))).le hle)
   obtain rfl:L=L2:=SL.v_inj eL2
   have bX4:Below w.heap.size w X4:=Only.below hbA' (by omega) hbA'.size onX4
   have bW6:Below w.heap.size w W6:=Only.below bX4 (by omega) bX4.size only6
   refine bodyPost_ret (v:=.tuple #[.agg #[.int .i64 (D:Int),.int .i64 h,.int .i64 (ln:Int),.int .i64 v,.int .i64 u,.int .i64 x,.int .i64 t,.int .i64 n,.slice sE.a sE.n sE.c,.slice L.a L.n L.c,.slice sN.a sN.n sN.c,.slice sO.a sO.n sO.c],.int .i64 0]) ?_ rfl ⟨sE,L,sN,sO,YL,UL,DL,rfl,⟨tL6,(tE.step (K6 73 (by decide))).le hle,(tN.step (K6 73 (by decide))).le hle,(tO.step (K6 73 (by decide))).le hle⟩,bW6⟩
   obtain⟨y0,y1,y2,y3,y4,y5,y6,y7,y8,y9,y10,y11⟩:=q6.c12
   simp[results,Tryz.results39,go_sem,y0,y1,y2,y3,y4,y5,y6,y7,y8,y9,y10,y11]
end
section
def RowN (w:World)(g:Nat)(cur:Array Value)(p1 p3:Nat)(s1 s3:Bool)(v1 v3:Value):Prop:=∃ cs,Blk 61 w g cs∧cs.size=cur.size∧∀ i,cs[i]? = if s1=true∧i=p1 then some v1 else if s3=true∧i=p3 then some v3 else cur[i]?
section
variable {w w':World}{g:Nat}{cur:Array Value}{p1 p3:Nat}{s1 s3:Bool}{v1 v3:Value}
theorem RowN.kept (h:RowN w g cur p1 p3 s1 s3 v1 v3)(hb:Below w.heap.size w w'):RowN w' g cur p1 p3 s1 s3 v1 v3:=by
 obtain⟨cs,q,h1,h2⟩:=h
 exact⟨cs,q.kept hb,h1,h2⟩
theorem RowN.at1 (h:RowN w g cur p1 p3 false s3 v1 v3)(hne:p1≠p3){x:Value}(hx:cur[p1]? = some x):w.cell? ⟨g,p1,none⟩=some x∧w.frozen? ⟨g,p1,none⟩=false:=by
 obtain⟨cs,q,h1,h2⟩:=h
 exact⟨q.cell p1 (by rw[h2,if_neg (by simp),if_neg (by simp[hne])];exact hx),q.open_ p1⟩
theorem RowN.at3 (h:RowN w g cur p1 p3 s1 false v1 v3)(hne:p1≠p3){x:Value}(hx:cur[p3]? = some x):w.cell? ⟨g,p3,none⟩=some x∧w.frozen? ⟨g,p3,none⟩=false:=by
 obtain⟨cs,q,h1,h2⟩:=h
 exact⟨q.cell p3 (by rw[h2,if_neg (by simp[Ne.symm hne]),if_neg (by simp)];exact hx),q.open_ p3⟩
theorem RowN.set1 (h:RowN w g cur p1 p3 false s3 v1 v3)(hp:p1<cur.size)(v:Value):RowN (w.setCell ⟨g,p1,none⟩ v) g cur p1 p3 true s3 v v3:=by
 obtain⟨cs,q,h1,h2⟩:=h
 refine⟨_,q.set p1 v,by rw[Array.size_setIfInBounds];exact h1,fun i=>?_⟩
 by_cases e:i=p1
 ·subst e
  rw[if_pos ⟨rfl,rfl⟩,Array.getElem?_setIfInBounds_self_of_lt (by omega)]
 ·rw[if_neg (by simp[e]),Array.getElem?_setIfInBounds_ne (fun h=>e h.symm),h2,if_neg (by simp)]
theorem RowN.set3 (h:RowN w g cur p1 p3 s1 false v1 v3)(hne:p1≠p3)(hp:p3<cur.size)(v:Value):RowN (w.setCell ⟨g,p3,none⟩ v) g cur p1 p3 s1 true v1 v:=by
 obtain⟨cs,q,h1,h2⟩:=h
 refine⟨_,q.set p3 v,by rw[Array.size_setIfInBounds];exact h1,fun i=>?_⟩
 by_cases e:i=p3
 ·subst e
  rw[if_neg (by simp[Ne.symm hne]),if_pos ⟨rfl,rfl⟩,Array.getElem?_setIfInBounds_self_of_lt (by omega)]
 ·rw[Array.getElem?_setIfInBounds_ne (fun h=>e h.symm),h2]
  by_cases e1:s1=true∧i=p1
  ·rw[if_pos e1,if_pos e1]
  ·rw[if_neg e1,if_neg e1,if_neg (by simp),if_neg (by simp[e])]
end
theorem run_load28x {w:World}{p:Addr}{a:Option Addr}{n c:Nat}(h:w.cell? p=some (.slice a n c)):(Instr.loadAt 28 (.pointer (some p))).run Tryz.prog w=.ok (.slice a n c) w:=by go_simp
theorem run_store24x {w:World}{p:Addr}{a:Option Addr}{n c:Nat}{x:Value}(h:w.cell? p=some x∧w.frozen? p=false):(Instr.storeAt 24 (.pointer (some p)) (.slice a n c)).run Tryz.prog w=.ok () (w.setCell p (.slice a n c)):=by
 obtain⟨h1,h2⟩:=h
 go_simp
theorem run_load24x {w:World}{p:Addr}{a:Option Addr}{n c:Nat}(h:w.cell? p=some (.slice a n c)):(Instr.loadAt 24 (.pointer (some p))).run Tryz.prog w=.ok (.slice a n c) w:=by go_simp
def nt10D (i:Nat):Option Nat:=match i with|0=>some 46|1=>some 47|2=>some 48|3=>some 49|4=>some 50|5=>some 51|6=>some 52|7=>some 53|8=>some 54|9=>some 55|10=>some 56|11=>some 57|12=>some 58|13=>some 59|14=>some 60|15=>some 61|16=>some 62|17=>some 63|18=>some 64|19=>some 65|20=>some 66|21=>some 67|22=>some 68|23=>some 69|25=>some 70|26=>some 71|_=>none
theorem nt10D_inj:∀ i,i<28→∀ j,j<28→nt10D i=nt10D j→nt10D i≠none→i=j:=by decide
def nt10F (ab g9 n9 c9 kk:Nat)(y1 y3:SL)(cur:Array Value)(g0:Nat)(_k:Nat→Bool)(j:Nat)(q:Value)(w:World):Prop:=match j with
 | 0=>q=.pointer (some ⟨ab,2,none⟩)
 | 1=>q=.slice (some ⟨g9,0,none⟩) n9 c9
 | 2=>q=.int .i64 (kk:Int)
 | 3=>q=.pointer (some ⟨ab,2,none⟩)
 | 4=>q=.slice (some ⟨g9,0,none⟩) n9 c9
 | 5=>q=.int .i64 (kk:Int)
 | 6=>q=.pointer (some ⟨ab,2,none⟩)
 | 7=>q=.slice (some ⟨g9,0,none⟩) n9 c9
 | 8=>q=.int .i64 (kk:Int)
 | 9=>q=.pointer (some ⟨g9,kk*4,none⟩)
 | 10=>q=.pointer (some ⟨g9,kk*4+1,none⟩)
 | 11=>q=.slice y1.a y1.n y1.c
 | 12=>q=.int .i64 (y1.n:Int)
 | 14=>q=.pointer (some ⟨ab,2,none⟩)
 | 15=>q=.slice (some ⟨g9,0,none⟩) n9 c9
 | 16=>q=.int .i64 (kk:Int)
 | 17=>q=.pointer (some ⟨g9,kk*4,none⟩)
 | 18=>q=.pointer (some ⟨g9,kk*4+3,none⟩)
 | 19=>q=.slice y3.a y3.n y3.c
 | 20=>q=.int .i64 (y3.n:Int)
 | 22=>q=.pointer (some ⟨g9,kk*4,none⟩)
 | 23=>q=.pointer (some ⟨g9,kk*4+1,none⟩)
 | 25=>q=.pointer (some ⟨g9,kk*4,none⟩)
 | 26=>q=.pointer (some ⟨g9,kk*4+3,none⟩)
 | 13=>∃ b,q=.slice (some ⟨b,0,none⟩) y1.n y1.n∧g0≤b∧Blk 73 w b (madeCells #[.int .i8 0] y1.n)
 | 21=>∃ b,q=.slice (some ⟨b,0,none⟩) y3.n y3.n∧g0≤b∧Blk 73 w b (madeCells #[.int .i8 0] y3.n)
 | _=>True
theorem nt10_region {id:Nat}{ops:Array Oper}{Q:Exit→Act→World→Prop}{a0:Act}{w0:World}(ab g9 n9 c9 kk:Nat)(y1 y3:SL)(cur:Array Value)(qa:∀ w,Only g9 w0 w→w.cell? ⟨ab,2,none⟩=some (.slice (some ⟨g9,0,none⟩) n9 c9))(qg:Blk 61 w0 g9 cur)(hk:kk<n9)(hn:n9≤4611686018427387904)(hy1:cur[kk*4+1]? = some y1.v)(hy3:cur[kk*4+3]? = some y3.v)(hl1:y1.n≤100000)(hl3:y3.n≤100000)
  (hlow:lowB ops=true) (hsz:ops.size=28)
  (o0:OpIn ops 0 (some 46) (.fieldAddr 30 (.tmp 5) 2) none []) (o1:OpIn ops 1 (some 47) (.load 28 (.tmp 46)) none [0]) (o2:OpIn ops 2 (some 48) (.move (.tmp 6)) none []) (o3:OpIn ops 3 (some 49) (.fieldAddr 30 (.tmp 5) 2) none []) (o4:OpIn ops 4 (some 50) (.load 28 (.tmp 49)) none [3]) (o5:OpIn ops 5 (some 51) (.move (.tmp 6)) none []) (o6:OpIn ops 6 (some 52) (.fieldAddr 30 (.tmp 5) 2) none []) (o7:OpIn ops 7 (some 53) (.load 28 (.tmp 52)) none [6]) (o8:OpIn ops 8 (some 54) (.move (.tmp 6)) none []) (o9:OpIn ops 9 (some 55) (.indexAddr 28 (.tmp 53) (.tmp 54)) none [7,8]) (o10:OpIn ops 10 (some 56) (.fieldAddr 61 (.tmp 55) 1) none [9]) (o11:OpIn ops 11 (some 57) (.load 24 (.tmp 56)) none [10]) (o12:OpIn ops 12 (some 58) (.call { callee:=.builtin .len,args:=#[.tmp 57],argTypes:=#[24] }) none [11]) (o13:OpIn ops 13 (some 59) (.makeSlice 24 (.tmp 58) (.tmp 58)) none [12]) (o14:OpIn ops 14 (some 60) (.fieldAddr 30 (.tmp 5) 2) none []) (o15:OpIn ops 15 (some 61) (.load 28 (.tmp 60)) none [14]) (o16:OpIn ops 16 (some 62) (.move (.tmp 6)) none []) (o17:OpIn ops 17 (some 63) (.indexAddr 28 (.tmp 61) (.tmp 62)) none [15,16]) (o18:OpIn ops 18 (some 64) (.fieldAddr 61 (.tmp 63) 3) none [17]) (o19:OpIn ops 19 (some 65) (.load 24 (.tmp 64)) none [18]) (o20:OpIn ops 20 (some 66) (.call { callee:=.builtin .len,args:=#[.tmp 65],argTypes:=#[24] }) none [19]) (o21:OpIn ops 21 (some 67) (.makeSlice 24 (.tmp 66) (.tmp 66)) none [20]) (o22:OpIn ops 22 (some 68) (.indexAddr 28 (.tmp 47) (.tmp 48)) none [1,2]) (o23:OpIn ops 23 (some 69) (.fieldAddr 61 (.tmp 68) 1) none [22]) (o24:OpIn ops 24 none (.store 24 (.tmp 69) (.tmp 59)) none [13,23]) (o25:OpIn ops 25 (some 70) (.indexAddr 28 (.tmp 50) (.tmp 51)) none [4,5]) (o26:OpIn ops 26 (some 71) (.fieldAddr 61 (.tmp 70) 3) none [25]) (o27:OpIn ops 27 none (.store 24 (.tmp 71) (.tmp 67)) none [21,26])
  (u5:a0.tmps.getD 5 undef=.pointer (some ⟨ab,0,none⟩)) (u6:a0.tmps.getD 6 undef=.int .i64 (kk:Int))
  (hs:103≤a0.tmps.size)
  (fin:∀ a w b1 b3,a.tmps.size=a0.tmps.size→a.defers=a0.defers→(∀ s,(∀ i,i<28→nt10D i≠some s)→a.tmps.getD s undef=a0.tmps.getD s undef)→Only g9 w0 w→w0.heap.size≤b1→w0.heap.size≤b3→Blk 73 w b1 (madeCells #[.int .i8 0] y1.n)→Blk 73 w b3 (madeCells #[.int .i8 0] y3.n)→RowN w g9 cur (kk*4+1) (kk*4+3) true true (.slice (some ⟨b1,0,none⟩) y1.n y1.n) (.slice (some ⟨b3,0,none⟩) y3.n y3.n)→Q .normal a w):(Code.region id ops true).wp Tryz.prog Q a0 w0:=by
 have p1:kk*4+1<cur.size:=(Array.getElem?_eq_some_iff.1 hy1).1
 have p3:kk*4+3<cur.size:=(Array.getElem?_eq_some_iff.1 hy3).1
 refine wp_region_inv2 (by kernel_rfl) hlow (Inv 28 nt10D a0 (fun l a w=>Only g9 w0 w∧w0.heap.size≤w.heap.size∧RowN w g9 cur (kk*4+1) (kk*4+3) (l 24) (l 27) (a.tmps.getD 59 undef) (a.tmps.getD 67 undef)) (nt10F ab g9 n9 c9 kk y1 y3 cur w0.heap.size)) (Inv.start ⟨Only.of_below (Below.refl _ _).drew,Nat.le_refl _,⟨cur,qg,rfl,fun i=>by rw[if_neg (by simp),if_neg (by simp)]⟩⟩) ?_ ?_
 ·intro l i o a w ho hl hcl hdep hI
  have hi:i<28:=by rw[←hsz];exact (Array.getElem?_eq_some_iff.1 ho).1
  have ev:∀ (s:Nat),a.eval (.tmp s)=a.tmps.getD s undef:=fun _=>rfl
  have inj:∀ d,nt10D i=some d→∀ j d',j<28→nt10D j=some d'→j≠i→d'≠d:=fun d hd j d' hj hd' hne e=>hne (nt10D_inj j hj i hi (by rw[hd',hd,e]) (by rw[hd'];simp))
  have kp:∀ s,(∀ i,i<28→nt10D i≠some s)→a.tmps.getD s undef=a0.tmps.getD s undef:=hI.kept
  obtain⟨hw,hz,hr⟩:Only g9 w0 w∧w0.heap.size≤w.heap.size∧RowN w g9 cur (kk*4+1) (kk*4+3) (l 24) (l 27) (a.tmps.getD 59 undef) (a.tmps.getD 67 undef):=hI.world
  have oth:∀ j,j≠i→(l j || j==i)=l j:=fun j hj=>by rw[show (j==i)=false by simp[hj],Bool.or_false]
  have sam:(l i || i==i)=true:=by simp
  have gp:∀ (d:Nat) (v:Value) (s:Nat),d<103→(a.put (some d) v).tmps.getD s undef=if s=d then v else a.tmps.getD s undef:=fun d v s hd=>get_put a d v s (by rw[hI.size];exact Nat.lt_of_lt_of_le hd hs)
  have go:∀ {d:Nat}{v:Value},nt10D i=some d→d<103→d≠59→d≠67→i≠24→i≠27→nt10F ab g9 n9 c9 kk y1 y3 cur w0.heap.size (fun j=>l j || j==i) i v w→Inv 28 nt10D a0 (fun l a w=>Only g9 w0 w∧w0.heap.size≤w.heap.size∧RowN w g9 cur (kk*4+1) (kk*4+3) (l 24) (l 27) (a.tmps.getD 59 undef) (a.tmps.getD 67 undef)) (nt10F ab g9 n9 c9 kk y1 y3 cur w0.heap.size) (fun j=>l j || j==i) (a.put (some d) v) w:=by
   intro d v hD hd n1 n2 n3 n4 hF
   refine hI.put hi hD (Nat.lt_of_lt_of_le hd hs) (inj d hD) ?_ hF (fun j u _ _ _ hf=>hf)
   dsimp only
   rw[gp d v 59 hd,gp d v 67 hd,if_neg (Ne.symm n1),if_neg (Ne.symm n2),oth 24 (Ne.symm n3),oth 27 (Ne.symm n4)]
   exact⟨hw,hz,hr⟩
  rcases (show i=0∨i=1∨i=2∨i=3∨i=4∨i=5∨i=6∨i=7∨i=8∨i=9∨i=10∨i=11∨i=12∨i=13∨i=14∨i=15∨i=16∨i=17∨i=18∨i=19∨i=20∨i=21∨i=22∨i=23∨i=24∨i=25∨i=26∨i=27 by omega) with rfl|rfl|rfl|rfl|rfl|rfl|rfl|rfl|rfl|rfl|rfl|rfl|rfl|rfl|rfl|rfl|rfl|rfl|rfl|rfl|rfl|rfl|rfl|rfl|rfl|rfl|rfl|rfl
  ·obtain⟨o',e1,e2,e3,e4,e5⟩:=o0
   obtain rfl:=sOp ho e1
   have dp:=dPo e5 hdep
   have U5:a.tmps.getD 5 undef=_:=(kp 5 (by decide)).trans u5
   exact wVa (v:=.pointer (some ⟨ab,2,none⟩)) (w':=w) ho e4 (by simp[execOp,e3,ev,U5,run_ad2 ab]) (by rw[e2];exact go rfl (by decide) (by decide) (by decide) (by decide) (by decide) rfl)
  ·obtain⟨o',e1,e2,e3,e4,e5⟩:=o1
   obtain rfl:=sOp ho e1
   have dp:=dPo e5 hdep
   have V0:a.tmps.getD 46 undef=.pointer (some ⟨ab,2,none⟩):=hI.val 0 46 (by decide) rfl (dp 0 (by decide))
   have r9:=run_load28x (qa w hw)
   exact wVa (v:=.slice (some ⟨g9,0,none⟩) n9 c9) (w':=w) ho e4 (by simp[execOp,e3,ev,V0,r9]) (by rw[e2];exact go rfl (by decide) (by decide) (by decide) (by decide) (by decide) rfl)
  ·obtain⟨o',e1,e2,e3,e4,e5⟩:=o2
   obtain rfl:=sOp ho e1
   have dp:=dPo e5 hdep
   have U6:a.tmps.getD 6 undef=_:=(kp 6 (by decide)).trans u6
   exact wVa (v:=.int .i64 (kk:Int)) (w':=w) ho e4 (by simp[execOp,e3,ev,U6]) (by rw[e2];exact go rfl (by decide) (by decide) (by decide) (by decide) (by decide) rfl)
  ·obtain⟨o',e1,e2,e3,e4,e5⟩:=o3
   obtain rfl:=sOp ho e1
   have dp:=dPo e5 hdep
   have U5:a.tmps.getD 5 undef=_:=(kp 5 (by decide)).trans u5
   exact wVa (v:=.pointer (some ⟨ab,2,none⟩)) (w':=w) ho e4 (by simp[execOp,e3,ev,U5,run_ad2 ab]) (by rw[e2];exact go rfl (by decide) (by decide) (by decide) (by decide) (by decide) rfl)
  ·obtain⟨o',e1,e2,e3,e4,e5⟩:=o4
   obtain rfl:=sOp ho e1
   have dp:=dPo e5 hdep
   have V3:a.tmps.getD 49 undef=.pointer (some ⟨ab,2,none⟩):=hI.val 3 49 (by decide) rfl (dp 3 (by decide))
   have r9:=run_load28x (qa w hw)
   exact wVa (v:=.slice (some ⟨g9,0,none⟩) n9 c9) (w':=w) ho e4 (by simp[execOp,e3,ev,V3,r9]) (by rw[e2];exact go rfl (by decide) (by decide) (by decide) (by decide) (by decide) rfl)
  ·obtain⟨o',e1,e2,e3,e4,e5⟩:=o5
   obtain rfl:=sOp ho e1
   have dp:=dPo e5 hdep
   have U6:a.tmps.getD 6 undef=_:=(kp 6 (by decide)).trans u6
   exact wVa (v:=.int .i64 (kk:Int)) (w':=w) ho e4 (by simp[execOp,e3,ev,U6]) (by rw[e2];exact go rfl (by decide) (by decide) (by decide) (by decide) (by decide) rfl)
  ·obtain⟨o',e1,e2,e3,e4,e5⟩:=o6
   obtain rfl:=sOp ho e1
   have dp:=dPo e5 hdep
   have U5:a.tmps.getD 5 undef=_:=(kp 5 (by decide)).trans u5
   exact wVa (v:=.pointer (some ⟨ab,2,none⟩)) (w':=w) ho e4 (by simp[execOp,e3,ev,U5,run_ad2 ab]) (by rw[e2];exact go rfl (by decide) (by decide) (by decide) (by decide) (by decide) rfl)
  ·obtain⟨o',e1,e2,e3,e4,e5⟩:=o7
   obtain rfl:=sOp ho e1
   have dp:=dPo e5 hdep
   have V6:a.tmps.getD 52 undef=.pointer (some ⟨ab,2,none⟩):=hI.val 6 52 (by decide) rfl (dp 6 (by decide))
   have r9:=run_load28x (qa w hw)
   exact wVa (v:=.slice (some ⟨g9,0,none⟩) n9 c9) (w':=w) ho e4 (by simp[execOp,e3,ev,V6,r9]) (by rw[e2];exact go rfl (by decide) (by decide) (by decide) (by decide) (by decide) rfl)
  ·obtain⟨o',e1,e2,e3,e4,e5⟩:=o8
   obtain rfl:=sOp ho e1
   have dp:=dPo e5 hdep
   have U6:a.tmps.getD 6 undef=_:=(kp 6 (by decide)).trans u6
   exact wVa (v:=.int .i64 (kk:Int)) (w':=w) ho e4 (by simp[execOp,e3,ev,U6]) (by rw[e2];exact go rfl (by decide) (by decide) (by decide) (by decide) (by decide) rfl)
  ·obtain⟨o',e1,e2,e3,e4,e5⟩:=o9
   obtain rfl:=sOp ho e1
   have dp:=dPo e5 hdep
   have V7:a.tmps.getD 53 undef=.slice (some ⟨g9,0,none⟩) n9 c9:=hI.val 7 53 (by decide) rfl (dp 7 (by decide))
   have V8:a.tmps.getD 54 undef=.int .i64 (kk:Int):=hI.val 8 54 (by decide) rfl (dp 8 (by decide))
   have r9:=run_idx22 ⟨g9,0,none⟩ n9 c9 kk hk hn w
   rw[add_at] at r9
   exact wVa (v:=.pointer (some ⟨g9,kk*4,none⟩)) (w':=w) ho e4 (by simp[execOp,e3,ev,V7,V8,r9]) (by rw[e2];exact go rfl (by decide) (by decide) (by decide) (by decide) (by decide) rfl)
  ·obtain⟨o',e1,e2,e3,e4,e5⟩:=o10
   obtain rfl:=sOp ho e1
   have dp:=dPo e5 hdep
   have V9:a.tmps.getD 55 undef=.pointer (some ⟨g9,kk*4,none⟩):=hI.val 9 55 (by decide) rfl (dp 9 (by decide))
   have r9:=grrun_field (p:=⟨g9,kk*4,none⟩) 1 (by decide) w
   rw[show (⟨g9,kk*4,none⟩:Addr).add 1=⟨g9,kk*4+1,none⟩ from rfl] at r9
   exact wVa (v:=.pointer (some ⟨g9,kk*4+1,none⟩)) (w':=w) ho e4 (by simp[execOp,e3,ev,V9,r9]) (by rw[e2];exact go rfl (by decide) (by decide) (by decide) (by decide) (by decide) rfl)
  ·obtain⟨o',e1,e2,e3,e4,e5⟩:=o11
   obtain rfl:=sOp ho e1
   have dp:=dPo e5 hdep
   have V10:a.tmps.getD 56 undef=.pointer (some ⟨g9,kk*4+1,none⟩):=hI.val 10 56 (by decide) rfl (dp 10 (by decide))
   have n24:l 24=false:=by
    cases e0:l 24 with
    | false=>rfl
    | true =>
     have e0':=hcl.dep' o24 e0 13 (by decide)
     have e1':=hcl.dep' o13 e0' 12 (by decide)
     have e2':=hcl.dep' o12 e1' 11 (by decide)
     rw[hl] at e2'
     cases e2'
   rw[n24] at hr
   have r9:=run_load24x (hr.at1 (by omega) hy1).1
   exact wVa (v:=.slice y1.a y1.n y1.c) (w':=w) ho e4 (by simp[execOp,e3,ev,V10,r9]) (by rw[e2];exact go rfl (by decide) (by decide) (by decide) (by decide) (by decide) rfl)
  ·obtain⟨o',e1,e2,e3,e4,e5⟩:=o12
   obtain rfl:=sOp ho e1
   have dp:=dPo e5 hdep
   have V11:a.tmps.getD 57 undef=.slice y1.a y1.n y1.c:=hI.val 11 57 (by decide) rfl (dp 11 (by decide))
   exact wVa (v:=.int .i64 (y1.n:Int)) (w':=w) ho e4 (by simp[execOp,e3,ev,V11,builtin,resolve,invoke,goInt,Builtin.len_,run_underlying Tryz.underlying24]) (by rw[e2];exact go rfl (by decide) (by decide) (by decide) (by decide) (by decide) rfl)
  ·obtain⟨o',e1,e2,e3,e4,e5⟩:=o13
   obtain rfl:=sOp ho e1
   have dp:=dPo e5 hdep
   have V12:a.tmps.getD 58 undef=.int .i64 (y1.n:Int):=hI.val 12 58 (by decide) rfl (dp 12 (by decide))
   have n24:l 24=false:=by
    cases e0:l 24 with
    | false=>rfl
    | true =>
     have e0':=hcl.dep' o24 e0 13 (by decide)
     rw[hl] at e0'
     cases e0'
   have r9:=run_make_row' 24 73 (.int .i8 0) 1 Tryz.underlying24 info73 rfl .i64 .i64 y1.n (by omega) (by omega) w
   have hb:=bNw (Below.refl w.heap.size w) (.cells (madeCells #[.int .i8 0] y1.n) 73)
   refine wVa (v:=.slice (some ⟨w.heap.size,0,none⟩) y1.n y1.n) (w':=w.alloc (.cells (madeCells #[.int .i8 0] y1.n) 73)) ho e4 (by simp[execOp,e3,ev,V12,r9]) ?_
   rw[e2]
   refine hI.put (by decide) (d:=59) rfl (Nat.lt_of_lt_of_le (by decide) hs) (inj 59 rfl) ?_ ⟨w.heap.size,rfl,hz,Blk.new 73 w _⟩ (fun j u hj _ _ hf=>?_)
   ·dsimp only
    rw[gp 59 _ 59 (by decide),gp 59 _ 67 (by decide),oth 24 (by decide),oth 27 (by decide)]
    refine⟨hw.trans (Only.of_below hb),Nat.le_trans hz hb.size,?_⟩
    rw[n24] at hr ⊢
    obtain⟨cs,q,h1,h2⟩:=hr.kept hb
    refine⟨cs,q,h1,fun i=>?_⟩
    rw[h2 i]
    simp
   ·unfold nt10F at hf ⊢
    rcases (show j=0∨j=1∨j=2∨j=3∨j=4∨j=5∨j=6∨j=7∨j=8∨j=9∨j=10∨j=11∨j=12∨j=13∨j=14∨j=15∨j=16∨j=17∨j=18∨j=19∨j=20∨j=21∨j=22∨j=23∨j=24∨j=25∨j=26∨j=27 by omega) with rfl|rfl|rfl|rfl|rfl|rfl|rfl|rfl|rfl|rfl|rfl|rfl|rfl|rfl|rfl|rfl|rfl|rfl|rfl|rfl|rfl|rfl|rfl|rfl|rfl|rfl|rfl|rfl<;>first
     | exact hf
     | (obtain⟨b,q1,q2,q3⟩:=hf;exact⟨b,q1,q2,q3.kept hb⟩)
  ·obtain⟨o',e1,e2,e3,e4,e5⟩:=o14
   obtain rfl:=sOp ho e1
   have dp:=dPo e5 hdep
   have U5:a.tmps.getD 5 undef=_:=(kp 5 (by decide)).trans u5
   exact wVa (v:=.pointer (some ⟨ab,2,none⟩)) (w':=w) ho e4 (by simp[execOp,e3,ev,U5,run_ad2 ab]) (by rw[e2];exact go rfl (by decide) (by decide) (by decide) (by decide) (by decide) rfl)
  ·obtain⟨o',e1,e2,e3,e4,e5⟩:=o15
   obtain rfl:=sOp ho e1
   have dp:=dPo e5 hdep
   have V14:a.tmps.getD 60 undef=.pointer (some ⟨ab,2,none⟩):=hI.val 14 60 (by decide) rfl (dp 14 (by decide))
   have r9:=run_load28x (qa w hw)
   exact wVa (v:=.slice (some ⟨g9,0,none⟩) n9 c9) (w':=w) ho e4 (by simp[execOp,e3,ev,V14,r9]) (by rw[e2];exact go rfl (by decide) (by decide) (by decide) (by decide) (by decide) rfl)
  ·obtain⟨o',e1,e2,e3,e4,e5⟩:=o16
   obtain rfl:=sOp ho e1
   have dp:=dPo e5 hdep
   have U6:a.tmps.getD 6 undef=_:=(kp 6 (by decide)).trans u6
   exact wVa (v:=.int .i64 (kk:Int)) (w':=w) ho e4 (by simp[execOp,e3,ev,U6]) (by rw[e2];exact go rfl (by decide) (by decide) (by decide) (by decide) (by decide) rfl)
  ·obtain⟨o',e1,e2,e3,e4,e5⟩:=o17
   obtain rfl:=sOp ho e1
   have dp:=dPo e5 hdep
   have V15:a.tmps.getD 61 undef=.slice (some ⟨g9,0,none⟩) n9 c9:=hI.val 15 61 (by decide) rfl (dp 15 (by decide))
   have V16:a.tmps.getD 62 undef=.int .i64 (kk:Int):=hI.val 16 62 (by decide) rfl (dp 16 (by decide))
   have r9:=run_idx22 ⟨g9,0,none⟩ n9 c9 kk hk hn w
   rw[add_at] at r9
   exact wVa (v:=.pointer (some ⟨g9,kk*4,none⟩)) (w':=w) ho e4 (by simp[execOp,e3,ev,V15,V16,r9]) (by rw[e2];exact go rfl (by decide) (by decide) (by decide) (by decide) (by decide) rfl)
  ·obtain⟨o',e1,e2,e3,e4,e5⟩:=o18
   obtain rfl:=sOp ho e1
   have dp:=dPo e5 hdep
   have V17:a.tmps.getD 63 undef=.pointer (some ⟨g9,kk*4,none⟩):=hI.val 17 63 (by decide) rfl (dp 17 (by decide))
   have r9:=grrun_field (p:=⟨g9,kk*4,none⟩) 3 (by decide) w
   rw[show (⟨g9,kk*4,none⟩:Addr).add 3=⟨g9,kk*4+3,none⟩ from rfl] at r9
   exact wVa (v:=.pointer (some ⟨g9,kk*4+3,none⟩)) (w':=w) ho e4 (by simp[execOp,e3,ev,V17,r9]) (by rw[e2];exact go rfl (by decide) (by decide) (by decide) (by decide) (by decide) rfl)
  ·obtain⟨o',e1,e2,e3,e4,e5⟩:=o19
   obtain rfl:=sOp ho e1
   have dp:=dPo e5 hdep
   have V18:a.tmps.getD 64 undef=.pointer (some ⟨g9,kk*4+3,none⟩):=hI.val 18 64 (by decide) rfl (dp 18 (by decide))
   have n27:l 27=false:=by
    cases e0:l 27 with
    | false=>rfl
    | true =>
     have e0':=hcl.dep' o27 e0 21 (by decide)
     have e1':=hcl.dep' o21 e0' 20 (by decide)
     have e2':=hcl.dep' o20 e1' 19 (by decide)
     rw[hl] at e2'
     cases e2'
   rw[n27] at hr
   have r9:=run_load24x (hr.at3 (by omega) hy3).1
   exact wVa (v:=.slice y3.a y3.n y3.c) (w':=w) ho e4 (by simp[execOp,e3,ev,V18,r9]) (by rw[e2];exact go rfl (by decide) (by decide) (by decide) (by decide) (by decide) rfl)
  ·obtain⟨o',e1,e2,e3,e4,e5⟩:=o20
   obtain rfl:=sOp ho e1
   have dp:=dPo e5 hdep
   have V19:a.tmps.getD 65 undef=.slice y3.a y3.n y3.c:=hI.val 19 65 (by decide) rfl (dp 19 (by decide))
   exact wVa (v:=.int .i64 (y3.n:Int)) (w':=w) ho e4 (by simp[execOp,e3,ev,V19,builtin,resolve,invoke,goInt,Builtin.len_,run_underlying Tryz.underlying24]) (by rw[e2];exact go rfl (by decide) (by decide) (by decide) (by decide) (by decide) rfl)
  ·obtain⟨o',e1,e2,e3,e4,e5⟩:=o21
   obtain rfl:=sOp ho e1
   have dp:=dPo e5 hdep
   have V20:a.tmps.getD 66 undef=.int .i64 (y3.n:Int):=hI.val 20 66 (by decide) rfl (dp 20 (by decide))
   have n27:l 27=false:=by
    cases e0:l 27 with
    | false=>rfl
    | true =>
     have e0':=hcl.dep' o27 e0 21 (by decide)
     rw[hl] at e0'
     cases e0'
   have r9:=run_make_row' 24 73 (.int .i8 0) 1 Tryz.underlying24 info73 rfl .i64 .i64 y3.n (by omega) (by omega) w
   have hb:=bNw (Below.refl w.heap.size w) (.cells (madeCells #[.int .i8 0] y3.n) 73)
   refine wVa (v:=.slice (some ⟨w.heap.size,0,none⟩) y3.n y3.n) (w':=w.alloc (.cells (madeCells #[.int .i8 0] y3.n) 73)) ho e4 (by simp[execOp,e3,ev,V20,r9]) ?_
   rw[e2]
   refine hI.put (by decide) (d:=67) rfl (Nat.lt_of_lt_of_le (by decide) hs) (inj 67 rfl) ?_ ⟨w.heap.size,rfl,hz,Blk.new 73 w _⟩ (fun j u hj _ _ hf=>?_)
   ·dsimp only
    rw[gp 67 _ 59 (by decide),gp 67 _ 67 (by decide),oth 24 (by decide),oth 27 (by decide)]
    refine⟨hw.trans (Only.of_below hb),Nat.le_trans hz hb.size,?_⟩
    rw[n27] at hr ⊢
    obtain⟨cs,q,h1,h2⟩:=hr.kept hb
    refine⟨cs,q,h1,fun i=>?_⟩
    rw[h2 i]
    simp
   ·unfold nt10F at hf ⊢
    rcases (show j=0∨j=1∨j=2∨j=3∨j=4∨j=5∨j=6∨j=7∨j=8∨j=9∨j=10∨j=11∨j=12∨j=13∨j=14∨j=15∨j=16∨j=17∨j=18∨j=19∨j=20∨j=21∨j=22∨j=23∨j=24∨j=25∨j=26∨j=27 by omega) with rfl|rfl|rfl|rfl|rfl|rfl|rfl|rfl|rfl|rfl|rfl|rfl|rfl|rfl|rfl|rfl|rfl|rfl|rfl|rfl|rfl|rfl|rfl|rfl|rfl|rfl|rfl|rfl<;>first
     | exact hf
     | (obtain⟨b,q1,q2,q3⟩:=hf;exact⟨b,q1,q2,q3.kept hb⟩)
  ·obtain⟨o',e1,e2,e3,e4,e5⟩:=o22
   obtain rfl:=sOp ho e1
   have dp:=dPo e5 hdep
   have V1:a.tmps.getD 47 undef=.slice (some ⟨g9,0,none⟩) n9 c9:=hI.val 1 47 (by decide) rfl (dp 1 (by decide))
   have V2:a.tmps.getD 48 undef=.int .i64 (kk:Int):=hI.val 2 48 (by decide) rfl (dp 2 (by decide))
   have r9:=run_idx22 ⟨g9,0,none⟩ n9 c9 kk hk hn w
   rw[add_at] at r9
   exact wVa (v:=.pointer (some ⟨g9,kk*4,none⟩)) (w':=w) ho e4 (by simp[execOp,e3,ev,V1,V2,r9]) (by rw[e2];exact go rfl (by decide) (by decide) (by decide) (by decide) (by decide) rfl)
  ·obtain⟨o',e1,e2,e3,e4,e5⟩:=o23
   obtain rfl:=sOp ho e1
   have dp:=dPo e5 hdep
   have V22:a.tmps.getD 68 undef=.pointer (some ⟨g9,kk*4,none⟩):=hI.val 22 68 (by decide) rfl (dp 22 (by decide))
   have r9:=grrun_field (p:=⟨g9,kk*4,none⟩) 1 (by decide) w
   rw[show (⟨g9,kk*4,none⟩:Addr).add 1=⟨g9,kk*4+1,none⟩ from rfl] at r9
   exact wVa (v:=.pointer (some ⟨g9,kk*4+1,none⟩)) (w':=w) ho e4 (by simp[execOp,e3,ev,V22,r9]) (by rw[e2];exact go rfl (by decide) (by decide) (by decide) (by decide) (by decide) rfl)
  ·obtain⟨o',e1,e2,e3,e4,e5⟩:=o24
   obtain rfl:=sOp ho e1
   have dp:=dPo e5 hdep
   have V23:a.tmps.getD 69 undef=.pointer (some ⟨g9,kk*4+1,none⟩):=hI.val 23 69 (by decide) rfl (dp 23 (by decide))
   obtain⟨b,Vm,gb,q⟩:∃ b,a.tmps.getD 59 undef=.slice (some ⟨b,0,none⟩) y1.n y1.n∧w0.heap.size≤b∧Blk 73 w b (madeCells #[.int .i8 0] y1.n):=hI.val 13 59 (by decide) rfl (dp 13 (by decide))
   rw[hl] at hr
   have r9:=run_store24x (a:=some ⟨b,0,none⟩) (n:=y1.n) (c:=y1.n) (hr.at1 (by omega) hy1)
   have on:=Only.set g9 (kk*4+1) w (.slice (some ⟨b,0,none⟩) y1.n y1.n)
   have hz9:(w.setCell ⟨g9,kk*4+1,none⟩ (.slice (some ⟨b,0,none⟩) y1.n y1.n)).heap.size=w.heap.size:=by simp[World.setCell]
   refine wSk (w':=w.setCell ⟨g9,kk*4+1,none⟩ (.slice (some ⟨b,0,none⟩) y1.n y1.n)) ho e4 (by simp[execOp,e3,ev,V23,Vm,r9]) ?_
   rw[e2]
   refine Inv.none_' hI rfl ⟨hw.trans on,by omega,?_⟩ (fun j dd hj hD hkj hne hf=>?_)
   ·dsimp only
    rw[oth 27 (by decide),sam,Vm]
    exact hr.set1 (by omega) _
   ·unfold nt10F at hf ⊢
    have hg9:=qg.lt
    rcases (show j=0∨j=1∨j=2∨j=3∨j=4∨j=5∨j=6∨j=7∨j=8∨j=9∨j=10∨j=11∨j=12∨j=13∨j=14∨j=15∨j=16∨j=17∨j=18∨j=19∨j=20∨j=21∨j=22∨j=23∨j=24∨j=25∨j=26∨j=27 by omega) with rfl|rfl|rfl|rfl|rfl|rfl|rfl|rfl|rfl|rfl|rfl|rfl|rfl|rfl|rfl|rfl|rfl|rfl|rfl|rfl|rfl|rfl|rfl|rfl|rfl|rfl|rfl|rfl<;>first
     | exact hf
     | (obtain⟨b2,x1,x2,x3⟩:=hf;exact⟨b2,x1,x2,x3.only on (by omega)⟩)
  ·obtain⟨o',e1,e2,e3,e4,e5⟩:=o25
   obtain rfl:=sOp ho e1
   have dp:=dPo e5 hdep
   have V4:a.tmps.getD 50 undef=.slice (some ⟨g9,0,none⟩) n9 c9:=hI.val 4 50 (by decide) rfl (dp 4 (by decide))
   have V5:a.tmps.getD 51 undef=.int .i64 (kk:Int):=hI.val 5 51 (by decide) rfl (dp 5 (by decide))
   have r9:=run_idx22 ⟨g9,0,none⟩ n9 c9 kk hk hn w
   rw[add_at] at r9
   exact wVa (v:=.pointer (some ⟨g9,kk*4,none⟩)) (w':=w) ho e4 (by simp[execOp,e3,ev,V4,V5,r9]) (by rw[e2];exact go rfl (by decide) (by decide) (by decide) (by decide) (by decide) rfl)
  ·obtain⟨o',e1,e2,e3,e4,e5⟩:=o26
   obtain rfl:=sOp ho e1
   have dp:=dPo e5 hdep
   have V25:a.tmps.getD 70 undef=.pointer (some ⟨g9,kk*4,none⟩):=hI.val 25 70 (by decide) rfl (dp 25 (by decide))
   have r9:=grrun_field (p:=⟨g9,kk*4,none⟩) 3 (by decide) w
   rw[show (⟨g9,kk*4,none⟩:Addr).add 3=⟨g9,kk*4+3,none⟩ from rfl] at r9
   exact wVa (v:=.pointer (some ⟨g9,kk*4+3,none⟩)) (w':=w) ho e4 (by simp[execOp,e3,ev,V25,r9]) (by rw[e2];exact go rfl (by decide) (by decide) (by decide) (by decide) (by decide) rfl)
  ·obtain⟨o',e1,e2,e3,e4,e5⟩:=o27
   obtain rfl:=sOp ho e1
   have dp:=dPo e5 hdep
   have V26:a.tmps.getD 71 undef=.pointer (some ⟨g9,kk*4+3,none⟩):=hI.val 26 71 (by decide) rfl (dp 26 (by decide))
   obtain⟨b,Vm,gb,q⟩:∃ b,a.tmps.getD 67 undef=.slice (some ⟨b,0,none⟩) y3.n y3.n∧w0.heap.size≤b∧Blk 73 w b (madeCells #[.int .i8 0] y3.n):=hI.val 21 67 (by decide) rfl (dp 21 (by decide))
   rw[hl] at hr
   have r9:=run_store24x (a:=some ⟨b,0,none⟩) (n:=y3.n) (c:=y3.n) (hr.at3 (by omega) hy3)
   have on:=Only.set g9 (kk*4+3) w (.slice (some ⟨b,0,none⟩) y3.n y3.n)
   have hz9:(w.setCell ⟨g9,kk*4+3,none⟩ (.slice (some ⟨b,0,none⟩) y3.n y3.n)).heap.size=w.heap.size:=by simp[World.setCell]
   refine wSk (w':=w.setCell ⟨g9,kk*4+3,none⟩ (.slice (some ⟨b,0,none⟩) y3.n y3.n)) ho e4 (by simp[execOp,e3,ev,V26,Vm,r9]) ?_
   rw[e2]
   refine Inv.none_' hI rfl ⟨hw.trans on,by omega,?_⟩ (fun j dd hj hD hkj hne hf=>?_)
   ·dsimp only
    rw[oth 24 (by decide),sam,Vm]
    exact hr.set3 (by omega) (by omega) _
   ·unfold nt10F at hf ⊢
    have hg9:=qg.lt
    rcases (show j=0∨j=1∨j=2∨j=3∨j=4∨j=5∨j=6∨j=7∨j=8∨j=9∨j=10∨j=11∨j=12∨j=13∨j=14∨j=15∨j=16∨j=17∨j=18∨j=19∨j=20∨j=21∨j=22∨j=23∨j=24∨j=25∨j=26∨j=27 by omega) with rfl|rfl|rfl|rfl|rfl|rfl|rfl|rfl|rfl|rfl|rfl|rfl|rfl|rfl|rfl|rfl|rfl|rfl|rfl|rfl|rfl|rfl|rfl|rfl|rfl|rfl|rfl|rfl<;>first
     | exact hf
     | (obtain⟨b2,x1,x2,x3⟩:=hf;exact⟨b2,x1,x2,x3.only on (by omega)⟩)
 ·intro l a w hall hI
  have all:∀ j,j<28→l j=true:=fun j hj=>hall j (by rw[hsz];exact hj)
  obtain⟨hw,hz,hr⟩:Only g9 w0 w∧w0.heap.size≤w.heap.size∧RowN w g9 cur (kk*4+1) (kk*4+3) (l 24) (l 27) (a.tmps.getD 59 undef) (a.tmps.getD 67 undef):=hI.world
  obtain⟨b1,V1,gb1,q1⟩:∃ b,a.tmps.getD 59 undef=.slice (some ⟨b,0,none⟩) y1.n y1.n∧w0.heap.size≤b∧Blk 73 w b (madeCells #[.int .i8 0] y1.n):=hI.val 13 59 (by decide) rfl (all 13 (by decide))
  obtain⟨b3,V3,gb3,q3⟩:∃ b,a.tmps.getD 67 undef=.slice (some ⟨b,0,none⟩) y3.n y3.n∧w0.heap.size≤b∧Blk 73 w b (madeCells #[.int .i8 0] y3.n):=hI.val 21 67 (by decide) rfl (all 21 (by decide))
  rw[all 24 (by decide),all 27 (by decide),V1,V3] at hr
  exact fin a w b1 b3 hI.size hI.defers hI.kept hw gb1 gb3 q1 q3 hr
end
end Go.Proofs.YthliomlmhfjhnaaGreat

/- Texts put together. -/
import Derived.Test.YthliomlmhfjhnaaGreatZp49
namespace Go.Proofs.YthliomlmhfjhnaaGreat
set_option maxRecDepth 20000
set_option maxHeartbeats 16000000
open Go.ChangeShapes Go.WideShapes Go.ChangeAt Go.RowKit
set_option linter.unusedVariables false
set_option linter.unusedSimpArgs false
theorem Qkz (cd ch cl cv cu cx ct cn s r:Int)(ta:Option Addr)(tn tc:Nat)(tz:List Int)(xa:Option Addr)(xn xc:Nat)(xs:List Int)(w:World)(hs:(Lit.int .u64 s).wf=true)(ht:Reads .i64 w ta tn tz)(hx:Reads .i64 w xa xn xs)(hxe:xa=none→xc=0)(hxb:xn*8≤140737488351232) :
  Calls Tryz.prog 4 #[.agg #[.int .i64 cd,.int .i64 ch,.int .i64 cl,.int .i64 cv,.int .i64 cu,.int .i64 cx,.int .i64 ct,.int .i64 cn,.int .u64 s,.int .i64 r,.slice ta tn tc],.slice xa xn xc] w fun e w'=>e=.returned (.bool true)∧Below w.heap.size w w':=by
 have hb:=bNw (bS w) (.cells #[.int .i64 cd,.int .i64 ch,.int .i64 cl,.int .i64 cv,.int .i64 cu,.int .i64 cx,.int .i64 ct,.int .i64 cn,.int .u64 s,.int .i64 r,.slice ta tn tc] 47)
 have qk:=Blk.new 47 w #[.int .i64 cd,.int .i64 ch,.int .i64 cl,.int .i64 cv,.int .i64 cu,.int .i64 cx,.int .i64 ct,.int .i64 cn,.int .u64 s,.int .i64 r,.slice ta tn tc]
 have htm:=ht.max
 have HT:=hdn ht
 have HX:=hdn hx
 clear ht hx
 obtain⟨k0,k1,k2,k3,k4,k5,k6,k7,k8,k9,k10⟩:=qk.c11
 by_cases hl:40<tn
 ·have hl':(40:Int)<(tn:Int):=by omega
  go_enter Tryz.func4,Tryz.ntmps4
  go_wp2
  go_ret
  exact⟨rfl,hb⟩
 have hl':¬(40:Int)<(tn:Int):=by omega
 cases ok:okB cd ch cl cv cu cx ct cn with
 | false =>
  have k19:=fun W=>Qmi cd ch cl cv cu cx ct cn s ok W
  have HF:Hid (Fits noV):=Qmf
  have HFA:Hid (QlK noA):=Qmg
  obtain⟨ee,rn,RR,OO,kk⟩:=QiI (Md.mk 0 0 0 0 0 0 0 0 noV 0 0 noA) (by show 0≤_;omega) (by show 0≤_;omega) tn tz
  obtain⟨e2,sn,rs,ks⟩:=Qer (Md.mk 0 0 0 0 0 0 0 0 noV 0 0 noA) (by show 0≤_;omega) xn (by omega) xs
  have KK:=hdn kk
  have KS9:=hdn ks
  clear kk ks
  go_enter Tryz.func4,Tryz.ntmps4
  go_wp2_with (first
   | (go_at_call 19;refine (k19 _).mono ?_;rintro e W2 ⟨t1,rfl,hN,h2⟩;replace hb:=bTn hb h2;replace qk:=qk.kept h2;obtain⟨W3,eW3⟩:∃ W,W2.alloc (.cells #[.int .i64 0,.int .i64 0,.int .i64 0,.int .i64 0,.int .i64 0,.int .i64 0,.int .i64 0,.int .i64 0,.slice t1.E.a t1.E.n t1.E.c,.slice t1.L.a t1.L.n t1.L.c,.slice t1.N.a t1.N.n t1.N.c,.slice t1.O.a t1.O.n t1.O.c] 27)=W:=⟨_,rfl⟩;have n3:Below W2.heap.size W2 W3:=eW3 ▸ bNw bR _;have qm:Blk 27 W3 W2.heap.size #[.int .i64 0,.int .i64 0,.int .i64 0,.int .i64 0,.int .i64 0,.int .i64 0,.int .i64 0,.int .i64 0,.slice t1.E.a t1.E.n t1.E.c,.slice t1.L.a t1.L.n t1.L.c,.slice t1.N.a t1.N.n t1.N.c,.slice t1.O.a t1.O.n t1.O.c]:=eW3 ▸ Blk.new 27 W2 _;have z3:Hid (W3.heap.size=W2.heap.size+1):=(by show W3.heap.size=_;rw[←eW3];simp);have mi:=hN.within.below n3;replace hb:=bTn hb n3;replace qk:=qk.kept n3;have gk:=qk.lt;have nA:=bNw (Below.refl W3.heap.size W3) (.cells #[.int .i64 0,.int .i64 0,.slice none 0 0] 30);clear h2 hN n3 k19 k0 k1 k2 k3 k4 k5 k6 k7 k8 k9 k10;obtain⟨k0,k1,k2,k3,k4,k5,k6,k7,k8,k9,k10⟩:=(qk.kept nA).c11))
  have qz:Blk 30 (W3.alloc (.cells #[.int .i64 0,.int .i64 0,.slice none 0 0] 30)) W3.heap.size #[.int .i64 0,.int .i64 0,.slice none 0 0]:=Blk.new 30 W3 _
  obtain⟨WA,eWA⟩:∃ W,W3.alloc (.cells #[.int .i64 0,.int .i64 0,.slice none 0 0] 30)=W:=⟨_,rfl⟩
  rw[eWA] at nA qz ⊢
  replace qk:=qk.kept nA
  replace qm:=qm.kept nA
  have HB:=hdn (bTn hb nA)
  have m1:=(mi.below nA).at
  have qa:=qz
  have a1:AdAt WA noS (fun _ _=>SL.nought) noA:=AdAt.none_ _ _
  clear hb mi qz k0 k1 k2 k3 k4 k5 k6 k7 k8 k9 k10 gk z3 nA eWA eW3
  refine Qfk (Md.mk 0 0 0 0 0 0 0 0 noV 0 0 noA) t1.E t1.L t1.N t1.O noS w.heap.size W2.heap.size W3.heap.size tn tc rn ta tz ee (fun W a _=>∃ A C,Grid W a rn A C RR) (fun W a _=>∃ A C,Grid W a rn A C OO) (fun W=>Below WA.heap.size WA W) (fun h hb=>h.elim fun A h=>h.elim fun C h=>⟨A,C,h.below hb⟩) (fun h hb=>h.elim fun A h=>h.elim fun C h=>⟨A,C,h.below hb⟩) (by kernel_rfl) rfl (by (repeat' apply And.intro)<;>exact⟨_,rfl,rfl,rfl,rfl,by kernel_rfl⟩) bR.drew (fun w hw=>rL7 (qm.kept hw)) (fun w hw=>(Qd8 0 0 0 0 0 0 0 0 t1.E t1.L t1.N t1.O t1.Y t1.U t1.D (Md.mk 0 0 0 0 0 0 0 0 noV 0 0 noA).m w (m1.below hw) HF.out).mono fun e w' h=>by obtain⟨E6,L6,N6,O6,Y6,U6,D6,rfl,hn,hb'⟩:=h;exact⟨⟨E6,L6,N6,O6,Y6,U6,D6,rfl,hn _ (fun _ _ hp _=>hp)⟩,hb',bTn hw hb'⟩) (fun w hw=>rL3 (qa.kept hw)) (fun w hw=>(Qfv 0 0 noS (fun _ _=>SL.nought) (Md.mk 0 0 0 0 0 0 0 0 noV 0 0 noA).a w (a1.below hw) HFA.out).mono fun e w' h=>by obtain⟨L6,Y6,rfl,hn,hb'⟩:=h;exact⟨⟨L6,Y6,rfl,hn _ (fun _ _ hp _=>hp)⟩,hb',bTn hw hb'⟩) (fun w hw=>⟨w.heap.size,w.alloc (.cells #[] 3),Qey w,bNw bR _,bTn hw (bNw bR _),(World.ownsRow_lit (base:=w.heap.size) (size:=1) w #[] 0 nL (by decide) rfl).lower (Nat.zero_le _)⟩) (fun w=>Qew _ 3 10 (by omega) w) (fun w hw=>QkA (qk.kept hw)) (fun w ty yb hw ho=>by obtain⟨a',c',w',h1,h2,h3⟩:=Qfi w yb 0 ty ta tn tc tz (HT.out.below (bTn HB.out hw)) (by omega) ho (Nat.zero_le _);obtain⟨a2,c2,e2,h4⟩:=oRe (k:=.i64) h3 (HT.out.len) (HT.out.wf_mem) (fun j hj=>QbR .i64 tz j (by rw[HT.out.len];exact hj));simp only[Value.slice.injEq,true_and] at e2;obtain⟨rfl,rfl⟩:=e2;exact⟨a',c',w',h1,h2,bTn hw h2,h4⟩) (fun w E6 L6 N6 O6 Y6 U6 D6 La6 Ya6 ca cc hw hm ha hr=>(KK.out.1 E6 L6 N6 O6 Y6 U6 D6 La6 Ya6 w ca cc hm ha hr).mono fun e w' h=>by obtain⟨⟨u,k,u2,k2,rfl,h1,h2⟩,h3⟩:=h;exact⟨⟨u,k,u2,k2,rfl,h1,h2⟩,h3,bTn hw h3⟩) rfl rfl rfl (Nat.le_of_ble_eq_true rfl) ?_
  intro a W9 hs hd hkp hS9 hval
  have e10:a.tmps.getD 10 undef=.int .i64 ee:=hval 15 10 (by decide) rfl
  obtain⟨ra,rc,e8,f8⟩:=hval 13 8 (by decide) rfl
  obtain⟨oa,oc,e9,f9⟩:=hval 14 9 (by decide) rfl
  obtain⟨f,ef,ep⟩:=fPz [40,41,42,43,44,45,46,47,48,39,49,50,51,8,9,10] rfl hs hd hkp
  simp only[ef] at e10 e8 e9
  simp only[List.foldl,e10,e8,e9,Act.put,List.setIfInBounds_toArray,List.set_cons_succ,List.set_cons_zero] at ep
  have H9:=hdn hS9
  clear hs hd hkp hval hS9 e10 e8 e9 ef
  subst ep
  have hb9:Below WA.heap.size WA W9:=H9.out
  replace qk:=qk.kept hb9
  replace qm:=qm.kept hb9
  replace qa:=qa.kept hb9
  replace m1:=m1.below hb9
  replace a1:=a1.below hb9
  have hb:=bTn HB.out hb9
  obtain⟨A1,C1,g1⟩:=f8
  obtain⟨A2,C2,g2⟩:=f9
  obtain⟨k0,k1,k2,k3,k4,k5,k6,k7,k8,k9,k10⟩:=qk.c11
  obtain⟨b0,b1,b2,b3,b4,b5,b6,b7,b8,b9,b10,b11⟩:=qm.c12
  obtain⟨d0,d1,d2⟩:=qa.c3
  obtain⟨i0,hi,hz0,hz1,hz2⟩:=info_parts QaT
  clear H9 hb9
  have HG:=hdn (And.intro g1 g2)
  clear g1 g2
  go_wp2_with (first
   | (go_at_call 22;refine (KK.out.2 t1.E t1.L t1.N t1.O t1.Y t1.U t1.D noS (fun _ _=>SL.nought) _ ta tc m1 a1 (HT.out.below hb)).mono ?_;rintro e W10 ⟨⟨u,uk,u2,uk2,rfl,g3,g4⟩,h10⟩;have HG3:=hdn (And.intro g3 (And.intro g4 h10));replace qm:=qm.kept h10;replace m1:=m1.below h10;replace hb:=bTn hb h10;clear KK g3 g4 h10 k0 k1 k2 k3 k4 k5 k6 k7 k8 k9 k10 b0 b1 b2 b3 b4 b5 b6 b7 b8 b9 b10 b11 d0 d1 d2 qa a1 qk;obtain⟨b0,b1,b2,b3,b4,b5,b6,b7,b8,b9,b10,b11⟩:=qm.c12)
   | (go_at_call 9;refine (Qd8 0 0 0 0 0 0 0 0 t1.E t1.L t1.N t1.O t1.Y t1.U t1.D (Md.mk 0 0 0 0 0 0 0 0 noV 0 0 noA).m _ m1 HF.out).mono ?_;rintro e W11 ⟨E3,L3,N3,O3,Y3,U3,D3,rfl,hN3,h11⟩;have m3:=hN3 _ (fun _ _ hp _=>hp);replace qm:=qm.kept h11;replace m1:=m1.below h11;replace hb:=bTn hb h11;have x11:=HX.out.below hb;have HG4:=hdn h11;clear hN3 h11 b0 b1 b2 b3 b4 b5 b6 b7 b8 b9 b10 b11;obtain⟨b0,b1,b2,b3,b4,b5,b6,b7,b8,b9,b10,b11⟩:=qm.c12)
   | (at_builtin;refine Qav rfl (.tmp 64) (.tmp 65) 34 rfl W11.heap.size 2 i0 (.int .i64 0) 8 Tryz.underlying34 hi hz0 hz1 hz2 rfl _ 0 [] rfl (World.ownsRow_lit _ #[] 0 nL (by decide) rfl) .i64 xa xn xc xs rfl (x11.below (bNw bR _)) hxe (by unfold maxLen;omega) (by omega) (bNw bR _).size ?_;intro v1 W12 ho1 hg1;obtain⟨p1,q1,rfl,r1,hb1,-,cap1⟩:=Qhd (Below.refl W11.heap.size W11) _ ho1 hg1 x11;clear ho1 hg1 x11;replace m3:=m3.below hb1;replace qm:=qm.kept hb1;replace m1:=m1.below hb1;replace hb:=bTn hb hb1;have HG5:=hdn hb1;clear hb1 cap1 b0 b1 b2 b3 b4 b5 b6 b7 b8 b9 b10 b11;obtain⟨b0,b1,b2,b3,b4,b5,b6,b7,b8,b9,b10,b11⟩:=qm.c12)
   | (go_at_call 23;refine (KS9.out.1 E3 L3 N3 O3 Y3 U3 D3 _ p1 q1 m3 r1).mono ?_;rintro e W13 ⟨⟨s1,sk,rfl,y1⟩,h13⟩;replace qm:=qm.kept h13;replace m1:=m1.below h13;replace hb:=bTn hb h13;have HG6:=hdn (And.intro y1 h13);clear m3 r1 y1 h13 b0 b1 b2 b3 b4 b5 b6 b7 b8 b9 b10 b11;obtain⟨b0,b1,b2,b3,b4,b5,b6,b7,b8,b9,b10,b11⟩:=qm.c12)
   | (go_at_call 24;refine (KS9.out.2 t1.E t1.L t1.N t1.O t1.Y t1.U t1.D _ xa xc m1 (HX.out.below hb)).mono ?_;rintro e W14 ⟨⟨s2,sk2,rfl,y2⟩,h14⟩;replace hb:=bTn hb h14;have y1:=HG6.out.1.below h14;obtain⟨⟨A3,C3,g3⟩,⟨A4,C4,g4⟩,h10⟩:=HG3.out;have bb9:=bTn (bTn (bTn HG4.out HG5.out) HG6.out.2) h14;have g1:=(HG.out.1.below h10).below bb9;have g2:=(HG.out.2.below h10).below bb9;replace g3:=g3.below bb9;replace g4:=g4.below bb9;clear h10 bb9 h14 b0 b1 b2 b3 b4 b5 b6 b7 b8 b9 b10 b11 qm m1)
   | (go_at_call_of 25 rc;refine (Qbj ra rn rc A1 C1 u uk A3 C3 RR _ g1 g3).mono ?_;rintro e W15 ⟨rfl,h15⟩;replace hb:=bTn hb h15;replace g2:=g2.below h15;replace g4:=g4.below h15;replace y1:=y1.below h15;replace y2:=y2.below h15;clear h15 g1 g3)
   | (go_at_call_of 25 oc;refine (Qbj oa rn oc A2 C2 u2 uk2 A4 C4 OO _ g2 g4).mono ?_;rintro e W16 ⟨rfl,h16⟩;replace hb:=bTn hb h16;replace y1:=y1.below h16;replace y2:=y2.below h16;clear h16 g2 g4)
   | (go_at_call 14;refine (Qes s1 sn sk rs s2 sn sk2 _ y1 y2).mono ?_;rintro e W17 ⟨rfl,mm,rfl⟩;replace hb:=bTn hb (Qe1 _ mm)))
  go_ret
  exact⟨rfl,hb⟩
 | true =>
  obtain⟨m,em⟩:∃ m,Qcb cd cl cv cu cx (wtL s (szZ cd cl cv cu cx).toNat)=m:=⟨_,rfl⟩
  obtain⟨R,eR⟩:∃ R,adR r=R:=⟨_,rfl⟩
  obtain⟨S,eS⟩:∃ S,adS r s=S:=⟨_,rfl⟩
  obtain⟨ad9,ea⟩:∃ a,adV r cd cl s=a:=⟨_,rfl⟩
  have hE:badE (Md.mk cd ch cl cv cu cx ct cn m R S ad9)=0:=by
   have h9:=Qmk ok s r
   unfold made at h9
   rw[em,eR,eS,ea] at h9
   exact h9
  have k19:=fun W=>Qk4 cd ch cl cv cu cx ct cn s ok W
  have k20:=fun W=>QjX r cd ch cl cv cu cx ct cn s ok hs W
  simp only[em] at k19
  simp only[eR,eS,ea] at k20
  have K20:=hdn k20
  have HE:=hdn hE
  have HSH:Hid (ad9.ln≤2∧∀ i j,(ad9.f i j).length≤32):=ea ▸ QlG ok r s
  have HFA:Hid (QlK ad9):=⟨by have:=HSH.out.1;omega,fun i _ j _=>by have:=HSH.out.2 i j;omega⟩
  have HF:Hid (Fits m):=(QdE hE).fit.fits
  have HLN:Hid (m.ln≤20∧ad9.ln≤20):=⟨HF.out.ln,HFA.out.ln⟩
  clear em eR eS ea k20 hE
  obtain⟨ee,rn,RR,OO,kk⟩:=QiI (Md.mk cd ch cl cv cu cx ct cn m R S ad9) (by have:=HLN.out.1;show m.ln≤_;omega) (by have:=HLN.out.2;show ad9.ln≤_;omega) tn tz
  obtain⟨e2,sn,rs,ks⟩:=Qer (Md.mk cd ch cl cv cu cx ct cn m R S ad9) (by have:=HLN.out.1;show m.ln≤_;omega) xn (by omega) xs
  have KK:=hdn kk
  have KS9:=hdn ks
  clear kk ks
  go_enter Tryz.func4,Tryz.ntmps4
  go_wp2_with (first
   | (go_at_call 19;refine (k19 _).mono ?_;rintro e W2 ⟨t1,rfl,hN,h2⟩;replace hb:=bTn hb h2;replace qk:=qk.kept h2;obtain⟨W3,eW3⟩:∃ W,W2.alloc (.cells #[.int .i64 cd,.int .i64 ch,.int .i64 cl,.int .i64 cv,.int .i64 cu,.int .i64 cx,.int .i64 ct,.int .i64 cn,.slice t1.E.a t1.E.n t1.E.c,.slice t1.L.a t1.L.n t1.L.c,.slice t1.N.a t1.N.n t1.N.c,.slice t1.O.a t1.O.n t1.O.c] 27)=W:=⟨_,rfl⟩;have n3:Below W2.heap.size W2 W3:=eW3 ▸ bNw bR _;have qm:Blk 27 W3 W2.heap.size #[.int .i64 cd,.int .i64 ch,.int .i64 cl,.int .i64 cv,.int .i64 cu,.int .i64 cx,.int .i64 ct,.int .i64 cn,.slice t1.E.a t1.E.n t1.E.c,.slice t1.L.a t1.L.n t1.L.c,.slice t1.N.a t1.N.n t1.N.c,.slice t1.O.a t1.O.n t1.O.c]:=eW3 ▸ Blk.new 27 W2 _;have z3:Hid (W3.heap.size=W2.heap.size+1):=(by show W3.heap.size=_;rw[←eW3];simp);have mi:=hN.within.below n3;replace hb:=bTn hb n3;replace qk:=qk.kept n3;have gk:=qk.lt;have nA:=bNw (Below.refl W3.heap.size W3) (.cells #[.int .i64 0,.int .i64 0,.slice none 0 0] 30);clear h2 hN n3 k19 k0 k1 k2 k3 k4 k5 k6 k7 k8 k9 k10;obtain⟨k0,k1,k2,k3,k4,k5,k6,k7,k8,k9,k10⟩:=(qk.kept nA).c11)
   | (go_at_call 20;refine (K20.out _).mono ?_;rintro e W4 ⟨t2,rfl,hNA,h4⟩;have qz:Blk 30 (W3.alloc (.cells #[.int .i64 0,.int .i64 0,.slice none 0 0] 30)) W3.heap.size #[.int .i64 0,.int .i64 0,.slice none 0 0]:=Blk.new 30 W3 _;replace qz:=qz.kept h4;have h5:=bTn nA h4;replace hb:=bTn hb h5;replace qk:=qk.kept h5;replace qm:=qm.kept h5;replace mi:=mi.below h5;have zA:Hid ((W3.alloc (.cells #[.int .i64 0,.int .i64 0,.slice none 0 0] 30)).heap.size=W3.heap.size+1):=(by show _=_;simp);clear h4 h5 nA k0 k1 k2 k3 k4 k5 k6 k7 k8 k9 k10;obtain⟨d0,d1,d2⟩:=qz.c3;obtain⟨o0,o1,o2,-⟩:=qz.o12))
  obtain⟨WB,eWB,q6,only6,hz6⟩:=set3 qz (.int .i64 R) (.int .i64 S) (.slice t2.1.a t2.1.n t2.1.c)
  rw[eWB]
  have hsz:=hb.size
  have z3':=z3.out
  have zA':=zA.out
  have a1:AdAt WB t2.1 t2.2 ad9:=(hNA.only only6 (by omega)) _ (fun _ _ hp _=>hp)
  have m1:=(mi.only only6 (.inr (by omega))).at
  have qa:=q6
  replace qm:=qm.only only6 (by omega)
  replace qk:=qk.only only6 (by omega)
  have HB:=hdn (Only.below hb (by have:=hb.size;omega) hb.size only6)
  clear hb mi qz q6 only6 hz6 hNA d0 d1 d2 o0 o1 o2 gk z3 zA z3' zA' hsz eWB eW3
  refine Qfk (Md.mk cd ch cl cv cu cx ct cn m R S ad9) t1.E t1.L t1.N t1.O t2.1 w.heap.size W2.heap.size W3.heap.size tn tc rn ta tz ee (fun W a _=>∃ A C,Grid W a rn A C RR) (fun W a _=>∃ A C,Grid W a rn A C OO) (fun W=>Below WB.heap.size WB W) (fun h hb=>h.elim fun A h=>h.elim fun C h=>⟨A,C,h.below hb⟩) (fun h hb=>h.elim fun A h=>h.elim fun C h=>⟨A,C,h.below hb⟩) (by kernel_rfl) rfl (by (repeat' apply And.intro)<;>exact⟨_,rfl,rfl,rfl,rfl,by kernel_rfl⟩) bR.drew (fun w hw=>rL7 (qm.kept hw)) (fun w hw=>(Qd8 cd ch cl cv cu cx ct cn t1.E t1.L t1.N t1.O t1.Y t1.U t1.D (Md.mk cd ch cl cv cu cx ct cn m R S ad9).m w (m1.below hw) HF.out).mono fun e w' h=>by obtain⟨E6,L6,N6,O6,Y6,U6,D6,rfl,hn,hb'⟩:=h;exact⟨⟨E6,L6,N6,O6,Y6,U6,D6,rfl,hn _ (fun _ _ hp _=>hp)⟩,hb',bTn hw hb'⟩) (fun w hw=>rL3 (qa.kept hw)) (fun w hw=>(Qfv R S t2.1 t2.2 (Md.mk cd ch cl cv cu cx ct cn m R S ad9).a w (a1.below hw) HFA.out).mono fun e w' h=>by obtain⟨L6,Y6,rfl,hn,hb'⟩:=h;exact⟨⟨L6,Y6,rfl,hn _ (fun _ _ hp _=>hp)⟩,hb',bTn hw hb'⟩) (fun w hw=>⟨w.heap.size,w.alloc (.cells #[] 3),Qey w,bNw bR _,bTn hw (bNw bR _),(World.ownsRow_lit (base:=w.heap.size) (size:=1) w #[] 0 nL (by decide) rfl).lower (Nat.zero_le _)⟩) (fun w=>Qew _ 3 10 (by omega) w) (fun w hw=>QkA (qk.kept hw)) (fun w ty yb hw ho=>by obtain⟨a',c',w',h1,h2,h3⟩:=Qfi w yb 0 ty ta tn tc tz (HT.out.below (bTn HB.out hw)) (by omega) ho (Nat.zero_le _);obtain⟨a2,c2,e2,h4⟩:=oRe (k:=.i64) h3 (HT.out.len) (HT.out.wf_mem) (fun j hj=>QbR .i64 tz j (by rw[HT.out.len];exact hj));simp only[Value.slice.injEq,true_and] at e2;obtain⟨rfl,rfl⟩:=e2;exact⟨a',c',w',h1,h2,bTn hw h2,h4⟩) (fun w E6 L6 N6 O6 Y6 U6 D6 La6 Ya6 ca cc hw hm ha hr=>(KK.out.1 E6 L6 N6 O6 Y6 U6 D6 La6 Ya6 w ca cc hm ha hr).mono fun e w' h=>by obtain⟨⟨u,k,u2,k2,rfl,h1,h2⟩,h3⟩:=h;exact⟨⟨u,k,u2,k2,rfl,h1,h2⟩,h3,bTn hw h3⟩) rfl rfl rfl (Nat.le_of_ble_eq_true rfl) ?_
  intro a W9 hs hd hkp hS9 hval
  have e10:a.tmps.getD 10 undef=.int .i64 ee:=hval 15 10 (by decide) rfl
  obtain⟨ra,rc,e8,f8⟩:=hval 13 8 (by decide) rfl
  obtain⟨oa,oc,e9,f9⟩:=hval 14 9 (by decide) rfl
  obtain⟨f,ef,ep⟩:=fPz [40,41,42,43,44,45,46,47,48,39,49,50,51,8,9,10] rfl hs hd hkp
  simp only[ef] at e10 e8 e9
  simp only[List.foldl,e10,e8,e9,Act.put,List.setIfInBounds_toArray,List.set_cons_succ,List.set_cons_zero] at ep
  have H9:=hdn hS9
  clear hs hd hkp hval hS9 e10 e8 e9 ef
  subst ep
  have hb9:Below WB.heap.size WB W9:=H9.out
  replace qk:=qk.kept hb9
  replace qm:=qm.kept hb9
  replace qa:=qa.kept hb9
  replace m1:=m1.below hb9
  replace a1:=a1.below hb9
  have hb:=bTn HB.out hb9
  obtain⟨A1,C1,g1⟩:=f8
  obtain⟨A2,C2,g2⟩:=f9
  obtain⟨k0,k1,k2,k3,k4,k5,k6,k7,k8,k9,k10⟩:=qk.c11
  obtain⟨b0,b1,b2,b3,b4,b5,b6,b7,b8,b9,b10,b11⟩:=qm.c12
  obtain⟨d0,d1,d2⟩:=qa.c3
  obtain⟨i0,hi,hz0,hz1,hz2⟩:=info_parts QaT
  clear H9 hb9
  have HG:=hdn (And.intro g1 g2)
  clear g1 g2
  go_wp2_with (first
   | (go_at_call 22;refine (KK.out.2 t1.E t1.L t1.N t1.O t1.Y t1.U t1.D t2.1 t2.2 _ ta tc m1 a1 (HT.out.below hb)).mono ?_;rintro e W10 ⟨⟨u,uk,u2,uk2,rfl,g3,g4⟩,h10⟩;have HG3:=hdn (And.intro g3 (And.intro g4 h10));replace qm:=qm.kept h10;replace m1:=m1.below h10;replace hb:=bTn hb h10;clear KK g3 g4 h10 k0 k1 k2 k3 k4 k5 k6 k7 k8 k9 k10 b0 b1 b2 b3 b4 b5 b6 b7 b8 b9 b10 b11 d0 d1 d2 qa a1 qk;obtain⟨b0,b1,b2,b3,b4,b5,b6,b7,b8,b9,b10,b11⟩:=qm.c12)
   | (go_at_call 9;refine (Qd8 cd ch cl cv cu cx ct cn t1.E t1.L t1.N t1.O t1.Y t1.U t1.D (Md.mk cd ch cl cv cu cx ct cn m R S ad9).m _ m1 HF.out).mono ?_;rintro e W11 ⟨E3,L3,N3,O3,Y3,U3,D3,rfl,hN3,h11⟩;have m3:=hN3 _ (fun _ _ hp _=>hp);replace qm:=qm.kept h11;replace m1:=m1.below h11;replace hb:=bTn hb h11;have x11:=HX.out.below hb;have HG4:=hdn h11;clear hN3 h11 b0 b1 b2 b3 b4 b5 b6 b7 b8 b9 b10 b11;obtain⟨b0,b1,b2,b3,b4,b5,b6,b7,b8,b9,b10,b11⟩:=qm.c12)
   | (at_builtin;refine Qav rfl (.tmp 64) (.tmp 65) 34 rfl W11.heap.size 2 i0 (.int .i64 0) 8 Tryz.underlying34 hi hz0 hz1 hz2 rfl _ 0 [] rfl (World.ownsRow_lit _ #[] 0 nL (by decide) rfl) .i64 xa xn xc xs rfl (x11.below (bNw bR _)) hxe (by unfold maxLen;omega) (by omega) (bNw bR _).size ?_;intro v1 W12 ho1 hg1;obtain⟨p1,q1,rfl,r1,hb1,-,cap1⟩:=Qhd (Below.refl W11.heap.size W11) _ ho1 hg1 x11;clear ho1 hg1 x11;replace m3:=m3.below hb1;replace qm:=qm.kept hb1;replace m1:=m1.below hb1;replace hb:=bTn hb hb1;have HG5:=hdn hb1;clear hb1 cap1 b0 b1 b2 b3 b4 b5 b6 b7 b8 b9 b10 b11;obtain⟨b0,b1,b2,b3,b4,b5,b6,b7,b8,b9,b10,b11⟩:=qm.c12)
   | (go_at_call 23;refine (KS9.out.1 E3 L3 N3 O3 Y3 U3 D3 _ p1 q1 m3 r1).mono ?_;rintro e W13 ⟨⟨s1,sk,rfl,y1⟩,h13⟩;replace qm:=qm.kept h13;replace m1:=m1.below h13;replace hb:=bTn hb h13;have HG6:=hdn (And.intro y1 h13);clear m3 r1 y1 h13 b0 b1 b2 b3 b4 b5 b6 b7 b8 b9 b10 b11;obtain⟨b0,b1,b2,b3,b4,b5,b6,b7,b8,b9,b10,b11⟩:=qm.c12)
   | (go_at_call 24;refine (KS9.out.2 t1.E t1.L t1.N t1.O t1.Y t1.U t1.D _ xa xc m1 (HX.out.below hb)).mono ?_;rintro e W14 ⟨⟨s2,sk2,rfl,y2⟩,h14⟩;replace hb:=bTn hb h14;have y1:=HG6.out.1.below h14;obtain⟨⟨A3,C3,g3⟩,⟨A4,C4,g4⟩,h10⟩:=HG3.out;have bb9:=bTn (bTn (bTn HG4.out HG5.out) HG6.out.2) h14;have g1:=(HG.out.1.below h10).below bb9;have g2:=(HG.out.2.below h10).below bb9;replace g3:=g3.below bb9;replace g4:=g4.below bb9;clear h10 bb9 h14 b0 b1 b2 b3 b4 b5 b6 b7 b8 b9 b10 b11 qm m1)
   | (go_at_call_of 25 rc;refine (Qbj ra rn rc A1 C1 u uk A3 C3 RR _ g1 g3).mono ?_;rintro e W15 ⟨rfl,h15⟩;replace hb:=bTn hb h15;replace g2:=g2.below h15;replace g4:=g4.below h15;replace y1:=y1.below h15;replace y2:=y2.below h15;clear h15 g1 g3)
   | (go_at_call_of 25 oc;refine (Qbj oa rn oc A2 C2 u2 uk2 A4 C4 OO _ g2 g4).mono ?_;rintro e W16 ⟨rfl,h16⟩;replace hb:=bTn hb h16;replace y1:=y1.below h16;replace y2:=y2.below h16;clear h16 g2 g4)
   | (go_at_call 14;refine (Qes s1 sn sk rs s2 sn sk2 _ y1 y2).mono ?_;rintro e W17 ⟨rfl,mm,rfl⟩;replace hb:=bTn hb (Qe1 _ mm)))
  go_ret
  exact⟨rfl,hb⟩
end Go.Proofs.YthliomlmhfjhnaaGreat

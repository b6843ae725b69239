/- Texts put together. -/
import Derived.Test.YthliomlmhfjhnaaGreatZp48
namespace Go.Proofs.YthliomlmhfjhnaaGreat
set_option maxRecDepth 20000
set_option maxHeartbeats 16000000
open Go.ChangeShapes Go.WideShapes Go.ChangeAt Go.RowKit
set_option linter.unusedVariables false
set_option linter.unusedSimpArgs false
theorem Qon {m:AdV}:Qj1 (T:=SL × (Nat→Nat→SL)) (fun t lo hi w=>AdIn lo hi w t.1 t.2 m):=⟨fun h hb=>h.below hb,fun h o hb=>h.only o hb⟩
theorem QnY (x:Int)(n:Nat)(hn:0<n):∃ M:Nat,M<n∧(IntKind.u64.wrap x).tmod (n:Int)=(M:Int)∧IntKind.u64.wrap x%(n:Int)=(M:Int):=by
 have b:0≤IntKind.u64.wrap x:=by rw[IntKind.wrap_u64];omega
 generalize IntKind.u64.wrap x=U at *
 refine⟨(U%n).toNat,?_,?_,?_⟩
 ·have h1:=Int.emod_lt_of_pos U (show (0:Int)<n by omega)
  have h2:=Int.emod_nonneg U (show (n:Int)≠0 by omega)
  omega
 ·rw[Int.tmod_eq_emod_of_nonneg b]
  have h2:=Int.emod_nonneg U (show (n:Int)≠0 by omega)
  omega
 ·have h2:=Int.emod_nonneg U (show (n:Int)≠0 by omega)
  omega
theorem QjW (rank d h l v u x t n s:Int)(w:World)(hr:adR rank=0) :
  Calls Tryz.prog 20 #[I4 rank,.agg (c8 d h l v u x t n),.int .u64 s] w fun e w'=>e=.returned (.agg z3)∧Bw w w':=by
 have hb:=bNw (bNw (bS w) (.cells (c8 d h l v u x t n) 23)) (.cells z3 30)
 have qr:Blk 30 ((w.alloc (.cells (c8 d h l v u x t n) 23)).alloc (.cells z3 30)) (w.heap.size+1) z3:=Blk.new_at 30 (w.alloc _) _ _ (by simp)
 obtain⟨M,hM,(eM:(IntKind.u64.wrap rank).tmod 5=(M:Int)),(eM':IntKind.u64.wrap rank%5=(M:Int))⟩:=QnY rank 5 (by decide)
 obtain rfl:M=0:=by unfold adR at hr;omega
 obtain⟨r0,r1,r2⟩:=qr.c3
 obtain⟨f0,f1,f2,-⟩:=qr.o12
 obtain⟨U,eU⟩:∃ U,IntKind.u64.wrap rank=U:=⟨_,rfl⟩
 rw[eU] at eM
 clear eM' hr hM
 go_enter Tryz.func20,Tryz.ntmps20
 go_wp2
 refine bodyPost_ret (v:=.agg z3) ?_ rfl ⟨rfl,hb⟩
 simp[results,Tryz.results20,go_sem,r0,r1,r2]
theorem QjV (rank d h v u x t n s q1 q2:Int)(ml R S T9:Nat)(zs:List Int)(m:AdV)(w:World)(hR:1≤R∧R≤4)(hr:adR rank=(R:Int))
  (x2:∀ w,(binOp .rem 44 (.int .u64 s) (.int .u64 3)).run Tryz.prog w=.ok (.int .u64 (S:Int)) w) (x3:∀ w,(convert 44 3 (.int .u64 (S:Int))).run Tryz.prog w=.ok (.int .i64 (S:Int)) w)
  (x7:∀ w,(binOp .mul 3 (.int .i64 (ml:Int)) (.int .i64 4)).run Tryz.prog w=.ok (.int .i64 q1) w) (x9:∀ w,(binOp .mul 3 (.int .i64 q1) (.int .i64 (R:Int))).run Tryz.prog w=.ok (.int .i64 q2) w) (x12:∀ w,(binOp .mul 3 (.int .i64 q2) (.int .i64 d)).run Tryz.prog w=.ok (.int .i64 (T9:Int)) w)
  (c40:∀ w,Calls Tryz.prog 40 #[.int .i64 (T9:Int),.int .u64 s] w fun e w'=>(∃ a c,e=.returned (.slice a T9 c)∧IsS w' ⟨a,T9,c⟩ zs)∧Below w.heap.size w w')
  (c42:∀ w ya yc,IsS w ⟨ya,T9,yc⟩ zs→Calls Tryz.prog 42 #[.int .i64 (R:Int),.int .i64 (S:Int),.agg #[.int .i64 d,.int .i64 h,.int .i64 (ml:Int),.int .i64 v,.int .i64 u,.int .i64 x,.int .i64 t,.int .i64 n],.slice ya T9 yc] w fun e w'=>∃ t:SL × (Nat→Nat→SL),e=.returned (.tuple #[.agg #[.int .i64 (R:Int),.int .i64 (S:Int),.slice t.1.a t.1.n t.1.c],.int .i64 0])∧AdIn w.heap.size w'.heap.size w' t.1 t.2 m∧Below w.heap.size w w') :
  Calls Tryz.prog 20 #[.int .i64 rank,.agg #[.int .i64 d,.int .i64 h,.int .i64 (ml:Int),.int .i64 v,.int .i64 u,.int .i64 x,.int .i64 t,.int .i64 n],.int .u64 s] w fun e w'=>∃ t:SL × (Nat→Nat→SL),e=.returned (.agg #[.int .i64 (R:Int),.int .i64 (S:Int),.slice t.1.a t.1.n t.1.c])∧NewA w.heap.size w' t.1 t.2 m∧Below w.heap.size w w':=by
 have hb:=bNw (bNw (bS w) (.cells #[.int .i64 d,.int .i64 h,.int .i64 (ml:Int),.int .i64 v,.int .i64 u,.int .i64 x,.int .i64 t,.int .i64 n] 23)) (.cells #[.int .i64 0,.int .i64 0,.slice none 0 0] 30)
 have qc:Blk 23 ((w.alloc (.cells #[.int .i64 d,.int .i64 h,.int .i64 (ml:Int),.int .i64 v,.int .i64 u,.int .i64 x,.int .i64 t,.int .i64 n] 23)).alloc (.cells #[.int .i64 0,.int .i64 0,.slice none 0 0] 30)) w.heap.size #[.int .i64 d,.int .i64 h,.int .i64 (ml:Int),.int .i64 v,.int .i64 u,.int .i64 x,.int .i64 t,.int .i64 n]:=(Blk.new 23 w _).kept (bNw bR _)
 have qr:Blk 30 ((w.alloc (.cells #[.int .i64 d,.int .i64 h,.int .i64 (ml:Int),.int .i64 v,.int .i64 u,.int .i64 x,.int .i64 t,.int .i64 n] 23)).alloc (.cells #[.int .i64 0,.int .i64 0,.slice none 0 0] 30)) (w.heap.size+1) #[.int .i64 0,.int .i64 0,.slice none 0 0]:=Blk.new_at 30 (w.alloc _) _ _ (by simp)
 have hz2:((w.alloc (.cells #[.int .i64 d,.int .i64 h,.int .i64 (ml:Int),.int .i64 v,.int .i64 u,.int .i64 x,.int .i64 t,.int .i64 n] 23)).alloc (.cells #[.int .i64 0,.int .i64 0,.slice none 0 0] 30)).heap.size=w.heap.size+1+1:=by simp
 obtain⟨M,hM,(eM:(IntKind.u64.wrap rank).tmod 5=(M:Int)),(eM':IntKind.u64.wrap rank%5=(M:Int))⟩:=QnY rank 5 (by decide)
 obtain rfl:M=R:=by unfold adR at hr;omega
 have hne:((M:Int)==0)=false:=by simp;omega
 obtain⟨U,eU⟩:∃ U,IntKind.u64.wrap rank=U:=⟨_,rfl⟩
 rw[eU] at eM
 clear eM' hr hM
 go_enter Tryz.func20,Tryz.ntmps20
 go_wp2
 refine QjY (T:=SL × (Nat→Nat→SL)) (V:=fun t=>.agg #[.int .i64 (M:Int),.int .i64 (S:Int),.slice t.1.a t.1.n t.1.c]) (cs:=fun t=>#[.int .i64 (M:Int),.int .i64 (S:Int),.slice t.1.a t.1.n t.1.c]) (I:=fun t lo hi w=>AdIn lo hi w t.1 t.2 m) Qon d h (ml:Int) v u x t n (M:Int) (S:Int) s q1 q2 (T9:Int) T9 w.heap.size zs (0) #[.int .i64 0,.int .i64 0,.slice none 0 0] (by kernel_rfl) rfl (by (repeat' apply And.intro)<;>exact⟨_,rfl,rfl,rfl,rfl,by kernel_rfl⟩) x2 x3 (fun w hw=>QcL (qc.kept hw)) (fun w=>by go_simp) (fun w hw=>by have y2:=(qc.kept hw).cell 2 rfl;go_simp) x7 x9 (fun w=>by go_simp) (fun w hw=>by have y2:=(qc.kept hw).cell 0 rfl;go_simp) x12 (fun w hw=>c40 w) (fun w ya yc hw hz=>c42 w ya yc hz) rfl rfl rfl QhO (fun w b t q=>QhI q ⟨0,0,0,0,0,0,0,0,noV,(M:Int),(S:Int),m⟩ t.1) (Nat.le_of_ble_eq_true rfl) ?_
 intro a W9 b9 t9 lo9 hi9 hs hd hkp eA eE hb9 gb9 gl9 gh9 hI9 q9
 obtain⟨f,ef,ep⟩:=fPz [17,18,19,20,21,22,23,24,25,26,27,28,29,30,31,32,16,33,34,7,8] rfl hs hd hkp
 simp only[ef] at eA eE
 simp only[List.foldl,eA,eE,Act.put,List.setIfInBounds_toArray,List.set_cons_succ,List.set_cons_zero] at ep
 clear hs hd hkp eA eE ef
 subst ep
 replace qr:=qr.kept hb9
 replace hb:=bTn hb hb9
 obtain⟨a0,a1,a2⟩:=q9.c3
 obtain⟨r0,r1,r2⟩:=qr.c3
 obtain⟨f0,f1,f2,-⟩:=qr.o12
 clear x2 x3 x7 x9 x12 c40 c42 qc hb9 eM eU
 have HI:=hdn hI9
 clear hI9
 go_wp2
 obtain⟨W6,eW6,q6,only6,hz6⟩:=set3 qr (.int .i64 (M:Int)) (.int .i64 (S:Int)) (.slice t9.1.a t9.1.n t9.1.c)
 rw[eW6]
 have m6:=(HI.out.only only6 (.inl (by omega))).new (g:=w.heap.size) (by omega)
 have b6:Below w.heap.size w W6:=Only.below hb (by omega) hb.size only6
 refine bodyPost_ret (v:=.agg #[.int .i64 (M:Int),.int .i64 (S:Int),.slice t9.1.a t9.1.n t9.1.c]) ?_ rfl ⟨t9,rfl,m6,b6⟩
 obtain⟨y0,y1,y2⟩:=q6.c3
 simp[results,Tryz.results20,go_sem,y0,y1,y2]
theorem QjX (rank d h l v u x t n s:Int)(ok:okB d h l v u x t n=true)(hs:(Lit.int .u64 s).wf=true)(w:World) :
  Calls Tryz.prog 20 #[I4 rank,.agg (c8 d h l v u x t n),.int .u64 s] w fun e w'=>∃ t':SL × (Nat→Nat→SL),e=.returned (.agg #[I4 (adR rank),I4 (adS rank s),t'.1.w])∧NewA w.heap.size w' t'.1 t'.2 (adV rank d l s)∧Bw w w':=by
 by_cases hr:adR rank=0
 ·refine (QjW rank d h l v u x t n s w hr).mono fun e w' hh=>?_
  obtain⟨rfl,hb⟩:=hh
  refine⟨(⟨none,0,0⟩,fun _ _=>SL.nought),?_,?_,hb⟩
  ·unfold adS
   rw[if_pos hr,hr]
  ·unfold adV
   rw[if_pos hr]
   exact NewA.none_ _ _ _
 ·have r:=Qbk ok
  have d0:=r.d0
  have d1:=r.d1
  have l0:=r.l0
  have l1:=r.l1
  have hb:=QdG rank
  have s0:0≤s∧s≤18446744073709551615:=by simpa [Lit.wf,IntKind.min,IntKind.max,IntKind.signed,IntKind.bits] using hs
  obtain⟨R,eR⟩:∃ R:Nat,adR rank=R:=⟨(adR rank).toNat,by omega⟩
  obtain⟨ml,rfl⟩:∃ ml:Nat,l=ml:=⟨l.toNat,by omega⟩
  obtain⟨D,rfl⟩:∃ D:Nat,d=D:=⟨d.toNat,by omega⟩
  obtain⟨S,eS⟩:∃ S:Nat,s%3=S:=⟨(s%3).toNat,by omega⟩
  have eS':s.tmod 3=(S:Int):=by rw[Int.tmod_eq_emod_of_nonneg s0.1];exact eS
  have e1:adS rank s=(S:Int):=by unfold adS;rw[if_neg hr];exact eS
  have q2:(ml:Int)*4*R=((ml*4*R:Nat):Int):=by rw[Int.natCast_mul,Int.natCast_mul];rfl
  have q3:((ml*4*R:Nat):Int)*D=((4*ml*(R*D):Nat):Int):=by rw[←Int.natCast_mul,Nat.mul_comm ml 4,Nat.mul_assoc]
  have b2:ml*4*R≤32:=by
   have:ml*4*R≤8*4:=Nat.mul_le_mul (by omega) (by omega)
   omega
  have b3:R*D≤32:=by
   have:R*D≤4*8:=Nat.mul_le_mul (by omega) (by omega)
   omega
  have b4:4*ml*(R*D)≤256:=by
   have:4*ml*(R*D)≤8*32:=Nat.mul_le_mul (by omega) b3
   omega
  have b5:0<4*ml*(R*D):=Nat.mul_pos (by omega) (Nat.mul_pos (by omega) (by omega))
  have e2:adV rank D ml s=Qdc ml (R*D) (wtL s (4*ml*(R*D))):=by
   have:=(QiP (l:=(ml:Int)) (R:=(R:Int)) (d:=(D:Int)) (by omega) (by omega) (by omega)).1
   have e:((R:Int)*D).toNat=R*D:=by rw[←Int.natCast_mul];exact Int.toNat_natCast _
   unfold adV
   rw[if_neg hr,eR,this,e]
   rfl
  have okA':okA (R:Int) (S:Int) D h ml v u x t n=true:=by
   unfold okA
   rw[ok]
   simp only[Bool.true_and,Bool.and_eq_true,decide_eq_true_eq]
   omega
  rw[e2,e1,eR]
  have q2':((ml*4*R:Nat):Int)≤32:=by omega
  refine QjV rank D h v u x t n s ((ml:Int)*4) ((ml*4*R:Nat):Int) ml R S (4*ml*(R*D)) (wtL s (4*ml*(R*D))) (Qdc ml (R*D) (wtL s (4*ml*(R*D)))) w ⟨by omega,by omega⟩ eR (fun w=>?_) (fun w=>?_) (fun w=>?_) (fun w=>?_) (fun w=>?_) (fun w=>Qcg _ (by omega) s w) (fun w ya yc hz=>?_)
  ·clear q2 q3 e2 okA' ok eS
   go_simp
  ·have hw:IntKind.i64.wrap (S:Int)=(S:Int):=by rw[IntKind.wrap_i64];omega
   clear q2 q3 e2 okA' ok eS eS'
   go_simp
  ·have hw:IntKind.i64.wrap ((ml:Int)*4)=(ml:Int)*4:=by rw[IntKind.wrap_i64];omega
   clear q2 q3 e2 okA' ok eS eS'
   go_simp
  ·have hw:IntKind.i64.wrap ((ml:Int)*4*R)=((ml*4*R:Nat):Int):=by rw[q2,IntKind.wrap_i64];omega
   clear q2 q3 e2 okA' ok eS eS'
   generalize ((ml*4*R:Nat):Int)=Z at *
   generalize (ml:Int)*4=Z2 at *
   go_simp
  ·have hw:IntKind.i64.wrap (((ml*4*R:Nat):Int)*D)=((4*ml*(R*D):Nat):Int):=by rw[q3,IntKind.wrap_i64];omega
   clear q2 q3 e2 okA' ok eS eS'
   generalize ((4*ml*(R*D):Nat):Int)=Z3 at *
   generalize ((ml*4*R:Nat):Int)=Z at *
   go_simp
  ·obtain⟨x0,rfl⟩:=hz.reads.some_ b5
   refine (Qgy (R:Int) (S:Int) D h v u x t n x0 ml (R*D) (4*ml*(R*D)) yc _ w hz.reads hz.cap rfl (by omega) (by omega) (by omega) (by rw[←Int.natCast_mul]) ((ml:Int)*4) rfl (by rw[Int.natCast_mul (4*ml),Int.natCast_mul 4 ml,Int.mul_comm (ml:Int) 4];rfl) (fun w=>by have:=QcF (R:Int) (S:Int) D h ml v u x t n w;rw[okA'] at this;exact this)).mono fun e w' hh=>?_
   obtain⟨L,Y,he,hN,hb⟩:=hh
   exact⟨(L,Y),he,hN.within,hb⟩
theorem Qmh (M:Md)(E L N O:SL)(Y U D:Nat→Nat→SL)(La:SL)(Ya:Nat→Nat→SL)(hE:badE M=0)(w:World)(hM:Qad w E L N O Y U D M.m)(hA:AdAt w La Ya M.a)(ta:Option Addr)(n tc:Nat)(ts:List Int)(ht:Reads .i64 w ta n ts)(hB:runB M ts n=true) :
  Calls Tryz.prog 21 #[M.ag E L N O,M.ad La,.slice ta n tc] w fun e w'=>(∃ u k u2 k2 A A2 C C2,e=.returned (.tuple #[.slice u n k,.slice u2 n k2,I4 0])∧Grid w' u n A C (rowF M (tokF ts))∧Grid w' u2 n A2 C2 (outF M (tokF ts))∧n≤k∧n≤k2∧(∀ r,r<n→(rowF M (tokF ts) r).length≤C r)∧(u=none→k=0)∧(u2=none→k2=0))∧Bw w w':=by
 have ok:=QdE hE
 refine (Qoo M E L N O Y U D La Ya w hM hA ta n tc (fun w' a m c b j k=>m=n∧j=n∧∃ A A2 C C2,Grid w' a n A C (rowF M (tokF ts))∧Grid w' b n A2 C2 (outF M (tokF ts))∧n≤c∧n≤k∧(∀ r,r<n→(rowF M (tokF ts) r).length≤C r)∧(a=none→c=0)∧(b=none→k=0)) hE (fun W hb=>(Qm2 M E L N O Y U D La Ya ok.fit ok.ok (fun h=>ok.adapter h) W (hM.below hb) (hA.below hb) ta n tc ts (ht.below hb) hB).mono fun e w' h=>?_)).mono fun e w' h=>?_
 ·obtain⟨⟨u,k,u2,k2,A,A2,C,C2,rfl,h1,h2⟩,h3⟩:=h
  obtain⟨a,c,ea,ga⟩:=h1.g1.grid
  obtain⟨b,d,eb,gb⟩:=h1.g2.grid
  simp only[Value.slice.injEq,true_and] at ea eb
  obtain⟨rfl,rfl⟩:=ea
  obtain⟨rfl,rfl⟩:=eb
  exact⟨⟨u,n,k,u2,n,k2,rfl,rfl,rfl,A,A2,C,C2,ga,gb,QaL h1.g1.own,QaL h1.g2.own,h2,Qb3 h1.g1.own,Qb3 h1.g2.own⟩,h3⟩
 ·obtain⟨⟨a,m,c,b,j,k,rfl,rfl,rfl,A,A2,C,C2,h1⟩,h2⟩:=h
  exact⟨⟨a,c,b,k,A,A2,C,C2,rfl,h1⟩,h2⟩
theorem Qnc (M:Md)(E L N O:SL)(Y U D:Nat→Nat→SL)(La:SL)(Ya:Nat→Nat→SL)(hE:badE M=0)(w:World)(hM:Qad w E L N O Y U D M.m)(hA:AdAt w La Ya M.a)(ta:Option Addr)(n tc:Nat)(ts:List Int)(ht:Reads .i64 w ta n ts)(hB:runB M ts n=false) :
  Calls Tryz.prog 21 #[M.ag E L N O,M.ad La,.slice ta n tc] w fun e w'=>e=.returned (.tuple #[.slice none 0 0,.slice none 0 0,I4 20])∧Bw w w':=by
 have ok:=QdE hE
 exact QlJ M E L N O Y U D La Ya w hM hA ta n tc (fun _ _ _ _ _ _ _=>True) 20 hE (fun W hb=>QnU M E L N O Y U D La Ya ok.fit ok.ok (fun h=>ok.adapter h) W (hM.below hb) (hA.below hb) ta n tc ts (ht.below hb) hB)
theorem AdAt.none_ (w:World)(Y:Nat→Nat→SL):AdAt w noS Y noA:=⟨rfl,(fun h=>by cases h),fun _=>rfl,Nat.le_refl _,(fun x hx=>by cases hx),(fun i hi=>by cases hi)⟩
theorem QfS (M:Md)(E L N O:SL)(Y U D:Nat→Nat→SL)(La:SL)(Ya:Nat→Nat→SL)(hE:badE M=0)(w:World)(hM:Qad w E L N O Y U D M.m)(hA:AdAt w La Ya M.a)(hml:M.m.ln≤9223372036854775807)(hal:M.a.ln≤9223372036854775807)(pa:Option Addr)(n pc:Nat)(p tok:Int)(h:p<0) :
  Calls Tryz.prog 13 #[M.ag E L N O,M.ad La,.slice pa n pc,I4 p,I4 tok] w fun e w'=>e=.returned (.tuple #[.slice none 0 0,.slice none 0 0,I4 20])∧Bw w w':=by
 have hb0:=bNw (bNw (bS w) (.cells (M.mc E L N O) 27)) (.cells (M.rc La) 30)
 have q1:Blk 27 ((w.alloc (.cells (M.mc E L N O) 27)).alloc (.cells (M.rc La) 30)) w.heap.size (M.mc E L N O):=(Blk.new 27 w _).kept (bNw bR _)
 have q2:Blk 30 ((w.alloc (.cells (M.mc E L N O) 27)).alloc (.cells (M.rc La) 30)) (w.heap.size+1) (M.rc La):=Blk.new_at 30 (w.alloc _) _ _ (by simp)
 have kE:Calls Tryz.prog 31 #[M.ag E L N O,M.ad La] ((w.alloc (.cells (M.mc E L N O) 27)).alloc (.cells (M.rc La) 30)) fun e w'=>e=.returned (I4 (badE M))∧Below ((w.alloc (.cells (M.mc E L N O) 27)).alloc (.cells (M.rc La) 30)).heap.size ((w.alloc (.cells (M.mc E L N O) 27)).alloc (.cells (M.rc La) 30)) w':=by
  have:=QaD M E L N O Y U D La Ya ((w.alloc (.cells (M.mc E L N O) 27)).alloc (.cells (M.rc La) 30)) (hM.below hb0) (hA.below hb0) hml hal
  exact this
 rw[hE] at kE
 have d1':decide (p<0)=true:=decide_eq_true (by omega)
 clear hE
 go_enter Tryz.func13,Tryz.ntmps13
 go_wp2_with (go_at_call 31;refine kE.mono ?_;rintro e W1 ⟨rfl,h1⟩;have hb1:=bTn hb0 h1;have Q1:=hdn (q1.kept h1);have Q2:=hdn (q2.kept h1);obtain⟨a0,a1,a2,a3,a4,a5,a6,a7,a8,a9,a10,a11⟩:=(q1.kept h1).c12;clear h1 hb0 q1 q2 kE)
 refine bodyPost_ret (v:=.tuple #[.slice none 0 0,.slice none 0 0,I4 20]) ?_ rfl ⟨rfl,bNw hb1 _⟩
 simp[results,Tryz.results13,go_sem]
theorem QfR (M:Md)(E L N O:SL)(Y U D:Nat→Nat→SL)(La:SL)(Ya:Nat→Nat→SL)(hE:badE M=0)(w:World)(hM:Qad w E L N O Y U D M.m)(hA:AdAt w La Ya M.a)(hml:M.m.ln≤9223372036854775807)(hal:M.a.ln≤9223372036854775807)(pa:Option Addr)(n pc:Nat)(p tok:Int)(h:24≤p) :
  Calls Tryz.prog 13 #[M.ag E L N O,M.ad La,.slice pa n pc,I4 p,I4 tok] w fun e w'=>e=.returned (.tuple #[.slice none 0 0,.slice none 0 0,I4 20])∧Bw w w':=by
 have hb0:=bNw (bNw (bS w) (.cells (M.mc E L N O) 27)) (.cells (M.rc La) 30)
 have q1:Blk 27 ((w.alloc (.cells (M.mc E L N O) 27)).alloc (.cells (M.rc La) 30)) w.heap.size (M.mc E L N O):=(Blk.new 27 w _).kept (bNw bR _)
 have q2:Blk 30 ((w.alloc (.cells (M.mc E L N O) 27)).alloc (.cells (M.rc La) 30)) (w.heap.size+1) (M.rc La):=Blk.new_at 30 (w.alloc _) _ _ (by simp)
 have kE:Calls Tryz.prog 31 #[M.ag E L N O,M.ad La] ((w.alloc (.cells (M.mc E L N O) 27)).alloc (.cells (M.rc La) 30)) fun e w'=>e=.returned (I4 (badE M))∧Below ((w.alloc (.cells (M.mc E L N O) 27)).alloc (.cells (M.rc La) 30)).heap.size ((w.alloc (.cells (M.mc E L N O) 27)).alloc (.cells (M.rc La) 30)) w':=by
  have:=QaD M E L N O Y U D La Ya ((w.alloc (.cells (M.mc E L N O) 27)).alloc (.cells (M.rc La) 30)) (hM.below hb0) (hA.below hb0) hml hal
  exact this
 rw[hE] at kE
 have d1':decide (p<0)=false:=decide_eq_false (by omega)
 have d2':decide (24≤p)=true:=decide_eq_true (by omega)
 clear hE
 go_enter Tryz.func13,Tryz.ntmps13
 go_wp2_with (go_at_call 31;refine kE.mono ?_;rintro e W1 ⟨rfl,h1⟩;have hb1:=bTn hb0 h1;have Q1:=hdn (q1.kept h1);have Q2:=hdn (q2.kept h1);obtain⟨a0,a1,a2,a3,a4,a5,a6,a7,a8,a9,a10,a11⟩:=(q1.kept h1).c12;clear h1 hb0 q1 q2 kE)
 refine bodyPost_ret (v:=.tuple #[.slice none 0 0,.slice none 0 0,I4 20]) ?_ rfl ⟨rfl,bNw hb1 _⟩
 simp[results,Tryz.results13,go_sem]
theorem QfQ (M:Md)(E L N O:SL)(Y U D:Nat→Nat→SL)(La:SL)(Ya:Nat→Nat→SL)(hE:badE M=0)(w:World)(hM:Qad w E L N O Y U D M.m)(hA:AdAt w La Ya M.a)(hml:M.m.ln≤9223372036854775807)(hal:M.a.ln≤9223372036854775807)(pa:Option Addr)(n pc:Nat)(p tok:Int)(hp:0≤p∧p<24)(h:tok<0) :
  Calls Tryz.prog 13 #[M.ag E L N O,M.ad La,.slice pa n pc,I4 p,I4 tok] w fun e w'=>e=.returned (.tuple #[.slice none 0 0,.slice none 0 0,I4 20])∧Bw w w':=by
 have hb0:=bNw (bNw (bS w) (.cells (M.mc E L N O) 27)) (.cells (M.rc La) 30)
 have q1:Blk 27 ((w.alloc (.cells (M.mc E L N O) 27)).alloc (.cells (M.rc La) 30)) w.heap.size (M.mc E L N O):=(Blk.new 27 w _).kept (bNw bR _)
 have q2:Blk 30 ((w.alloc (.cells (M.mc E L N O) 27)).alloc (.cells (M.rc La) 30)) (w.heap.size+1) (M.rc La):=Blk.new_at 30 (w.alloc _) _ _ (by simp)
 have kE:Calls Tryz.prog 31 #[M.ag E L N O,M.ad La] ((w.alloc (.cells (M.mc E L N O) 27)).alloc (.cells (M.rc La) 30)) fun e w'=>e=.returned (I4 (badE M))∧Below ((w.alloc (.cells (M.mc E L N O) 27)).alloc (.cells (M.rc La) 30)).heap.size ((w.alloc (.cells (M.mc E L N O) 27)).alloc (.cells (M.rc La) 30)) w':=by
  have:=QaD M E L N O Y U D La Ya ((w.alloc (.cells (M.mc E L N O) 27)).alloc (.cells (M.rc La) 30)) (hM.below hb0) (hA.below hb0) hml hal
  exact this
 rw[hE] at kE
 have d1':decide (p<0)=false:=decide_eq_false (by omega)
 have d2':decide (24≤p)=false:=decide_eq_false (by omega)
 have d3':decide (tok<0)=true:=decide_eq_true (by omega)
 clear hE
 go_enter Tryz.func13,Tryz.ntmps13
 go_wp2_with (go_at_call 31;refine kE.mono ?_;rintro e W1 ⟨rfl,h1⟩;have hb1:=bTn hb0 h1;have Q1:=hdn (q1.kept h1);have Q2:=hdn (q2.kept h1);obtain⟨a0,a1,a2,a3,a4,a5,a6,a7,a8,a9,a10,a11⟩:=(q1.kept h1).c12;clear h1 hb0 q1 q2 kE)
 refine bodyPost_ret (v:=.tuple #[.slice none 0 0,.slice none 0 0,I4 20]) ?_ rfl ⟨rfl,bNw hb1 _⟩
 simp[results,Tryz.results13,go_sem]
theorem QfP (M:Md)(E L N O:SL)(Y U D:Nat→Nat→SL)(La:SL)(Ya:Nat→Nat→SL)(hE:badE M=0)(w:World)(hM:Qad w E L N O Y U D M.m)(hA:AdAt w La Ya M.a)(hml:M.m.ln≤9223372036854775807)(hal:M.a.ln≤9223372036854775807)(pa:Option Addr)(n pc:Nat)(p tok:Int)(hp:0≤p∧p<24)(h:0≤tok∧M.v≤tok) :
  Calls Tryz.prog 13 #[M.ag E L N O,M.ad La,.slice pa n pc,I4 p,I4 tok] w fun e w'=>e=.returned (.tuple #[.slice none 0 0,.slice none 0 0,I4 20])∧Bw w w':=by
 have hb0:=bNw (bNw (bS w) (.cells (M.mc E L N O) 27)) (.cells (M.rc La) 30)
 have q1:Blk 27 ((w.alloc (.cells (M.mc E L N O) 27)).alloc (.cells (M.rc La) 30)) w.heap.size (M.mc E L N O):=(Blk.new 27 w _).kept (bNw bR _)
 have q2:Blk 30 ((w.alloc (.cells (M.mc E L N O) 27)).alloc (.cells (M.rc La) 30)) (w.heap.size+1) (M.rc La):=Blk.new_at 30 (w.alloc _) _ _ (by simp)
 have kE:Calls Tryz.prog 31 #[M.ag E L N O,M.ad La] ((w.alloc (.cells (M.mc E L N O) 27)).alloc (.cells (M.rc La) 30)) fun e w'=>e=.returned (I4 (badE M))∧Below ((w.alloc (.cells (M.mc E L N O) 27)).alloc (.cells (M.rc La) 30)).heap.size ((w.alloc (.cells (M.mc E L N O) 27)).alloc (.cells (M.rc La) 30)) w':=by
  have:=QaD M E L N O Y U D La Ya ((w.alloc (.cells (M.mc E L N O) 27)).alloc (.cells (M.rc La) 30)) (hM.below hb0) (hA.below hb0) hml hal
  exact this
 rw[hE] at kE
 have d1':decide (p<0)=false:=decide_eq_false (by omega)
 have d2':decide (24≤p)=false:=decide_eq_false (by omega)
 have d3':decide (tok<0)=false:=decide_eq_false (by omega)
 have d4':decide (M.v≤tok)=true:=decide_eq_true (by omega)
 clear hE
 go_enter Tryz.func13,Tryz.ntmps13
 go_wp2_with (go_at_call 31;refine kE.mono ?_;rintro e W1 ⟨rfl,h1⟩;have hb1:=bTn hb0 h1;have Q1:=hdn (q1.kept h1);have Q2:=hdn (q2.kept h1);obtain⟨a0,a1,a2,a3,a4,a5,a6,a7,a8,a9,a10,a11⟩:=(q1.kept h1).c12;clear h1 hb0 q1 q2 kE)
 refine bodyPost_ret (v:=.tuple #[.slice none 0 0,.slice none 0 0,I4 20]) ?_ rfl ⟨rfl,bNw hb1 _⟩
 simp[results,Tryz.results13,go_sem]
theorem QgO (M:Md)(E L N O:SL)(Y U D:Nat→Nat→SL)(La:SL)(Ya:Nat→Nat→SL)(hE:badE M=0)(w:World)(hM:Qad w E L N O Y U D M.m)(hA:AdAt w La Ya M.a)(hml:M.m.ln≤9223372036854775807)(hal:M.a.ln≤9223372036854775807)(pa:Option Addr)(n pc:Nat)(p tok:Int)(h:¬(0≤p∧p<24)∨¬(0≤tok∧tok<M.v)) :
  Calls Tryz.prog 13 #[M.ag E L N O,M.ad La,.slice pa n pc,I4 p,I4 tok] w fun e w'=>e=.returned (.tuple #[.slice none 0 0,.slice none 0 0,I4 20])∧Bw w w':=by
 by_cases h1:p<0
 ·exact QfS M E L N O Y U D La Ya hE w hM hA hml hal pa n pc p tok h1
 by_cases h2:24≤p
 ·exact QfR M E L N O Y U D La Ya hE w hM hA hml hal pa n pc p tok h2
 by_cases h3:tok<0
 ·exact QfQ M E L N O Y U D La Ya hE w hM hA hml hal pa n pc p tok ⟨by omega,by omega⟩ h3
 ·exact QfP M E L N O Y U D La Ya hE w hM hA hml hal pa n pc p tok ⟨by omega,by omega⟩ ⟨by omega,by omega⟩
theorem QeJ (M:Md)(E L N O:SL)(Y U D:Nat→Nat→SL)(La:SL)(Ya:Nat→Nat→SL)(F:Qaq M)(hE:badE M=0)(p:Int)(hp:0≤p∧p<24)(tok:Nat)(ht:(tok:Int)<M.v)(w:World)(hM:Qad w E L N O Y U D M.m)(hA:AdAt w La Ya M.a)(hml:M.m.ln≤9223372036854775807)(hal:M.a.ln≤9223372036854775807)
  (pa:Option Addr) (n pc:Nat) (A:Nat→Option Addr) (C:Nat→Nat) (P:Nat→List Int) (hP:Grid w pa n A C P) (hC:∀ r,r<n→(P r).length≤C r) (hcn:(n:Int)=p-seeZ p M.n) (hW:∀ r,r<n→(P r).length=2*M.m.ln*M.D) :
  Calls Tryz.prog 13 #[.agg #[I4 M.d,I4 M.h,I4 M.l,I4 M.v,I4 M.u,I4 M.x,I4 M.t,I4 M.n,.slice E.a E.n E.c,.slice L.a L.n L.c,.slice N.a N.n N.c,.slice O.a O.n O.c],.agg #[I4 M.r,I4 M.s,.slice La.a La.n La.c],.slice pa n pc,I4 p,I4 tok] w fun e w'=>(∃ a c b k,e=.returned (.tuple #[.slice a (2*M.m.ln*M.D) c,.slice b M.D k,I4 0])∧Reads .i64 w' a (2*M.m.ln*M.D) (rowL M p P n tok)∧2*M.m.ln*M.D≤c∧Reads .i64 w' b M.D (outL M p P n tok)∧(∀ x,a=some x→w.heap.size≤x.block)∧∀ x,b=some x→w.heap.size≤x.block)∧Bw w w':=by
 have K:=QdE hE
 obtain⟨x0,hx0⟩:=hM.some_ (by have:=F.l0;omega)
 have:=Qh9 M E L N O Y U D La Ya x0 F hE K.ok (fun h=>K.adapter h) p hp tok ht w hM hA hml hal hx0 pa n pc A C P hP hC hcn hW
 rw[hx0,hM.len]
 exact this
theorem Qe1 (w:World)(m:Nat):Bw w (w.drewN m):=bDr bR ⟨m,rfl⟩
theorem QkR (M:Md)(E L N O:SL)(Y U D:Nat→Nat→SL)(La:SL)(Ya:Nat→Nat→SL)(F:Qaq M)(hE:badE M=0)(w:World)(hM:Qad w E L N O Y U D M.m)(hA:AdAt w La Ya M.a)(hml:M.m.ln≤9223372036854775807)(hal:M.a.ln≤9223372036854775807)(ta:Option Addr)(n tc:Nat)(ts:List Int)(ht:Reads .i64 w ta n ts)(hB:runB M ts n=true) :
  Calls Tryz.prog 22 #[M.ag E L N O,M.ad La,.slice ta n tc] w fun e w'=>(∃ u k u2 k2 A A2 C C2,e=.returned (.tuple #[.slice u n k,.slice u2 n k2,I4 0])∧TwoG w.heap.size w' (.slice u n k) (.slice u2 n k2) n n A A2 C C2 (rowF M (tokF ts)) (outF M (tokF ts))∧(∀ r,r<n→(rowF M (tokF ts) r).length≤C r))∧Bw w w':=by
 obtain⟨hn24,htk⟩:=QiJ hB
 obtain⟨J,hJn⟩:∃ J,J=n:=⟨_,rfl⟩
 have hJ24:J≤24:=by omega
 rw[←hJn] at htk
 obtain⟨j0,hj,hy0,hy1,hy2⟩:=info_parts Qcl
 have d0:=F.d0
 have d1:=F.d1
 have hD0:0<M.D:=by omega
 have hb0:=bNw (bNw (bS w) (.cells (M.mc E L N O) 27)) (.cells (M.rc La) 30)
 have q1:Blk 27 ((w.alloc (.cells (M.mc E L N O) 27)).alloc (.cells (M.rc La) 30)) w.heap.size (M.mc E L N O):=(Blk.new 27 w _).kept (bNw bR _)
 have q2:Blk 30 ((w.alloc (.cells (M.mc E L N O) 27)).alloc (.cells (M.rc La) 30)) (w.heap.size+1) (M.rc La):=Blk.new_at 30 (w.alloc _) _ _ (by simp)
 have kE:=QaD M E L N O Y U D La Ya _ (hM.below hb0) (hA.below hb0) hml hal
 rw[hE] at kE
 have HE:=hdn hE
 clear hE
 go_enter Tryz.func22,Tryz.ntmps22
 go_wp2_with (go_at_call 31;refine kE.mono ?_;rintro e W1 ⟨rfl,h1⟩;have hb1:=bTn hb0 h1;have p1:=q1.kept h1;have p2:=q2.kept h1;clear h1 hb0 q1 q2 kE)
 have hE:=HE
 go_loopw [10,11,12] (fun vr vo i wr=>∃ k:Nat,k≤J∧i=I4 k∧Bw w wr∧Blk 27 wr w.heap.size (M.mc E L N O)∧Blk 30 wr (w.heap.size+1) (M.rc La)∧∃ A A2 C C2,TwoG w.heap.size wr vr vo k k A A2 C C2 (rowF M (tokF ts)) (outF M (tokF ts))∧(∀ r,r<k→(rowF M (tokF ts) r).length≤C r)) (fun _ _ i _=>J-(intOf i).toNat)
 case atStart=>exact⟨0,Nat.zero_le _,rfl,hb1,p1,p2,(fun _=>none),(fun _=>none),(fun _=>0),(fun _=>0),TwoG.none_ _ _ _ _ _ _ _ _,fun r hr=>by omega⟩
 case round =>
  clear hb1 p1 p2
  obtain⟨k,hk,rfl,hbr,qm,qa,A,A2,C,C2,tg,hcap⟩:=hrel
  by_cases hlt:k<J
  ·have Q1:=hdn qm
   have Q2:=hdn qa
   obtain⟨ra,rc,rfl,rG⟩:=tg.g1.grid
   have rcap:=QaL tg.g1.own
   have rnil:=Qb3 tg.g1.own
   have rmax:=QdB tg.g1.own
   have sle:=Qfh M k
   have sint:=Qdr M k
   obtain⟨sq,hsl,sG⟩:=Qcz rG rcap rnil (saw M k) sle rmax
   obtain⟨x,rfl⟩:=ht.some_ (by omega)
   have HT:=hdn tg
   have n0:=F.n0
   have n1:=F.n1
   have kvis:=fun W=>Qa0 (k:Int) M.n (Qae (by omega) (by omega)) (Qae (by omega) (by omega)) W
   rw[sint] at kvis
   have tk:=htk k hlt
   have etok:ts.getD k 0=((tokF ts k:Nat):Int):=by unfold tokF;omega
   obtain⟨wd,ewd⟩:∃ wd,2*M.m.ln*M.D=wd:=⟨_,rfl⟩
   have lrow:=QaK F (tokF ts) k
   have lout:=Qb4 M (tokF ts) k
   have kst:∀ W,Bw wr W→Calls Tryz.prog 13 #[M.ag E L N O,M.ad La,.slice sq (k-saw M k) (rc-saw M k),I4 (k:Int),I4 (ts.getD k 0)] W fun e w'=>(∃ a c b d,e=.returned (.tuple #[.slice a wd c,.slice b M.D d,I4 0])∧(fun w a c=>Reads .i64 w a wd (rowF M (tokF ts) k)∧wd≤c∧∀ x,a=some x→wr.heap.size≤x.block) w' a c∧(fun w a c=>Reads .i64 w a M.D (outF M (tokF ts) k)∧∀ x,a=some x→wr.heap.size≤x.block) w' b d)∧Bw W w'∧Bw wr w':=fun W hb=>by
    have hbW:=bTn hbr hb
    have K:=QeJ M E L N O Y U D La Ya F hE.out (k:Int) ⟨by omega,by omega⟩ (tokF ts k) (by rw[←etok];exact tk.2) W (hM.below hbW) (hA.below hbW) hml hal sq (k-saw M k) (rc-saw M k) _ _ _ (sG.below hb) (fun r hr=>hcap (saw M k+r) (by omega)) (by rw[sint];omega) (fun r hr=>QaK F (tokF ts) _)
    have erow:rowL M (k:Int) (fun r=>rowF M (tokF ts) (saw M k+r)) (k-saw M k) (tokF ts k)=rowF M (tokF ts) k:=(QeA M (tokF ts) k).symm
    have eout:outL M (k:Int) (fun r=>rowF M (tokF ts) (saw M k+r)) (k-saw M k) (tokF ts k)=outF M (tokF ts) k:=(QeM M (tokF ts) k).symm
    rw[erow,eout,ewd] at K
    rw[etok]
    refine K.mono ?_
    rintro e w' ⟨⟨a,c,b,d,q1,q2,q3,q4,q5,q6⟩,q7⟩
    exact⟨⟨a,c,b,d,q1,⟨q2,q3,fun x hx=>Nat.le_trans hb.size (q5 x hx)⟩,q4,fun x hx=>Nat.le_trans hb.size (q6 x hx)⟩,q7,bTn hb q7⟩
   rw[ewd] at lrow
   have hmin:((saw M k:Nat):Int)≤(k:Int):=by omega
   clear qm qa tg rG rnil rmax sint ewd
   go_wp2
   refine Qfm M E L N O La w.heap.size (w.heap.size+1) n tc rc (saw M k) k wd M.D ra sq x (ts.getD k 0) (fun w a c=>Reads .i64 w a wd (rowF M (tokF ts) k)∧wd≤c∧∀ x,a=some x→wr.heap.size≤x.block) (fun w a c=>Reads .i64 w a M.D (outF M (tokF ts) k)∧∀ x,a=some x→wr.heap.size≤x.block) (fun W=>Bw wr W) (fun h hb=>⟨h.1.below hb,h.2⟩) (fun h hb=>⟨h.1.below hb,h.2⟩) (by kernel_rfl) rfl (by (repeat' apply And.intro)<;>exact⟨_,rfl,rfl,rfl,rfl,by kernel_rfl⟩) bR.drew (fun W hb=>Qaj (Q1.out.kept hb)) (fun W hb=>rL3 (Q2.out.kept hb)) (Qaw _ 0 0 (by omega)) (Qap _ 7 (by omega)) (fun W hb=>Qam ((Q1.out.kept hb).cell 7 (v:=I4 M.n) rfl)) (fun W hb=>(kvis W).mono fun e w' ⟨q1,q2⟩=>⟨q1,by rw[q2];exact Below.refl _ _,by rw[q2];exact hb⟩) (fun W=>hsl W) (Qbt x n tc k (by omega)) (fun W hb=>Qam (((ht.below hbr).below hb).cell x rfl k (by omega))) kst rfl rfl rfl rfl rfl hmin (Nat.le_of_ble_eq_true rfl) ?_
   intro a W9 hs hd hkp hS9 hval
   have e15:a.tmps.getD 15 undef=I4 0:=hval 24 15 (by decide) rfl
   obtain⟨ra1,rc1,e13,⟨rr1,rl1,fr1⟩⟩:=hval 22 13 (by decide) rfl
   obtain⟨oa1,oc1,e14,⟨ro1,fo1⟩⟩:=hval 23 14 (by decide) rfl
   obtain⟨f,ef,ep⟩:=fPz [29,30,31,32,33,34,35,36,37,38,39,40,41,42,43,44,45,46,28,47,48,49,13,14,15] rfl hs hd hkp
   simp only[ef] at e15 e13 e14
   simp only[List.foldl,e15,e13,e14,Act.put,List.setIfInBounds_toArray,List.set_cons_succ,List.set_cons_zero] at ep
   have H9:=hdn hS9
   clear hs hd hkp hval hS9 e15 e13 e14 ef
   subst ep
   have h1:Bw wr W9:=H9.out
   have hb1:=bTn hbr h1
   have t1:=HT.out.below h1
   have Q1':=hdn (Q1.out.kept h1)
   have Q2':=hdn (Q2.out.kept h1)
   have fl1:∀ h,(Value.slice ra k rc).ownBlock=some h→h<wr.heap.size:=fun h hh=>(HT.out.g1.own.lt h hh).2
   have fl2:∀ h,u11.ownBlock=some h→h<wr.heap.size:=fun h hh=>(HT.out.g2.own.lt h hh).2
   have s1':=h1.size
   clear Q1 Q2 h1 HT hsl kst kvis H9 sG hmin
   go_wp2_with (first
    | (at_builtin;refine Qaa rfl (.tmp 53) (.tmp 55) 31 rfl w.heap.size 34 j0 (.slice none 0 0) 24 Tryz.underlying31 hj hy0 hy1 hy2 rfl _ k _ rfl (t1.g1.own.alloc _) ⟨_,0,none⟩ 1 (.slice ra1 wd rc1) rfl (Qai _ _ _) (QaC _ _ _) (by unfold maxLen;omega) (by omega) (bNw hb1 _).size ?_;intro v2 W2 ho2 hg2 hs2;have bn:=bNw (Below.refl W9.heap.size W9) (.cells #[.slice ra1 wd rc1] 34);have t2:=(t1.below bn).app lrow (rr1.below bn) (fun x hx g hg e=>by have:=fr1 x hx;have:=fl1 g hg;omega) (fun x hx g hg e=>by have:=fr1 x hx;have:=fl2 g hg;omega) ho2 hg2 hs2;have hb2:=below_append (bNw hb1 _) (t1.g1.own.alloc _) hg2;have Q1:=hdn ((Q1'.out.kept bn).own_kept (t1.g1.own.alloc _) (by decide) hg2);have Q2:=hdn ((Q2'.out.kept bn).own_kept (t1.g1.own.alloc _) (by decide) hg2);have ro2:=(ro1.below bn).grown hg2 (fun _ x hx g hg e=>by have:=fo1 x hx;have:=fl1 g hg;omega);have fo2:∀ x,oa1=some x→x.block<(W9.alloc (.cells #[.slice ra1 wd rc1] 34)).heap.size:=fun x hx=>Qcx (ro1.below bn) hx hD0;have fv2:∀ x,oa1=some x→∀ g,v2.ownBlock=some g→x.block≠g:=fun x hx g hg=>Qct hs2 (fun q hq e=>by have:=fo1 x hx;have:=fl1 q hq;omega) (fo2 x hx) g hg;clear ho2 hg2 hs2 Q1' Q2' t1 bn rr1 ro1 hb1 fo2)
    | (at_builtin;refine Qaa rfl (.tmp 57) (.tmp 59) 31 rfl w.heap.size 34 j0 (.slice none 0 0) 24 Tryz.underlying31 hj hy0 hy1 hy2 rfl _ k _ rfl (t2.g2.own.alloc _) ⟨_,0,none⟩ 1 (.slice oa1 M.D oc1) rfl (Qai _ _ _) (QaC _ _ _) (by unfold maxLen;omega) (by omega) (bNw hb2 _).size ?_;intro v3 W3 ho3 hg3 hs3;have bn:=bNw (Below.refl W2.heap.size W2) (.cells #[.slice oa1 M.D oc1] 34);have t3:=((t2.below bn).swap.app lout (ro2.below bn) (fun x hx g hg e=>by have:=fo1 x hx;have:=fl2 g hg;omega) (fun x hx g hg=>fv2 x hx g hg) ho3 hg3 hs3).swap;have hb3:=below_append (bNw hb2 _) (t2.g2.own.alloc _) hg3;have Q1':=hdn ((Q1.out.kept bn).own_kept (t2.g2.own.alloc _) (by decide) hg3);have Q2':=hdn ((Q2.out.kept bn).own_kept (t2.g2.own.alloc _) (by decide) hg3);have R3:=hdn t3;clear ho3 hg3 hs3 Q1 Q2 t2 bn ro2 hb2 t3))
   go_roundw
   case rel =>
    refine⟨k+1,by omega,by go_num,hb3,Q1'.out,Q2'.out,_,_,_,_,R3.out,fun r hr=>?_⟩
    by_cases e:r=k
    ·subst e
     simp only[if_true]
     rw[lrow]
     exact rl1
    ·simp only[if_neg e]
     exact hcap r (by omega)
   case measure=>simp[intOf];omega
  ·have e:k=n:=by omega
   subst e
   obtain⟨ra,rc,rfl,-⟩:=tg.g1.grid
   obtain⟨oa,oc,rfl,-⟩:=tg.g2.grid
   have HT:=hdn tg
   clear tg qm qa
   go_wp2
   refine bodyPost_ret (v:=.tuple #[.slice ra k rc,.slice oa k oc,I4 0]) ?_ rfl ⟨⟨_,_,_,_,_,_,_,_,rfl,HT.out,hcap⟩,hbr⟩
   simp[results,Tryz.results22,go_sem]
theorem Ql5 (M:Md)(E L N O:SL)(Y U D:Nat→Nat→SL)(La:SL)(Ya:Nat→Nat→SL)(F:Qaq M)(hE:badE M=0)(w:World)(hM:Qad w E L N O Y U D M.m)(hA:AdAt w La Ya M.a)(hml:M.m.ln≤9223372036854775807)(hal:M.a.ln≤9223372036854775807)(ta:Option Addr)(n tc:Nat)(ts:List Int)(ht:Reads .i64 w ta n ts)(hB:runB M ts n=false) :
  Calls Tryz.prog 22 #[M.ag E L N O,M.ad La,.slice ta n tc] w fun e w'=>e=.returned (.tuple #[.slice none 0 0,.slice none 0 0,I4 20])∧Bw w w':=by
 obtain⟨J,hJn,hJ24,htk,hbad⟩:=QkD hB
 obtain⟨j0,hj,hy0,hy1,hy2⟩:=info_parts Qcl
 have d0:=F.d0
 have d1:=F.d1
 have hD0:0<M.D:=by omega
 have hb0:=bNw (bNw (bS w) (.cells (M.mc E L N O) 27)) (.cells (M.rc La) 30)
 have q1:Blk 27 ((w.alloc (.cells (M.mc E L N O) 27)).alloc (.cells (M.rc La) 30)) w.heap.size (M.mc E L N O):=(Blk.new 27 w _).kept (bNw bR _)
 have q2:Blk 30 ((w.alloc (.cells (M.mc E L N O) 27)).alloc (.cells (M.rc La) 30)) (w.heap.size+1) (M.rc La):=Blk.new_at 30 (w.alloc _) _ _ (by simp)
 have kE:=QaD M E L N O Y U D La Ya _ (hM.below hb0) (hA.below hb0) hml hal
 rw[hE] at kE
 have HE:=hdn hE
 clear hE
 go_enter Tryz.func22,Tryz.ntmps22
 go_wp2_with (go_at_call 31;refine kE.mono ?_;rintro e W1 ⟨rfl,h1⟩;have hb1:=bTn hb0 h1;have p1:=q1.kept h1;have p2:=q2.kept h1;clear h1 hb0 q1 q2 kE)
 have hE:=HE
 go_loopw [10,11,12] (fun vr vo i wr=>∃ k:Nat,k≤J∧i=I4 k∧Bw w wr∧Blk 27 wr w.heap.size (M.mc E L N O)∧Blk 30 wr (w.heap.size+1) (M.rc La)∧∃ A A2 C C2,TwoG w.heap.size wr vr vo k k A A2 C C2 (rowF M (tokF ts)) (outF M (tokF ts))∧(∀ r,r<k→(rowF M (tokF ts) r).length≤C r)) (fun _ _ i _=>J-(intOf i).toNat)
 case atStart=>exact⟨0,Nat.zero_le _,rfl,hb1,p1,p2,(fun _=>none),(fun _=>none),(fun _=>0),(fun _=>0),TwoG.none_ _ _ _ _ _ _ _ _,fun r hr=>by omega⟩
 case round =>
  clear hb1 p1 p2
  obtain⟨k,hk,rfl,hbr,qm,qa,A,A2,C,C2,tg,hcap⟩:=hrel
  by_cases hlt:k<J
  ·have Q1:=hdn qm
   have Q2:=hdn qa
   obtain⟨ra,rc,rfl,rG⟩:=tg.g1.grid
   have rcap:=QaL tg.g1.own
   have rnil:=Qb3 tg.g1.own
   have rmax:=QdB tg.g1.own
   have sle:=Qfh M k
   have sint:=Qdr M k
   obtain⟨sq,hsl,sG⟩:=Qcz rG rcap rnil (saw M k) sle rmax
   obtain⟨x,rfl⟩:=ht.some_ (by omega)
   have HT:=hdn tg
   have n0:=F.n0
   have n1:=F.n1
   have kvis:=fun W=>Qa0 (k:Int) M.n (Qae (by omega) (by omega)) (Qae (by omega) (by omega)) W
   rw[sint] at kvis
   have tk:=htk k hlt
   have etok:ts.getD k 0=((tokF ts k:Nat):Int):=by unfold tokF;omega
   obtain⟨wd,ewd⟩:∃ wd,2*M.m.ln*M.D=wd:=⟨_,rfl⟩
   have lrow:=QaK F (tokF ts) k
   have lout:=Qb4 M (tokF ts) k
   have kst:∀ W,Bw wr W→Calls Tryz.prog 13 #[M.ag E L N O,M.ad La,.slice sq (k-saw M k) (rc-saw M k),I4 (k:Int),I4 (ts.getD k 0)] W fun e w'=>(∃ a c b d,e=.returned (.tuple #[.slice a wd c,.slice b M.D d,I4 0])∧(fun w a c=>Reads .i64 w a wd (rowF M (tokF ts) k)∧wd≤c∧∀ x,a=some x→wr.heap.size≤x.block) w' a c∧(fun w a c=>Reads .i64 w a M.D (outF M (tokF ts) k)∧∀ x,a=some x→wr.heap.size≤x.block) w' b d)∧Bw W w'∧Bw wr w':=fun W hb=>by
    have hbW:=bTn hbr hb
    have K:=QeJ M E L N O Y U D La Ya F hE.out (k:Int) ⟨by omega,by omega⟩ (tokF ts k) (by rw[←etok];exact tk.2) W (hM.below hbW) (hA.below hbW) hml hal sq (k-saw M k) (rc-saw M k) _ _ _ (sG.below hb) (fun r hr=>hcap (saw M k+r) (by omega)) (by rw[sint];omega) (fun r hr=>QaK F (tokF ts) _)
    have erow:rowL M (k:Int) (fun r=>rowF M (tokF ts) (saw M k+r)) (k-saw M k) (tokF ts k)=rowF M (tokF ts) k:=(QeA M (tokF ts) k).symm
    have eout:outL M (k:Int) (fun r=>rowF M (tokF ts) (saw M k+r)) (k-saw M k) (tokF ts k)=outF M (tokF ts) k:=(QeM M (tokF ts) k).symm
    rw[erow,eout,ewd] at K
    rw[etok]
    refine K.mono ?_
    rintro e w' ⟨⟨a,c,b,d,q1,q2,q3,q4,q5,q6⟩,q7⟩
    exact⟨⟨a,c,b,d,q1,⟨q2,q3,fun x hx=>Nat.le_trans hb.size (q5 x hx)⟩,q4,fun x hx=>Nat.le_trans hb.size (q6 x hx)⟩,q7,bTn hb q7⟩
   rw[ewd] at lrow
   have hmin:((saw M k:Nat):Int)≤(k:Int):=by omega
   clear qm qa tg rG rnil rmax sint ewd
   go_wp2
   refine Qfm M E L N O La w.heap.size (w.heap.size+1) n tc rc (saw M k) k wd M.D ra sq x (ts.getD k 0) (fun w a c=>Reads .i64 w a wd (rowF M (tokF ts) k)∧wd≤c∧∀ x,a=some x→wr.heap.size≤x.block) (fun w a c=>Reads .i64 w a M.D (outF M (tokF ts) k)∧∀ x,a=some x→wr.heap.size≤x.block) (fun W=>Bw wr W) (fun h hb=>⟨h.1.below hb,h.2⟩) (fun h hb=>⟨h.1.below hb,h.2⟩) (by kernel_rfl) rfl (by (repeat' apply And.intro)<;>exact⟨_,rfl,rfl,rfl,rfl,by kernel_rfl⟩) bR.drew (fun W hb=>Qaj (Q1.out.kept hb)) (fun W hb=>rL3 (Q2.out.kept hb)) (Qaw _ 0 0 (by omega)) (Qap _ 7 (by omega)) (fun W hb=>Qam ((Q1.out.kept hb).cell 7 (v:=I4 M.n) rfl)) (fun W hb=>(kvis W).mono fun e w' ⟨q1,q2⟩=>⟨q1,by rw[q2];exact Below.refl _ _,by rw[q2];exact hb⟩) (fun W=>hsl W) (Qbt x n tc k (by omega)) (fun W hb=>Qam (((ht.below hbr).below hb).cell x rfl k (by omega))) kst rfl rfl rfl rfl rfl hmin (Nat.le_of_ble_eq_true rfl) ?_
   intro a W9 hs hd hkp hS9 hval
   have e15:a.tmps.getD 15 undef=I4 0:=hval 24 15 (by decide) rfl
   obtain⟨ra1,rc1,e13,⟨rr1,rl1,fr1⟩⟩:=hval 22 13 (by decide) rfl
   obtain⟨oa1,oc1,e14,⟨ro1,fo1⟩⟩:=hval 23 14 (by decide) rfl
   obtain⟨f,ef,ep⟩:=fPz [29,30,31,32,33,34,35,36,37,38,39,40,41,42,43,44,45,46,28,47,48,49,13,14,15] rfl hs hd hkp
   simp only[ef] at e15 e13 e14
   simp only[List.foldl,e15,e13,e14,Act.put,List.setIfInBounds_toArray,List.set_cons_succ,List.set_cons_zero] at ep
   have H9:=hdn hS9
   clear hs hd hkp hval hS9 e15 e13 e14 ef
   subst ep
   have h1:Bw wr W9:=H9.out
   have hb1:=bTn hbr h1
   have t1:=HT.out.below h1
   have Q1':=hdn (Q1.out.kept h1)
   have Q2':=hdn (Q2.out.kept h1)
   have fl1:∀ h,(Value.slice ra k rc).ownBlock=some h→h<wr.heap.size:=fun h hh=>(HT.out.g1.own.lt h hh).2
   have fl2:∀ h,u11.ownBlock=some h→h<wr.heap.size:=fun h hh=>(HT.out.g2.own.lt h hh).2
   have s1':=h1.size
   clear Q1 Q2 h1 HT hsl kst kvis H9 sG hmin
   go_wp2_with (first
    | (at_builtin;refine Qaa rfl (.tmp 53) (.tmp 55) 31 rfl w.heap.size 34 j0 (.slice none 0 0) 24 Tryz.underlying31 hj hy0 hy1 hy2 rfl _ k _ rfl (t1.g1.own.alloc _) ⟨_,0,none⟩ 1 (.slice ra1 wd rc1) rfl (Qai _ _ _) (QaC _ _ _) (by unfold maxLen;omega) (by omega) (bNw hb1 _).size ?_;intro v2 W2 ho2 hg2 hs2;have bn:=bNw (Below.refl W9.heap.size W9) (.cells #[.slice ra1 wd rc1] 34);have t2:=(t1.below bn).app lrow (rr1.below bn) (fun x hx g hg e=>by have:=fr1 x hx;have:=fl1 g hg;omega) (fun x hx g hg e=>by have:=fr1 x hx;have:=fl2 g hg;omega) ho2 hg2 hs2;have hb2:=below_append (bNw hb1 _) (t1.g1.own.alloc _) hg2;have Q1:=hdn ((Q1'.out.kept bn).own_kept (t1.g1.own.alloc _) (by decide) hg2);have Q2:=hdn ((Q2'.out.kept bn).own_kept (t1.g1.own.alloc _) (by decide) hg2);have ro2:=(ro1.below bn).grown hg2 (fun _ x hx g hg e=>by have:=fo1 x hx;have:=fl1 g hg;omega);have fo2:∀ x,oa1=some x→x.block<(W9.alloc (.cells #[.slice ra1 wd rc1] 34)).heap.size:=fun x hx=>Qcx (ro1.below bn) hx hD0;have fv2:∀ x,oa1=some x→∀ g,v2.ownBlock=some g→x.block≠g:=fun x hx g hg=>Qct hs2 (fun q hq e=>by have:=fo1 x hx;have:=fl1 q hq;omega) (fo2 x hx) g hg;clear ho2 hg2 hs2 Q1' Q2' t1 bn rr1 ro1 hb1 fo2)
    | (at_builtin;refine Qaa rfl (.tmp 57) (.tmp 59) 31 rfl w.heap.size 34 j0 (.slice none 0 0) 24 Tryz.underlying31 hj hy0 hy1 hy2 rfl _ k _ rfl (t2.g2.own.alloc _) ⟨_,0,none⟩ 1 (.slice oa1 M.D oc1) rfl (Qai _ _ _) (QaC _ _ _) (by unfold maxLen;omega) (by omega) (bNw hb2 _).size ?_;intro v3 W3 ho3 hg3 hs3;have bn:=bNw (Below.refl W2.heap.size W2) (.cells #[.slice oa1 M.D oc1] 34);have t3:=((t2.below bn).swap.app lout (ro2.below bn) (fun x hx g hg e=>by have:=fo1 x hx;have:=fl2 g hg;omega) (fun x hx g hg=>fv2 x hx g hg) ho3 hg3 hs3).swap;have hb3:=below_append (bNw hb2 _) (t2.g2.own.alloc _) hg3;have Q1':=hdn ((Q1.out.kept bn).own_kept (t2.g2.own.alloc _) (by decide) hg3);have Q2':=hdn ((Q2.out.kept bn).own_kept (t2.g2.own.alloc _) (by decide) hg3);have R3:=hdn t3;clear ho3 hg3 hs3 Q1 Q2 t2 bn ro2 hb2 t3))
   go_roundw
   case rel =>
    refine⟨k+1,by omega,by go_num,hb3,Q1'.out,Q2'.out,_,_,_,_,R3.out,fun r hr=>?_⟩
    by_cases e:r=k
    ·subst e
     simp only[if_true]
     rw[lrow]
     exact rl1
    ·simp only[if_neg e]
     exact hcap r (by omega)
   case measure=>simp[intOf];omega
  ·have Q1:=hdn qm
   have Q2:=hdn qa
   obtain⟨ra,rc,rfl,rG⟩:=tg.g1.grid
   have rcap:=QaL tg.g1.own
   have rnil:=Qb3 tg.g1.own
   have rmax:=QdB tg.g1.own
   have sle:=Qfh M k
   have sint:=Qdr M k
   obtain⟨sq,hsl,sG⟩:=Qcz rG rcap rnil (saw M k) sle rmax
   obtain⟨x,rfl⟩:=ht.some_ (by omega)
   have HT:=hdn tg
   have n0:=F.n0
   have n1:=F.n1
   have kvis:=fun W=>Qa0 (k:Int) M.n (Qae (by omega) (by omega)) (Qae (by omega) (by omega)) W
   rw[sint] at kvis
   have e:k=J:=by omega
   have kst:∀ W,Bw wr W→Calls Tryz.prog 13 #[M.ag E L N O,M.ad La,.slice sq (k-saw M k) (rc-saw M k),I4 (k:Int),I4 (ts.getD k 0)] W fun e w'=>e=.returned (.tuple #[.slice none 0 0,.slice none 0 0,I4 20])∧Bw W w'∧Bw wr w':=fun W hb=>by
    have hbW:=bTn hbr hb
    refine (QgO M E L N O Y U D La Ya hE.out W (hM.below hbW) (hA.below hbW) hml hal sq (k-saw M k) (rc-saw M k) (k:Int) (ts.getD k 0) ?_).mono fun e w' ⟨q1,q2⟩=>⟨q1,q2,bTn hb q2⟩
    rw[e]
    rcases hbad with h|h
    ·exact .inl (by omega)
    ·exact .inr h
   have hmin:((saw M k:Nat):Int)≤(k:Int):=by omega
   clear qm qa tg rG rnil rmax sint
   go_wp2
   refine Qjd M E L N O La w.heap.size (w.heap.size+1) n tc rc (saw M k) k 0 0 ra sq x (ts.getD k 0) (fun _ _ _=>True) (fun _ _ _=>True) (fun W=>Bw wr W) (by kernel_rfl) rfl (by (repeat' apply And.intro)<;>exact⟨_,rfl,rfl,rfl,rfl,by kernel_rfl⟩) bR.drew (fun W hb=>Qaj (Q1.out.kept hb)) (fun W hb=>rL3 (Q2.out.kept hb)) (Qaw _ 0 0 (by omega)) (Qap _ 7 (by omega)) (fun W hb=>Qam ((Q1.out.kept hb).cell 7 (v:=I4 M.n) rfl)) (fun W hb=>(kvis W).mono fun e w' ⟨q1,q2⟩=>⟨q1,by rw[q2];exact Below.refl _ _,by rw[q2];exact hb⟩) (fun W=>hsl W) (Qbt x n tc k (by omega)) (fun W hb=>Qam (((ht.below hbr).below hb).cell x rfl k (by omega))) kst rfl rfl rfl rfl rfl hmin (Nat.le_of_ble_eq_true rfl) ?_
   intro a W9 hs hd hkp hS9 hval
   have e13:a.tmps.getD 13 undef=.slice none 0 0:=hval 22 13 (by decide) rfl
   have e14:a.tmps.getD 14 undef=.slice none 0 0:=hval 23 14 (by decide) rfl
   have e15:a.tmps.getD 15 undef=I4 20:=hval 24 15 (by decide) rfl
   obtain⟨f,ef,ep⟩:=fPz [29,30,31,32,33,34,35,36,37,38,39,40,41,42,43,44,45,46,28,47,48,49,13,14,15] rfl hs hd hkp
   simp only[ef] at e13 e14 e15
   simp only[List.foldl,e13,e14,e15,Act.put,List.setIfInBounds_toArray,List.set_cons_succ,List.set_cons_zero] at ep
   have H9:=hdn hS9
   clear hs hd hkp hval hS9 e13 e14 e15 ef
   subst ep
   have hb9:=bTn hbr H9.out
   clear H9 kst kvis hsl HT
   go_wp2
   refine bodyPost_ret (v:=.tuple #[.slice none 0 0,.slice none 0 0,I4 20]) ?_ rfl ⟨rfl,hb9⟩
   simp[results,Tryz.results22,go_sem]
theorem QkS (M:Md)(E L N O:SL)(Y U D:Nat→Nat→SL)(La:SL)(Ya:Nat→Nat→SL)(hE:¬badE M=0)(w:World)(hM:Qad w E L N O Y U D M.m)(hA:AdAt w La Ya M.a)(hml:M.m.ln≤9223372036854775807)(hal:M.a.ln≤9223372036854775807)(ta:Option Addr)(n tc:Nat) :
  Calls Tryz.prog 22 #[M.ag E L N O,M.ad La,.slice ta n tc] w fun e w'=>e=.returned (.tuple #[.slice none 0 0,.slice none 0 0,I4 (badE M)])∧Bw w w':=by
 have hb0:=bNw (bNw (bS w) (.cells (M.mc E L N O) 27)) (.cells (M.rc La) 30)
 have q1:Blk 27 ((w.alloc (.cells (M.mc E L N O) 27)).alloc (.cells (M.rc La) 30)) w.heap.size (M.mc E L N O):=(Blk.new 27 w _).kept (bNw bR _)
 have q2:Blk 30 ((w.alloc (.cells (M.mc E L N O) 27)).alloc (.cells (M.rc La) 30)) (w.heap.size+1) (M.rc La):=Blk.new_at 30 (w.alloc _) _ _ (by simp)
 have kE:=QaD M E L N O Y U D La Ya _ (hM.below hb0) (hA.below hb0) hml hal
 obtain⟨c,ec⟩:∃ c,badE M=c:=⟨_,rfl⟩
 rw[ec] at kE hE ⊢
 have z:(c != 0)=true:=by simp[hE]
 clear ec hE
 go_enter Tryz.func22,Tryz.ntmps22
 go_wp2_with (go_at_call 31;refine kE.mono ?_;rintro e W1 ⟨rfl,h1⟩;have hb1:=bTn hb0 h1;have p1:=q1.kept h1;have p2:=q2.kept h1;clear h1 hb0 q1 q2 kE)
 refine bodyPost_ret (v:=.tuple #[.slice none 0 0,.slice none 0 0,I4 c]) ?_ rfl ⟨rfl,hb1⟩
 simp[results,Tryz.results22,go_sem]
theorem QiI (M:Md)(hml:M.m.ln≤9223372036854775807)(hal:M.a.ln≤9223372036854775807)(n:Nat)(ts:List Int):∃ (ee:Int) (rn:Nat) (RR OO:Nat→List Int),(∀ (E L N O:SL) (Y U D:Nat→Nat→SL) (La:SL) (Ya:Nat→Nat→SL) (W:World) (ta:Option Addr) (tc:Nat),Qad W E L N O Y U D M.m→AdAt W La Ya M.a→Reads .i64 W ta n ts→Calls Tryz.prog 21 #[M.ag E L N O,M.ad La,.slice ta n tc] W fun e w'=>(∃ u k u2 k2,e=.returned (.tuple #[.slice u rn k,.slice u2 rn k2,I4 ee])∧(∃ A C,Grid w' u rn A C RR)∧∃ A C,Grid w' u2 rn A C OO)∧Bw W w')∧(∀ (E L N O:SL) (Y U D:Nat→Nat→SL) (La:SL) (Ya:Nat→Nat→SL) (W:World) (ta:Option Addr) (tc:Nat),Qad W E L N O Y U D M.m→AdAt W La Ya M.a→Reads .i64 W ta n ts→Calls Tryz.prog 22 #[M.ag E L N O,M.ad La,.slice ta n tc] W fun e w'=>(∃ u k u2 k2,e=.returned (.tuple #[.slice u rn k,.slice u2 rn k2,I4 ee])∧(∃ A C,Grid w' u rn A C RR)∧∃ A C,Grid w' u2 rn A C OO)∧Bw W w'):=by
 have none2:∀ {e:Ending}{W w':World}{z:Int},(e=.returned (.tuple #[.slice none 0 0,.slice none 0 0,I4 z])∧Bw W w')→(∃ u k u2 k2,e=.returned (.tuple #[.slice u 0 k,.slice u2 0 k2,I4 z])∧(∃ A C,Grid w' u 0 A C (fun _=>[]))∧∃ A C,Grid w' u2 0 A C (fun _=>[]))∧Bw W w':=fun h=>⟨⟨none,0,none,0,h.1,⟨fun _=>none,fun _=>0,Grid.none_ _ _ _ _ _⟩,⟨fun _=>none,fun _=>0,Grid.none_ _ _ _ _ _⟩⟩,h.2⟩
 by_cases hE:badE M=0
 ·have ok:=QdE hE
  cases hB:runB M ts n with
  | false =>
   refine⟨20,0,fun _=>[],fun _=>[],?_,?_⟩
   ·intro E L N O Y U D La Ya W ta tc hM hA ht
    exact (Qnc M E L N O Y U D La Ya hE W hM hA ta n tc ts ht hB).mono fun e w' h=>none2 h
   ·intro E L N O Y U D La Ya W ta tc hM hA ht
    exact (Ql5 M E L N O Y U D La Ya ok.fit hE W hM hA hml hal ta n tc ts ht hB).mono fun e w' h=>none2 h
  | true =>
   refine⟨0,n,rowF M (tokF ts),outF M (tokF ts),?_,?_⟩
   ·intro E L N O Y U D La Ya W ta tc hM hA ht
    refine (Qmh M E L N O Y U D La Ya hE W hM hA ta n tc ts ht hB).mono fun e w' h=>?_
    obtain⟨⟨u,k,u2,k2,A,A2,C,C2,h0,h1,h2,-⟩,h4⟩:=h
    exact⟨⟨u,k,u2,k2,h0,⟨A,C,h1⟩,⟨A2,C2,h2⟩⟩,h4⟩
   ·intro E L N O Y U D La Ya W ta tc hM hA ht
    refine (QkR M E L N O Y U D La Ya ok.fit hE W hM hA hml hal ta n tc ts ht hB).mono fun e w' h=>?_
    obtain⟨⟨u,k,u2,k2,A,A2,C,C2,h0,h1,-⟩,h4⟩:=h
    obtain⟨a,c,ea,ga⟩:=h1.g1.grid
    obtain⟨b,d,eb,gb⟩:=h1.g2.grid
    simp only[Value.slice.injEq,true_and] at ea eb
    obtain⟨rfl,rfl⟩:=ea
    obtain⟨rfl,rfl⟩:=eb
    exact⟨⟨u,k,u2,k2,h0,⟨A,C,ga⟩,⟨A2,C2,gb⟩⟩,h4⟩
 ·refine⟨badE M,0,fun _=>[],fun _=>[],?_,?_⟩
  ·intro E L N O Y U D La Ya W ta tc hM hA ht
   exact (QnE M E L N O Y U D La Ya W hM hA ta n tc (fun _ _ _ _ _ _ _=>True) hE).mono fun e w' h=>none2 h
  ·intro E L N O Y U D La Ya W ta tc hM hA ht
   exact (QkS M E L N O Y U D La Ya hE W hM hA hml hal ta n tc).mono fun e w' h=>none2 h
theorem Qer (M:Md)(hml:M.m.ln≤9223372036854775807)(n:Nat)(hn:n≤9223372036854775807)(xs:List Int):∃ (ee:Int) (rn:Nat) (rs:List Int),(∀ (E L N O:SL) (Y U D:Nat→Nat→SL) (W:World) (xa:Option Addr) (xc:Nat),Qad W E L N O Y U D M.m→Reads .i64 W xa n xs→Calls Tryz.prog 23 #[M.ag E L N O,.slice xa n xc] W fun e w'=>(∃ u k,e=.returned (.tuple #[.slice u rn k,I4 ee])∧Reads .i64 w' u rn rs)∧Bw W w')∧(∀ (E L N O:SL) (Y U D:Nat→Nat→SL) (W:World) (xa:Option Addr) (xc:Nat),Qad W E L N O Y U D M.m→Reads .i64 W xa n xs→Calls Tryz.prog 24 #[M.ag E L N O,.slice xa n xc] W fun e w'=>(∃ u k,e=.returned (.tuple #[.slice u rn k,I4 ee])∧Reads .i64 w' u rn rs)∧Bw W w'):=by
 have none1:∀ {e:Ending}{W w':World}{z:Int},(e=.returned (.tuple #[.slice none 0 0,I4 z])∧Bw W w')→(∃ u k,e=.returned (.tuple #[.slice u 0 k,I4 z])∧Reads .i64 w' u 0 [])∧Bw W w':=fun h=>⟨⟨none,0,h.1,Reads.nil _ _⟩,h.2⟩
 by_cases hE:Qaf M.d M.h M.l M.v M.u M.x M.t M.n M.m=0
 ·have okB':okB M.d M.h M.l M.v M.u M.x M.t M.n=true:=by
   unfold Qaf at hE
   cases o:okB M.d M.h M.l M.v M.u M.x M.t M.n with
   | true=>rfl
   | false=>rw[o] at hE;cases hE
  have F:Qaq M.bare:=(MdOk.mk (M:=M.bare) okB' hE (fun h=>absurd rfl h)).fit
  cases hf:fitB M.m.o.length M.v n with
  | false =>
   refine⟨21,0,[],?_,?_⟩
   ·intro E L N O Y U D W xa xc hM hx
    have hO:O.n=M.m.o.length:=hM.o.reads.len.symm
    exact (QlI M.bare E L N O Y U D hE F W hM xa n xc hn (by rw[hO];exact hf)).mono fun e w' h=>none1 h
   ·intro E L N O Y U D W xa xc hM hx
    have hO:O.n=M.m.o.length:=hM.o.reads.len.symm
    exact (Qia M.bare E L N O Y U D hE F W hM hml xa n xc hn (by rw[hO];exact hf)).mono fun e w' h=>none1 h
  | true =>
   refine⟨0,M.m.o.length/n,matL M.m.o xs,?_,?_⟩
   ·intro E L N O Y U D W xa xc hM hx
    have hO:O.n=M.m.o.length:=hM.o.reads.len.symm
    refine (QjZ M.bare E L N O Y U D hE F W hM xa n xc xs hx (by rw[hO];exact hf)).mono fun e w' h=>?_
    rw[hO] at h
    obtain⟨⟨a,c,h0,h1⟩,h2⟩:=h
    exact⟨⟨a,c,h0,h1⟩,h2⟩
   ·intro E L N O Y U D W xa xc hM hx
    have hO:O.n=M.m.o.length:=hM.o.reads.len.symm
    refine (QgP M.bare E L N O Y U D hE F W hM hml xa n xc xs hx (by rw[hO];exact hf)).mono fun e w' h=>?_
    rw[hO] at h
    obtain⟨⟨a,c,h0,h1⟩,h2⟩:=h
    exact⟨⟨a,c,h0,h1⟩,h2⟩
 ·refine⟨Qaf M.d M.h M.l M.v M.u M.x M.t M.n M.m,0,[],?_,?_⟩
  ·intro E L N O Y U D W xa xc hM hx
   exact (Qj0 M E L N O Y U D hE W hM xa n xc).mono fun e w' h=>none1 h
  ·intro E L N O Y U D W xa xc hM hx
   exact (QgQ M E L N O Y U D hE W hM hml xa n xc).mono fun e w' h=>none1 h
end Go.Proofs.YthliomlmhfjhnaaGreat

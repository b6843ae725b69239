/- Texts put together. -/
import Derived.Test.YthliomlmhfjhnaaGreatZp45
import Derived.Test.YthliomlmhfjhnaaGreatZp44
import Derived.Laws.OwnMore
namespace Go.Proofs.YthliomlmhfjhnaaGreat
set_option maxRecDepth 20000
set_option maxHeartbeats 16000000
open Go.ChangeShapes Go.WideShapes Go.ChangeAt Go.RowKit
set_option linter.unusedVariables false
set_option linter.unusedSimpArgs false
theorem Qju (x y z:Int)(e:x+y=z)(h0:-1000≤z)(h1:z≤1000)(w:World):(binOp .add 3 (I4 x) (I4 y)).run Tryz.prog w=.ok (I4 z) w:=by
 subst e
 have:IntKind.i64.wrap (x+y)=x+y:=by rw[IntKind.wrap_i64];omega
 go_simp
theorem QlY (x y z:Int)(e:x-y=z)(h0:-1000≤z)(h1:z≤1000)(w:World):(binOp .sub 3 (I4 x) (I4 y)).run Tryz.prog w=.ok (I4 z) w:=by
 subst e
 have:IntKind.i64.wrap (x-y)=x-y:=by rw[IntKind.wrap_i64];omega
 go_simp
theorem Qfg {p v:Int}(hp:0≤p∧p<24)(hv:0≤v∧v≤16):0≤seeZ p v∧seeZ p v≤p:=by
 unfold seeZ
 split
 ·omega
 ·split<;>omega
theorem wOf {M:Md}(F:Qaq M)(ok:okB M.d M.h M.l M.v M.u M.x M.t M.n=true):Qc0 M.d M.h M.l M.v M.u M.x M.t M.n=((2*M.m.ln*M.D:Nat):Int):=by
 unfold Qc0
 rw[if_pos ok,F.eD,F.el,Int.natCast_mul,Int.natCast_mul,Int.mul_assoc,Int.mul_assoc,Int.mul_comm (M.D:Int)]
 rfl
theorem QiC {M:Md}(F:Qaq M):2*M.m.ln*M.D≤32:=by
 have h:=Nat.mul_le_mul (Nat.mul_le_mul_left 2 F.l1) F.d1
 exact h
theorem Qoq {w:World}{B B':Nat}{e:TypeId}{v:Value}{n:Nat}{xs:List Value}(h:B≤B')(o:(v=.slice none 0 0∧n=0)∨∃ g cap cur,v=.slice (some ⟨g,0,none⟩) n cap∧B'≤g∧w.heap[g]? = some (.cells cur e (0,0))∧n≤cap∧cap≤maxLen∧cur.size=cap*1∧cur.toList.take (n*1)=xs):(v=.slice none 0 0∧n=0)∨∃ g cap cur,v=.slice (some ⟨g,0,none⟩) n cap∧B≤g∧w.heap[g]? = some (.cells cur e (0,0))∧n≤cap∧cap≤maxLen∧cur.size=cap*1∧cur.toList.take (n*1)=xs:=by
 rcases o with o|⟨g,cap,cur,o1,o2,o3⟩
 ·exact .inl o
 ·exact .inr ⟨g,cap,cur,o1,by omega,o3⟩
theorem Qab.drew {B:Nat}{w:World}{v:Value}{k:Nat}{A:Nat→Option Addr}{C:Nat→Nat}{R:Nat→List Int}(h:Qab B w v k A C R):Qab B w.drew v k A C R:=⟨h.own,fun r hr=>(h.row r hr).carry (fun _ _ hc=>hc),h.apart⟩
theorem Qf0 {zs:List Int}:∀ u∈zs.map (Value.int .i64),u.oneCell'=true:=fun u hu=>by
 obtain⟨z,_,rfl⟩:=List.mem_map.1 hu
 rfl
theorem Qda {w:World}{x:Addr}{n:Nat}{zs:List Int}(h:Reads .i64 w (some x) n zs):∀ j u,(zs.map (Value.int .i64))[j]? = some u→w.cell? (x.add j)=some u:=fun j u hu=>by
 have hj:j<zs.length:=by
  have:=(List.getElem?_eq_some_iff.1 hu).1
  simpa using this
 rw[h.cell x rfl j (by rw[←h.len];exact hj),←hu]
 simp[hj]
theorem Qkk (M:Md)(E L N O:SL)(Y U D:Nat→Nat→SL)(La:SL)(Ya:Nat→Nat→SL)(x0:Addr)(F:Qaq M)(ok:okB M.d M.h M.l M.v M.u M.x M.t M.n=true)(hok:M.r≠0→∃ R,QcX M R)(p:Int)(hp:0≤p∧p<24)(tok:Nat)(ht:(tok:Int)<M.v)(w:World)(hM:Qad w E L N O Y U D M.m)(hA:AdAt w La Ya M.a)(hx0:L.a=some x0)
  (pa:Option Addr) (n pc:Nat) (A:Nat→Option Addr) (C:Nat→Nat) (P:Nat→List Int) (hP:Grid w pa n A C P) (hC:∀ r,r<n→(P r).length≤C r) (hcn:(n:Int)=p-seeZ p M.n) (hW:∀ r,r<n→(P r).length=2*M.m.ln*M.D) :
  Calls Tryz.prog 30 #[.agg (M.mx E x0 L N O),M.ad La,.slice pa n pc,I4 p,I4 tok] w fun e w'=>(∃ a c b k,e=.returned (.tuple #[.slice a (2*M.m.ln*M.D) c,.slice b M.D k])∧Reads .i64 w' a (2*M.m.ln*M.D) (rowL M p P n tok)∧2*M.m.ln*M.D≤c∧Reads .i64 w' b M.D (outL M p P n tok)∧(∀ x,a=some x→w.heap.size≤x.block)∧∀ x,b=some x→w.heap.size≤x.block)∧Below w.heap.size w w':=by
 obtain⟨i0,hi2,hz0,hz1,hz2⟩:=info_parts QaT
 have d0:=F.d0
 have d1:=F.d1
 have l0:=F.l0
 have l1:=F.l1
 have hD0:0<M.D:=by omega
 have wdb:=QiC F
 have ewd:=wOf F ok
 have sb:=Qfg hp ⟨F.n0,F.n1⟩
 have wp:(Lit.int .i64 p).wf=true:=Qae (by omega) (by omega)
 have wn:(Lit.int .i64 M.n).wf=true:=Qae (by have:=F.n0;omega) (by have:=F.n1;omega)
 have t1:(0:Int)≤p:=hp.1
 have t2:p<24:=hp.2
 have d1':decide ((0:Int)≤p)=true:=decide_eq_true t1
 have d2':decide (p<24)=true:=decide_eq_true t2
 have t3:(0:Int)≤(tok:Int):=by omega
 have t4:(tok:Int)<M.v:=ht
 have d3':decide ((0:Int)≤(tok:Int))=true:=decide_eq_true t3
 have d4':decide ((tok:Int)<M.v)=true:=decide_eq_true t4
 have hn24:n≤24:=by omega
 have kl:∀ (W:World) (hb:Below w.heap.size w W) (k:Nat) (hk:k<M.m.ln) ax cx x (hx:Reads .i64 W ax M.D x),Calls Tryz.prog 60 #[.agg (M.mx E x0 L N O),M.ad La,I4 k,I4 p,.slice ax M.D cx] W fun e w'=>(∃ q cq kk ck v cv,e=.returned (.tuple #[.slice q M.D cq,.slice kk M.D ck,.slice v M.D cv])∧(Reads .i64 w' q M.D (qL M p k x)∧M.D≤cq)∧(Reads .i64 w' kk M.D (kL M p k x)∧M.D≤ck)∧(Reads .i64 w' v M.D (vL M k x)∧M.D≤cv∧∀ x,v=some x→W.heap.size≤x.block))∧Below W.heap.size W w':=fun W hb k hk ax cx x hx=>by
  have:=Qjz M E L N O Y U D La Ya F hok k hk p ⟨hp.1,by omega⟩ W (hM.below hb) (hA.below hb) ax cx x hx
  rw[hx0,hM.len] at this
  exact this
 have kw:∀ (W:World) (hb:Below w.heap.size w W) (k:Nat) (hk:k<M.m.ln) ax cx x ao co o (hx:Reads .i64 W ax M.D x) (ho:Reads .i64 W ao M.D o),Calls Tryz.prog 63 #[.agg (M.mx E x0 L N O),I4 k,.slice ax M.D cx,.slice ao M.D co] W fun e w'=>(∃ a c,e=.returned (.slice a M.D c)∧Reads .i64 w' a M.D (wkL M k x o)∧∀ x,a=some x→W.heap.size≤x.block)∧Below W.heap.size W w':=fun W hb k hk ax cx x ao co o hx ho=>Qhp M E L N O Y U D x0 F k hk W (hM.below hb) hx0 ax cx x ao co o hx ho
 have ke:∀ (W:World) (hb:Below w.heap.size w W),Calls Tryz.prog 59 #[.agg (M.mx E x0 L N O),I4 tok] W fun e w'=>(∃ a c,e=.returned (.slice a M.D c)∧Reads .i64 w' a M.D (embL M tok)∧∀ x,a=some x→W.heap.size≤x.block)∧Below W.heap.size W w':=fun W hb=>by
  have:=Qf8 M E L N O Y U D F W (hM.below hb) tok ht
  rw[hx0,hM.len] at this
  exact this
 have kn:=fun (W:World) (hb:Below w.heap.size w W) a c xs=>QiS F N _ F.nm W (hM.nm.below hb) a c xs
 have kwd:∀ W,Calls Tryz.prog 15 #[.agg M.cc] W fun e w'=>e=.returned (I4 ((2*M.m.ln*M.D:Nat):Int))∧Below W.heap.size W w':=fun W=>by
  have:=QiR M.d M.h M.l M.v M.u M.x M.t M.n W
  rw[ewd] at this
  exact this
 have hb0:=bNw (bNw (bNw (bS w) (.cells (M.mx E x0 L N O) 27)) (.cells (M.rc La) 30)) (.cells M.cc 23)
 have q1:Blk 27 (((w.alloc (.cells (M.mx E x0 L N O) 27)).alloc (.cells (M.rc La) 30)).alloc (.cells M.cc 23)) w.heap.size (M.mx E x0 L N O):=(Blk.new 27 w _).kept (bNw (bNw bR _) _)
 have q2:Blk 30 (((w.alloc (.cells (M.mx E x0 L N O) 27)).alloc (.cells (M.rc La) 30)).alloc (.cells M.cc 23)) (w.heap.size+1) (M.rc La):=(Blk.new_at 30 (w.alloc _) _ _ (by simp)).kept (bNw bR _)
 have q3:Blk 23 (((w.alloc (.cells (M.mx E x0 L N O) 27)).alloc (.cells (M.rc La) 30)).alloc (.cells M.cc 23)) (w.heap.size+1+1) M.cc:=Blk.new_at 23 ((w.alloc _).alloc _) _ _ (by simp)
 obtain⟨wd,eWd⟩:∃ wd,2*M.m.ln*M.D=wd:=⟨_,rfl⟩
 have hln8:=hM.len
 rw[eWd] at hW kwd wdb ewd ⊢
 unfold rowL outL
 have HM:=hdn hM
 clear hM hA
 go_enter Tryz.func30,Tryz.ntmps30
 go_wp2_with (go_at_call 56;refine (QaN _ _).mono ?_;rintro e w' ⟨rfl,hq⟩;obtain rfl:=hq.symm;clear hq)
 have Q3:=hdn q3
 refine Qkt M (w.heap.size+1+1) n pc pa p (seeZ p M.n) (n:Int) (Qc0 M.d M.h M.l M.v M.u M.x M.t M.n) true (fun W=>Below (((w.alloc (.cells (M.mx E x0 L N O) 27)).alloc (.cells (M.rc La) 30)).alloc (.cells M.cc 23)).heap.size (((w.alloc (.cells (M.mx E x0 L N O) 27)).alloc (.cells (M.rc La) 30)).alloc (.cells M.cc 23)) W) (by kernel_rfl) rfl (by (repeat' apply And.intro)<;>exact⟨_,rfl,rfl,rfl,rfl,by kernel_rfl⟩) bR.drew (Qap _ 7 (by omega)) (fun W hb=>Qam ((Q3.out.kept hb).cell 7 (v:=I4 M.n) rfl)) (fun W=>QbF p M.n wp wn W) (fun W=>QlY _ _ _ hcn.symm (by omega) (by omega) W) (fun W hb=>Qdv (Q3.out.kept hb)) (fun W hb=>(QiR M.d M.h M.l M.v M.u M.x M.t M.n W).mono fun e w' ⟨q1,q2⟩=>⟨q1,q2,bTn hb q2⟩) (fun W hb=>Qih pa n pc A C P (n:Int) _ W (hP.below (bTn hb0 hb)) rfl true (fun _=>rfl) (fun r hr h=>absurd (by rw[ewd,hW r hr]) h)) (fun W=>QaN 21 W) rfl rfl rfl (Nat.le_of_ble_eq_true rfl) ?_
 intro a W9 hs hd hkp hS9 hval
 obtain⟨f,ef,ep⟩:=fPz [41,42,43,44,45,46,47,48,49,50,51] rfl hs hd hkp
 simp only[List.foldl,Act.put,List.setIfInBounds_toArray,List.set_cons_succ,List.set_cons_zero] at ep
 have H9:=hdn hS9
 clear hs hd hkp hval hS9 ef
 subst ep
 have hb9:=bTn hb0 H9.out
 have Q1:=hdn (q1.kept H9.out)
 have Q2:=hdn (q2.kept H9.out)
 have Q3':=hdn (Q3.out.kept H9.out)
 clear Q3
 have Q3:=Q3'
 clear Q3' q1 q2 q3 hb0 d1' d2' d3' d4' hcn sb H9
 obtain⟨z0,z1,z2,z3,z4,z5,z6,z7⟩:=Q3.out.c8
 go_wp2_with (first
  | (go_at_call 15;refine (kwd _).mono ?_;rintro e W10 ⟨rfl,h10⟩;clear kwd;have hb10:=bTn hb9 h10;have Q1':=hdn (Q1.out.kept h10);have Q2':=hdn (Q2.out.kept h10);have Q3':=hdn (Q3.out.kept h10);clear Q1 Q2 Q3 z0 z1 z2 z3 z4 z5 z6 z7)
  | (at_make;refine wpList_make_own _ rfl _ (.tmp 53) 34 rfl w.heap.size 2 i0 (I4 0) 1 Tryz.underlying34 hi2 hz0 hz1 .i64 .i64 _ wd rfl rfl rfl (by rw[hz2];omega) (by unfold maxLen;omega) hb10.size ?_;intro W11 hown hgrow;have h11:Below W10.heap.size W10 W11:=bR.grown hgrow nL (fun k h=>by cases h);have hb11:=bTn hb10 h11;have Q1:=hdn (Q1'.out.kept h11);have Q2:=hdn (Q2'.out.kept h11);have Q3:=hdn (Q3'.out.kept h11);obtain⟨a0,a1,a2,a3,a4,a5,a6,a7,a8,a9,a10,a11⟩:=Q1.out.c12;have gl:=(hown.lt _ rfl).2;have gB:w.heap.size+1+1<W10.heap.size:=Q3'.out.lt;clear Q1' Q2' Q3' hgrow h11)
  | (go_at_call 59;refine (ke _ hb11).mono ?_;rintro e W12 ⟨⟨ax,cx,rfl,rx,fx⟩,h12⟩;clear ke;have hb12:=bTn hb11 h12;have Q1':=hdn (Q1.out.kept h12);have Q2':=hdn (Q2.out.kept h12);have Q3':=hdn (Q3.out.kept h12);have hown':=oBe hown h12;have b9:=Q1'.out.cell 9 (v:=.slice (some x0) M.m.ln L.c) rfl;clear Q1 Q2 Q3 hown h12 a0 a1 a2 a3 a4 a5 a6 a7 a8 a9 a10 a11))
 have fx':∀ y,ax=some y→y.block≠W10.heap.size:=fun y hy=>by have:=fx y hy;omega
 obtain⟨g,eg⟩:∃ g,W10.heap.size=g:=⟨_,rfl⟩
 rw[eg] at hown' fx' gl gB ⊢
 clear eg
 go_wp2
 go_loopw [13,14,61] (fun vr vx i wr=>∃ k:Nat,k≤M.m.ln∧i=I4 k∧Below w.heap.size w wr∧Blk 27 wr w.heap.size (M.mx E x0 L N O)∧Blk 30 wr (w.heap.size+1) (M.rc La)∧Blk 23 wr (w.heap.size+1+1) M.cc∧∃ (m:Nat) (ax:Option Addr) (cx:Nat),m=2*k*M.D∧vr=.slice (some ⟨g,0,none⟩) m wd∧wr.ownsRow w.heap.size 2 1 (.slice (some ⟨g,0,none⟩) m wd) m ((stR M p P n tok k).map (Value.int .i64))∧vx=.slice ax M.D cx∧Reads .i64 wr ax M.D (stX M p P n tok k)∧∀ y,ax=some y→y.block≠g) (fun _ _ i _=>M.m.ln-(intOf i).toNat)
 case atStart=>exact⟨0,Nat.zero_le _,rfl,hb12,Q1'.out,Q2'.out,Q3'.out,0,ax,cx,by omega,rfl,hown',rfl,rx,fx'⟩
 case round =>
  clear hb9 hb10 hb11 hb12 Q1' Q2' Q3' hown' rx fx fx' b9 gl
  obtain⟨k,hk,rfl,hbr,qm,qa_,qc,m,ax,cx,em,rfl,ho,rfl,rx,fx⟩:=hrel
  by_cases hlt:k<M.m.ln
  ·have Q1:=hdn qm
   have Q2:=hdn qa_
   have Q3:=hdn qc
   obtain⟨c0,c1,c2,c3,c4,c5,c6,c7,c8,c9,c10,c11⟩:=qm.c12
   obtain⟨s0,s1,s2⟩:=qa_.c3
   have gl:=(ho.lt g rfl).2
   have gge:=(ho.lt g rfl).1
   have hmul:(k+1)*M.D≤M.m.ln*M.D:=Nat.mul_le_mul_right _ (by omega)
   rw[Nat.succ_mul] at hmul
   have e1:m=2*(k*M.D):=by rw[em,Nat.mul_assoc]
   have e2:wd=2*(M.m.ln*M.D):=by rw[←eWd,Nat.mul_assoc]
   obtain⟨f2,ef2⟩:∃ f2,m+M.D=f2:=⟨_,rfl⟩
   have w1:∀ r,r<n→m+M.D≤(P r).length:=fun r hr=>by rw[hW r hr];omega
   have w2:∀ r,r<n→f2+M.D≤(P r).length:=fun r hr=>by rw[hW r hr];omega
   have iq:(m:Int)+M.d=(f2:Int):=by rw[F.eD];omega
   have hfit:m+M.D+M.D≤wd:=by omega
   have em':2*k*M.D=m:=em.symm
   have esR:stR M p P n tok (k+1)=stR M p P n tok k++(kL M p k (stX M p P n tok k)++vL M k (stX M p P n tok k)):=rfl
   have esX:stX M p P n tok (k+1)=wkL M k (stX M p P n tok k) (oL M p P n k (stX M p P n tok k)):=rfl
   have enm:2*(k+1)*M.D=m+M.D+M.D:=by rw[em,show 2*(k+1)=2*k+2 by omega,Nat.add_mul];omega
   obtain⟨X,eX⟩:∃ X,stX M p P n tok k=X:=⟨_,rfl⟩
   obtain⟨S0,eS0⟩:∃ S0,stR M p P n tok k=S0:=⟨_,rfl⟩
   rw[eX] at rx esR esX
   rw[eS0] at ho esR
   have hkl:=QeV F p k X
   have hvl:=Qek F hlt X
   have fk:(Qa1 P n m M.D (kL M p k X) n).length=M.D:=by rw[Qbs];exact hkl
   have fv:(Qa1 P n f2 M.D (vL M k X) n).length=M.D:=by rw[Qbs];exact hvl
   have ek:QeU M p P n k X=Qa1 P n m M.D (kL M p k X):=by unfold QeU;rw[em']
   have evv:Qej M P n k X=Qa1 P n f2 M.D (vL M k X):=by unfold Qej;rw[em',ef2]
   have lkk:∀ r,r<n+1→(Qa1 P n m M.D (kL M p k X) r).length=M.D:=fun r hr=>QbK P n m M.D _ w1 hkl hr
   have lvv:∀ r,r<n+1→(Qa1 P n f2 M.D (vL M k X) r).length=M.D:=fun r hr=>QbK P n f2 M.D _ w2 hvl hr
   have k5:∀ (W:World) (u1:Option Addr) (c1:Nat) (A1:Nat→Option Addr) (C1:Nat→Nat) (u2:Option Addr) (c2:Nat) (A2:Nat→Option Addr) (C2:Nat→Nat) (a:Option Addr) (c:Nat),Grid W u1 (n+1) A1 C1 (Qa1 P n m M.D (kL M p k X))→(∀ r,r<n+1→M.D≤C1 r)→Grid W u2 (n+1) A2 C2 (Qa1 P n f2 M.D (vL M k X))→(∀ r,r<n+1→M.D≤C2 r)→Reads .i64 W a M.D (qL M p k X)→M.D≤c →
     Calls Tryz.prog 62 #[.slice a M.D c,.slice u1 (n+1) c1,.slice u2 (n+1) c2,I4 M.h] W fun e w'=>(∃ a c,e=.returned (.tuple #[.slice a M.D c,I4 0])∧Reads .i64 w' a M.D (oL M p P n k X)∧M.D≤c∧∀ x,a=some x→W.heap.size≤x.block)∧Below W.heap.size W w' :=
    fun W u1 c1 A1 C1 u2 c2 A2 C2 a c g1 hc1 g2 hc2 hq hc=>by
     have:=Qn6 F n (by omega) W a c _ hq hc u1 c1 A1 C1 _ g1 (fun r hr=>by rw[lkk r hr];exact hc1 r hr) u2 c2 A2 C2 _ g2 (fun r hr=>by rw[lvv r hr];exact hc2 r hr) (fun r hr=>⟨lkk r hr,lvv r hr⟩)
     unfold oL
     rw[ek,evv]
     exact this
   have cap1:∀ c10,M.D≤c10→∀ r,r<n+1→M.D≤(fun r=>if r=n then c10 else (fun _=>M.D) r) r:=fun c10 h r hr=>by
    dsimp only
    split
    ·exact h
    ·exact Nat.le_refl _
   have lo:∀ f,(∀ r,r<n→f+M.D≤(P r).length)→∀ r,r<n→∀ x,cutA A f r=some x→x.block<w.heap.size:=fun f hf r hr x hx=>by
    have q:=hP.row r hr
    obtain⟨y,ey⟩:=q.some_ (by have:=hf r hr;omega)
    unfold cutA at hx
    rw[ey] at hx
    obtain rfl:=Option.some.inj hx
    have:=World.block_lt_of_cell? w _ (q.cell y ey 0 (by have:=hf r hr;omega))
    simp only[Addr.add] at this ⊢
    split<;>split at this<;>exact this
   have lo1':=lo m w1
   have lo2':=lo f2 w2
   have Hs:Hid (stR M p P n tok (k+1)=S0++(kL M p k X++vL M k X)∧stX M p P n tok (k+1)=wkL M k X (oL M p P n k X)∧2*(k+1)*M.D=m+M.D+M.D):=⟨esR,esX,enm⟩
   clear eX eS0 esR esX enm lo em em' e1 e2 hmul qm qa_ qc ek evv lkk lvv
   have HO:=hdn ho
   clear ho
   go_wp2_with (go_at_call 60;refine (kl _ hbr k hlt _ _ _ rx).mono ?_;rintro e W13 ⟨⟨qa,cq,ka,ck,va,cv,rfl,⟨rq,lq⟩,⟨rk,lk⟩,rv,lv,fv13⟩,h13⟩;have hb13:=bTn hbr h13;have Q1':=hdn (Q1.out.kept h13);have Q2':=hdn (Q2.out.kept h13);have Q3':=hdn (Q3.out.kept h13);clear Q1 Q2 Q3;have Q1:=Q1';have Q2:=Q2';have Q3:=Q3';clear Q1' Q2' Q3';have rx13:=rx.below h13;have HO13:=hdn (oBe HO.out h13);have s13:=h13.size;clear HO h13 rx c0 c1 c2 c3 c4 c5 c6 c7 c8 c9 c10 c11 s0 s1 s2 kl)
   have lo1:∀ r,r<n→∀ x,cutA A m r=some x→x.block<W13.heap.size:=fun r hr x hx=>Nat.lt_of_lt_of_le (lo1' r hr x hx) hb13.size
   have lo2:∀ r,r<n→∀ x,cutA A f2 r=some x→x.block<W13.heap.size:=fun r hr x hx=>Nat.lt_of_lt_of_le (lo2' r hr x hx) hb13.size
   clear lo1' lo2'
   refine Qkv (w.heap.size+1+1) n pc m f2 W13.heap.size pa M.d (cutA A m) (cutA A f2) (fun _=>M.D) (Qa1 P n m M.D (kL M p k X)) (Qa1 P n f2 M.D (vL M k X)) (fun W=>Below W13.heap.size W13 W) (by kernel_rfl) rfl (by (repeat' apply And.intro)<;>exact⟨_,rfl,rfl,rfl,rfl,by kernel_rfl⟩) bR.drew (Qap _ 0 (by omega)) (fun W hb=>Qam ((Q3.out.kept hb).cell 0 (v:=I4 M.d) rfl)) (fun W hb hg=>by have kc:=Qfx pa n pc A C P m M.D (kL M p k X) W ((hP.below hb13).below hb) hC hD0 w1 (by omega);rw[hg,←F.eD] at kc;exact kc.mono fun e w' ⟨q1,q2,q3⟩=>⟨q1,q2,q3,bTn hb q3⟩) (Qap _ 0 (by omega)) (fun W hb=>Qam ((Q3.out.kept hb).cell 0 (v:=I4 M.d) rfl)) (Qju _ _ _ iq (by omega) (by omega)) (Qap _ 0 (by omega)) (fun W hb=>Qam ((Q3.out.kept hb).cell 0 (v:=I4 M.d) rfl)) (fun W hb hg=>by have kc:=Qfx pa n pc A C P f2 M.D (vL M k X) W ((hP.below hb13).below hb) hC hD0 w2 (by omega);rw[←F.eD] at kc;exact kc.mono fun e w' ⟨q1,q2,q3⟩=>⟨_,q1,hg,⟨⟨q2.own.1,Qoq (Nat.le_of_lt hg) q2.own.2⟩,q2.row,q2.apart⟩,q3,bTn hb q3⟩) rfl rfl rfl rfl (Nat.le_of_ble_eq_true rfl) ?_
   intro a W9 hs hd hkp hS9 hval
   obtain⟨e20,f20⟩:=hval 13 20 (by decide) rfl
   obtain⟨b2,e21,z21,f21⟩:=hval 14 21 (by decide) rfl
   obtain⟨f,ef,ep⟩:=fPz [76,77,78,79,80,81,82,83,84,85,86,87,88,20,21] rfl hs hd hkp
   simp only[ef] at e20 e21
   simp only[List.foldl,e20,e21,Act.put,List.setIfInBounds_toArray,List.set_cons_succ,List.set_cons_zero] at ep
   have H9:=hdn hS9
   clear hs hd hkp hval hS9 e20 e21 ef
   subst ep
   go_wp2
   refine Qkx (w.heap.size+1+1) n W13.heap.size b2 M.D cq ck cv qa ka va M.h (cutA A m) (cutA A f2) (fun _=>M.D) (Qa1 P n m M.D (kL M p k X)) (Qa1 P n f2 M.D (vL M k X)) (oL M p P n k X) W13 (by kernel_rfl) rfl (by (repeat' apply And.intro)<;>exact⟨_,rfl,rfl,rfl,rfl,by kernel_rfl⟩) rfl rfl rfl rfl rfl rfl rfl (by omega) (by omega) fk fv hD0 (by rw[Qbs];exact rk) (by rw[Qbs];exact rv) lo1 lo2 (fun o h=>by obtain rfl:=Option.some.inj h;rfl) (fun o h=>by obtain rfl:=Option.some.inj h;rfl) ⟨H9.out.drew,(f20.own.lt _ rfl).2,(f21.own.lt _ rfl).2,fun _=>f20.drew,fun _=>f21.drew⟩ (Qap _ 1 (by omega)) (fun W hb=>Qam ((Q3.out.kept hb).cell 1 (v:=I4 M.h) rfl)) ?_ (Nat.le_of_ble_eq_true rfl) ?_
   ·intro W u1 k1 u2 k2 hb g1 g2
    exact (k5 W u1 k1 _ _ u2 k2 _ _ qa cq g1 (cap1 ck lk) g2 (cap1 cv lv) (rq.below hb) lq).mono fun e w' ⟨⟨a,c,q1,q2,q3,q4⟩,q5⟩=>⟨a,c,q1,q2,q3,q4,q5⟩
   intro a W15 oa oc hs hd hkp e22 f22 z22 fr22 hB15
   have ep:=fPu [89,90,91,92,93,94,95,96,97,98,99,100,101,102,103,22] hs hd (fun s h=>hkp s (fun j hj e=>h (by
    rcases l16 (show j<16 by omega) with rfl|rfl|rfl|rfl|rfl|rfl|rfl|rfl|rfl|rfl|rfl|rfl|rfl|rfl|rfl|rfl<;>(simp only[saD,Option.some.injEq] at e;subst e;simp))))
   simp only[List.foldl] at ep
   rw[show a.tmps.getD 22 undef=_ from e22] at ep
   clear hs hd hkp e22 f20 f21 z21
   generalize a.tmps.getD 89 undef=h89 at ep
   generalize a.tmps.getD 90 undef=h90 at ep
   generalize a.tmps.getD 91 undef=h91 at ep
   generalize a.tmps.getD 92 undef=h92 at ep
   generalize a.tmps.getD 93 undef=h93 at ep
   generalize a.tmps.getD 94 undef=h94 at ep
   generalize a.tmps.getD 95 undef=h95 at ep
   generalize a.tmps.getD 96 undef=h96 at ep
   generalize a.tmps.getD 97 undef=h97 at ep
   generalize a.tmps.getD 98 undef=h98 at ep
   generalize a.tmps.getD 99 undef=h99 at ep
   generalize a.tmps.getD 100 undef=h100 at ep
   generalize a.tmps.getD 101 undef=h101 at ep
   generalize a.tmps.getD 102 undef=h102 at ep
   generalize a.tmps.getD 103 undef=h103 at ep
   simp only[Act.put,List.setIfInBounds_toArray,List.set_cons_succ,List.set_cons_zero] at ep
   subst ep
   have hb15:Below w.heap.size w W15:=bTn hb13 hB15
   have Q1':=hdn (Q1.out.kept hB15)
   have Q2':=hdn (Q2.out.kept hB15)
   have Q3':=hdn (Q3.out.kept hB15)
   have rx15:=rx13.below hB15
   have rk15:=rk.below hB15
   have rv15:=rv.below hB15
   have ho15:=oBe HO13.out hB15
   obtain⟨ya,rfl⟩:=rk15.some_ hD0
   obtain⟨yv,rfl⟩:=rv15.some_ hD0
   have nv:yv.block≠g:=by have:=fv13 yv rfl;omega
   have no_:∀ y,oa=some y→y.block≠g:=fun y hy=>by have:=fr22 y hy;omega
   have hlk:=rk15.len
   have hlv:=rv15.len
   clear Q1 Q2 Q3 rx13 rk rv rq HO13 hB15 H9 fv13 fr22 lo1 lo2 k5 cap1 ef2 iq fk fv w1 w2
   go_wp2_with (first
    | (at_builtin;refine wpList_append_fits _ rfl (.tmp 104) (.tmp 105) 34 rfl w.heap.size 2 i0 1 Tryz.underlying34 hi2 hz1 g m wd _ rfl ho15 ya M.D ck ((kL M p k X).map (Value.int .i64)) rfl (by rw[List.length_map,hlk,Nat.mul_one]) (Qda rk15) Qf0 (by omega) ?_;intro W16 ho16 hg16;have hb16:=below_append hb15 ho15 hg16;have Q1:=hdn (Q1'.out.grown hg16 (by omega));have Q2:=hdn (Q2'.out.grown hg16 (by omega));have Q3:=hdn (Q3'.out.grown hg16 (by omega));have rx16:=rx15.grown hg16 (fun _ y hy z hz=>by obtain rfl:=Option.some.inj hz;exact fx y hy);have rv16:=rv15.grown hg16 (fun _ y hy z hz=>by obtain rfl:=Option.some.inj hz;obtain rfl:=Option.some.inj hy;exact nv);have ro16:=f22.grown hg16 (fun _ y hy z hz=>by obtain rfl:=Option.some.inj hz;exact no_ y hy);clear Q1' Q2' Q3' rx15 rv15 rk15 f22 ho15 hg16 hb15)
    | (at_builtin;refine wpList_append_fits _ rfl (.tmp 106) (.tmp 107) 34 rfl w.heap.size 2 i0 1 Tryz.underlying34 hi2 hz1 g (m+M.D) wd _ rfl ho16 yv M.D cv ((vL M k X).map (Value.int .i64)) rfl (by rw[List.length_map,hlv,Nat.mul_one]) (Qda rv16) Qf0 (by omega) ?_;intro W17 ho17 hg17;have hb17:=below_append hb16 ho16 hg17;have Q1':=hdn (Q1.out.grown hg17 (by omega));have Q2':=hdn (Q2.out.grown hg17 (by omega));have Q3':=hdn (Q3.out.grown hg17 (by omega));have rx17:=rx16.grown hg17 (fun _ y hy z hz=>by obtain rfl:=Option.some.inj hz;exact fx y hy);have ro17:=ro16.grown hg17 (fun _ y hy z hz=>by obtain rfl:=Option.some.inj hz;exact no_ y hy);have gl17:=(ho17.lt g rfl).2;obtain⟨c0,c1,c2,c3,c4,c5,c6,c7,c8,c9,c10,c11⟩:=Q1'.out.c12;have HO17:=hdn ho17;clear Q1 Q2 Q3 rx16 rv16 ro16 ho16 hg17 hb16 ho17)
    | (go_at_call 63;refine (kw _ hb17 k hlt _ _ _ _ _ _ rx17 ro17).mono ?_;rintro e W18 ⟨⟨a18,c18,rfl,r18,f18⟩,h18⟩;have hb18:=bTn hb17 h18;have Q1:=hdn (Q1'.out.kept h18);have Q2:=hdn (Q2'.out.kept h18);have Q3:=hdn (Q3'.out.kept h18);have ho18:=oBe HO17.out h18;have f18':∀ y,a18=some y→y.block≠g:=fun y hy=>(by have:=f18 y hy;omega);have R:Hid (Below w.heap.size w W18∧W18.ownsRow w.heap.size 2 1 (.slice (some ⟨g,0,none⟩) (m+M.D+M.D) wd) (m+M.D+M.D) ((S0++(kL M p k X++vL M k X)).map (Value.int .i64))∧Reads .i64 W18 a18 M.D (wkL M k X (oL M p P n k X))∧(∀ y,a18=some y→y.block≠g)):=⟨hb18,by rw[List.map_append,List.map_append,←List.append_assoc];exact ho18,r18,f18'⟩;clear ho18 h18 f18 f18' r18 rx17 ro17 Q1' Q2' Q3' HO17 c0 c1 c2 c3 c4 c5 c6 c7 c8 c9 c10 c11 hb18 hb17 kw))
   go_roundw
   case rel=>exact⟨k+1,by omega,by go_num,R.out.1,Q1.out,Q2.out,Q3.out,_,_,_,Hs.out.2.2.symm,rfl,by rw[Hs.out.1];exact R.out.2.1,rfl,by rw[Hs.out.2.1];exact R.out.2.2.1,R.out.2.2.2⟩
   case measure=>simp[intOf];omega
  ·have e:k=M.m.ln:=by omega
   subst e
   have c10:=qm.cell 10 (v:=N.w) rfl
   have ewm:m=wd:=by rw[em,eWd]
   clear em
   subst ewm
   have lr:=Qdq F p P n tok M.m.ln nL
   rw[eWd] at lr
   have gcap:=(ho.lt g rfl)
   have rr:=oRa (zs:=stR M p P n tok M.m.ln) ho lr (fun z hz=>(QmR M p P n tok M.m.ln z hz).wf) (fun j hj=>Qik _ j (by rw[lr];exact hj))
   have rx':=(show Hid _ from rx)
   clear ho qm qa_ qc eWd
   go_wp2_with (first
    | (go_at_call 64;refine (kn _ hbr _ _ _ rx).mono ?_;rintro e W20 ⟨⟨a20,c20,rfl,r20,f20⟩,h20⟩;clear kn;have fo:∀ x,a20=some x→w.heap.size≤x.block:=fun x hx=>Nat.le_trans hbr.size (f20 x hx);have rr20:=rr.below h20;have hb20:=bTn hbr h20;clear h20 rr rx rx')
    | (go_at_call 48;refine (QaY _ _ _ _).mono ?_;rintro e w' ⟨rfl,hq⟩;obtain rfl:=hq.symm;clear hq))
   refine bodyPost_ret (v:=.tuple #[.slice (some ⟨g,0,none⟩) m m,.slice a20 M.D c20]) ?_ rfl ⟨⟨_,_,_,_,rfl,rr20,Nat.le_refl _,r20,fun x hx=>Nat.le_trans gcap.1 (Nat.le_of_eq (congrArg Addr.block (Option.some.inj hx))),fo⟩,hb20⟩
   simp[results,Tryz.results30,go_sem]
theorem Qhy (M:Md)(E L N O:SL)(La:SL)(w:World)(pa:Option Addr)(n pc:Nat)(p tok:Int)(hp:p<0) :
  Calls Tryz.prog 30 #[M.ag E L N O,M.ad La,.slice pa n pc,I4 p,I4 tok] w fun e w'=>e=.panicked [{ v:=.iface 35 (I4 20),recovered:=false }]∧Bw w w':=by
 have hb0:=bNw (bNw (bNw (bS w) (.cells (M.mc E L N O) 27)) (.cells (M.rc La) 30)) (.cells M.cc 23)
 have q1:Blk 27 (((w.alloc (.cells (M.mc E L N O) 27)).alloc (.cells (M.rc La) 30)).alloc (.cells M.cc 23)) w.heap.size (M.mc E L N O):=(Blk.new 27 w _).kept (bNw (bNw bR _) _)
 have q2:Blk 30 (((w.alloc (.cells (M.mc E L N O) 27)).alloc (.cells (M.rc La) 30)).alloc (.cells M.cc 23)) (w.heap.size+1) (M.rc La):=(Blk.new_at 30 (w.alloc _) _ _ (by simp)).kept (bNw bR _)
 have q3:Blk 23 (((w.alloc (.cells (M.mc E L N O) 27)).alloc (.cells (M.rc La) 30)).alloc (.cells M.cc 23)) (w.heap.size+1+1) M.cc:=Blk.new_at 23 ((w.alloc _).alloc _) _ _ (by simp)
 have d1':decide ((0:Int)≤p)=false:=decide_eq_false (by omega)
 clear q1 q2
 have ky:=QaN 20
 have Q3:=hdn q3
 obtain⟨z0,z1,z2,z3,z4,z5,z6,z7⟩:=q3.c8
 clear q3
 go_enter Tryz.func30,Tryz.ntmps30
 go_wp2_with (first|(go_at_call 56;refine (Qbw 20 _).mono ?_;rintro e w' ⟨rfl,hq⟩;obtain rfl:=hq.symm;clear hq))
 exact⟨rfl,rfl,hb0⟩
theorem Qhx (M:Md)(E L N O:SL)(La:SL)(w:World)(pa:Option Addr)(n pc:Nat)(p tok:Int)(hp:24≤p) :
  Calls Tryz.prog 30 #[M.ag E L N O,M.ad La,.slice pa n pc,I4 p,I4 tok] w fun e w'=>e=.panicked [{ v:=.iface 35 (I4 20),recovered:=false }]∧Bw w w':=by
 have hb0:=bNw (bNw (bNw (bS w) (.cells (M.mc E L N O) 27)) (.cells (M.rc La) 30)) (.cells M.cc 23)
 have q1:Blk 27 (((w.alloc (.cells (M.mc E L N O) 27)).alloc (.cells (M.rc La) 30)).alloc (.cells M.cc 23)) w.heap.size (M.mc E L N O):=(Blk.new 27 w _).kept (bNw (bNw bR _) _)
 have q2:Blk 30 (((w.alloc (.cells (M.mc E L N O) 27)).alloc (.cells (M.rc La) 30)).alloc (.cells M.cc 23)) (w.heap.size+1) (M.rc La):=(Blk.new_at 30 (w.alloc _) _ _ (by simp)).kept (bNw bR _)
 have q3:Blk 23 (((w.alloc (.cells (M.mc E L N O) 27)).alloc (.cells (M.rc La) 30)).alloc (.cells M.cc 23)) (w.heap.size+1+1) M.cc:=Blk.new_at 23 ((w.alloc _).alloc _) _ _ (by simp)
 have d1':decide ((0:Int)≤p)=true:=decide_eq_true (by omega)
 have d2':decide (p<24)=false:=decide_eq_false (by omega)
 clear q1 q2
 have ky:=QaN 20
 have Q3:=hdn q3
 obtain⟨z0,z1,z2,z3,z4,z5,z6,z7⟩:=q3.c8
 clear q3
 go_enter Tryz.func30,Tryz.ntmps30
 go_wp2_with (first|(go_at_call 56;refine (Qbw 20 _).mono ?_;rintro e w' ⟨rfl,hq⟩;obtain rfl:=hq.symm;clear hq))
 exact⟨rfl,rfl,hb0⟩
theorem Qhw (M:Md)(E L N O:SL)(La:SL)(w:World)(pa:Option Addr)(n pc:Nat)(p tok:Int)(hp:0≤p∧p<24)(ht:tok<0) :
  Calls Tryz.prog 30 #[M.ag E L N O,M.ad La,.slice pa n pc,I4 p,I4 tok] w fun e w'=>e=.panicked [{ v:=.iface 35 (I4 20),recovered:=false }]∧Bw w w':=by
 have hb0:=bNw (bNw (bNw (bS w) (.cells (M.mc E L N O) 27)) (.cells (M.rc La) 30)) (.cells M.cc 23)
 have q1:Blk 27 (((w.alloc (.cells (M.mc E L N O) 27)).alloc (.cells (M.rc La) 30)).alloc (.cells M.cc 23)) w.heap.size (M.mc E L N O):=(Blk.new 27 w _).kept (bNw (bNw bR _) _)
 have q2:Blk 30 (((w.alloc (.cells (M.mc E L N O) 27)).alloc (.cells (M.rc La) 30)).alloc (.cells M.cc 23)) (w.heap.size+1) (M.rc La):=(Blk.new_at 30 (w.alloc _) _ _ (by simp)).kept (bNw bR _)
 have q3:Blk 23 (((w.alloc (.cells (M.mc E L N O) 27)).alloc (.cells (M.rc La) 30)).alloc (.cells M.cc 23)) (w.heap.size+1+1) M.cc:=Blk.new_at 23 ((w.alloc _).alloc _) _ _ (by simp)
 have d1':decide ((0:Int)≤p)=true:=decide_eq_true hp.1
 have d2':decide (p<24)=true:=decide_eq_true hp.2
 have d3':decide ((0:Int)≤tok)=false:=decide_eq_false (by omega)
 clear q1 q2
 have ky:=QaN 20
 have Q3:=hdn q3
 obtain⟨z0,z1,z2,z3,z4,z5,z6,z7⟩:=q3.c8
 clear q3
 go_enter Tryz.func30,Tryz.ntmps30
 go_wp2_with (first|(go_at_call 56;refine (ky _).mono ?_;rintro e w' ⟨rfl,hq⟩;obtain rfl:=hq.symm;clear hq ky)|(go_at_call 56;refine (Qbw 20 _).mono ?_;rintro e w' ⟨rfl,hq⟩;obtain rfl:=hq.symm;clear hq))
 exact⟨rfl,rfl,hb0⟩
theorem Qhv (M:Md)(E L N O:SL)(La:SL)(w:World)(pa:Option Addr)(n pc:Nat)(p tok:Int)(hp:0≤p∧p<24)(ht:0≤tok∧M.v≤tok) :
  Calls Tryz.prog 30 #[M.ag E L N O,M.ad La,.slice pa n pc,I4 p,I4 tok] w fun e w'=>e=.panicked [{ v:=.iface 35 (I4 20),recovered:=false }]∧Bw w w':=by
 have hb0:=bNw (bNw (bNw (bS w) (.cells (M.mc E L N O) 27)) (.cells (M.rc La) 30)) (.cells M.cc 23)
 have q1:Blk 27 (((w.alloc (.cells (M.mc E L N O) 27)).alloc (.cells (M.rc La) 30)).alloc (.cells M.cc 23)) w.heap.size (M.mc E L N O):=(Blk.new 27 w _).kept (bNw (bNw bR _) _)
 have q2:Blk 30 (((w.alloc (.cells (M.mc E L N O) 27)).alloc (.cells (M.rc La) 30)).alloc (.cells M.cc 23)) (w.heap.size+1) (M.rc La):=(Blk.new_at 30 (w.alloc _) _ _ (by simp)).kept (bNw bR _)
 have q3:Blk 23 (((w.alloc (.cells (M.mc E L N O) 27)).alloc (.cells (M.rc La) 30)).alloc (.cells M.cc 23)) (w.heap.size+1+1) M.cc:=Blk.new_at 23 ((w.alloc _).alloc _) _ _ (by simp)
 have d1':decide ((0:Int)≤p)=true:=decide_eq_true hp.1
 have d2':decide (p<24)=true:=decide_eq_true hp.2
 have d3':decide ((0:Int)≤tok)=true:=decide_eq_true (by omega)
 have d4':decide (tok<M.v)=false:=decide_eq_false (by omega)
 clear q1 q2
 have ky:=QaN 20
 have Q3:=hdn q3
 obtain⟨z0,z1,z2,z3,z4,z5,z6,z7⟩:=q3.c8
 clear q3
 go_enter Tryz.func30,Tryz.ntmps30
 go_wp2_with (first|(go_at_call 56;refine (ky _).mono ?_;rintro e w' ⟨rfl,hq⟩;obtain rfl:=hq.symm;clear hq ky)|(go_at_call 56;refine (Qbw 20 _).mono ?_;rintro e w' ⟨rfl,hq⟩;obtain rfl:=hq.symm;clear hq))
 exact⟨rfl,rfl,hb0⟩
theorem QjZ (M:Md)(E L N O:SL)(Y U D:Nat→Nat→SL)(hE:Qaf M.d M.h M.l M.v M.u M.x M.t M.n M.m=0)(F:Qaq M)(w:World)(hM:Qad w E L N O Y U D M.m)(xa:Option Addr)(xn xc:Nat)(xs:List Int)(hx:Reads .i64 w xa xn xs)(hf:fitB O.n M.v xn=true) :
  Calls Tryz.prog 23 #[M.ag E L N O,.slice xa xn xc] w fun e w'=>(∃ a c,e=.returned (.tuple #[.slice a (O.n/xn) c,I4 0])∧Reads .i64 w' a (O.n/xn) (matL M.m.o xs))∧Bw w w':=by
 have hmf:∀ (fn:Fn) (first cap:Array Value) (w:World),(Instr.makeFunc fn first cap).run Tryz.prog w=.ok (.func fn first cap) w:=fun _ _ _ _=>rfl
 have hb0:=bNw (bNw (bS w) (.cells (M.mc E L N O) 27)) (.cells #[I4 0] 35)
 have q1:Blk 27 ((w.alloc (.cells (M.mc E L N O) 27)).alloc (.cells #[I4 0] 35)) w.heap.size (M.mc E L N O):=(Blk.new 27 w _).kept (bNw bR _)
 have q3:Blk 35 ((w.alloc (.cells (M.mc E L N O) 27)).alloc (.cells #[I4 0] 35)) (w.heap.size+1) #[I4 0]:=Blk.new_at 35 (w.alloc _) _ _ (by simp)
 have kc:=fun (W:World) (hb:Bw w W)=>Qa9 M.d M.h M.l M.v M.u M.x M.t M.n E L N O Y U D M.m W (hM.below hb)
 rw[hE] at kc
 have hob:O.n*8≤140737488355328:=by
  have h:=F.o
  rw[hM.o.reads.len] at h
  have:M.v*(M.D:Int)≤16*8:=Int.le_trans (Int.mul_le_mul_of_nonneg_right F.v1 (by omega)) (Int.mul_le_mul_of_nonneg_left (by have:=F.d1;omega) (by omega))
  omega
 have km:=fun (W:World) (hb:Bw w W)=>QeT O.a O.n O.c M.m.o M.v xa xn xc xs W (hM.o.reads.below hb) hM.o.cap (hx.below hb) hf hob
 clear hE
 go_enter_defers Tryz.func23,Tryz.ntmps23
 go_wp2
 refine Qgj M E L N O 0 w.heap.size q1 (by kernel_rfl) rfl (by (repeat' apply And.intro)<;>exact⟨_,rfl,rfl,rfl,rfl,by kernel_rfl⟩) rfl (fun W hb=>kc W (bTn hb0 hb)) (fun W=>Qbx M.d M.h M.l M.v M.u M.x M.t M.n E L N O W) (Nat.le_of_ble_eq_true rfl) ?_
 intro a W2 hs hd hkp hb2
 obtain⟨f,ef,ep⟩:=fPz [7,8,9,10] rfl hs hd hkp
 simp only[List.foldl,Act.put,List.setIfInBounds_toArray,List.set_cons_succ,List.set_cons_zero] at ep
 clear hs hd hkp ef
 subst ep
 have hb:=bTn hb0 hb2
 have Q3:=hdn (q3.kept hb2)
 obtain⟨c0,c1,c2,c3,c4,c5,c6,c7,c8,c9,c10,c11⟩:=(q1.kept hb2).c12
 clear q1 q3 hb0 hb2 kc
 go_wp2_with (first
  | (go_at_call 49;refine (km _ hb).mono ?_;rintro e W3 ⟨⟨cs,rfl,r3,-⟩,h3⟩;have hb3:=bTn hb h3;have z1:=(Q3.out.kept h3).cell 0 (v:=I4 0) rfl;have z2:=(Q3.out.kept h3).open_ 0;clear h3 km hb)
  | (go_at_call 48;refine (QaY _ _ _ _).mono ?_;rintro e w' ⟨rfl,hq⟩;obtain rfl:=hq.symm;clear hq))
 refine leaves_cons (f:=45) (args:=#[.pointer (some ⟨w.heap.size+1,0,none⟩)]) (by simp) (by simp[go_sem]) ?_
 rw[sSa z1]
 refine (Qhi ⟨w.heap.size+1,0,none⟩ 0 _ z1 z2).mono ?_
 rintro e u' w'' ⟨rfl,rfl,rfl⟩
 rw[sSa z1]
 simp[Leaves,settle,results,Tryz.results23,go_sem,z1]
 exact⟨r3,hb3⟩
theorem QlI (M:Md)(E L N O:SL)(Y U D:Nat→Nat→SL)(hE:Qaf M.d M.h M.l M.v M.u M.x M.t M.n M.m=0)(F:Qaq M)(w:World)(hM:Qad w E L N O Y U D M.m)(xa:Option Addr)(xn xc:Nat)(hxn:xn≤9223372036854775807)(hf:fitB O.n M.v xn=false) :
  Calls Tryz.prog 23 #[M.ag E L N O,.slice xa xn xc] w fun e w'=>e=.returned (.tuple #[.slice none 0 0,I4 21])∧Bw w w':=by
 have hmf:∀ (fn:Fn) (first cap:Array Value) (w:World),(Instr.makeFunc fn first cap).run Tryz.prog w=.ok (.func fn first cap) w:=fun _ _ _ _=>rfl
 have hb0:=bNw (bNw (bS w) (.cells (M.mc E L N O) 27)) (.cells #[I4 0] 35)
 have q1:Blk 27 ((w.alloc (.cells (M.mc E L N O) 27)).alloc (.cells #[I4 0] 35)) w.heap.size (M.mc E L N O):=(Blk.new 27 w _).kept (bNw bR _)
 have q3:Blk 35 ((w.alloc (.cells (M.mc E L N O) 27)).alloc (.cells #[I4 0] 35)) (w.heap.size+1) #[I4 0]:=Blk.new_at 35 (w.alloc _) _ _ (by simp)
 have kc:=fun (W:World) (hb:Bw w W)=>Qa9 M.d M.h M.l M.v M.u M.x M.t M.n E L N O Y U D M.m W (hM.below hb)
 rw[hE] at kc
 have km:=fun W=>Qn7 O.a O.n O.c M.v xa xn xc W hM.o.reads.max hxn (Qae (by have:=F.v0;omega) (by have:=F.v1;omega)) hf
 clear hE
 go_enter_defers Tryz.func23,Tryz.ntmps23
 go_wp2
 refine Qgj M E L N O 0 w.heap.size q1 (by kernel_rfl) rfl (by (repeat' apply And.intro)<;>exact⟨_,rfl,rfl,rfl,rfl,by kernel_rfl⟩) rfl (fun W hb=>kc W (bTn hb0 hb)) (fun W=>Qbx M.d M.h M.l M.v M.u M.x M.t M.n E L N O W) (Nat.le_of_ble_eq_true rfl) ?_
 intro a W2 hs hd hkp hb2
 obtain⟨f,ef,ep⟩:=fPz [7,8,9,10] rfl hs hd hkp
 simp only[List.foldl,Act.put,List.setIfInBounds_toArray,List.set_cons_succ,List.set_cons_zero] at ep
 clear hs hd hkp ef
 subst ep
 have hb:=bTn hb0 hb2
 have Q3:=hdn (q3.kept hb2)
 obtain⟨c0,c1,c2,c3,c4,c5,c6,c7,c8,c9,c10,c11⟩:=(q1.kept hb2).c12
 clear q1 q3 hb0 hb2 kc
 have z1:=Q3.out.cell 0 (v:=I4 0) rfl
 have z2:=Q3.out.open_ 0
 go_wp2_with (first
  | (go_at_call 49;refine (km _).mono ?_;rintro e w' ⟨rfl,hq⟩;obtain rfl:=hq.symm;clear hq km)
  | (go_at_call 48;refine (Qk7 _ _ _ 21 (by decide) _).mono ?_;rintro e w' ⟨rfl,hq⟩;obtain rfl:=hq.symm;clear hq))
 refine leaves_cons (f:=45) (args:=#[.pointer (some ⟨w.heap.size+1,0,none⟩)]) (by simp) (by simp[go_sem]) ?_
 refine (Qdj ⟨w.heap.size+1,0,none⟩ 0 21 [] _ z1 z2).mono ?_
 rintro e u' w'' ⟨rfl,rfl,rfl⟩
 have z3:(W2.setCell ⟨w.heap.size+1,0,none⟩ (I4 21)).cell? ⟨w.heap.size+1,0,none⟩=some (I4 21):=World.cell?_setCell_same _ _ _ z1
 have H':Bw w (W2.setCell ⟨w.heap.size+1,0,none⟩ (I4 21)):=hb.setCell (by show w.heap.size≤w.heap.size+1;omega) _
 generalize (W2.setCell ⟨w.heap.size+1,0,none⟩ (I4 21))=W9 at z3 H' ⊢
 simp[Leaves,settle,results,Tryz.results23,go_sem,z3]
 exact H'
theorem Qj0 (M:Md)(E L N O:SL)(Y U D:Nat→Nat→SL)(hE:¬Qaf M.d M.h M.l M.v M.u M.x M.t M.n M.m=0)(w:World)(hM:Qad w E L N O Y U D M.m)(xa:Option Addr)(xn xc:Nat) :
  Calls Tryz.prog 23 #[M.ag E L N O,.slice xa xn xc] w fun e w'=>e=.returned (.tuple #[.slice none 0 0,I4 (Qaf M.d M.h M.l M.v M.u M.x M.t M.n M.m)])∧Bw w w':=by
 have hmf:∀ (fn:Fn) (first cap:Array Value) (w:World),(Instr.makeFunc fn first cap).run Tryz.prog w=.ok (.func fn first cap) w:=fun _ _ _ _=>rfl
 have hb0:=bNw (bNw (bS w) (.cells (M.mc E L N O) 27)) (.cells #[I4 0] 35)
 have q1:Blk 27 ((w.alloc (.cells (M.mc E L N O) 27)).alloc (.cells #[I4 0] 35)) w.heap.size (M.mc E L N O):=(Blk.new 27 w _).kept (bNw bR _)
 have q3:Blk 35 ((w.alloc (.cells (M.mc E L N O) 27)).alloc (.cells #[I4 0] 35)) (w.heap.size+1) #[I4 0]:=Blk.new_at 35 (w.alloc _) _ _ (by simp)
 have kc:=fun (W:World) (hb:Bw w W)=>Qa9 M.d M.h M.l M.v M.u M.x M.t M.n E L N O Y U D M.m W (hM.below hb)
 obtain⟨c,ec⟩:∃ c,Qaf M.d M.h M.l M.v M.u M.x M.t M.n M.m=c:=⟨_,rfl⟩
 rw[ec] at kc hE ⊢
 go_enter_defers Tryz.func23,Tryz.ntmps23
 go_wp2
 refine Qki M E L N O c w.heap.size _ q1 (by kernel_rfl) rfl (by (repeat' apply And.intro)<;>exact⟨_,rfl,rfl,rfl,rfl,by kernel_rfl⟩) rfl (fun W hb=>kc W (bTn hb0 hb)) (fun W=>Qft M.d M.h M.l M.v M.u M.x M.t M.n E L N O c hE W) (Nat.le_of_ble_eq_true rfl) ?_
 intro a W2 hd hkp hb2
 have hb:=bTn hb0 hb2
 have z1:=(q3.kept hb2).cell 0 (v:=I4 0) rfl
 have z2:=(q3.kept hb2).open_ 0
 clear q1 q3 hb0 hb2 kc hE ec
 simp only[Exit.then]
 have k4:a.tmps.getD 4 undef=.slice none 0 0:=hkp 4 (by decide)
 have k5:a.tmps.getD 5 undef=.pointer (some ⟨w.heap.size+1,0,none⟩):=hkp 5 (by decide)
 clear hkp
 obtain⟨ta,da⟩:=a
 simp only at hd k4 k5
 subst hd
 simp only[Array.getD_eq_getD_getElem?] at k4 k5
 refine leaves_cons (f:=45) (args:=#[.pointer (some ⟨w.heap.size+1,0,none⟩)]) (by simp) (by simp[go_sem]) ?_
 refine (Qdj ⟨w.heap.size+1,0,none⟩ 0 c [] _ z1 z2).mono ?_
 rintro e u' w'' ⟨rfl,rfl,rfl⟩
 have z3:(W2.setCell ⟨w.heap.size+1,0,none⟩ (I4 c)).cell? ⟨w.heap.size+1,0,none⟩=some (I4 c):=World.cell?_setCell_same _ _ _ z1
 have H':Bw w (W2.setCell ⟨w.heap.size+1,0,none⟩ (I4 c)):=hb.setCell (by show w.heap.size≤w.heap.size+1;omega) _
 generalize (W2.setCell ⟨w.heap.size+1,0,none⟩ (I4 c))=W9 at z3 H' ⊢
 simp[Leaves,settle,results,Tryz.results23,go_sem,z3,k4,k5]
 exact H'
theorem Qfi (w:World)(g:Nat)(B:Nat)(ty:TypeId)(ta:Option Addr)(tn tc:Nat)(zs:List Int)(hs:Reads .i64 w ta tn zs)(hl:tn*8≤140737488355328)(ho:w.ownsRow B 3 1 (.slice (some ⟨g,0,none⟩) 0 0) 0 [])(hB:B≤w.heap.size):∃ a' c' w',(Builtin.append_ #[45,45] ty #[.slice (some ⟨g,0,none⟩) 0 0,.slice ta tn tc]).run Tryz.prog w=.ok (.slice a' tn c') w'∧Bw w w'∧w'.ownsRow B 3 1 (.slice a' tn c') tn (zs.map (Value.int .i64)):=by
 obtain⟨i0,hi,hz0,hz1,hz2⟩:=info_parts Qmr
 have hlen:=hs.len
 by_cases h0:tn=0
 ·subst h0
  obtain rfl:zs=[]:=List.eq_nil_of_length_eq_zero (by omega)
  refine⟨some ⟨g,0,none⟩,0,w,?_,Below.refl _ _,ho⟩
  cases ta with
  | none=>simp[Builtin.append_,run_underlying Tryz.underlying45,sizeOf,typeInfo,hi,Builtin.lenOf,Builtin.firstCells,storeCells]
  | some x=>simp[Builtin.append_,run_underlying Tryz.underlying45,sizeOf,typeInfo,hi,Builtin.lenOf,Builtin.firstCells,storeCells,loadCells,loadCellsFrom]
 ·obtain⟨x,rfl⟩:=hs.some_ (by omega)
  obtain⟨v',w',hr,ho',hg⟩:=run_append_arg_grows (P:=Tryz.prog) (w:=w) 45 ty 3 i0 (I4 0) 1 8 Tryz.underlying45 hi hz0 hz1 hz2 rfl (by decide) ⟨g,0,none⟩ 0 0 [] rfl (fun j u h=>by cases h) x tn tc (zs.map (Value.int .i64)) (by rw[List.length_map];omega)
   (fun j u hu=>by
    have hj:j<tn:=by
     have:=(List.getElem?_eq_some_iff.1 hu).1
     rw[List.length_map] at this
     omega
    rw[hs.cell x rfl j hj,←hu]
    simp[hlen,hj]) (by omega) (by unfold maxLen;omega) (by omega)
  simp only[Nat.zero_add,List.nil_append] at ho'
  obtain⟨a',c',ev,hre⟩:=oRe (k:=.i64) ho' hlen hs.wf_mem (fun j hj=>QbR .i64 zs j (by omega))
  have hb:Bw w w':=(bS w).grown hg nL (fun g h=>by cases h)
  refine⟨a',c',w',by rw[hr,ev],hb,?_⟩
  rw[ev] at ho'
  refine⟨ho'.1,?_⟩
  rcases ho'.2 with h2|⟨g,cap,cur,hv,hg,r⟩
  ·exact .inl h2
  ·exact .inr ⟨g,cap,cur,hv,by omega,r⟩
theorem Qey (w:World):(Instr.buildSlice 45 0 #[]).run Tryz.prog w=.ok (.slice (some ⟨w.heap.size,0,none⟩) 0 0) (w.alloc (.cells #[] 3)):=by go_simp
theorem _root_.Go.World.ownsRow.lower {w:World}{B B' n sz:Nat}{e:TypeId}{v:Value}{xs:List Value}(h:w.ownsRow B e sz v n xs)(hb:B'≤B):w.ownsRow B' e sz v n xs:=by
 refine⟨h.1,?_⟩
 rcases h.2 with h2|⟨g,cap,cur,hv,hg,r⟩
 ·exact .inl h2
 ·exact .inr ⟨g,cap,cur,hv,by omega,r⟩
def ru7D (i:Nat):Option Nat:=match i with|0=>some 40|1=>some 41|2=>some 42|3=>some 43|4=>some 44|5=>some 45|6=>some 46|7=>some 47|8=>some 48|9=>some 39|10=>some 49|11=>some 50|12=>some 51|13=>some 8|14=>some 9|15=>some 10|_=>none
theorem Ql1:∀ i,i<16→∀ j,j<16→ru7D i=ru7D j→ru7D i≠none→i=j:=by decide
theorem QkE:∀ i,i<16→∀ d,ru7D i=some d→d<99:=by
 intro i hi d h
 have:∀ i,i<16→(ru7D i).all (fun d=>decide (d<99))=true:=by decide
 have:=this i hi
 rw[h] at this
 simpa using this
def ru7F (M:Md)(E L N O La:SL)(kb mb ab tn tc nn:Nat)(ta:Option Addr)(ts:List Int)(ee:Int)(RA RB:World→Option Addr→Nat→Prop)(i:Nat)(q:Value)(w:World):Prop:=match i with
 | 0=>q=M.ag E L N O
 | 1=>∃ (E6 L6 N6 O6:SL) (Y6 U6 D6:Nat→Nat→SL),q=.agg (M.mc E6 L6 N6 O6)∧Qad w E6 L6 N6 O6 Y6 U6 D6 M.m
 | 2=>q=M.ad La
 | 3=>∃ (La6:SL) (Ya6:Nat→Nat→SL),q=.agg (M.rc La6)∧AdAt w La6 Ya6 M.a
 | 4=>∃ yb,q=.slice (some ⟨yb,0,none⟩) 0 0∧w.ownsRow 0 3 1 (.slice (some ⟨yb,0,none⟩) 0 0) 0 []
 | 5=>q=.pointer (some ⟨kb,10,none⟩)
 | 6=>q=.slice ta tn tc
 | 7=>∃ ca cc,q=.slice ca tn cc∧Reads .i64 w ca tn ts
 | 8=>∃ ya yc yb yd,q=.tuple #[.slice ya nn yc,.slice yb nn yd,I4 ee]∧RA w ya yc∧RB w yb yd
 | 9=>∃ ya yc yb yd,q=.tuple #[.slice ya nn yc,.slice yb nn yd,I4 ee]∧RA w ya yc∧RB w yb yd
 | 10=>∃ ya yc,q=.slice ya nn yc∧RA w ya yc
 | 11=>∃ ya yc,q=.slice ya nn yc∧RB w ya yc
 | 12=>q=I4 ee
 | 13=>∃ ya yc,q=.slice ya nn yc∧RA w ya yc
 | 14=>∃ ya yc,q=.slice ya nn yc∧RB w ya yc
 | 15=>q=I4 ee
 | _=>True
theorem Qi9 {M:Md}{E L N O La:SL}{kb mb ab tn tc nn:Nat}{ta:Option Addr}{ts:List Int}{ee:Int}{RA RB:World→Option Addr→Nat→Prop}{i:Nat}{q:Value}{w w':World}(h:ru7F M E L N O La kb mb ab tn tc nn ta ts ee RA RB i q w)(hb:Bw w w')(hRA:∀ {w w':World}{a:Option Addr}{c:Nat},RA w a c→Bw w w'→RA w' a c)(hRB:∀ {w w':World}{a:Option Addr}{c:Nat},RB w a c→Bw w w'→RB w' a c):ru7F M E L N O La kb mb ab tn tc nn ta ts ee RA RB i q w':=by
 unfold ru7F at h ⊢
 split
 ·exact h
 ·obtain⟨E6,L6,N6,O6,Y6,U6,D6,h1,h2⟩:=h;exact⟨E6,L6,N6,O6,Y6,U6,D6,h1,h2.below hb⟩
 ·exact h
 ·obtain⟨La6,Ya6,h1,h2⟩:=h;exact⟨La6,Ya6,h1,h2.below hb⟩
 ·obtain⟨yb,h1,h2⟩:=h;exact⟨yb,h1,(Keeps.of_below hb).own h2⟩
 ·exact h
 ·exact h
 ·obtain⟨ca,cc,h1,h2⟩:=h;exact⟨ca,cc,h1,h2.below hb⟩
 ·obtain⟨ya,yc,yb,yd,h1,h2,h3⟩:=h;exact⟨ya,yc,yb,yd,h1,hRA h2 hb,hRB h3 hb⟩
 ·obtain⟨ya,yc,yb,yd,h1,h2,h3⟩:=h;exact⟨ya,yc,yb,yd,h1,hRA h2 hb,hRB h3 hb⟩
 ·obtain⟨ya,yc,h1,h2⟩:=h;exact⟨ya,yc,h1,hRA h2 hb⟩
 ·obtain⟨ya,yc,h1,h2⟩:=h;exact⟨ya,yc,h1,hRB h2 hb⟩
 ·exact h
 ·obtain⟨ya,yc,h1,h2⟩:=h;exact⟨ya,yc,h1,hRA h2 hb⟩
 ·obtain⟨ya,yc,h1,h2⟩:=h;exact⟨ya,yc,h1,hRB h2 hb⟩
 ·exact h
 ·trivial
theorem Qfk {id:Nat}{ops:Array Oper}{Q:Exit→Act→World→Prop}{a0:Act}{w0:World}(M:Md)(E L N O La:SL)(kb mb ab tn tc nn:Nat)(ta:Option Addr)(ts:List Int)(ee:Int)(RA RB:World→Option Addr→Nat→Prop)(S:World→Prop)(hRA:∀ {w w':World}{a:Option Addr}{c:Nat},RA w a c→Bw w w'→RA w' a c)(hRB:∀ {w w':World}{a:Option Addr}{c:Nat},RB w a c→Bw w w'→RB w' a c)(hlow:lowB ops=true)(hsz:ops.size=16)
  (oo:OpS ops 0 40 (.load 27 (.tmp 5)) []∧OpS ops 1 41 (.call { callee:=.value (.func 9),args:=#[.tmp 40],argTypes:=#[27] }) [0]∧OpS ops 2 42 (.load 30 (.tmp 7)) []∧OpS ops 3 43 (.call { callee:=.value (.func 10),args:=#[.tmp 42],argTypes:=#[30] }) [2]∧OpS ops 4 44 (.buildSlice 45 0 #[]) []∧OpS ops 5 45 (.fieldAddr 47 (.tmp 2) 3) []∧OpS ops 6 46 (.load 45 (.tmp 45)) [5]∧OpS ops 7 47 (.call { callee:=.builtin .append,args:=#[.tmp 44,.tmp 46],argTypes:=#[45,45] }) [4,6]∧OpS ops 8 48 (.call { callee:=.value (.func 21),args:=#[.tmp 41,.tmp 43,.tmp 47],argTypes:=#[27,30,45] }) [1,3,7]∧OpS ops 9 39 (.move (.tmp 48)) [8]∧OpS ops 10 49 (.extract (.tmp 39) 0) [9]∧OpS ops 11 50 (.extract (.tmp 39) 1) [9]∧OpS ops 12 51 (.extract (.tmp 39) 2) [9]∧OpS ops 13 8 (.assign (.tmp 49)) [10]∧OpS ops 14 9 (.assign (.tmp 50)) [11]∧OpS ops 15 10 (.assign (.tmp 51)) [12])
  (hS:S w0.drew)
  (x0:∀ w,S w→(Instr.loadAt 27 (Pt mb)).run Tryz.prog w=.ok (M.ag E L N O) w)
  (x1:∀ w,S w→Calls Tryz.prog 9 #[M.ag E L N O] w fun e w'=>(∃ (E6 L6 N6 O6:SL) (Y6 U6 D6:Nat→Nat→SL),e=.returned (.agg (M.mc E6 L6 N6 O6))∧Qad w' E6 L6 N6 O6 Y6 U6 D6 M.m)∧Bw w w'∧S w')
  (x2:∀ w,S w→(Instr.loadAt 30 (Pt ab)).run Tryz.prog w=.ok (M.ad La) w)
  (x3:∀ w,S w→Calls Tryz.prog 10 #[M.ad La] w fun e w'=>(∃ (La6:SL) (Ya6:Nat→Nat→SL),e=.returned (.agg (M.rc La6))∧AdAt w' La6 Ya6 M.a)∧Bw w w'∧S w')
  (x4:∀ w,S w→∃ yb W,(Instr.buildSlice 45 0 #[]).run Tryz.prog w=.ok (.slice (some ⟨yb,0,none⟩) 0 0) W∧Bw w W∧S W∧W.ownsRow 0 3 1 (.slice (some ⟨yb,0,none⟩) 0 0) 0 [])
  (x5:∀ w,(Instr.fieldAt 47 (Pt kb) 3).run Tryz.prog w=.ok (.pointer (some ⟨kb,10,none⟩)) w)
  (x6:∀ w,S w→(Instr.loadAt 45 (.pointer (some ⟨kb,10,none⟩))).run Tryz.prog w=.ok (.slice ta tn tc) w)
  (x7:∀ w ty yb,S w→w.ownsRow 0 3 1 (.slice (some ⟨yb,0,none⟩) 0 0) 0 []→∃ ca cc W,(Builtin.append_ #[45,45] ty #[.slice (some ⟨yb,0,none⟩) 0 0,.slice ta tn tc]).run Tryz.prog w=.ok (.slice ca tn cc) W∧Bw w W∧S W∧Reads .i64 W ca tn ts)
  (x8:∀ w (E6 L6 N6 O6:SL) (Y6 U6 D6:Nat→Nat→SL) (La6:SL) (Ya6:Nat→Nat→SL) ca cc,S w→Qad w E6 L6 N6 O6 Y6 U6 D6 M.m→AdAt w La6 Ya6 M.a→Reads .i64 w ca tn ts→Calls Tryz.prog 21 #[.agg (M.mc E6 L6 N6 O6),.agg (M.rc La6),.slice ca tn cc] w fun e w'=>(∃ ya yc yb yd,e=.returned (.tuple #[.slice ya nn yc,.slice yb nn yd,I4 ee])∧RA w' ya yc∧RB w' yb yd)∧Bw w w'∧S w')
  (u2:a0.tmps.getD 2 undef=Pt kb)
  (u5:a0.tmps.getD 5 undef=Pt mb)
  (u7:a0.tmps.getD 7 undef=Pt ab)
  (hs:99≤a0.tmps.size)
  (fin:∀ a w,a.tmps.size=a0.tmps.size→a.defers=a0.defers→(∀ s,(∀ i,i<16→ru7D i≠some s)→a.tmps.getD s undef=a0.tmps.getD s undef)→S w→(∀ i d,i<16→ru7D i=some d→ru7F M E L N O La kb mb ab tn tc nn ta ts ee RA RB i (a.tmps.getD d undef) w)→Q .normal a w):(Code.region id ops true).wp Tryz.prog Q a0 w0:=by
 obtain⟨o0,o1,o2,o3,o4,o5,o6,o7,o8,o9,o10,o11,o12,o13,o14,o15⟩:=oo
 have r9:∀ args w,(callFunc 9 args).run Tryz.prog w=.ok (.enter 9 args) w:=eNo Tryz.func9 (by kernel_rfl) rfl
 have r10:∀ args w,(callFunc 10 args).run Tryz.prog w=.ok (.enter 10 args) w:=eNo Tryz.func10 (by kernel_rfl) rfl
 have r21:∀ args w,(callFunc 21 args).run Tryz.prog w=.ok (.enter 21 args) w:=eNo Tryz.func21 (by kernel_rfl) rfl
 refine wRi (by kernel_rfl) hlow (Inv 16 ru7D a0 (fun l a w=>S w∧Qbf 16 ru7D a0 l a) (fun _=>ru7F M E L N O La kb mb ab tn tc nn ta ts ee RA RB)) (Inv.start ⟨hS,QaB _ _ _⟩) ?_ ?_
 ·intro l i o a w ho hl hcl hdep hI
  have hi:i<16:=by rw[←hsz];exact (Array.getElem?_eq_some_iff.1 ho).1
  have ev:∀ (s:Nat),a.eval (.tmp s)=a.tmps.getD s undef:=fun _=>rfl
  have evf:∀ f,a.eval (.func f)=.func (.func f) #[] #[]:=fun _=>rfl
  have evc:∀ c:Value,a.eval (.const c)=c:=fun _=>rfl
  have inj:∀ d,ru7D i=some d→∀ j d',j<16→ru7D j=some d'→j≠i→d'≠d:=fun d hd j d' hj hd' hne e=>hne (Ql1 j hj i hi (by rw[hd',hd,e]) (by rw[hd'];simp))
  have kp:∀ s,(∀ i,i<16→ru7D i≠some s)→a.tmps.getD s undef=a0.tmps.getD s undef:=hI.kept
  have hw:S w:=hI.world.1
  have k2:=hI.world.2
  have ex0:=hI.world.2
  have go:∀ {d:Nat}{v:Value}{w':World},ru7D i=some d→Bw w w'→S w'→ru7F M E L N O La kb mb ab tn tc nn ta ts ee RA RB i v w'→Inv 16 ru7D a0 (fun l a w=>S w∧Qbf 16 ru7D a0 l a) (fun _=>ru7F M E L N O La kb mb ab tn tc nn ta ts ee RA RB) (fun j=>l j || j==i) (a.put (some d) v) w':=by
   intro d v w' hD hb hS' hF
   exact hI.put hi hD (Nat.lt_of_lt_of_le (QkE i hi d hD) hs) (inj d hD) ⟨hS',k2.put hD (by rw[hI.size];exact Nat.lt_of_lt_of_le (QkE i hi d hD) hs) hi⟩ hF (fun j u _ _ _ hf=>Qi9 hf hb hRA hRB)
  rcases l16 (show i<16 by omega) with rfl|rfl|rfl|rfl|rfl|rfl|rfl|rfl|rfl|rfl|rfl|rfl|rfl|rfl|rfl|rfl
  ·obtain⟨e2,e3,e4,dp⟩:=o0.at_ ho hdep
   have U5:=(kp 5 (by decide)).trans u5
   exact wVa (v:=M.ag E L N O) (w':=w) ho e4 (by simp[execOp,e3,ev,evc,U5,x0 w hw]) (by rw[e2];exact go rfl bR hw rfl)
  ·obtain⟨e2,e3,e4,dp⟩:=o1.at_ ho hdep
   have V0:tm a 40=_:=hI.vl dp 0 40 rfl rfl
   refine wCa (f:=9) (args:=#[M.ag E L N O]) ho e4 (by simp[execOp,e3,resolve,invoke,Deferred.ofValue,r9,ev,evf,evc,V0]) ((x1 w hw).mono ?_)
   rintro e W' ⟨⟨E6,L6,N6,O6,Y6,U6,D6,rfl,f6⟩,hb6,hs6⟩
   refine⟨_,rfl,?_⟩
   rw[e2]
   exact go rfl hb6 hs6 ⟨E6,L6,N6,O6,Y6,U6,D6,rfl,f6⟩
  ·obtain⟨e2,e3,e4,dp⟩:=o2.at_ ho hdep
   have U7:=(kp 7 (by decide)).trans u7
   exact wVa (v:=M.ad La) (w':=w) ho e4 (by simp[execOp,e3,ev,evc,U7,x2 w hw]) (by rw[e2];exact go rfl bR hw rfl)
  ·obtain⟨e2,e3,e4,dp⟩:=o3.at_ ho hdep
   have V2:tm a 42=_:=hI.vl dp 2 42 rfl rfl
   refine wCa (f:=10) (args:=#[M.ad La]) ho e4 (by simp[execOp,e3,resolve,invoke,Deferred.ofValue,r10,ev,evf,evc,V2]) ((x3 w hw).mono ?_)
   rintro e W' ⟨⟨La6,Ya6,rfl,f6⟩,hb6,hs6⟩
   refine⟨_,rfl,?_⟩
   rw[e2]
   exact go rfl hb6 hs6 ⟨La6,Ya6,rfl,f6⟩
  ·obtain⟨e2,e3,e4,dp⟩:=o4.at_ ho hdep
   obtain⟨y6,W6,r6,hb6,hs6,f6⟩:=x4 w hw
   refine wVa (v:=.slice (some ⟨y6,0,none⟩) 0 0) (w':=W6) ho e4 (by simp[execOp,e3,ev,evc,r6]) ?_
   rw[e2]
   exact go rfl hb6 hs6 ⟨y6,rfl,f6⟩
  ·obtain⟨e2,e3,e4,dp⟩:=o5.at_ ho hdep
   have U2:=(kp 2 (by decide)).trans u2
   exact wVa (v:=.pointer (some ⟨kb,10,none⟩)) (w':=w) ho e4 (by simp[execOp,e3,ev,evc,U2,x5 w]) (by rw[e2];exact go rfl bR hw rfl)
  ·obtain⟨e2,e3,e4,dp⟩:=o6.at_ ho hdep
   have V5:tm a 45=_:=hI.vl dp 5 45 rfl rfl
   exact wVa (v:=.slice ta tn tc) (w':=w) ho e4 (by simp[execOp,e3,ev,evc,V5,x6 w hw]) (by rw[e2];exact go rfl bR hw rfl)
  ·obtain⟨e2,e3,e4,dp⟩:=o7.at_ ho hdep
   obtain⟨b4,V4,f4⟩:=hI.vl dp 4 44 rfl rfl
   have V6:tm a 46=_:=hI.vl dp 6 46 rfl rfl
   obtain⟨ca,cc,W6,r6,hb6,hs6,f6⟩:=x7 w o.type b4 hw f4
   exact wVa (v:=.slice ca tn cc) (w':=W6) ho e4 (by simp only[execOp,e3,resolve,invoke,builtin,Sem.run_bind,Sem.run_pure,Result.andThen_ok,List.map_toArray,List.map_cons,List.map_nil,ev,V4,V6,r6]) (by rw[e2];exact go rfl hb6 hs6 ⟨ca,cc,rfl,f6⟩)
  ·obtain⟨e2,e3,e4,dp⟩:=o8.at_ ho hdep
   obtain⟨Eq1,Lq1,Nq1,Oq1,Yq1,Uq1,Dq1,V1,f1⟩:=hI.vl dp 1 41 rfl rfl
   obtain⟨Laq3,Yaq3,V3,f3⟩:=hI.vl dp 3 43 rfl rfl
   obtain⟨ca7,cc7,V7,f7⟩:=hI.vl dp 7 47 rfl rfl
   refine wCa (f:=21) (args:=#[.agg (M.mc Eq1 Lq1 Nq1 Oq1),.agg (M.rc Laq3),.slice ca7 tn cc7]) ho e4 (by simp[execOp,e3,resolve,invoke,Deferred.ofValue,r21,ev,evf,evc,V1,V3,V7]) ((x8 w Eq1 Lq1 Nq1 Oq1 Yq1 Uq1 Dq1 Laq3 Yaq3 ca7 cc7 hw f1 f3 f7).mono ?_)
   rintro e W' ⟨⟨a6,c6,b6,d6,rfl,fa6,fb6⟩,hb6,hs6⟩
   refine⟨_,rfl,?_⟩
   rw[e2]
   exact go rfl hb6 hs6 ⟨a6,c6,b6,d6,rfl,fa6,fb6⟩
  ·obtain⟨e2,e3,e4,dp⟩:=o9.at_ ho hdep
   obtain⟨a8,c8,b8,d8,V8,fa8,fb8⟩:=hI.vl dp 8 48 rfl rfl
   exact wVa (v:=.tuple #[.slice a8 nn c8,.slice b8 nn d8,I4 ee]) (w':=w) ho e4 (by simp[execOp,e3,ev,evc,V8]) (by rw[e2];exact go rfl bR hw ⟨a8,c8,b8,d8,rfl,fa8,fb8⟩)
  ·obtain⟨e2,e3,e4,dp⟩:=o10.at_ ho hdep
   obtain⟨a9,c9,b9,d9,V9,fa9,fb9⟩:=hI.vl dp 9 39 rfl rfl
   exact wVa (v:=.slice a9 nn c9) (w':=w) ho e4 (by simp[execOp,e3,ev,evc,V9,Instr.extract]) (by rw[e2];exact go rfl bR hw ⟨a9,c9,rfl,fa9⟩)
  ·obtain⟨e2,e3,e4,dp⟩:=o11.at_ ho hdep
   obtain⟨a9,c9,b9,d9,V9,fa9,fb9⟩:=hI.vl dp 9 39 rfl rfl
   exact wVa (v:=.slice b9 nn d9) (w':=w) ho e4 (by simp[execOp,e3,ev,evc,V9,Instr.extract]) (by rw[e2];exact go rfl bR hw ⟨b9,d9,rfl,fb9⟩)
  ·obtain⟨e2,e3,e4,dp⟩:=o12.at_ ho hdep
   obtain⟨a9,c9,b9,d9,V9,fa9,fb9⟩:=hI.vl dp 9 39 rfl rfl
   exact wVa (v:=I4 ee) (w':=w) ho e4 (by simp[execOp,e3,ev,evc,V9,Instr.extract]) (by rw[e2];exact go rfl bR hw rfl)
  ·obtain⟨e2,e3,e4,dp⟩:=o13.at_ ho hdep
   obtain⟨a10,c10,V10,f10⟩:=hI.vl dp 10 49 rfl rfl
   exact wVa (v:=.slice a10 nn c10) (w':=w) ho e4 (by simp[execOp,e3,ev,evc,V10]) (by rw[e2];exact go rfl bR hw ⟨a10,c10,rfl,f10⟩)
  ·obtain⟨e2,e3,e4,dp⟩:=o14.at_ ho hdep
   obtain⟨a11,c11,V11,f11⟩:=hI.vl dp 11 50 rfl rfl
   exact wVa (v:=.slice a11 nn c11) (w':=w) ho e4 (by simp[execOp,e3,ev,evc,V11]) (by rw[e2];exact go rfl bR hw ⟨a11,c11,rfl,f11⟩)
  ·obtain⟨e2,e3,e4,dp⟩:=o15.at_ ho hdep
   have V12:tm a 51=_:=hI.vl dp 12 51 rfl rfl
   exact wVa (v:=I4 ee) (w':=w) ho e4 (by simp[execOp,e3,ev,evc,V12]) (by rw[e2];exact go rfl bR hw rfl)
 ·intro l a w hall hI
  have all:∀ j,j<16→l j=true:=fun j hj=>hall j (by rw[hsz];exact hj)
  exact fin a w hI.size hI.defers hI.kept hI.world.1 (fun i d hi hD=>hI.val i d hi hD (all i hi))
end Go.Proofs.YthliomlmhfjhnaaGreat

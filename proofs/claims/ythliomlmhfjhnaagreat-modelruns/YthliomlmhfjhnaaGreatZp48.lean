/- Texts put together. -/
import Derived.Test.YthliomlmhfjhnaaGreatZp46
import Derived.Test.YthliomlmhfjhnaaGreatZp47
namespace Go.Proofs.YthliomlmhfjhnaaGreat
set_option maxRecDepth 20000
set_option maxHeartbeats 16000000
open Go.ChangeShapes Go.WideShapes Go.ChangeAt Go.RowKit
set_option linter.unusedVariables false
set_option linter.unusedSimpArgs false
theorem QeR (M:Md)(E L N O:SL)(Y U D:Nat→Nat→SL)(La:SL)(Ya:Nat→Nat→SL)(F:Qaq M)(ok:okB M.d M.h M.l M.v M.u M.x M.t M.n=true)(hok:M.r≠0→∃ R,QcX M R)(p:Int)(hp:0≤p∧p<24)(tok:Nat)(ht:(tok:Int)<M.v)(w:World)(hM:Qad w E L N O Y U D M.m)(hA:AdAt w La Ya M.a)
  (pa:Option Addr) (n pc:Nat) (A:Nat→Option Addr) (C:Nat→Nat) (P:Nat→List Int) (hP:Grid w pa n A C P) (hC:∀ r,r<n→(P r).length≤C r) (hcn:(n:Int)=p-seeZ p M.n) (hW:∀ r,r<n→(P r).length=2*M.m.ln*M.D) :
  Calls Tryz.prog 30 #[.agg #[I4 M.d,I4 M.h,I4 M.l,I4 M.v,I4 M.u,I4 M.x,I4 M.t,I4 M.n,.slice E.a E.n E.c,.slice L.a L.n L.c,.slice N.a N.n N.c,.slice O.a O.n O.c],.agg #[I4 M.r,I4 M.s,.slice La.a La.n La.c],.slice pa n pc,I4 p,I4 tok] w fun e w'=>(∃ a c b k,e=.returned (.tuple #[.slice a (2*M.m.ln*M.D) c,.slice b M.D k])∧Reads .i64 w' a (2*M.m.ln*M.D) (rowL M p P n tok)∧2*M.m.ln*M.D≤c∧Reads .i64 w' b M.D (outL M p P n tok)∧(∀ x,a=some x→w.heap.size≤x.block)∧∀ x,b=some x→w.heap.size≤x.block)∧Bw w w':=by
 obtain⟨x0,hx0⟩:=hM.some_ (by have:=F.l0;omega)
 have:=Qkk M E L N O Y U D La Ya x0 F ok hok p hp tok ht w hM hA hx0 pa n pc A C P hP hC hcn hW
 rw[hx0,hM.len]
 exact this
theorem Qi5 (M:Md)(E L N O:SL)(La:SL)(w:World)(pa:Option Addr)(n pc:Nat)(p tok:Int)(h:¬(0≤p∧p<24)∨¬(0≤tok∧tok<M.v)) :
  Calls Tryz.prog 30 #[M.ag E L N O,M.ad La,.slice pa n pc,I4 p,I4 tok] w fun e w'=>e=.panicked [{ v:=.iface 35 (I4 20),recovered:=false }]∧Bw w w':=by
 by_cases h1:p<0
 ·exact Qhy M E L N O La w pa n pc p tok h1
 ·by_cases h2:24≤p
  ·exact Qhx M E L N O La w pa n pc p tok h2
  ·by_cases h3:tok<0
   ·exact Qhw M E L N O La w pa n pc p tok ⟨by omega,by omega⟩ h3
   ·exact Qhv M E L N O La w pa n pc p tok ⟨by omega,by omega⟩ ⟨by omega,by omega⟩
theorem Qcz {w:World}{a:Option Addr}{k c:Nat}{A:Nat→Option Addr}{C:Nat→Nat}{R:Nat→List Int}(G:Grid w a k A C R)(hc:k≤c)(hn:a=none→c=0)(s:Nat)(hs:s≤k)(hm:c≤maxLen) :
  ∃ q,(∀ W,(Instr.sliceAt 31 (.slice a k c) (some (I4 (s:Int))) none none).run Tryz.prog W=.ok (.slice q (k-s) (c-s)) W)∧Grid w q (k-s) (fun r=>A (s+r)) (fun r=>C (s+r)) (fun r=>R (s+r)):=by
 unfold maxLen at hm
 have h3:(s:Int)≤(k:Int):=by omega
 have h4:(k:Int)≤(c:Int):=by omega
 cases a with
 | none =>
  obtain rfl:c=0:=hn rfl
  obtain rfl:k=0:=by omega
  obtain rfl:s=0:=by omega
  exact⟨none,fun W=>by go_simp,Grid.none_ _ _ _ _ _⟩
 | some x =>
  by_cases e:c=s
  ·obtain rfl:k=c:=by omega
   subst e
   exact⟨some x,fun W=>by go_simp,by rw[Nat.sub_self];exact Grid.none_ _ _ _ _ _⟩
  ·exact⟨some (x.add s),fun W=>by go_simp,G.cut s (k-s) (by omega)⟩
theorem Blk.own_kept {t e:TypeId}{w w':World}{b B n:Nat}{cs:Array Value}{v:Value}{xs:List Value}(q:Blk t w b cs)(ho:w.ownsRow B e 1 v n xs)(hte:t≠e)(hg:w.grownBy w' v.ownBlock):Blk t w' b cs:=by
 refine (hg.block b q.lt (fun h=>?_)).trans q
 rcases ho.2 with⟨rfl,_⟩|⟨g,cap,cur,rfl,_,hg',_⟩
 ·cases h
 ·have eb:b=g:=Option.some.inj h
  subst eb
  have:=Option.some.inj ((show w.heap[b]? = _ from q).symm.trans hg')
  simp only[Obj.cells.injEq] at this
  exact hte this.2.1
theorem Qct {w:World}{v v':Value}{n:Nat}(hs:Qe6 w v v')(h1:∀ g,v.ownBlock=some g→n≠g)(h2:n<w.heap.size):∀ g,v'.ownBlock=some g→n≠g:=fun g hg=>by
 rcases hs with e|e
 ·exact h1 g (e ▸ hg)
 ·have:=e g hg
  omega
theorem Qb3 {w:World}{B:Nat}{e:TypeId}{a:Option Addr}{n c:Nat}{cs:List Value}(h:w.ownsRow B e 1 (.slice a n c) n cs):a=none→c=0:=fun ha=>by
 rcases h.2 with⟨h,_⟩|⟨g,cap,cur,h,_⟩
 ·simp only[Value.slice.injEq] at h
  exact h.2.2
 ·simp only[Value.slice.injEq] at h
  rw[ha] at h
  cases h.1
theorem QdB {w:World}{B:Nat}{e:TypeId}{a:Option Addr}{n c:Nat}{cs:List Value}(h:w.ownsRow B e 1 (.slice a n c) n cs):c≤maxLen:=by
 rcases h.2 with⟨h,_⟩|⟨g,cap,cur,h,_,_,_,hm,_⟩
 ·simp only[Value.slice.injEq] at h
  rw[h.2.2]
  exact Nat.zero_le _
 ·simp only[Value.slice.injEq] at h
  rw[h.2.2]
  exact hm
theorem Qcx {k:IntKind}{w:World}{a:Option Addr}{n:Nat}{zs:List Int}(h:Reads k w a n zs){x:Addr}(hx:a=some x)(hn:0<n):x.block<w.heap.size:=by
 have:=World.block_lt_of_cell? w _ (h.cell x hx 0 hn)
 simpa [Addr.add] using this
theorem Qm2 (M:Md)(E L N O:SL)(Y U D:Nat→Nat→SL)(La:SL)(Ya:Nat→Nat→SL)(F:Qaq M)(ok:okB M.d M.h M.l M.v M.u M.x M.t M.n=true)(hok:M.r≠0→∃ R,QcX M R)(w:World)(hM:Qad w E L N O Y U D M.m)(hA:AdAt w La Ya M.a)(ta:Option Addr)(n tc:Nat)(ts:List Int)(ht:Reads .i64 w ta n ts)(hB:runB M ts n=true) :
  Calls Tryz.prog 44 #[M.ag E L N O,M.ad La,.slice ta n tc] w fun e w'=>(∃ u k u2 k2 A A2 C C2,e=.returned (.tuple #[.slice u n k,.slice u2 n k2])∧TwoG w.heap.size w' (.slice u n k) (.slice u2 n k2) n n A A2 C C2 (rowF M (tokF ts)) (outF M (tokF ts))∧(∀ r,r<n→(rowF M (tokF ts) r).length≤C r))∧Bw w w':=by
 obtain⟨hn24,htk⟩:=QiJ hB
 obtain⟨j0,hj,hy0,hy1,hy2⟩:=info_parts Qcl
 have d0:=F.d0
 have d1:=F.d1
 have hD0:0<M.D:=by omega
 have hb0:=bNw (bNw (bS w) (.cells (M.mc E L N O) 27)) (.cells (M.rc La) 30)
 have q1:Blk 27 ((w.alloc (.cells (M.mc E L N O) 27)).alloc (.cells (M.rc La) 30)) w.heap.size (M.mc E L N O):=(Blk.new 27 w _).kept (bNw bR _)
 have q2:Blk 30 ((w.alloc (.cells (M.mc E L N O) 27)).alloc (.cells (M.rc La) 30)) (w.heap.size+1) (M.rc La):=Blk.new_at 30 (w.alloc _) _ _ (by simp)
 go_enter Tryz.func44,Tryz.ntmps44
 go_wp2
 go_loopw [8,9,17] (fun vr vo i wr=>∃ k:Nat,k≤n∧i=I4 k∧Bw w wr∧Blk 27 wr w.heap.size (M.mc E L N O)∧Blk 30 wr (w.heap.size+1) (M.rc La)∧∃ A A2 C C2,TwoG w.heap.size wr vr vo k k A A2 C C2 (rowF M (tokF ts)) (outF M (tokF ts))∧(∀ r,r<k→(rowF M (tokF ts) r).length≤C r)) (fun _ _ i _=>n-(intOf i).toNat)
 case atStart=>exact⟨0,Nat.zero_le _,rfl,hb0,q1,q2,(fun _=>none),(fun _=>none),(fun _=>0),(fun _=>0),TwoG.none_ _ _ _ _ _ _ _ _,fun r hr=>by omega⟩
 case round =>
  clear hb0 q1 q2
  obtain⟨k,hk,rfl,hbr,qm,qa,A,A2,C,C2,tg,hcap⟩:=hrel
  by_cases hlt:k<n
  ·have Q1:=hdn qm
   have Q2:=hdn qa
   obtain⟨c0,c1,c2,c3,c4,c5,c6,c7,c8,c9,c10,c11⟩:=qm.c12
   obtain⟨s0,s1,s2⟩:=qa.c3
   obtain⟨ra,rc,rfl,rG⟩:=tg.g1.grid
   have rcap:=QaL tg.g1.own
   have rnil:=Qb3 tg.g1.own
   have rmax:=QdB tg.g1.own
   have sle:=Qfh M k
   have sint:=Qdr M k
   obtain⟨sq,hsl,sG⟩:=Qcz rG rcap rnil (saw M k) sle rmax
   obtain⟨x,rfl⟩:=ht.some_ (by omega)
   have cx:=(ht.below hbr).cell x rfl k (by omega)
   have HT:=hdn tg
   have n0:=F.n0
   have n1:=F.n1
   have tk:=htk k hlt
   have etok:ts.getD k 0=((tokF ts k:Nat):Int):=by unfold tokF;omega
   rw[etok] at cx
   have kst:=QeR M E L N O Y U D La Ya F ok hok (k:Int) ⟨by omega,by omega⟩ (tokF ts k) (by rw[←etok];exact tk.2) wr (hM.below hbr) (hA.below hbr) sq (k-saw M k) (rc-saw M k) _ _ _ sG (fun r hr=>hcap (saw M k+r) (by omega)) (by rw[sint];omega) (fun r hr=>QaK F (tokF ts) _)
   have erow:rowL M (k:Int) (fun r=>rowF M (tokF ts) (saw M k+r)) (k-saw M k) (tokF ts k)=rowF M (tokF ts) k:=(QeA M (tokF ts) k).symm
   have eout:outL M (k:Int) (fun r=>rowF M (tokF ts) (saw M k+r)) (k-saw M k) (tokF ts k)=outF M (tokF ts) k:=(QeM M (tokF ts) k).symm
   rw[erow,eout] at kst
   have lrow:=QaK F (tokF ts) k
   have lout:=Qb4 M (tokF ts) k
   obtain⟨wd,ewd⟩:∃ wd,2*M.m.ln*M.D=wd:=⟨_,rfl⟩
   rw[ewd] at kst lrow
   have kvis:=fun W=>QbF (k:Int) M.n (Qae (by omega) (by omega)) (Qae (by omega) (by omega)) W
   rw[sint] at kvis
   obtain⟨tkk,etk⟩:∃ tkk,tokF ts k=tkk:=⟨_,rfl⟩
   rw[etk] at kst cx
   obtain⟨sk,esk⟩:∃ sk,saw M k=sk:=⟨_,rfl⟩
   rw[esk] at kst kvis hsl sle
   have s0':(0:Int)≤(sk:Int):=by omega
   clear tk etok etk esk sG rG erow eout sint qm qa tg ewd rnil rmax
   go_wp2_with (first
    | (go_at_call 58;refine (kvis _).mono ?_;rintro e w' ⟨rfl,hq⟩;obtain rfl:=hq.symm;clear hq kvis)
    | (go_at_call 30;refine kst.mono ?_;rintro e W1 ⟨⟨ra1,rc1,oa1,oc1,rfl,rr1,rl1,ro1,fr1,fo1⟩,h1⟩;clear kst;have hb1:=bTn hbr h1;have t1:=HT.out.below h1;have Q1':=hdn (Q1.out.kept h1);have Q2':=hdn (Q2.out.kept h1);have fl1:∀ h,(Value.slice ra k rc).ownBlock=some h→h<wr.heap.size:=fun h hh=>(HT.out.g1.own.lt h hh).2;have fl2:∀ h,u9.ownBlock=some h→h<wr.heap.size:=fun h hh=>(HT.out.g2.own.lt h hh).2;have s1':=h1.size;clear Q1 Q2 h1 HT c0 c1 c2 c3 c4 c5 c6 c7 c8 c9 c10 c11 s0 s1 s2 cx hsl)
    | (at_builtin;refine Qaa rfl (.tmp 38) (.tmp 40) 31 rfl w.heap.size 34 j0 (.slice none 0 0) 24 Tryz.underlying31 hj hy0 hy1 hy2 rfl _ k _ rfl (t1.g1.own.alloc _) ⟨_,0,none⟩ 1 (.slice ra1 wd rc1) rfl (Qai _ _ _) (QaC _ _ _) (by unfold maxLen;omega) (by omega) (bNw hb1 _).size ?_;intro v2 W2 ho2 hg2 hs2;have bn:=bNw (Below.refl W1.heap.size W1) (.cells #[.slice ra1 wd rc1] 34);have t2:=(t1.below bn).app lrow (rr1.below bn) (fun x hx g hg e=>by have:=fr1 x hx;have:=fl1 g hg;omega) (fun x hx g hg e=>by have:=fr1 x hx;have:=fl2 g hg;omega) ho2 hg2 hs2;have hb2:=below_append (bNw hb1 _) (t1.g1.own.alloc _) hg2;have Q1:=hdn ((Q1'.out.kept bn).own_kept (t1.g1.own.alloc _) (by decide) hg2);have Q2:=hdn ((Q2'.out.kept bn).own_kept (t1.g1.own.alloc _) (by decide) hg2);have ro2:=(ro1.below bn).grown hg2 (fun _ x hx g hg e=>by have:=fo1 x hx;have:=fl1 g hg;omega);have fo2:∀ x,oa1=some x→x.block<(W1.alloc (.cells #[.slice ra1 wd rc1] 34)).heap.size:=fun x hx=>Qcx (ro1.below bn) hx hD0;have fv2:∀ x,oa1=some x→∀ g,v2.ownBlock=some g→x.block≠g:=fun x hx g hg=>Qct hs2 (fun q hq e=>by have:=fo1 x hx;have:=fl1 q hq;omega) (fo2 x hx) g hg;clear ho2 hg2 hs2 Q1' Q2' t1 bn rr1 ro1 hb1 fo2)
    | (at_builtin;refine Qaa rfl (.tmp 42) (.tmp 44) 31 rfl w.heap.size 34 j0 (.slice none 0 0) 24 Tryz.underlying31 hj hy0 hy1 hy2 rfl _ k _ rfl (t2.g2.own.alloc _) ⟨_,0,none⟩ 1 (.slice oa1 M.D oc1) rfl (Qai _ _ _) (QaC _ _ _) (by unfold maxLen;omega) (by omega) (bNw hb2 _).size ?_;intro v3 W3 ho3 hg3 hs3;have bn:=bNw (Below.refl W2.heap.size W2) (.cells #[.slice oa1 M.D oc1] 34);have t3:=((t2.below bn).swap.app lout (ro2.below bn) (fun x hx g hg e=>by have:=fo1 x hx;have:=fl2 g hg;omega) (fun x hx g hg=>fv2 x hx g hg) ho3 hg3 hs3).swap;have hb3:=below_append (bNw hb2 _) (t2.g2.own.alloc _) hg3;have Q1':=hdn ((Q1.out.kept bn).own_kept (t2.g2.own.alloc _) (by decide) hg3);have Q2':=hdn ((Q2.out.kept bn).own_kept (t2.g2.own.alloc _) (by decide) hg3);have R3:=hdn t3;clear ho3 hg3 hs3 Q1 Q2 t2 bn ro2 hb2 t3))
   go_roundw
   case rel =>
    refine⟨k+1,by omega,by go_num,hb3,Q1'.out,Q2'.out,_,_,_,_,R3.out,fun r hr=>?_⟩
    by_cases e:r=k
    ·subst e
     simp only[if_true]
     rw[lrow]
     exact rl1
    ·simp only[if_neg e]
     exact hcap r (by omega)
   case measure=>simp[intOf];omega
  ·have e:k=n:=by omega
   subst e
   obtain⟨ra,rc,rfl,-⟩:=tg.g1.grid
   obtain⟨oa,oc,rfl,-⟩:=tg.g2.grid
   have HT:=hdn tg
   clear tg qm qa
   go_wp2
   refine bodyPost_ret (v:=.tuple #[.slice ra k rc,.slice oa k oc]) ?_ rfl ⟨⟨_,_,_,_,_,_,_,_,rfl,HT.out,hcap⟩,hbr⟩
   simp[results,Tryz.results44,go_sem]
theorem QnU (M:Md)(E L N O:SL)(Y U D:Nat→Nat→SL)(La:SL)(Ya:Nat→Nat→SL)(F:Qaq M)(ok:okB M.d M.h M.l M.v M.u M.x M.t M.n=true)(hok:M.r≠0→∃ R,QcX M R)(w:World)(hM:Qad w E L N O Y U D M.m)(hA:AdAt w La Ya M.a)(ta:Option Addr)(n tc:Nat)(ts:List Int)(ht:Reads .i64 w ta n ts)(hB:runB M ts n=false) :
  Calls Tryz.prog 44 #[M.ag E L N O,M.ad La,.slice ta n tc] w fun e w'=>e=.panicked [{ v:=.iface 35 (I4 20),recovered:=false }]∧Bw w w':=by
 obtain⟨J,hJn,hJ24,htk,hbad⟩:=QkD hB
 obtain⟨j0,hj,hy0,hy1,hy2⟩:=info_parts Qcl
 have d0:=F.d0
 have d1:=F.d1
 have hD0:0<M.D:=by omega
 have hb0:=bNw (bNw (bS w) (.cells (M.mc E L N O) 27)) (.cells (M.rc La) 30)
 have q1:Blk 27 ((w.alloc (.cells (M.mc E L N O) 27)).alloc (.cells (M.rc La) 30)) w.heap.size (M.mc E L N O):=(Blk.new 27 w _).kept (bNw bR _)
 have q2:Blk 30 ((w.alloc (.cells (M.mc E L N O) 27)).alloc (.cells (M.rc La) 30)) (w.heap.size+1) (M.rc La):=Blk.new_at 30 (w.alloc _) _ _ (by simp)
 go_enter Tryz.func44,Tryz.ntmps44
 go_wp2
 go_loopw [8,9,17] (fun vr vo i wr=>∃ k:Nat,k≤J∧i=I4 k∧Bw w wr∧Blk 27 wr w.heap.size (M.mc E L N O)∧Blk 30 wr (w.heap.size+1) (M.rc La)∧∃ A A2 C C2,TwoG w.heap.size wr vr vo k k A A2 C C2 (rowF M (tokF ts)) (outF M (tokF ts))∧(∀ r,r<k→(rowF M (tokF ts) r).length≤C r)) (fun _ _ i _=>J-(intOf i).toNat)
 case atStart=>exact⟨0,Nat.zero_le _,rfl,hb0,q1,q2,(fun _=>none),(fun _=>none),(fun _=>0),(fun _=>0),TwoG.none_ _ _ _ _ _ _ _ _,fun r hr=>by omega⟩
 case round =>
  clear hb0 q1 q2
  obtain⟨k,hk,rfl,hbr,qm,qa,A,A2,C,C2,tg,hcap⟩:=hrel
  by_cases hlt:k<J
  ·have Q1:=hdn qm
   have Q2:=hdn qa
   obtain⟨c0,c1,c2,c3,c4,c5,c6,c7,c8,c9,c10,c11⟩:=qm.c12
   obtain⟨s0,s1,s2⟩:=qa.c3
   obtain⟨ra,rc,rfl,rG⟩:=tg.g1.grid
   have rcap:=QaL tg.g1.own
   have rnil:=Qb3 tg.g1.own
   have rmax:=QdB tg.g1.own
   have sle:=Qfh M k
   have sint:=Qdr M k
   obtain⟨sq,hsl,sG⟩:=Qcz rG rcap rnil (saw M k) sle rmax
   obtain⟨x,rfl⟩:=ht.some_ (by omega)
   have cx:=(ht.below hbr).cell x rfl k (by omega)
   have HT:=hdn tg
   have n0:=F.n0
   have n1:=F.n1
   have tk:=htk k hlt
   have etok:ts.getD k 0=((tokF ts k:Nat):Int):=by unfold tokF;omega
   rw[etok] at cx
   have kst:=QeR M E L N O Y U D La Ya F ok hok (k:Int) ⟨by omega,by omega⟩ (tokF ts k) (by rw[←etok];exact tk.2) wr (hM.below hbr) (hA.below hbr) sq (k-saw M k) (rc-saw M k) _ _ _ sG (fun r hr=>hcap (saw M k+r) (by omega)) (by rw[sint];omega) (fun r hr=>QaK F (tokF ts) _)
   have erow:rowL M (k:Int) (fun r=>rowF M (tokF ts) (saw M k+r)) (k-saw M k) (tokF ts k)=rowF M (tokF ts) k:=(QeA M (tokF ts) k).symm
   have eout:outL M (k:Int) (fun r=>rowF M (tokF ts) (saw M k+r)) (k-saw M k) (tokF ts k)=outF M (tokF ts) k:=(QeM M (tokF ts) k).symm
   rw[erow,eout] at kst
   have lrow:=QaK F (tokF ts) k
   have lout:=Qb4 M (tokF ts) k
   obtain⟨wd,ewd⟩:∃ wd,2*M.m.ln*M.D=wd:=⟨_,rfl⟩
   rw[ewd] at kst lrow
   have kvis:=fun W=>QbF (k:Int) M.n (Qae (by omega) (by omega)) (Qae (by omega) (by omega)) W
   rw[sint] at kvis
   obtain⟨tkk,etk⟩:∃ tkk,tokF ts k=tkk:=⟨_,rfl⟩
   rw[etk] at kst cx
   obtain⟨sk,esk⟩:∃ sk,saw M k=sk:=⟨_,rfl⟩
   rw[esk] at kst kvis hsl sle
   have s0':(0:Int)≤(sk:Int):=by omega
   clear tk etok etk esk sG rG erow eout sint qm qa tg ewd rnil rmax
   go_wp2_with (first
    | (go_at_call 58;refine (kvis _).mono ?_;rintro e w' ⟨rfl,hq⟩;obtain rfl:=hq.symm;clear hq kvis)
    | (go_at_call 30;refine kst.mono ?_;rintro e W1 ⟨⟨ra1,rc1,oa1,oc1,rfl,rr1,rl1,ro1,fr1,fo1⟩,h1⟩;clear kst;have hb1:=bTn hbr h1;have t1:=HT.out.below h1;have Q1':=hdn (Q1.out.kept h1);have Q2':=hdn (Q2.out.kept h1);have fl1:∀ h,(Value.slice ra k rc).ownBlock=some h→h<wr.heap.size:=fun h hh=>(HT.out.g1.own.lt h hh).2;have fl2:∀ h,u9.ownBlock=some h→h<wr.heap.size:=fun h hh=>(HT.out.g2.own.lt h hh).2;have s1':=h1.size;clear Q1 Q2 h1 HT c0 c1 c2 c3 c4 c5 c6 c7 c8 c9 c10 c11 s0 s1 s2 cx hsl)
    | (at_builtin;refine Qaa rfl (.tmp 38) (.tmp 40) 31 rfl w.heap.size 34 j0 (.slice none 0 0) 24 Tryz.underlying31 hj hy0 hy1 hy2 rfl _ k _ rfl (t1.g1.own.alloc _) ⟨_,0,none⟩ 1 (.slice ra1 wd rc1) rfl (Qai _ _ _) (QaC _ _ _) (by unfold maxLen;omega) (by omega) (bNw hb1 _).size ?_;intro v2 W2 ho2 hg2 hs2;have bn:=bNw (Below.refl W1.heap.size W1) (.cells #[.slice ra1 wd rc1] 34);have t2:=(t1.below bn).app lrow (rr1.below bn) (fun x hx g hg e=>by have:=fr1 x hx;have:=fl1 g hg;omega) (fun x hx g hg e=>by have:=fr1 x hx;have:=fl2 g hg;omega) ho2 hg2 hs2;have hb2:=below_append (bNw hb1 _) (t1.g1.own.alloc _) hg2;have Q1:=hdn ((Q1'.out.kept bn).own_kept (t1.g1.own.alloc _) (by decide) hg2);have Q2:=hdn ((Q2'.out.kept bn).own_kept (t1.g1.own.alloc _) (by decide) hg2);have ro2:=(ro1.below bn).grown hg2 (fun _ x hx g hg e=>by have:=fo1 x hx;have:=fl1 g hg;omega);have fo2:∀ x,oa1=some x→x.block<(W1.alloc (.cells #[.slice ra1 wd rc1] 34)).heap.size:=fun x hx=>Qcx (ro1.below bn) hx hD0;have fv2:∀ x,oa1=some x→∀ g,v2.ownBlock=some g→x.block≠g:=fun x hx g hg=>Qct hs2 (fun q hq e=>by have:=fo1 x hx;have:=fl1 q hq;omega) (fo2 x hx) g hg;clear ho2 hg2 hs2 Q1' Q2' t1 bn rr1 ro1 hb1 fo2)
    | (at_builtin;refine Qaa rfl (.tmp 42) (.tmp 44) 31 rfl w.heap.size 34 j0 (.slice none 0 0) 24 Tryz.underlying31 hj hy0 hy1 hy2 rfl _ k _ rfl (t2.g2.own.alloc _) ⟨_,0,none⟩ 1 (.slice oa1 M.D oc1) rfl (Qai _ _ _) (QaC _ _ _) (by unfold maxLen;omega) (by omega) (bNw hb2 _).size ?_;intro v3 W3 ho3 hg3 hs3;have bn:=bNw (Below.refl W2.heap.size W2) (.cells #[.slice oa1 M.D oc1] 34);have t3:=((t2.below bn).swap.app lout (ro2.below bn) (fun x hx g hg e=>by have:=fo1 x hx;have:=fl2 g hg;omega) (fun x hx g hg=>fv2 x hx g hg) ho3 hg3 hs3).swap;have hb3:=below_append (bNw hb2 _) (t2.g2.own.alloc _) hg3;have Q1':=hdn ((Q1.out.kept bn).own_kept (t2.g2.own.alloc _) (by decide) hg3);have Q2':=hdn ((Q2.out.kept bn).own_kept (t2.g2.own.alloc _) (by decide) hg3);have R3:=hdn t3;clear ho3 hg3 hs3 Q1 Q2 t2 bn ro2 hb2 t3))
   go_roundw
   case rel =>
    refine⟨k+1,by omega,by go_num,hb3,Q1'.out,Q2'.out,_,_,_,_,R3.out,fun r hr=>?_⟩
    by_cases e:r=k
    ·subst e
     simp only[if_true]
     rw[lrow]
     exact rl1
    ·simp only[if_neg e]
     exact hcap r (by omega)
   case measure=>simp[intOf];omega
  ·have e:k=J:=by omega
   subst e
   have Q1:=hdn qm
   have Q2:=hdn qa
   obtain⟨c0,c1,c2,c3,c4,c5,c6,c7,c8,c9,c10,c11⟩:=qm.c12
   obtain⟨s0,s1,s2⟩:=qa.c3
   obtain⟨ra,rc,rfl,rG⟩:=tg.g1.grid
   have rcap:=QaL tg.g1.own
   have rnil:=Qb3 tg.g1.own
   have rmax:=QdB tg.g1.own
   have sle:=Qfh M k
   have sint:=Qdr M k
   obtain⟨sq,hsl,sG⟩:=Qcz rG rcap rnil (saw M k) sle rmax
   obtain⟨x,rfl⟩:=ht.some_ (by omega)
   have cx:=(ht.below hbr).cell x rfl k (by omega)
   have HT:=hdn tg
   have n0:=F.n0
   have n1:=F.n1
   have kst:=Qi5 M E L N O La wr sq (k-saw M k) (rc-saw M k) (k:Int) (ts.getD k 0) (hbad.elim (fun e=>.inl (by omega)) .inr)
   have kvis:=fun W=>QbF (k:Int) M.n (Qae (by omega) (by omega)) (Qae (by omega) (by omega)) W
   rw[sint] at kvis
   obtain⟨tkk,etk⟩:∃ tkk,ts.getD k 0=tkk:=⟨_,rfl⟩
   rw[etk] at kst cx
   obtain⟨sk,esk⟩:∃ sk,saw M k=sk:=⟨_,rfl⟩
   rw[esk] at kst kvis hsl sle
   clear etk esk sG rG sint qm qa tg rnil rmax hbad
   go_wp2_with (first
    | (go_at_call 58;refine (kvis _).mono ?_;rintro e w' ⟨rfl,hq⟩;obtain rfl:=hq.symm;clear hq kvis)
    | (go_at_call 30;refine kst.mono ?_;rintro e W1 ⟨rfl,h1⟩;clear kst;have hb1:=bTn hbr h1))
   exact⟨rfl,rfl,hb1⟩
theorem rL7 {w:World}{b:Nat}{d h l v u x t n:Int}{a0 a1 a2 a3:Option Addr}{n0 n1 n2 n3 c0 c1 c2 c3:Nat}(q:Blk 27 w b #[I4 d,I4 h,I4 l,I4 v,I4 u,I4 x,I4 t,I4 n,.slice a0 n0 c0,.slice a1 n1 c1,.slice a2 n2 c2,.slice a3 n3 c3]):(Instr.loadAt 27 (Pt b)).run Tryz.prog w=.ok (.agg #[I4 d,I4 h,I4 l,I4 v,I4 u,I4 x,I4 t,I4 n,.slice a0 n0 c0,.slice a1 n1 c1,.slice a2 n2 c2,.slice a3 n3 c3]) w :=
 Qaj (E:=⟨a0,n0,c0⟩) (L:=⟨a1,n1,c1⟩) (N:=⟨a2,n2,c2⟩) (O:=⟨a3,n3,c3⟩) q
theorem Qh9 (M:Md)(E L N O:SL)(Y U D:Nat→Nat→SL)(La:SL)(Ya:Nat→Nat→SL)(x0:Addr)(F:Qaq M)(hE:badE M=0)(ok:okB M.d M.h M.l M.v M.u M.x M.t M.n=true)(hok:M.r≠0→∃ R,QcX M R)(p:Int)(hp:0≤p∧p<24)(tok:Nat)(ht:(tok:Int)<M.v)(w:World)(hM:Qad w E L N O Y U D M.m)(hA:AdAt w La Ya M.a)(hml:M.m.ln≤9223372036854775807)(hal:M.a.ln≤9223372036854775807)(hx0:L.a=some x0)
  (pa:Option Addr) (n pc:Nat) (A:Nat→Option Addr) (C:Nat→Nat) (P:Nat→List Int) (hP:Grid w pa n A C P) (hC:∀ r,r<n→(P r).length≤C r) (hcn:(n:Int)=p-seeZ p M.n) (hW:∀ r,r<n→(P r).length=2*M.m.ln*M.D) :
  Calls Tryz.prog 13 #[.agg #[I4 M.d,I4 M.h,I4 M.l,I4 M.v,I4 M.u,I4 M.x,I4 M.t,I4 M.n,.slice E.a E.n E.c,.slice (some x0) M.m.ln L.c,.slice N.a N.n N.c,.slice O.a O.n O.c],.agg #[I4 M.r,I4 M.s,.slice La.a La.n La.c],.slice pa n pc,I4 p,I4 tok] w fun e w'=>(∃ a c b k,e=.returned (.tuple #[.slice a (2*M.m.ln*M.D) c,.slice b M.D k,I4 0])∧Reads .i64 w' a (2*M.m.ln*M.D) (rowL M p P n tok)∧2*M.m.ln*M.D≤c∧Reads .i64 w' b M.D (outL M p P n tok)∧(∀ x,a=some x→w.heap.size≤x.block)∧∀ x,b=some x→w.heap.size≤x.block)∧Bw w w':=by
 obtain⟨i0,hi2,hz0,hz1,hz2⟩:=info_parts QaT
 have d0:=F.d0
 have d1:=F.d1
 have l0:=F.l0
 have l1:=F.l1
 have hD0:0<M.D:=by omega
 have wdb:=QiC F
 have ewd:=wOf F ok
 have sb:=Qfg hp ⟨F.n0,F.n1⟩
 have wp:(Lit.int .i64 p).wf=true:=Qae (by omega) (by omega)
 have wn:(Lit.int .i64 M.n).wf=true:=Qae (by have:=F.n0;omega) (by have:=F.n1;omega)
 have d1':decide (p<0)=false:=decide_eq_false (by omega)
 have d2':decide (24≤p)=false:=decide_eq_false (by omega)
 have d3':decide ((tok:Int)<0)=false:=decide_eq_false (by omega)
 have d4':decide (M.v≤(tok:Int))=false:=decide_eq_false (by omega)
 have hn24:n≤24:=by omega
 have hcn':p-seeZ p M.n=(n:Int):=hcn.symm
 have hb0:=bNw (bNw (bS w) (.cells #[I4 M.d,I4 M.h,I4 M.l,I4 M.v,I4 M.u,I4 M.x,I4 M.t,I4 M.n,.slice E.a E.n E.c,.slice (some x0) M.m.ln L.c,.slice N.a N.n N.c,.slice O.a O.n O.c] 27)) (.cells #[I4 M.r,I4 M.s,.slice La.a La.n La.c] 30)
 have q1:Blk 27 ((w.alloc (.cells #[I4 M.d,I4 M.h,I4 M.l,I4 M.v,I4 M.u,I4 M.x,I4 M.t,I4 M.n,.slice E.a E.n E.c,.slice (some x0) M.m.ln L.c,.slice N.a N.n N.c,.slice O.a O.n O.c] 27)).alloc (.cells #[I4 M.r,I4 M.s,.slice La.a La.n La.c] 30)) w.heap.size #[I4 M.d,I4 M.h,I4 M.l,I4 M.v,I4 M.u,I4 M.x,I4 M.t,I4 M.n,.slice E.a E.n E.c,.slice (some x0) M.m.ln L.c,.slice N.a N.n N.c,.slice O.a O.n O.c]:=(Blk.new 27 w _).kept (bNw bR _)
 have q2:Blk 30 ((w.alloc (.cells #[I4 M.d,I4 M.h,I4 M.l,I4 M.v,I4 M.u,I4 M.x,I4 M.t,I4 M.n,.slice E.a E.n E.c,.slice (some x0) M.m.ln L.c,.slice N.a N.n N.c,.slice O.a O.n O.c] 27)).alloc (.cells #[I4 M.r,I4 M.s,.slice La.a La.n La.c] 30)) (w.heap.size+1) #[I4 M.r,I4 M.s,.slice La.a La.n La.c]:=Blk.new_at 30 (w.alloc _) _ _ (by simp)
 have kE:Calls Tryz.prog 31 #[.agg #[I4 M.d,I4 M.h,I4 M.l,I4 M.v,I4 M.u,I4 M.x,I4 M.t,I4 M.n,.slice E.a E.n E.c,.slice (some x0) M.m.ln L.c,.slice N.a N.n N.c,.slice O.a O.n O.c],.agg #[I4 M.r,I4 M.s,.slice La.a La.n La.c]] ((w.alloc (.cells #[I4 M.d,I4 M.h,I4 M.l,I4 M.v,I4 M.u,I4 M.x,I4 M.t,I4 M.n,.slice E.a E.n E.c,.slice (some x0) M.m.ln L.c,.slice N.a N.n N.c,.slice O.a O.n O.c] 27)).alloc (.cells #[I4 M.r,I4 M.s,.slice La.a La.n La.c] 30)) fun e w'=>e=.returned (I4 (badE M))∧Below ((w.alloc (.cells #[I4 M.d,I4 M.h,I4 M.l,I4 M.v,I4 M.u,I4 M.x,I4 M.t,I4 M.n,.slice E.a E.n E.c,.slice (some x0) M.m.ln L.c,.slice N.a N.n N.c,.slice O.a O.n O.c] 27)).alloc (.cells #[I4 M.r,I4 M.s,.slice La.a La.n La.c] 30)).heap.size ((w.alloc (.cells #[I4 M.d,I4 M.h,I4 M.l,I4 M.v,I4 M.u,I4 M.x,I4 M.t,I4 M.n,.slice E.a E.n E.c,.slice (some x0) M.m.ln L.c,.slice N.a N.n N.c,.slice O.a O.n O.c] 27)).alloc (.cells #[I4 M.r,I4 M.s,.slice La.a La.n La.c] 30)) w':=by
  have:=QaD M E L N O Y U D La Ya ((w.alloc (.cells #[I4 M.d,I4 M.h,I4 M.l,I4 M.v,I4 M.u,I4 M.x,I4 M.t,I4 M.n,.slice E.a E.n E.c,.slice (some x0) M.m.ln L.c,.slice N.a N.n N.c,.slice O.a O.n O.c] 27)).alloc (.cells #[I4 M.r,I4 M.s,.slice La.a La.n La.c] 30)) (hM.below hb0) (hA.below hb0) hml hal
  unfold Md.ag SL.w at this
  rw[hx0,hM.len] at this
  exact this
 rw[hE] at kE
 have Hcn:=hdn hcn'
 obtain⟨V,hV⟩:∃ V:Nat,M.v=V:=⟨M.v.toNat,by have:=F.v0;omega⟩
 have elen':E.n=V*M.D:=by
  have h:=F.e
  rw[hM.e.reads.len,hV,←Int.natCast_mul] at h
  exact Int.ofNat.inj h
 have hpp:(tok+1)*M.D≤V*M.D:=Nat.mul_le_mul_right _ (by omega)
 rw[Nat.succ_mul] at hpp
 obtain⟨T,eT⟩:∃ T,tok*M.D=T:=⟨_,rfl⟩
 have ip:(tok:Int)*M.d=(T:Int):=by rw[F.eD,←eT,Int.natCast_mul]
 have hT:T≤128:=by
  have:V*M.D≤16*8:=Nat.mul_le_mul (by have:=F.v1;omega) d1
  omega
 have hin:∀ j,j<M.D→T+j<E.n:=fun j hj=>by omega
 obtain⟨ye,hye⟩:∃ y,E.a=some y:=hM.e.reads.some_ (by have:=hin 0 hD0;omega)
 have hEr:=hM.e.reads
 rw[hye] at hEr kE q1 hb0 q2 ⊢
 obtain⟨embF,hembF⟩:∃ f:Nat→Int,f=fun j=>M.m.e.getD (T+j) 0*1024:=⟨_,rfl⟩
 have cEmb:=fun (j:Nat) (hj:j<M.D)=>QmS M tok j hj
 rw[eT] at cEmb
 clear eT elen' hpp hV
 have kn:=fun (W:World) (hb:Bw w W) a c xs=>QkT F N _ F.nm W (hM.nm.below hb) a c xs
 have kly:∀ (W:World) (hb:Bw w W) (k:Nat) (hk:k<M.m.ln) (G:Nat→SL) (hG:M.r≠0→∀ j,j<4→IsS W (G j) (M.a.f k j)) (ax:Option Addr) (cx:Nat) (x:List Int) (hx:Reads .i64 W ax M.D x),Calls Tryz.prog 33 #[.agg #[I4 M.d,I4 M.h,I4 M.l,I4 M.v,I4 M.u,I4 M.x,I4 M.t,I4 M.n,.slice (some ye) E.n E.c,.slice (some x0) M.m.ln L.c,.slice N.a N.n N.c,.slice O.a O.n O.c],I4 k,.agg #[I4 M.r,I4 M.s,.slice La.a La.n La.c],.agg #[.slice (G 0).a (G 0).n (G 0).c,.slice (G 1).a (G 1).n (G 1).c,.slice (G 2).a (G 2).n (G 2).c,.slice (G 3).a (G 3).n (G 3).c],.slice pa n pc,I4 p,.slice ax M.D cx] W fun e w'=>(∃ a c b k',e=.returned (.tuple #[.slice a M.D c,.slice b (M.D+M.D) k'])∧Reads .i64 w' a M.D (wkL M k x (oL M p P n k x))∧Reads .i64 w' b (M.D+M.D) (kL M p k x++vL M k x)∧∀ x,a=some x→W.heap.size≤x.block)∧Bw W w':=fun W hb k hk G hG ax cx x hx=>by
  have:=Qg0 M E L N O Y U D La Ya G F hok k hk p ⟨hp.1,by omega⟩ W (hM.below hb) hG pa n pc A C P (hP.below hb) hC hW (by omega) ax cx x hx
  rw[hx0,hM.len,hye] at this
  exact this
 clear hE hcn
 go_enter Tryz.func13,Tryz.ntmps13
 go_wp2_with (first
  | (go_at_call 31;refine kE.mono ?_;rintro e W1 ⟨rfl,h1⟩;have hb1:=bTn hb0 h1;have Q1:=hdn (q1.kept h1);have Q2:=hdn (q2.kept h1);obtain⟨a0,a1,a2,a3,a4,a5,a6,a7,a8,a9,a10,a11⟩:=(q1.kept h1).c12;clear h1 hb0 q1 q2 kE)
  | (go_at_call 32;refine (Qa0 p M.n wp wn _).mono ?_;rintro e w' ⟨rfl,hq⟩;obtain rfl:=hq.symm;clear hq))
 go_loopw [15,16] (fun vb i wr=>∃ k:Nat,k≤n∧i=I4 k∧vb=.bool true∧Bw w wr∧Blk 27 wr w.heap.size #[I4 M.d,I4 M.h,I4 M.l,I4 M.v,I4 M.u,I4 M.x,I4 M.t,I4 M.n,.slice (some ye) E.n E.c,.slice (some x0) M.m.ln L.c,.slice N.a N.n N.c,.slice O.a O.n O.c]∧Blk 30 wr (w.heap.size+1) #[I4 M.r,I4 M.s,.slice La.a La.n La.c]∧Blk 23 wr W1.heap.size M.cc) (fun _ i _=>n-(intOf i).toNat)
 case atStart=>exact⟨0,Nat.zero_le _,rfl,rfl,bNw hb1 _,Q1.out.kept (bNw bR _),Q2.out.kept (bNw bR _),Blk.new 23 W1 _⟩
 case round =>
  clear hb1 Q1 Q2 a0 a1 a2 a3 a4 a5 a6 a7 a8 a9 a10 a11 d1' d2' d3' d4'
  obtain⟨k,hk,rfl,rfl,hbr,qm,qa_,qc⟩:=hrel
  by_cases hlt:k<n
  ·obtain⟨x,rfl⟩:=hP.some_ (by omega)
   have heq:((P k).length:Int)==Qc0 M.d M.h M.l M.v M.u M.x M.t M.n:=by rw[ewd,hW k hlt];simp
   have Q3:=hdn qc
   have Q1:=hdn qm
   have Q2:=hdn qa_
   clear qc qm qa_
   go_wp2
   refine Qi6 M W1.heap.size n pc k (P k).length (C k) x (A k) (Qc0 M.d M.h M.l M.v M.u M.x M.t M.n) true (fun W=>Bw wr W) (by kernel_rfl) rfl (by (repeat' apply And.intro)<;>exact⟨_,rfl,rfl,rfl,rfl,by kernel_rfl⟩) bR.drew (QcM x n pc k hlt) (fun W hb=>Qdt (((hP.below hbr).below hb).cell x rfl k hlt)) (fun W hb=>Qdv (Q3.out.kept hb)) (fun W hb=>(Ql6 M.d M.h M.l M.v M.u M.x M.t M.n W).mono fun e w' ⟨q1,q2⟩=>⟨q1,q2,bTn hb q2⟩) (fun W=>by rw[QbO,heq]) rfl rfl rfl (Nat.le_of_ble_eq_true rfl) ?_
   intro a W9 hs hd hkp hS9 hval
   have e15:a.tmps.getD 15 undef=.bool true:=hval 8 15 (by decide) rfl
   obtain⟨f,ef,ep⟩:=fPz [70,71,72,73,74,75,76,77,15] rfl hs hd hkp
   simp only[ef] at e15
   simp only[List.foldl,e15,Act.put,List.setIfInBounds_toArray,List.set_cons_succ,List.set_cons_zero] at ep
   have H9:=hdn hS9
   clear hs hd hkp hval hS9 e15 ef
   subst ep
   have R:=hdn (⟨bTn hbr H9.out,Q1.out.kept H9.out,Q2.out.kept H9.out,Q3.out.kept H9.out⟩:Bw w W9∧Blk 27 W9 w.heap.size #[I4 M.d,I4 M.h,I4 M.l,I4 M.v,I4 M.u,I4 M.x,I4 M.t,I4 M.n,.slice (some ye) E.n E.c,.slice (some x0) M.m.ln L.c,.slice N.a N.n N.c,.slice O.a O.n O.c]∧Blk 30 W9 (w.heap.size+1) #[I4 M.r,I4 M.s,.slice La.a La.n La.c]∧Blk 23 W9 W1.heap.size M.cc)
   clear H9 heq Q1 Q2 Q3 hbr
   go_wp2
   go_roundw
   case rel=>exact⟨k+1,by omega,by go_num,rfl,R.out⟩
   case measure=>simp[intOf];omega
  ·have e:n=k:=by omega
   subst e
   have R:=hdn (⟨hbr,qm,qa_,qc⟩:Bw w wr∧Blk 27 wr w.heap.size #[I4 M.d,I4 M.h,I4 M.l,I4 M.v,I4 M.u,I4 M.x,I4 M.t,I4 M.n,.slice (some ye) E.n E.c,.slice (some x0) M.m.ln L.c,.slice N.a N.n N.c,.slice O.a O.n O.c]∧Blk 30 wr (w.heap.size+1) #[I4 M.r,I4 M.s,.slice La.a La.n La.c]∧Blk 23 wr W1.heap.size M.cc)
   have c0:=qc.cell 0 (v:=I4 M.d) rfl
   clear hk hlt hbr qm qa_ qc
   go_wp2
   go_loopw [17,19] (fun vx i wr=>∃ k:Nat,k≤M.D∧i=I4 k∧Bw w wr∧Blk 27 wr w.heap.size #[I4 M.d,I4 M.h,I4 M.l,I4 M.v,I4 M.u,I4 M.x,I4 M.t,I4 M.n,.slice (some ye) E.n E.c,.slice (some x0) M.m.ln L.c,.slice N.a N.n N.c,.slice O.a O.n O.c]∧Blk 30 wr (w.heap.size+1) #[I4 M.r,I4 M.s,.slice La.a La.n La.c]∧Blk 23 wr W1.heap.size M.cc∧wr.ownsRow w.heap.size 2 1 vx k (gath embF .i64 k)) (fun _ i _=>M.D-(intOf i).toNat)
   case atStart=>exact⟨0,Nat.zero_le _,rfl,R.out.1,R.out.2.1,R.out.2.2.1,R.out.2.2.2,World.ownsRow_nil _ _ _ _⟩
   case round =>
    clear R c0
    obtain⟨k,hk,rfl,hbr,qm,qa_,qc,ho⟩:=hrel
    have c0:=qc.cell 0 (v:=I4 M.d) rfl
    by_cases hlt:k<M.D
    ·have hsz:=hbr.size
     have hd:decide ((k:Int)<M.d)=true:=decide_eq_true (by rw[F.eD];omega)
     have c8:=qm.cell 8 (v:=.slice (some ye) E.n E.c) rfl
     have hin':=hin k hlt
     have cy:=(hEr.below hbr).cell ye rfl (T+k) hin'
     have wq:=Qj6 (hEr.wf (T+k))
     have ek:Hid (M.m.e.getD (T+k) 0*1024=embF k):=(by rw[hembF]:_=_)
     obtain⟨Q,eQ⟩:∃ Q,T+k=Q:=⟨_,rfl⟩
     have iQ:(T:Int)+(k:Int)=(Q:Int):=by omega
     rw[eQ] at cy hin' ek wq
     obtain⟨X,eX⟩:∃ X,M.m.e.getD Q 0=X:=⟨_,rfl⟩
     rw[eX] at cy ek wq
     have R:=hdn (⟨hbr,qm,qa_,qc⟩:Bw w wr∧Blk 27 wr w.heap.size #[I4 M.d,I4 M.h,I4 M.l,I4 M.v,I4 M.u,I4 M.x,I4 M.t,I4 M.n,.slice (some ye) E.n E.c,.slice (some x0) M.m.ln L.c,.slice N.a N.n N.c,.slice O.a O.n O.c]∧Blk 30 wr (w.heap.size+1) #[I4 M.r,I4 M.s,.slice La.a La.n La.c]∧Blk 23 wr W1.heap.size M.cc)
     clear eQ eX qm qa_ qc
     go_wp2_with (first
      | (at_builtin;refine wpList_append_own _ rfl (.tmp 86) (.tmp 99) 34 rfl w.heap.size 2 i0 (I4 0) 1 8 Tryz.underlying34 hi2 hz0 hz1 hz2 rfl (by decide) _ _ _ rfl (ho.alloc _) ⟨_,0,none⟩ 1 1 [I4 (X*1024)] rfl rfl (Qai _ _ _) (oOc _ _) (by unfold maxLen;omega) (by omega) (by simp;omega) ?_;intro v' w1 ho' hg _))
     go_roundw
     case rel=>exact⟨k+1,by omega,by go_num,(aSt hsz ek.out R.out.1 ho ho' hg).1,(R.out.2.1.kept (bNw bR _)).own_kept (ho.alloc _) (by decide) hg,(R.out.2.2.1.kept (bNw bR _)).own_kept (ho.alloc _) (by decide) hg,(R.out.2.2.2.kept (bNw bR _)).own_kept (ho.alloc _) (by decide) hg,(aSt hsz ek.out R.out.1 ho ho' hg).2⟩
     case measure=>simp[intOf];omega
    ·have e:k=M.D:=by omega
     subst e
     have hd:decide ((M.D:Int)<M.d)=false:=decide_eq_false (by rw[F.eD];omega)
     obtain⟨ax,cx,rfl,rx⟩:=oRe (zs:=embL M tok) ho (Qe0 M tok) (Qj7 hEr.wf tok) (fun j hj=>by rw[QaP _ _ _ _ hj,cEmb j hj,hembF])
     have R:=hdn (⟨hbr,qm,qa_,qc⟩:Bw w wr∧Blk 27 wr w.heap.size #[I4 M.d,I4 M.h,I4 M.l,I4 M.v,I4 M.u,I4 M.x,I4 M.t,I4 M.n,.slice (some ye) E.n E.c,.slice (some x0) M.m.ln L.c,.slice N.a N.n N.c,.slice O.a O.n O.c]∧Blk 30 wr (w.heap.size+1) #[I4 M.r,I4 M.s,.slice La.a La.n La.c]∧Blk 23 wr W1.heap.size M.cc)
     have c2:=qc.cell 2 (v:=I4 M.l) rfl
     clear hk hlt hbr qm qa_ qc ho hembF cEmb hin ip hT
     go_wp2
     go_loopw [17,18,20] (fun vx vr i wr=>∃ k:Nat,k≤M.m.ln∧i=I4 k∧Bw w wr∧Blk 27 wr w.heap.size #[I4 M.d,I4 M.h,I4 M.l,I4 M.v,I4 M.u,I4 M.x,I4 M.t,I4 M.n,.slice (some ye) E.n E.c,.slice (some x0) M.m.ln L.c,.slice N.a N.n N.c,.slice O.a O.n O.c]∧Blk 30 wr (w.heap.size+1) #[I4 M.r,I4 M.s,.slice La.a La.n La.c]∧Blk 23 wr W1.heap.size M.cc∧∃ (m:Nat) (ax:Option Addr) (cx:Nat),m=2*k*M.D∧vx=.slice ax M.D cx∧Reads .i64 wr ax M.D (stX M p P n tok k)∧wr.ownsRow w.heap.size 2 1 vr m ((stR M p P n tok k).map (Value.int .i64))∧∀ y,ax=some y→∀ g,vr.ownBlock=some g→y.block≠g) (fun _ _ i _=>M.m.ln-(intOf i).toNat)
     case atStart=>exact⟨0,Nat.zero_le _,rfl,R.out.1,R.out.2.1,R.out.2.2.1,R.out.2.2.2,0,ax,cx,by omega,rfl,rx,World.ownsRow_nil _ _ _ _,fun y hy g hg=>by cases hg⟩
     case round =>
      clear R c0 c2 rx hd
      obtain⟨k,hk,rfl,hbr,qm,qa_,qc,m,ax,cx,em,rfl,rx,ho,hap⟩:=hrel
      have c2:=qc.cell 2 (v:=I4 M.l) rfl
      obtain⟨s0,s1,s2⟩:=qa_.c3
      by_cases hlt:k<M.m.ln
      ·have hd:decide ((k:Int)<M.l)=true:=decide_eq_true (by rw[F.el];omega)
       have R:=hdn (⟨hbr,qm,qa_,qc⟩:Bw w wr∧Blk 27 wr w.heap.size #[I4 M.d,I4 M.h,I4 M.l,I4 M.v,I4 M.u,I4 M.x,I4 M.t,I4 M.n,.slice (some ye) E.n E.c,.slice (some x0) M.m.ln L.c,.slice N.a N.n N.c,.slice O.a O.n O.c]∧Blk 30 wr (w.heap.size+1) #[I4 M.r,I4 M.s,.slice La.a La.n La.c]∧Blk 23 wr W1.heap.size M.cc)
       have HO:=hdn ho
       clear qm qa_ qc ho hap s0 s1 s2
       have hbG:Bw wr (wr.alloc (.cells #[.slice none 0 0,.slice none 0 0,.slice none 0 0,.slice none 0 0] 61)):=bNw (Below.refl _ wr) _
       have s0:=(R.out.2.2.1.kept hbG).cell 0 (v:=I4 M.r) rfl
       have hDD:0<M.D+M.D:=by omega
       have hmul:(k+1)*M.D≤M.m.ln*M.D:=Nat.mul_le_mul_right _ (by omega)
       rw[Nat.succ_mul] at hmul
       have e1:m=2*(k*M.D):=by rw[em,Nat.mul_assoc]
       have e2:2*M.m.ln*M.D=2*(M.m.ln*M.D):=Nat.mul_assoc _ _ _
       have hm32:m+(M.D+M.D)≤32:=by omega
       have enm:m+(M.D+M.D)=2*(k+1)*M.D:=by rw[em,show 2*(k+1)=2*k+2 by omega,Nat.add_mul];omega
       clear hmul e1 e2 em
       by_cases hr0:M.r=0
       ·have z:(M.r != 0)=false:=by simp[hr0]
        have hX:Bw w (wr.alloc (.cells #[.slice none 0 0,.slice none 0 0,.slice none 0 0,.slice none 0 0] 61)):=bTn hbr hbG
        have U1:=hdn (R.out.2.1.kept hbG)
        have U2:=hdn (R.out.2.2.1.kept hbG)
        have U3:=hdn (R.out.2.2.2.kept hbG)
        have ug:Blk 61 (wr.alloc (.cells #[.slice none 0 0,.slice none 0 0,.slice none 0 0,.slice none 0 0] 61)) wr.heap.size #[.slice none 0 0,.slice none 0 0,.slice none 0 0,.slice none 0 0]:=Blk.new 61 wr _
        have rxX:=rx.below hbG
        have HOX:=hdn (oBe HO.out hbG)
        have fX:=hbG.size
        obtain⟨a0,a1,a2,a3,a4,a5_,a6,a7,a8,a9,a10,a11⟩:=U1.out.c12
        obtain⟨t0,t1,t2⟩:=U2.out.c3
        obtain⟨g0,g1,g2,g3⟩:=ug.c4
        have hG0:M.r≠0→∀ j,j<4→IsS (wr.alloc (.cells #[.slice none 0 0,.slice none 0 0,.slice none 0 0,.slice none 0 0] 61)) ((fun _=>⟨none,0,0⟩:Nat→SL) j) (M.a.f k j):=fun h=>absurd hr0 h
        have Ug:=hdn ug
        clear ug
        clear hr0
        go_wp2_with (first
         | (go_at_call 33;refine (kly _ hX k hlt (fun _=>⟨none,0,0⟩:Nat→SL) hG0 _ _ _ rxX).mono ?_;rintro e W5 ⟨⟨a5,c5,b5,k5,rfl,r5,rb5,f5⟩,h5⟩;have hb5:=bTn hX h5;have V1:=hdn (U1.out.kept h5);have V2:=hdn (U2.out.kept h5);have V3:=hdn (U3.out.kept h5);have HO5:=hdn (oBe HOX.out h5);obtain⟨yb,rfl⟩:=rb5.some_ hDD;have f5':∀ y,a5=some y→wr.heap.size≤y.block:=fun y hy=>Nat.le_trans fX (f5 y hy);clear U1 U2 U3 Ug HOX h5 rxX f5 fX hX a0 a1 a2 a3 a4 a5_ a6 a7 a8 a9 a10 a11 t0 t1 t2 g0 g1 g2 g3)
         | (at_builtin;refine Qbg rfl (.tmp 128) (.tmp 129) 34 rfl w.heap.size 2 i0 (I4 0) 8 Tryz.underlying34 hi2 hz0 hz1 hz2 rfl _ m _ rfl HO5.out yb (M.D+M.D) k5 ((kL M p k (stX M p P n tok k)++vL M k (stX M p P n tok k)).map (Value.int .i64)) rfl (by rw[List.length_map];exact rb5.len) (Qda rb5) Qf0 (by unfold maxLen;omega) (by omega) hb5.size ?_;intro v6 W6 ho6 hg6 hs6))
        have R6:=hdn (⟨below_append hb5 HO5.out hg6,V1.out.own_kept HO5.out (by decide) hg6,V2.out.own_kept HO5.out (by decide) hg6,V3.out.own_kept HO5.out (by decide) hg6⟩:Bw w W6∧Blk 27 W6 w.heap.size #[I4 M.d,I4 M.h,I4 M.l,I4 M.v,I4 M.u,I4 M.x,I4 M.t,I4 M.n,.slice (some ye) E.n E.c,.slice (some x0) M.m.ln L.c,.slice N.a N.n N.c,.slice O.a O.n O.c]∧Blk 30 W6 (w.heap.size+1) #[I4 M.r,I4 M.s,.slice La.a La.n La.c]∧Blk 23 W6 W1.heap.size M.cc)
        have ap5:∀ y,a5=some y→∀ g,u18.ownBlock=some g→y.block≠g:=fun y hy g hg=>by have:=(HO.out.lt g hg).2;have:=f5' y hy;omega
        have r6:=r5.grown hg6 (fun _ y hy z hz=>ap5 y hy z hz)
        have ap6:Hid (∀ y,a5=some y→∀ g,v6.ownBlock=some g→y.block≠g):=fun y hy=>Qct hs6 (ap5 y hy) (Qcx r5 hy hD0)
        have ho6':=hdn (show W6.ownsRow w.heap.size 2 1 v6 (m+(M.D+M.D)) ((stR M p P n tok (k+1)).map (Value.int .i64)) by have e:stR M p P n tok (k+1)=stR M p P n tok k++(kL M p k (stX M p P n tok k)++vL M k (stX M p P n tok k)):=rfl;rw[e,List.map_append];exact ho6)
        clear HO5 V1 V2 V3 ho6 hg6 hs6 r5 rb5 hb5 ap5 f5'
        go_roundw
        case rel=>exact⟨k+1,by omega,by go_num,R6.out.1,R6.out.2.1,R6.out.2.2.1,R6.out.2.2.2,_,_,_,enm,rfl,r6,ho6'.out,ap6.out⟩
        case measure=>simp[intOf];omega
       ·have z:(M.r != 0)=true:=by simp[hr0]
        obtain⟨RR,AF⟩:=hok hr0
        obtain⟨xa,hxa⟩:=hA.some_ (by rw[AF.ln];omega)
        have hka:k<La.n:=by rw[hA.len,AF.ln];exact hlt
        have hla:La.n≤4611686018427387904:=by rw[hA.len,AF.ln];omega
        have hkA:k<M.a.ln:=by rw[AF.ln];exact hlt
        have bX:Bw w (wr.alloc (.cells #[.slice none 0 0,.slice none 0 0,.slice none 0 0,.slice none 0 0] 61)):=bTn hbr hbG
        have s2:=(R.out.2.2.1.kept hbG).cell 2 (v:=.slice La.a La.n La.c) rfl
        rw[hxa] at s2
        obtain⟨PA,ePA,y0,y1,y2,y3⟩:=Qiz (y:=Ya k) ((hA.below bX).cell xa hxa k hkA)
        have hGa:∀ W,Bw w W→M.r≠0→∀ j,j<4→IsS W (Ya k j) (M.a.f k j):=fun W hb _ j hj=>(hA.lay k hkA j hj).below hb
        have hbY:Bw wr (wr.alloc (.cells #[.slice (Ya k 0).a (Ya k 0).n (Ya k 0).c,.slice (Ya k 1).a (Ya k 1).n (Ya k 1).c,.slice (Ya k 2).a (Ya k 2).n (Ya k 2).c,.slice (Ya k 3).a (Ya k 3).n (Ya k 3).c] 61)):=bNw (Below.refl _ wr) _
        have hX:Bw w (wr.alloc (.cells #[.slice (Ya k 0).a (Ya k 0).n (Ya k 0).c,.slice (Ya k 1).a (Ya k 1).n (Ya k 1).c,.slice (Ya k 2).a (Ya k 2).n (Ya k 2).c,.slice (Ya k 3).a (Ya k 3).n (Ya k 3).c] 61)):=bTn hbr hbY
        have U1:=hdn (R.out.2.1.kept hbY)
        have U2:=hdn (R.out.2.2.1.kept hbY)
        have U3:=hdn (R.out.2.2.2.kept hbY)
        have ug:Blk 61 (wr.alloc (.cells #[.slice (Ya k 0).a (Ya k 0).n (Ya k 0).c,.slice (Ya k 1).a (Ya k 1).n (Ya k 1).c,.slice (Ya k 2).a (Ya k 2).n (Ya k 2).c,.slice (Ya k 3).a (Ya k 3).n (Ya k 3).c] 61)) wr.heap.size #[.slice (Ya k 0).a (Ya k 0).n (Ya k 0).c,.slice (Ya k 1).a (Ya k 1).n (Ya k 1).c,.slice (Ya k 2).a (Ya k 2).n (Ya k 2).c,.slice (Ya k 3).a (Ya k 3).n (Ya k 3).c]:=Blk.new 61 wr _
        have rxX:=rx.below hbY
        have HOX:=hdn (oBe HO.out hbY)
        have fX:=hbY.size
        obtain⟨a0,a1,a2,a3,a4,a5_,a6,a7,a8,a9,a10,a11⟩:=U1.out.c12
        obtain⟨t0,t1,t2⟩:=U2.out.c3
        obtain⟨g0,g1,g2,g3⟩:=ug.c4
        have Ug:=hdn ug
        clear ug hbY
        clear hr0 AF bX hxa
        go_wp2_with (first
         | (go_at_call 33;refine (kly _ hX k hlt (Ya k) (hGa _ hX) _ _ _ rxX).mono ?_;rintro e W5 ⟨⟨a5,c5,b5,k5,rfl,r5,rb5,f5⟩,h5⟩;have hb5:=bTn hX h5;have V1:=hdn (U1.out.kept h5);have V2:=hdn (U2.out.kept h5);have V3:=hdn (U3.out.kept h5);have HO5:=hdn (oBe HOX.out h5);obtain⟨yb,rfl⟩:=rb5.some_ hDD;have f5':∀ y,a5=some y→wr.heap.size≤y.block:=fun y hy=>Nat.le_trans fX (f5 y hy);clear U1 U2 U3 Ug HOX h5 rxX f5 fX hX a0 a1 a2 a3 a4 a5_ a6 a7 a8 a9 a10 a11 t0 t1 t2 g0 g1 g2 g3)
         | (at_builtin;refine Qbg rfl (.tmp 128) (.tmp 129) 34 rfl w.heap.size 2 i0 (I4 0) 8 Tryz.underlying34 hi2 hz0 hz1 hz2 rfl _ m _ rfl HO5.out yb (M.D+M.D) k5 ((kL M p k (stX M p P n tok k)++vL M k (stX M p P n tok k)).map (Value.int .i64)) rfl (by rw[List.length_map];exact rb5.len) (Qda rb5) Qf0 (by unfold maxLen;omega) (by omega) hb5.size ?_;intro v6 W6 ho6 hg6 hs6))
        have R6:=hdn (⟨below_append hb5 HO5.out hg6,V1.out.own_kept HO5.out (by decide) hg6,V2.out.own_kept HO5.out (by decide) hg6,V3.out.own_kept HO5.out (by decide) hg6⟩:Bw w W6∧Blk 27 W6 w.heap.size #[I4 M.d,I4 M.h,I4 M.l,I4 M.v,I4 M.u,I4 M.x,I4 M.t,I4 M.n,.slice (some ye) E.n E.c,.slice (some x0) M.m.ln L.c,.slice N.a N.n N.c,.slice O.a O.n O.c]∧Blk 30 W6 (w.heap.size+1) #[I4 M.r,I4 M.s,.slice La.a La.n La.c]∧Blk 23 W6 W1.heap.size M.cc)
        have ap5:∀ y,a5=some y→∀ g,u18.ownBlock=some g→y.block≠g:=fun y hy g hg=>by have:=(HO.out.lt g hg).2;have:=f5' y hy;omega
        have r6:=r5.grown hg6 (fun _ y hy z hz=>ap5 y hy z hz)
        have ap6:Hid (∀ y,a5=some y→∀ g,v6.ownBlock=some g→y.block≠g):=fun y hy=>Qct hs6 (ap5 y hy) (Qcx r5 hy hD0)
        have ho6':=hdn (show W6.ownsRow w.heap.size 2 1 v6 (m+(M.D+M.D)) ((stR M p P n tok (k+1)).map (Value.int .i64)) by have e:stR M p P n tok (k+1)=stR M p P n tok k++(kL M p k (stX M p P n tok k)++vL M k (stX M p P n tok k)):=rfl;rw[e,List.map_append];exact ho6)
        clear HO5 V1 V2 V3 ho6 hg6 hs6 r5 rb5 hb5 ap5 f5'
        go_roundw
        case rel=>exact⟨k+1,by omega,by go_num,R6.out.1,R6.out.2.1,R6.out.2.2.1,R6.out.2.2.2,_,_,_,enm,rfl,r6,ho6'.out,ap6.out⟩
        case measure=>simp[intOf];omega
      ·have e:k=M.m.ln:=by omega
       subst e
       have hd:decide ((M.m.ln:Int)<M.l)=false:=decide_eq_false (by rw[F.el];omega)
       have c10:=qm.cell 10 (v:=.slice N.a N.n N.c) rfl
       have lr:=Qdq F p P n tok M.m.ln nL
       rw[←em] at lr
       obtain⟨a,c,rfl,rr⟩:=oRe (zs:=stR M p P n tok M.m.ln) ho lr (fun z hz=>(QmR M p P n tok M.m.ln z hz).wf) (fun j hj=>Qik _ j (by rw[lr];exact hj))
       have cp:Hid (m≤c):=QaL ho
       have fr:Hid (∀ x,a=some x→w.heap.size≤x.block):=fun x hx=>(ho.lt x.block (by rw[hx];rfl)).1
       have HE:Hid (m=2*M.m.ln*M.D):=em
       clear ho qm qa_ qc em hap
       go_wp2_with (go_at_call 34;refine (kn _ hbr _ _ _ rx).mono ?_;rintro e W20 ⟨⟨a20,c20,rfl,r20,f20⟩,h20⟩;clear kn;have fo:∀ x,a20=some x→w.heap.size≤x.block:=fun x hx=>Nat.le_trans hbr.size (f20 x hx);have rr20:=rr.below h20;have hb20:=bTn hbr h20;clear h20 rr rx)
       refine bodyPost_ret (v:=.tuple #[.slice a m c,.slice a20 M.D c20,I4 0]) ?_ rfl ⟨⟨a,c,a20,c20,by rw[HE.out],HE.out ▸ rr20,HE.out ▸ cp.out,r20,fr.out,fo⟩,hb20⟩
       simp[results,Tryz.results13,go_sem]
def wt (s:Int)(j:Nat):Int:=(drawn s j).tdiv 2
def wtL (s:Int)(n:Nat):List Int:=(List.range n).map (wt s)
theorem QbS (s:Int)(n:Nat):(wtL s n).length=n:=by simp[wtL]
theorem QnH (s:Int)(n j:Nat)(h:j<n):(wtL s n).getD j 0=wt s j:=by simp[wtL,h]
theorem QeX {z:Int}(h:-128≤z∧z≤127):-128≤z.tdiv 2∧z.tdiv 2≤127:=by
 rcases Int.le_total 0 z with h0|h0
 ·rw[Int.tdiv_eq_ediv_of_nonneg h0];omega
 ·have e:z.tdiv 2 = -((-z)/2):=by
   have:=Int.neg_tdiv (-z) 2
   rw[Int.neg_neg] at this
   rw[this,Int.tdiv_eq_ediv_of_nonneg (by omega)]
  omega
theorem Qg6 (x:Int):-128≤i8 x∧i8 x≤127:=by unfold i8;omega
theorem Qj2 (s:Int)(j:Nat):-128≤wt s j∧wt s j≤127:=QeX (Qg6 _)
theorem QlN {z:Int}(h:-128≤z∧z≤127):(Lit.int .i8 z).wf=true:=by
 simpa [Lit.wf,IntKind.min,IntKind.max,IntKind.signed,IntKind.bits] using h
theorem QnG (s:Int)(n:Nat):∀ z∈wtL s n,(Lit.int .i8 z).wf=true:=fun z hz=>by
 obtain⟨y,_,rfl⟩:=List.mem_map.1 hz
 exact QlN (Qj2 _ _)
theorem QmT (x:Int):IntKind.i8.wrap x=i8 x:=by
 unfold IntKind.wrap i8
 simp[IntKind.bits,IntKind.signed]
 omega
theorem Qcg (n:Nat)(hn:n≤100000)(s:Int)(w:World) :
  Calls Tryz.prog 40 #[I4 n,.int .u64 s] w fun e w'=>(∃ a c,e=.returned (.slice a n c)∧IsS w' ⟨a,n,c⟩ (wtL s n))∧Bw w w':=by
 obtain⟨i0,hi,hz0,hz1,hz2⟩:=info_parts Qlf
 go_enter Tryz.func40,Tryz.ntmps40
 go_wp2
 go_loopw [1,5,6] (fun s' v i wr=>∃ k:Nat,k≤n∧i=I4 k∧s'=.int .u64 (sd s k)∧Bw w wr∧wr.ownsRow w.heap.size 73 1 v k (gath (wt s) .i8 k)) (fun _ _ i _=>n-(intOf i).toNat)
 case atStart=>exact⟨0,Nat.zero_le _,rfl,rfl,Below.refl _ _,World.ownsRow_nil _ _ _ _⟩
 case round =>
  obtain⟨k,hk,rfl,rfl,hbr,ho⟩:=hrel
  by_cases hlt:k<n
  ·have hsz:=hbr.size
   obtain⟨s',eSd⟩:∃ s',sd s k=s':=⟨_,rfl⟩
   obtain⟨M1,e1⟩:∃ z,IntKind.u64.wrap (s'*6364136223846793005)=z:=⟨_,rfl⟩
   obtain⟨M2,e2⟩:∃ z,IntKind.u64.wrap (M1+1442695040888963407)=z:=⟨_,rfl⟩
   obtain⟨M3,e3⟩:∃ z,M2/72057594037927936=z:=⟨_,rfl⟩
   have Es:Hid (sd s (k+1)=M2):=by show lcg (sd s k)=M2;unfold lcg;rw[eSd,e1,e2]
   have Ez:Hid ((i8 M3).tdiv 2=wt s k):=by unfold wt drawn;rw[Es.out,e3];exact rfl
   have hw8:=QmT M3
   have hb8:=QeX (Qg6 M3)
   obtain⟨Z,eZ⟩:∃ Z,i8 M3=Z:=⟨_,rfl⟩
   rw[eZ] at hw8 hb8
   obtain⟨Y,eY⟩:∃ Y,Z.tdiv 2=Y:=⟨_,rfl⟩
   rw[eY] at hb8
   have hwy:IntKind.i8.wrap Y=Y:=by unfold IntKind.wrap;simp[IntKind.bits,IntKind.signed];omega
   have Ey:Hid (Y=wt s k):=by rw[←eY,←eZ];exact Ez.out
   rw[eSd]
   clear eSd eZ Ez
   go_wp2_with (first
    | (at_builtin;refine wpList_append_own _ rfl (.tmp 15) (.tmp 20) 24 rfl w.heap.size 73 i0 (.int .i8 0) 1 1 Tryz.underlying24 hi hz0 hz1 hz2 rfl (by decide) _ _ _ rfl (ho.alloc _) ⟨_,0,none⟩ 1 1 [.int .i8 Y] rfl rfl (Qai _ _ _) (oOc _ _) (by unfold maxLen;omega) (by omega) (by simp;omega) ?_;intro v' w1 ho' hg _))
   go_roundw
   case rel=>exact⟨k+1,by omega,by go_num,by rw[Es.out],aSt hsz Ey.out hbr ho ho' hg⟩
   case measure=>simp[intOf];omega
  ·have e:k=n:=by omega
   subst e
   obtain⟨a,c,rfl,hre⟩:=oRe (k:=.i8) (zs:=wtL s k) ho (QbS _ _) (QnG _ _) (fun j hj=>by rw[QaP _ _ _ _ hj,QnH _ _ _ hj])
   have fin:IsS wr ⟨a,k,c⟩ (wtL s k):=⟨hre,Qb3 ho,QaL ho⟩
   clear ho
   go_wp2
   go_ret
   exact⟨⟨_,_,rfl,fin⟩,hbr⟩
theorem QnR (ln ne:Nat)(S:Nat→List Int)(k:Nat)(hk:k<1+ln*pl ne+2):Qa5 (Qar ln ne S) ne k=S k:=by
 rcases Qfo ln ne k hk with rfl|⟨i,r,hi,hr,rfl⟩|⟨i,j,hi,hj,rfl|rfl⟩|rfl|rfl
 ·rfl
 ·exact QaG (Qar ln ne S) ne i r hi hr
 ·exact Qd5 (Qar ln ne S) ne i j hi hj
 ·exact Qcv (Qar ln ne S) ne i j hi hj
 ·exact Qcu (Qar ln ne S) ne
 ·exact Qc3 (Qar ln ne S) ne
theorem QmZ (cnt:Nat→Nat)(T:Nat)(ws:List Int)(h:ws.length=offs cnt T)(k:Nat)(hk:k<T):(seg cnt ws k).length=cnt k:=by
 have:=QeN cnt (show k+1≤T by omega)
 have e:offs cnt (k+1)=offs cnt k+cnt k:=rfl
 unfold seg
 rw[List.length_take,List.length_drop]
 omega
theorem QfG {d h l v u x t n:Int}(ok:okB d h l v u x t n=true)(ws:List Int)(hl:ws.length=offs (Qco d l v u x) (allT l x)):Qaf d h l v u x t n (Qcb d l v u x ws)=0:=by
 have dm:=Qb9 ok
 have fr:QbQ l x (Qcb d l v u x ws)=true:=decide_eq_true ⟨dm.el.symm,fun i hi=>⟨dm.en.symm,dm.en.symm⟩⟩
 unfold Qaf
 rw[ok,fr]
 show QbP _ _ _=0
 refine Qlc _ _ _ fun k hk=>?_
 have:Qa5 (Qcb d l v u x ws) (netsN x) k=seg (Qco d l v u x) ws k:=QnR _ _ _ k hk
 rw[this]
 exact QmZ _ _ ws hl k hk
def adR (rank:Int):Int:=IntKind.u64.wrap rank%5
def adS (rank s:Int):Int:=if adR rank=0 then 0 else s%3
def adV (rank d l s:Int):AdV:=if adR rank=0 then noA else Qdc l.toNat (adR rank*d).toNat (wtL s (l*4*adR rank*d).toNat)
def made (d h l v u x t n s rank:Int):Md:=⟨d,h,l,v,u,x,t,n,Qcb d l v u x (wtL s (szZ d l v u x).toNat),adR rank,adS rank s,adV rank d l s⟩
theorem QdG (rank:Int):0≤adR rank∧adR rank≤4:=by unfold adR;omega
theorem QhF {N T:Nat}{ws:List Int}(h:ws.length=T*N){q:Nat}(hq:q<T):(segA N ws q).length=N:=by
 have h1:(q+1)*N≤T*N:=Nat.mul_le_mul_right _ (by omega)
 rw[Nat.succ_mul] at h1
 unfold segA
 rw[List.length_take,List.length_drop]
 omega
theorem QiP {l R d:Int}(hl:0≤l)(hR:0≤R)(hd:0≤d):(l*4*R*d).toNat=4*l.toNat*(R*d).toNat∧0≤R*d:=by
 obtain⟨L,rfl⟩:∃ L:Nat,l=L:=⟨l.toNat,by omega⟩
 obtain⟨R',rfl⟩:∃ R':Nat,R=R':=⟨R.toNat,by omega⟩
 obtain⟨D,rfl⟩:∃ D:Nat,d=D:=⟨d.toNat,by omega⟩
 have e:((L:Int)*4*R'*D)=((4*L*(R'*D):Nat):Int):=by
  rw[Int.natCast_mul,Int.natCast_mul,Int.natCast_mul,Int.mul_assoc,Int.mul_comm (L:Int) 4]
  rfl
 have e2:((R':Int)*D)=((R'*D:Nat):Int):=by rw[Int.natCast_mul]
 rw[e,e2]
 exact⟨by rw[Int.toNat_natCast,Int.toNat_natCast,Int.toNat_natCast],by omega⟩
theorem QlH {d h l v u x t n:Int}(ok:okB d h l v u x t n=true)(rank s:Int)(hr:adR rank≠0):QbB (adR rank) (adS rank s) d h l v u x t n (adV rank d l s)=0:=by
 have r:=Qbk ok
 have hb:=QdG rank
 have d0:=r.d0
 have l0:=r.l0
 obtain⟨e1,e2⟩:=QiP (l:=l) (R:=adR rank) (d:=d) (by omega) hb.1 (by omega)
 unfold QbB
 rw[if_pos,if_pos]
 ·unfold adV
  rw[if_neg hr]
  refine⟨by show (l.toNat:Int)=l;omega,QbX.2 fun i hi j hj=>?_⟩
  have hi':i<l.toNat:=hi
  show ((segA (adR rank*d).toNat (wtL s (l*4*adR rank*d).toNat) (4*i+j)).length:Int)=_
  rw[QhF (T:=4*l.toNat) (by rw[QbS,e1]) (by omega)]
  omega
 ·unfold okA adS
  rw[ok,if_neg hr]
  simp only[Bool.true_and,Bool.and_eq_true,decide_eq_true_eq]
  omega
theorem Qng {d h l v u x t n:Int}(ok:okB d h l v u x t n=true)(s rank:Int):MdOk (made d h l v u x t n s rank):=by
 have dm:=Qb9 ok
 refine⟨ok,QfG ok _ ?_,fun hr=>QlH ok rank s hr⟩
 rw[QbS,dm.sz]
 simp
theorem Qmk {d h l v u x t n:Int}(ok:okB d h l v u x t n=true)(s rank:Int):badE (made d h l v u x t n s rank)=0:=(Qng ok s rank).none_bad
structure MT where
 E:SL
 L:SL
 N:SL
 O:SL
 Y:Nat→Nat→SL
 U:Nat→Nat→SL
 D:Nat→Nat→SL
theorem Qn1 {m:ModV}:Qj1 (T:=MT) (fun t lo hi w=>Qdo lo hi w t.E t.L t.N t.O t.Y t.U t.D m):=⟨fun h hb=>h.below hb,fun h o hb=>h.only o hb⟩
theorem Qdo.new {lo hi g:Nat}{w:World}{E L N O:SL}{Y U D:Nat→Nat→SL}{m:ModV}(h:Qdo lo hi w E L N O Y U D m)(hg:g≤lo):NewM g w E L N O Y U D m:=fun w' hc=>h w' fun p v hp h1 h2=>hc p v hp (Nat.le_trans hg h1)
theorem AdIn.new {lo hi g:Nat}{w:World}{L:SL}{Y:Nat→Nat→SL}{m:AdV}(h:AdIn lo hi w L Y m)(hg:g≤lo):NewA g w L Y m:=fun w' hc=>h w' fun p v hp h1 h2=>hc p v hp (Nat.le_trans hg h1)
theorem QcL {w:World}{b:Nat}{d h l v u x t n:Int}(q:Blk 23 w b (c8 d h l v u x t n)):(Instr.loadAt 23 (Pt b)).run Tryz.prog w=.ok (.agg (c8 d h l v u x t n)) w:=by
 obtain⟨c0,c1,c2,c3,c4,c5,c6,c7⟩:=q.c8
 go_simp
theorem Qfs (d h l v u x t n s sz ee:Int)(nn:Nat)(zs:List Int)(B:Bool)(k0 k1 k2 k3 k4 k5 k6 k7:Int)(m:ModV)(w:World)(hB:(ee==0)=B)
  (c41:∀ w,Calls Tryz.prog 41 #[.agg #[.int .i64 d,.int .i64 h,.int .i64 l,.int .i64 v,.int .i64 u,.int .i64 x,.int .i64 t,.int .i64 n]] w fun e w'=>e=.returned (.int .i64 sz)∧Below w.heap.size w w')
  (c40:∀ w,Calls Tryz.prog 40 #[.int .i64 sz,.int .u64 s] w fun e w'=>(∃ a c,e=.returned (.slice a nn c)∧IsS w' ⟨a,nn,c⟩ zs)∧Below w.heap.size w w')
  (c39:∀ w ya yc,IsS w ⟨ya,nn,yc⟩ zs→Calls Tryz.prog 39 #[.agg #[.int .i64 d,.int .i64 h,.int .i64 l,.int .i64 v,.int .i64 u,.int .i64 x,.int .i64 t,.int .i64 n],.slice ya nn yc] w fun e w'=>∃ t:MT,e=.returned (.tuple #[.agg #[.int .i64 k0,.int .i64 k1,.int .i64 k2,.int .i64 k3,.int .i64 k4,.int .i64 k5,.int .i64 k6,.int .i64 k7,.slice t.E.a t.E.n t.E.c,.slice t.L.a t.L.n t.L.c,.slice t.N.a t.N.n t.N.c,.slice t.O.a t.O.n t.O.c],.int .i64 ee])∧Qdo w.heap.size w'.heap.size w' t.E t.L t.N t.O t.Y t.U t.D m∧Below w.heap.size w w') :
  Calls Tryz.prog 19 #[.agg #[.int .i64 d,.int .i64 h,.int .i64 l,.int .i64 v,.int .i64 u,.int .i64 x,.int .i64 t,.int .i64 n],.int .u64 s] w fun e w'=>∃ t:MT,e=.returned (.tuple #[.agg #[.int .i64 k0,.int .i64 k1,.int .i64 k2,.int .i64 k3,.int .i64 k4,.int .i64 k5,.int .i64 k6,.int .i64 k7,.slice t.E.a t.E.n t.E.c,.slice t.L.a t.L.n t.L.c,.slice t.N.a t.N.n t.N.c,.slice t.O.a t.O.n t.O.c],.bool B])∧NewM w.heap.size w' t.E t.L t.N t.O t.Y t.U t.D m∧Below w.heap.size w w':=by
 have hb:=bNw (bNw (bS w) (.cells #[.int .i64 d,.int .i64 h,.int .i64 l,.int .i64 v,.int .i64 u,.int .i64 x,.int .i64 t,.int .i64 n] 23)) (.cells #[.int .i64 0,.int .i64 0,.int .i64 0,.int .i64 0,.int .i64 0,.int .i64 0,.int .i64 0,.int .i64 0,.slice none 0 0,.slice none 0 0,.slice none 0 0,.slice none 0 0] 27)
 have qc:Blk 23 ((w.alloc (.cells #[.int .i64 d,.int .i64 h,.int .i64 l,.int .i64 v,.int .i64 u,.int .i64 x,.int .i64 t,.int .i64 n] 23)).alloc (.cells #[.int .i64 0,.int .i64 0,.int .i64 0,.int .i64 0,.int .i64 0,.int .i64 0,.int .i64 0,.int .i64 0,.slice none 0 0,.slice none 0 0,.slice none 0 0,.slice none 0 0] 27)) w.heap.size #[.int .i64 d,.int .i64 h,.int .i64 l,.int .i64 v,.int .i64 u,.int .i64 x,.int .i64 t,.int .i64 n]:=(Blk.new 23 w _).kept (bNw bR _)
 have qr:Blk 27 ((w.alloc (.cells #[.int .i64 d,.int .i64 h,.int .i64 l,.int .i64 v,.int .i64 u,.int .i64 x,.int .i64 t,.int .i64 n] 23)).alloc (.cells #[.int .i64 0,.int .i64 0,.int .i64 0,.int .i64 0,.int .i64 0,.int .i64 0,.int .i64 0,.int .i64 0,.slice none 0 0,.slice none 0 0,.slice none 0 0,.slice none 0 0] 27)) (w.heap.size+1) #[.int .i64 0,.int .i64 0,.int .i64 0,.int .i64 0,.int .i64 0,.int .i64 0,.int .i64 0,.int .i64 0,.slice none 0 0,.slice none 0 0,.slice none 0 0,.slice none 0 0]:=Blk.new_at 27 (w.alloc _) _ _ (by simp)
 have hz2:((w.alloc (.cells #[.int .i64 d,.int .i64 h,.int .i64 l,.int .i64 v,.int .i64 u,.int .i64 x,.int .i64 t,.int .i64 n] 23)).alloc (.cells #[.int .i64 0,.int .i64 0,.int .i64 0,.int .i64 0,.int .i64 0,.int .i64 0,.int .i64 0,.int .i64 0,.slice none 0 0,.slice none 0 0,.slice none 0 0,.slice none 0 0] 27)).heap.size=w.heap.size+1+1:=by simp
 go_enter Tryz.func19,Tryz.ntmps19
 go_wp2
 refine Qjw (T:=MT) (V:=fun t=>.agg #[.int .i64 k0,.int .i64 k1,.int .i64 k2,.int .i64 k3,.int .i64 k4,.int .i64 k5,.int .i64 k6,.int .i64 k7,.slice t.E.a t.E.n t.E.c,.slice t.L.a t.L.n t.L.c,.slice t.N.a t.N.n t.N.c,.slice t.O.a t.O.n t.O.c]) (cs:=fun t=>#[.int .i64 k0,.int .i64 k1,.int .i64 k2,.int .i64 k3,.int .i64 k4,.int .i64 k5,.int .i64 k6,.int .i64 k7,.slice t.E.a t.E.n t.E.c,.slice t.L.a t.L.n t.L.c,.slice t.N.a t.N.n t.N.c,.slice t.O.a t.O.n t.O.c]) (I:=fun t lo hi w=>Qdo lo hi w t.E t.L t.N t.O t.Y t.U t.D m) Qn1 d h l v u x t n sz s nn w.heap.size zs (ee) #[.int .i64 0,.int .i64 0,.int .i64 0,.int .i64 0,.int .i64 0,.int .i64 0,.int .i64 0,.int .i64 0,.slice none 0 0,.slice none 0 0,.slice none 0 0,.slice none 0 0] (by kernel_rfl) rfl (by (repeat' apply And.intro)<;>exact⟨_,rfl,rfl,rfl,rfl,by kernel_rfl⟩) (fun w hw=>QcL (qc.kept hw)) (fun w hw=>QcL (qc.kept hw)) (fun w hw=>c41 w) (fun w hw=>c40 w) (fun w ya yc hw hz=>c39 w ya yc hz) rfl rfl QhQ (fun w b t q=>QhJ q ⟨k0,k1,k2,k3,k4,k5,k6,k7,m,0,0,noA⟩ t.E t.L t.N t.O) (Nat.le_of_ble_eq_true rfl) ?_
 intro a W9 b9 t9 lo9 hi9 hs hd hkp eA eE hb9 gb9 gl9 gh9 hI9 q9
 obtain⟨f,ef,ep⟩:=fPz [9,10,11,12,13,14,8,15,16,6,7] rfl hs hd hkp
 simp only[ef] at eA eE
 simp only[List.foldl,eA,eE,Act.put,List.setIfInBounds_toArray,List.set_cons_succ,List.set_cons_zero] at ep
 clear hs hd hkp eA eE ef
 subst ep
 replace qr:=qr.kept hb9
 replace hb:=bTn hb hb9
 obtain⟨a0,a1,a2,a3,a4,a5,a6,a7,a8,a9,a10,a11⟩:=q9.c12
 obtain⟨r0,r1,r2,r3,r4,r5,r6,r7,r8,r9,r10,r11⟩:=qr.c12
 obtain⟨f0,f1,f2,f3,f4,f5,f6,f7,f8,f9,f10,f11⟩:=qr.o12
 clear c41 c40 c39 qc hb9
 have HI:=hdn hI9
 clear hI9
 go_wp2
 obtain⟨W6,eW6,q6,only6,hz6⟩:=Qe8 qr (.int .i64 k0) (.int .i64 k1) (.int .i64 k2) (.int .i64 k3) (.int .i64 k4) (.int .i64 k5) (.int .i64 k6) (.int .i64 k7) (.slice t9.E.a t9.E.n t9.E.c) (.slice t9.L.a t9.L.n t9.L.c) (.slice t9.N.a t9.N.n t9.N.c) (.slice t9.O.a t9.O.n t9.O.c)
 rw[eW6]
 have m6:=(HI.out.only only6 (.inl (by omega))).new (g:=w.heap.size) (by omega)
 have b6:Below w.heap.size w W6:=Only.below hb (by omega) hb.size only6
 refine bodyPost_ret (v:=.tuple #[.agg #[.int .i64 k0,.int .i64 k1,.int .i64 k2,.int .i64 k3,.int .i64 k4,.int .i64 k5,.int .i64 k6,.int .i64 k7,.slice t9.E.a t9.E.n t9.E.c,.slice t9.L.a t9.L.n t9.L.c,.slice t9.N.a t9.N.n t9.N.c,.slice t9.O.a t9.O.n t9.O.c],.bool B]) ?_ rfl ⟨t9,rfl,m6,b6⟩
 obtain⟨y0,y1,y2,y3,y4,y5,y6,y7,y8,y9,y10,y11⟩:=q6.c12
 simp[results,Tryz.results19,go_sem,y0,y1,y2,y3,y4,y5,y6,y7,y8,y9,y10,y11]
theorem Qk4 (d h l v u x t n s:Int)(ok:okB d h l v u x t n=true)(w:World) :
  Calls Tryz.prog 19 #[.agg (c8 d h l v u x t n),.int .u64 s] w fun e w'=>∃ t':MT,e=.returned (.tuple #[.agg #[I4 d,I4 h,I4 l,I4 v,I4 u,I4 x,I4 t,I4 n,t'.E.w,t'.L.w,t'.N.w,t'.O.w],.bool true])∧NewM w.heap.size w' t'.E t'.L t'.N t'.O t'.Y t'.U t'.D (Qcb d l v u x (wtL s (szZ d l v u x).toNat))∧Bw w w':=by
 have dm:=Qb9 ok
 have hn:(szZ d l v u x).toNat≤100000:=by have:=dm.sz;have:=dm.sz1;omega
 have e1:szZ d l v u x=(((szZ d l v u x).toNat:Nat):Int):=by have:=dm.sz;omega
 have es:Qe7 d h l v u x t n=szZ d l v u x:=by unfold Qe7;rw[ok];rfl
 have eG:shG d h l v u x t n (wtL s (szZ d l v u x).toNat)=true:=by unfold shG;rw[ok,QbS,←e1];simp
 have eE:shE d h l v u x t n (wtL s (szZ d l v u x).toNat)=0:=by unfold shE;rw[ok,QbS,←e1];simp
 have eM:shM d h l v u x t n (wtL s (szZ d l v u x).toNat)=Qcb d l v u x (wtL s (szZ d l v u x).toNat):=by unfold shM;rw[eG];rfl
 refine Qfs d h l v u x t n s (szZ d l v u x) 0 (szZ d l v u x).toNat (wtL s (szZ d l v u x).toNat) true d h l v u x t n (Qcb d l v u x (wtL s (szZ d l v u x).toNat)) w rfl (fun w=>?_) (fun w=>?_) (fun w ya yc hs=>?_)
 ·have:=QbH d h l v u x t n w
  rw[es] at this
  exact this
 ·have:=Qcg (szZ d l v u x).toNat hn s w
  rw[←e1] at this
  exact this
 ·refine (QdP d h l v u x t n ⟨ya,(szZ d l v u x).toNat,yc⟩ _ w hs).mono fun e w' hh=>?_
  obtain⟨E,L,N,O,Y,U,D,he,hN,hb⟩:=hh
  rw[eG,eE] at he
  rw[eM] at hN
  exact⟨⟨E,L,N,O,Y,U,D⟩,he,hN.within,hb⟩
theorem Qmi (d h l v u x t n s:Int)(ok:okB d h l v u x t n=false)(w:World) :
  Calls Tryz.prog 19 #[.agg (c8 d h l v u x t n),.int .u64 s] w fun e w'=>∃ t':MT,e=.returned (.tuple #[.agg #[I4 0,I4 0,I4 0,I4 0,I4 0,I4 0,I4 0,I4 0,t'.E.w,t'.L.w,t'.N.w,t'.O.w],.bool false])∧NewM w.heap.size w' t'.E t'.L t'.N t'.O t'.Y t'.U t'.D noV∧Bw w w':=by
 have es:Qe7 d h l v u x t n=0:=by unfold Qe7;rw[ok];rfl
 have eG:shG d h l v u x t n (wtL s 0)=false:=by unfold shG;rw[ok];rfl
 have eE:shE d h l v u x t n (wtL s 0)=20:=by unfold shE;rw[ok];rfl
 have eM:shM d h l v u x t n (wtL s 0)=noV:=by unfold shM;rw[eG];rfl
 refine Qfs d h l v u x t n s 0 20 0 (wtL s 0) false 0 0 0 0 0 0 0 0 noV w rfl (fun w=>?_) (fun w=>?_) (fun w ya yc hs=>?_)
 ·have:=QbH d h l v u x t n w
  rw[es] at this
  exact this
 ·exact Qcg 0 (by omega) s w
 ·refine (QdP d h l v u x t n ⟨ya,0,yc⟩ _ w hs).mono fun e w' hh=>?_
  obtain⟨E,L,N,O,Y,U,D,he,hN,hb⟩:=hh
  rw[eG,eE] at he
  rw[eM] at hN
  exact⟨⟨E,L,N,O,Y,U,D⟩,he,hN.within,hb⟩
theorem QlG {d h l v u x t n:Int}(ok:okB d h l v u x t n=true)(rank s:Int):(adV rank d l s).ln≤2∧∀ i j,((adV rank d l s).f i j).length≤32:=by
 have r:=Qbk ok
 have hb:=QdG rank
 have d0:=r.d0
 have d1:=r.d1
 have l1:=r.l1
 unfold adV
 split
 ·exact⟨by show 0≤2;omega,fun i j=>by show ([]:List Int).length≤32;simp⟩
 ·refine⟨by show l.toNat≤2;omega,fun i j=>?_⟩
  show (segA _ _ _).length≤32
  unfold segA
  rw[List.length_take]
  have h1:adR rank*d≤4*8:=Int.mul_le_mul hb.2 d1 (by omega) (by omega)
  omega
theorem QgQ (M:Md)(E L N O:SL)(Y U D:Nat→Nat→SL)(hE:¬Qaf M.d M.h M.l M.v M.u M.x M.t M.n M.m=0)(w:World)(hM:Qad w E L N O Y U D M.m)(hml:M.m.ln≤9223372036854775807)(xa:Option Addr)(xn xc:Nat) :
  Calls Tryz.prog 24 #[M.ag E L N O,.slice xa xn xc] w fun e w'=>e=.returned (.tuple #[.slice none 0 0,I4 (Qaf M.d M.h M.l M.v M.u M.x M.t M.n M.m)])∧Bw w w':=by
 have hb0:=bNw (bS w) (.cells (M.mc E L N O) 27)
 have q1:Blk 27 (w.alloc (.cells (M.mc E L N O) 27)) w.heap.size (M.mc E L N O):=Blk.new 27 w _
 have kc:=Qbl M.d M.h M.l M.v M.u M.x M.t M.n E L N O Y U D M.m _ (hM.below hb0) hml
 obtain⟨c,ec⟩:∃ c,Qaf M.d M.h M.l M.v M.u M.x M.t M.n M.m=c:=⟨_,rfl⟩
 rw[ec] at kc hE ⊢
 have z:(c != 0)=true:=by simp[hE]
 clear ec hE
 go_enter Tryz.func24,Tryz.ntmps24
 go_wp2_with (go_at_call 50;refine kc.mono ?_;rintro e W1 ⟨rfl,h1⟩;have hb1:=bTn hb0 h1;obtain⟨a0,a1,a2,a3,a4,a5,a6,a7,a8,a9,a10,a11⟩:=(q1.kept h1).c12;clear h1 hb0 q1 kc)
 refine bodyPost_ret (v:=.tuple #[.slice none 0 0,I4 c]) ?_ rfl ⟨rfl,hb1⟩
 simp[results,Tryz.results24,go_sem]
theorem Qia (M:Md)(E L N O:SL)(Y U D:Nat→Nat→SL)(hE:Qaf M.d M.h M.l M.v M.u M.x M.t M.n M.m=0)(F:Qaq M)(w:World)(hM:Qad w E L N O Y U D M.m)(hml:M.m.ln≤9223372036854775807)(xa:Option Addr)(xn xc:Nat)(hxn:xn≤9223372036854775807)(hf:fitB O.n M.v xn=false) :
  Calls Tryz.prog 24 #[M.ag E L N O,.slice xa xn xc] w fun e w'=>e=.returned (.tuple #[.slice none 0 0,I4 21])∧Bw w w':=by
 have hb0:=bNw (bS w) (.cells (M.mc E L N O) 27)
 have q1:Blk 27 (w.alloc (.cells (M.mc E L N O) 27)) w.heap.size (M.mc E L N O):=Blk.new 27 w _
 have kc:=Qbl M.d M.h M.l M.v M.u M.x M.t M.n E L N O Y U D M.m _ (hM.below hb0) hml
 rw[hE] at kc
 have km:=fun W=>QeF O.a O.n O.c M.v xa xn xc W hM.o.reads.max hxn (Qae (by have:=F.v0;omega) (by have:=F.v1;omega)) hf
 clear hE
 go_enter Tryz.func24,Tryz.ntmps24
 go_wp2_with (first
  | (go_at_call 50;refine kc.mono ?_;rintro e W1 ⟨rfl,h1⟩;have hb1:=bTn hb0 h1;obtain⟨a0,a1,a2,a3,a4,a5,a6,a7,a8,a9,a10,a11⟩:=(q1.kept h1).c12;clear h1 hb0 q1 kc)
  | (go_at_call 51;refine (km _).mono ?_;rintro e w' ⟨rfl,hq⟩;obtain rfl:=hq.symm;clear hq km))
 refine bodyPost_ret (v:=.tuple #[.slice none 0 0,I4 21]) ?_ rfl ⟨rfl,hb1⟩
 simp[results,Tryz.results24,go_sem]
theorem QgP (M:Md)(E L N O:SL)(Y U D:Nat→Nat→SL)(hE:Qaf M.d M.h M.l M.v M.u M.x M.t M.n M.m=0)(F:Qaq M)(w:World)(hM:Qad w E L N O Y U D M.m)(hml:M.m.ln≤9223372036854775807)(xa:Option Addr)(xn xc:Nat)(xs:List Int)(hx:Reads .i64 w xa xn xs)(hf:fitB O.n M.v xn=true) :
  Calls Tryz.prog 24 #[M.ag E L N O,.slice xa xn xc] w fun e w'=>(∃ a c,e=.returned (.tuple #[.slice a (O.n/xn) c,I4 0])∧Reads .i64 w' a (O.n/xn) (matL M.m.o xs))∧Bw w w':=by
 have hb0:=bNw (bS w) (.cells (M.mc E L N O) 27)
 have q1:Blk 27 (w.alloc (.cells (M.mc E L N O) 27)) w.heap.size (M.mc E L N O):=Blk.new 27 w _
 have kc:=Qbl M.d M.h M.l M.v M.u M.x M.t M.n E L N O Y U D M.m _ (hM.below hb0) hml
 rw[hE] at kc
 have hob:O.n*8≤140737488355328:=by
  have h:=F.o
  rw[hM.o.reads.len] at h
  have:M.v*(M.D:Int)≤16*8:=Int.le_trans (Int.mul_le_mul_of_nonneg_right F.v1 (by omega)) (Int.mul_le_mul_of_nonneg_left (by have:=F.d1;omega) (by omega))
  omega
 have km:=fun (W:World) (hb:Bw w W)=>QbU O.a O.n O.c M.m.o M.v xa xn xc xs W (hM.o.reads.below hb) hM.o.cap (hx.below hb) hf hob
 clear hE
 go_enter Tryz.func24,Tryz.ntmps24
 go_wp2_with (first
  | (go_at_call 50;refine kc.mono ?_;rintro e W1 ⟨rfl,h1⟩;have hb1:=bTn hb0 h1;obtain⟨a0,a1,a2,a3,a4,a5,a6,a7,a8,a9,a10,a11⟩:=(q1.kept h1).c12;clear h1 hb0 q1 kc)
  | (go_at_call 51;refine (km _ hb1).mono ?_;rintro e W2 ⟨⟨a,c,rfl,r2,-⟩,h2⟩;have hb2:=bTn hb1 h2;clear h2 km))
 refine bodyPost_ret (v:=.tuple #[.slice a (O.n/xn) c,I4 0]) ?_ rfl ⟨⟨a,c,rfl,r2⟩,hb2⟩
 simp[results,Tryz.results24,go_sem]
end Go.Proofs.YthliomlmhfjhnaaGreat

/- Texts put together. -/
import Derived.Test.YthliomlmhfjhnaaGreatRows
import Derived.Test.YthliomlmhfjhnaaGreatZf40
import Derived.Test.YthliomlmhfjhnaaGreatZf44
import Derived.Test.YthliomlmhfjhnaaGreatZf25
import Derived.Deep.Cut
namespace Go.Proofs.YthliomlmhfjhnaaGreat
set_option maxRecDepth 20000
set_option maxHeartbeats 16000000
open Go.ChangeShapes Go.WideShapes Go.ChangeAt Go.RowKit
set_option linter.unusedVariables false
set_option linter.unusedSimpArgs false
section
theorem mdstep_call (M:Md)(E L N O:SL)(Y U D:Nat→Nat→SL)(La:SL)(Ya:Nat→Nat→SL)(F:MdFit M)(ok:okB M.d M.h M.l M.v M.u M.x M.t M.n=true)(hok:M.r≠0→∃ R,AdFit M R)(p:Int)(hp:0≤p∧p<24)(tok:Nat)(ht:(tok:Int)<M.v)(w:World)(hM:ModAt w E L N O Y U D M.m)(hA:AdAt w La Ya M.a)
  (pa:Option Addr) (n pc:Nat) (A:Nat→Option Addr) (C:Nat→Nat) (P:Nat→List Int) (hP:Grid w pa n A C P) (hC:∀ r,r<n→(P r).length≤C r) (hcn:(n:Int)=p-seeZ p M.n) (hW:∀ r,r<n→(P r).length=2*M.m.ln*M.D) :
  Calls Tryz.prog 30 #[.agg #[.int .i64 M.d,.int .i64 M.h,.int .i64 M.l,.int .i64 M.v,.int .i64 M.u,.int .i64 M.x,.int .i64 M.t,.int .i64 M.n,.slice E.a E.n E.c,.slice L.a L.n L.c,.slice N.a N.n N.c,.slice O.a O.n O.c],.agg #[.int .i64 M.r,.int .i64 M.s,.slice La.a La.n La.c],.slice pa n pc,.int .i64 p,.int .i64 tok] w fun e w'=>(∃ a c b k,e=.returned (.tuple #[.slice a (2*M.m.ln*M.D) c,.slice b M.D k])∧Reads .i64 w' a (2*M.m.ln*M.D) (rowL M p P n tok)∧2*M.m.ln*M.D≤c∧Reads .i64 w' b M.D (outL M p P n tok)∧(∀ x,a=some x→w.heap.size≤x.block)∧∀ x,b=some x→w.heap.size≤x.block)∧Below w.heap.size w w':=by
 obtain⟨x0,hx0⟩:=hM.some_ (by have:=F.l0;omega)
 have:=step_walk M E L N O Y U D La Ya x0 F ok hok p hp tok ht w hM hA hx0 pa n pc A C P hP hC hcn hW
 rw[hx0,hM.len]
 exact this
theorem step_range (M:Md)(E L N O:SL)(La:SL)(w:World)(pa:Option Addr)(n pc:Nat)(p tok:Int)(h:¬(0≤p∧p<24)∨¬(0≤tok∧tok<M.v)) :
  Calls Tryz.prog 30 #[.agg #[.int .i64 M.d,.int .i64 M.h,.int .i64 M.l,.int .i64 M.v,.int .i64 M.u,.int .i64 M.x,.int .i64 M.t,.int .i64 M.n,.slice E.a E.n E.c,.slice L.a L.n L.c,.slice N.a N.n N.c,.slice O.a O.n O.c],.agg #[.int .i64 M.r,.int .i64 M.s,.slice La.a La.n La.c],.slice pa n pc,.int .i64 p,.int .i64 tok] w fun e w'=>e=.panicked [{ v:=.iface 35 (.int .i64 20),recovered:=false }]∧Below w.heap.size w w':=by
 by_cases h1:p<0
 ·exact step_place1 M E L N O La w pa n pc p tok h1
 ·by_cases h2:24≤p
  ·exact step_place2 M E L N O La w pa n pc p tok h2
  ·by_cases h3:tok<0
   ·exact step_token1 M E L N O La w pa n pc p tok ⟨by omega,by omega⟩ h3
   ·exact step_token2 M E L N O La w pa n pc p tok ⟨by omega,by omega⟩ ⟨by omega,by omega⟩
theorem cut_from {w:World}{a:Option Addr}{k c:Nat}{A:Nat→Option Addr}{C:Nat→Nat}{R:Nat→List Int}(G:Grid w a k A C R)(hc:k≤c)(hn:a=none→c=0)(s:Nat)(hs:s≤k)(hm:c≤maxLen) :
  ∃ q,(∀ W,(Instr.sliceAt 31 (.slice a k c) (some (.int .i64 (s:Int))) none none).run Tryz.prog W=.ok (.slice q (k-s) (c-s)) W)∧Grid w q (k-s) (fun r=>A (s+r)) (fun r=>C (s+r)) (fun r=>R (s+r)):=by
 unfold maxLen at hm
 have h3:(s:Int)≤(k:Int):=by omega
 have h4:(k:Int)≤(c:Int):=by omega
 cases a with
 | none =>
  obtain rfl:c=0:=hn rfl
  obtain rfl:k=0:=by omega
  obtain rfl:s=0:=by omega
  exact⟨none,fun W=>by go_simp,Grid.none_ _ _ _ _ _⟩
 | some x =>
  by_cases e:c=s
  ·obtain rfl:k=c:=by omega
   subst e
   exact⟨some x,fun W=>by go_simp,by rw[Nat.sub_self];exact Grid.none_ _ _ _ _ _⟩
  ·exact⟨some (x.add s),fun W=>by go_simp,G.cut s (k-s) (by omega)⟩
theorem Blk.own_kept {t e:TypeId}{w w':World}{b B n:Nat}{cs:Array Value}{v:Value}{xs:List Value}(q:Blk t w b cs)(ho:w.ownsRow B e 1 v n xs)(hte:t≠e)(hg:w.grownBy w' v.ownBlock):Blk t w' b cs:=by
 refine (hg.block b q.lt (fun h=>?_)).trans q
 rcases ho.2 with⟨rfl,_⟩|⟨g,cap,cur,rfl,_,hg',_⟩
 ·cases h
 ·have eb:b=g:=Option.some.inj h
  subst eb
  have:=Option.some.inj ((show w.heap[b]? = _ from q).symm.trans hg')
  simp only[Obj.cells.injEq] at this
  exact hte this.2.1
theorem stays_ne {w:World}{v v':Value}{n:Nat}(hs:Stays w v v')(h1:∀ g,v.ownBlock=some g→n≠g)(h2:n<w.heap.size):∀ g,v'.ownBlock=some g→n≠g:=fun g hg=>by
 rcases hs with e|e
 ·exact h1 g (e ▸ hg)
 ·have:=e g hg
  omega
theorem own_nil {w:World}{B:Nat}{e:TypeId}{a:Option Addr}{n c:Nat}{cs:List Value}(h:w.ownsRow B e 1 (.slice a n c) n cs):a=none→c=0:=fun ha=>by
 rcases h.2 with⟨h,_⟩|⟨g,cap,cur,h,_⟩
 ·simp only[Value.slice.injEq] at h
  exact h.2.2
 ·simp only[Value.slice.injEq] at h
  rw[ha] at h
  cases h.1
theorem own_max {w:World}{B:Nat}{e:TypeId}{a:Option Addr}{n c:Nat}{cs:List Value}(h:w.ownsRow B e 1 (.slice a n c) n cs):c≤maxLen:=by
 rcases h.2 with⟨h,_⟩|⟨g,cap,cur,h,_,_,_,hm,_⟩
 ·simp only[Value.slice.injEq] at h
  rw[h.2.2]
  exact Nat.zero_le _
 ·simp only[Value.slice.injEq] at h
  rw[h.2.2]
  exact hm
theorem reads_lt {k:IntKind}{w:World}{a:Option Addr}{n:Nat}{zs:List Int}(h:Reads k w a n zs){x:Addr}(hx:a=some x)(hn:0<n):x.block<w.heap.size:=by
 have:=World.block_lt_of_cell? w _ (h.cell x hx 0 hn)
 simpa [Addr.add] using this
theorem run_yes (M:Md)(E L N O:SL)(Y U D:Nat→Nat→SL)(La:SL)(Ya:Nat→Nat→SL)(F:MdFit M)(ok:okB M.d M.h M.l M.v M.u M.x M.t M.n=true)(hok:M.r≠0→∃ R,AdFit M R)(w:World)(hM:ModAt w E L N O Y U D M.m)(hA:AdAt w La Ya M.a)(ta:Option Addr)(n tc:Nat)(ts:List Int)(ht:Reads .i64 w ta n ts)(hB:runB M ts n=true) :
  Calls Tryz.prog 44 #[.agg #[.int .i64 M.d,.int .i64 M.h,.int .i64 M.l,.int .i64 M.v,.int .i64 M.u,.int .i64 M.x,.int .i64 M.t,.int .i64 M.n,.slice E.a E.n E.c,.slice L.a L.n L.c,.slice N.a N.n N.c,.slice O.a O.n O.c],.agg #[.int .i64 M.r,.int .i64 M.s,.slice La.a La.n La.c],.slice ta n tc] w fun e w'=>(∃ u k u2 k2 A A2 C C2,e=.returned (.tuple #[.slice u n k,.slice u2 n k2])∧TwoG w.heap.size w' (.slice u n k) (.slice u2 n k2) n n A A2 C C2 (rowF M (tokF ts)) (outF M (tokF ts))∧(∀ r,r<n→(rowF M (tokF ts) r).length≤C r))∧Below w.heap.size w w':=by
 obtain⟨hn24,htk⟩:=runB_yes hB
 obtain⟨j0,hj,hy0,hy1,hy2⟩:=info_parts info34
 have d0:=F.d0
 have d1:=F.d1
 have hD0:0<M.D:=by omega
 have hb0:=bNw (bNw (Below.refl w.heap.size w) (.cells #[.int .i64 M.d,.int .i64 M.h,.int .i64 M.l,.int .i64 M.v,.int .i64 M.u,.int .i64 M.x,.int .i64 M.t,.int .i64 M.n,.slice E.a E.n E.c,.slice L.a L.n L.c,.slice N.a N.n N.c,.slice O.a O.n O.c] 27)) (.cells #[.int .i64 M.r,.int .i64 M.s,.slice La.a La.n La.c] 30)
 have q1:Blk 27 ((w.alloc (.cells #[.int .i64 M.d,.int .i64 M.h,.int .i64 M.l,.int .i64 M.v,.int .i64 M.u,.int .i64 M.x,.int .i64 M.t,.int .i64 M.n,.slice E.a E.n E.c,.slice L.a L.n L.c,.slice N.a N.n N.c,.slice O.a O.n O.c] 27)).alloc (.cells #[.int .i64 M.r,.int .i64 M.s,.slice La.a La.n La.c] 30)) w.heap.size #[.int .i64 M.d,.int .i64 M.h,.int .i64 M.l,.int .i64 M.v,.int .i64 M.u,.int .i64 M.x,.int .i64 M.t,.int .i64 M.n,.slice E.a E.n E.c,.slice L.a L.n L.c,.slice N.a N.n N.c,.slice O.a O.n O.c]:=(Blk.new 27 w _).kept (bNw (Below.refl _ _) _)
 have q2:Blk 30 ((w.alloc (.cells #[.int .i64 M.d,.int .i64 M.h,.int .i64 M.l,.int .i64 M.v,.int .i64 M.u,.int .i64 M.x,.int .i64 M.t,.int .i64 M.n,.slice E.a E.n E.c,.slice L.a L.n L.c,.slice N.a N.n N.c,.slice O.a O.n O.c] 27)).alloc (.cells #[.int .i64 M.r,.int .i64 M.s,.slice La.a La.n La.c] 30)) (w.heap.size+1) #[.int .i64 M.r,.int .i64 M.s,.slice La.a La.n La.c]:=Blk.new_at 30 (w.alloc _) _ _ (by simp)
 go_enter Tryz.func44,Tryz.ntmps44
 go_wp2
 go_loopw [8,9,17] (fun vr vo i wr=>∃ k:Nat,k≤n∧i=.int .i64 k∧Below w.heap.size w wr∧Blk 27 wr w.heap.size #[.int .i64 M.d,.int .i64 M.h,.int .i64 M.l,.int .i64 M.v,.int .i64 M.u,.int .i64 M.x,.int .i64 M.t,.int .i64 M.n,.slice E.a E.n E.c,.slice L.a L.n L.c,.slice N.a N.n N.c,.slice O.a O.n O.c]∧Blk 30 wr (w.heap.size+1) #[.int .i64 M.r,.int .i64 M.s,.slice La.a La.n La.c]∧∃ A A2 C C2,TwoG w.heap.size wr vr vo k k A A2 C C2 (rowF M (tokF ts)) (outF M (tokF ts))∧(∀ r,r<k→(rowF M (tokF ts) r).length≤C r)) (fun _ _ i _=>n-(intOf i).toNat)
 case atStart=>exact⟨0,Nat.zero_le _,rfl,hb0,q1,q2,(fun _=>none),(fun _=>none),(fun _=>0),(fun _=>0),TwoG.none_ _ _ _ _ _ _ _ _,fun r hr=>by omega⟩
 case round =>
  clear hb0 q1 q2
  obtain⟨k,hk,rfl,hbr,qm,qa,A,A2,C,C2,tg,hcap⟩:=hrel
  by_cases hlt:k<n
  ·have Q1:=hdn qm
   have Q2:=hdn qa
   obtain⟨c0,c1,c2,c3,c4,c5,c6,c7,c8,c9,c10,c11⟩:=qm.c12
   obtain⟨s0,s1,s2⟩:=qa.c3
   obtain⟨ra,rc,rfl,rG⟩:=tg.g1.grid
   have rcap:=own_cap tg.g1.own
   have rnil:=own_nil tg.g1.own
   have rmax:=own_max tg.g1.own
   have sle:=saw_le M k
   have sint:=saw_int M k
   obtain⟨sq,hsl,sG⟩:=cut_from rG rcap rnil (saw M k) sle rmax
   obtain⟨x,rfl⟩:=ht.some_ (by omega)
   have cx:=(ht.below hbr).cell x rfl k (by omega)
   have HT:=hdn tg
   have n0:=F.n0
   have n1:=F.n1
   have tk:=htk k hlt
   have etok:ts.getD k 0=((tokF ts k:Nat):Int):=by unfold tokF;omega
   rw[etok] at cx
   have kst:=mdstep_call M E L N O Y U D La Ya F ok hok (k:Int) ⟨by omega,by omega⟩ (tokF ts k) (by rw[←etok];exact tk.2) wr (hM.below hbr) (hA.below hbr) sq (k-saw M k) (rc-saw M k) _ _ _ sG (fun r hr=>hcap (saw M k+r) (by omega)) (by rw[sint];omega) (fun r hr=>rowF_length F (tokF ts) _)
   have erow:rowL M (k:Int) (fun r=>rowF M (tokF ts) (saw M k+r)) (k-saw M k) (tokF ts k)=rowF M (tokF ts) k:=(rowF_eq M (tokF ts) k).symm
   have eout:outL M (k:Int) (fun r=>rowF M (tokF ts) (saw M k+r)) (k-saw M k) (tokF ts k)=outF M (tokF ts) k:=(outF_eq M (tokF ts) k).symm
   rw[erow,eout] at kst
   have lrow:=rowF_length F (tokF ts) k
   have lout:=outF_length M (tokF ts) k
   obtain⟨wd,ewd⟩:∃ wd,2*M.m.ln*M.D=wd:=⟨_,rfl⟩
   rw[ewd] at kst lrow
   have kvis:=fun W=>visible_call (k:Int) M.n (wf_small (by omega) (by omega)) (wf_small (by omega) (by omega)) W
   rw[sint] at kvis
   obtain⟨tkk,etk⟩:∃ tkk,tokF ts k=tkk:=⟨_,rfl⟩
   rw[etk] at kst cx
   obtain⟨sk,esk⟩:∃ sk,saw M k=sk:=⟨_,rfl⟩
   rw[esk] at kst kvis hsl sle
   have s0':(0:Int)≤(sk:Int):=by omega
   clear tk etok etk esk sG rG erow eout sint qm qa tg ewd rnil rmax
   go_wp2_with (first
    | (go_at_call 58;refine (kvis _).mono ?_;rintro e w' ⟨rfl,hq⟩;obtain rfl:=hq.symm;clear hq kvis)
    | (go_at_call 30;refine kst.mono ?_;rintro e W1 ⟨⟨ra1,rc1,oa1,oc1,rfl,rr1,rl1,ro1,fr1,fo1⟩,h1⟩;clear kst;have hb1:=bTn hbr h1;have t1:=HT.out.below h1;have Q1':=hdn (Q1.out.kept h1);have Q2':=hdn (Q2.out.kept h1);have fl1:∀ h,(Value.slice ra k rc).ownBlock=some h→h<wr.heap.size:=fun h hh=>(HT.out.g1.own.lt h hh).2;have fl2:∀ h,u9.ownBlock=some h→h<wr.heap.size:=fun h hh=>(HT.out.g2.own.lt h hh).2;have s1':=h1.size;clear Q1 Q2 h1 HT c0 c1 c2 c3 c4 c5 c6 c7 c8 c9 c10 c11 s0 s1 s2 cx hsl)
    | (at_builtin;refine wpList_append_where rfl (.tmp 38) (.tmp 40) 31 rfl w.heap.size 34 j0 (.slice none 0 0) 24 Tryz.underlying31 hj hy0 hy1 hy2 rfl _ k _ rfl (t1.g1.own.alloc _) ⟨_,0,none⟩ 1 (.slice ra1 wd rc1) rfl (one_new _ _ _) (sliceOne17 _ _ _) (by unfold maxLen;omega) (by omega) (bNw hb1 _).size ?_;intro v2 W2 ho2 hg2 hs2;have bn:=bNw (Below.refl W1.heap.size W1) (.cells #[.slice ra1 wd rc1] 34);have t2:=(t1.below bn).app lrow (rr1.below bn) (fun x hx g hg e=>by have:=fr1 x hx;have:=fl1 g hg;omega) (fun x hx g hg e=>by have:=fr1 x hx;have:=fl2 g hg;omega) ho2 hg2 hs2;have hb2:=below_append (bNw hb1 _) (t1.g1.own.alloc _) hg2;have Q1:=hdn ((Q1'.out.kept bn).own_kept (t1.g1.own.alloc _) (by decide) hg2);have Q2:=hdn ((Q2'.out.kept bn).own_kept (t1.g1.own.alloc _) (by decide) hg2);have ro2:=(ro1.below bn).grown hg2 (fun _ x hx g hg e=>by have:=fo1 x hx;have:=fl1 g hg;omega);have fo2:∀ x,oa1=some x→x.block<(W1.alloc (.cells #[.slice ra1 wd rc1] 34)).heap.size:=fun x hx=>reads_lt (ro1.below bn) hx hD0;have fv2:∀ x,oa1=some x→∀ g,v2.ownBlock=some g→x.block≠g:=fun x hx g hg=>stays_ne hs2 (fun q hq e=>by have:=fo1 x hx;have:=fl1 q hq;omega) (fo2 x hx) g hg;clear ho2 hg2 hs2 Q1' Q2' t1 bn rr1 ro1 hb1 fo2)
    | (at_builtin;refine wpList_append_where rfl (.tmp 42) (.tmp 44) 31 rfl w.heap.size 34 j0 (.slice none 0 0) 24 Tryz.underlying31 hj hy0 hy1 hy2 rfl _ k _ rfl (t2.g2.own.alloc _) ⟨_,0,none⟩ 1 (.slice oa1 M.D oc1) rfl (one_new _ _ _) (sliceOne17 _ _ _) (by unfold maxLen;omega) (by omega) (bNw hb2 _).size ?_;intro v3 W3 ho3 hg3 hs3;have bn:=bNw (Below.refl W2.heap.size W2) (.cells #[.slice oa1 M.D oc1] 34);have t3:=((t2.below bn).swap.app lout (ro2.below bn) (fun x hx g hg e=>by have:=fo1 x hx;have:=fl2 g hg;omega) (fun x hx g hg=>fv2 x hx g hg) ho3 hg3 hs3).swap;have hb3:=below_append (bNw hb2 _) (t2.g2.own.alloc _) hg3;have Q1':=hdn ((Q1.out.kept bn).own_kept (t2.g2.own.alloc _) (by decide) hg3);have Q2':=hdn ((Q2.out.kept bn).own_kept (t2.g2.own.alloc _) (by decide) hg3);have R3:=hdn t3;clear ho3 hg3 hs3 Q1 Q2 t2 bn ro2 hb2 t3))
   go_roundw
   case rel =>
    refine⟨k+1,by omega,by go_num,hb3,Q1'.out,Q2'.out,_,_,_,_,R3.out,fun r hr=>?_⟩
    by_cases e:r=k
    ·subst e
     simp only[if_true]
     rw[lrow]
     exact rl1
    ·simp only[if_neg e]
     exact hcap r (by omega)
   case measure=>simp[intOf];omega
  ·have e:k=n:=by omega
   subst e
   obtain⟨ra,rc,rfl,-⟩:=tg.g1.grid
   obtain⟨oa,oc,rfl,-⟩:=tg.g2.grid
   have HT:=hdn tg
   clear tg qm qa
   go_wp2
   refine bodyPost_ret (v:=.tuple #[.slice ra k rc,.slice oa k oc]) ?_ rfl ⟨⟨_,_,_,_,_,_,_,_,rfl,HT.out,hcap⟩,hbr⟩
   simp[results,Tryz.results44,go_sem]
theorem run_no (M:Md)(E L N O:SL)(Y U D:Nat→Nat→SL)(La:SL)(Ya:Nat→Nat→SL)(F:MdFit M)(ok:okB M.d M.h M.l M.v M.u M.x M.t M.n=true)(hok:M.r≠0→∃ R,AdFit M R)(w:World)(hM:ModAt w E L N O Y U D M.m)(hA:AdAt w La Ya M.a)(ta:Option Addr)(n tc:Nat)(ts:List Int)(ht:Reads .i64 w ta n ts)(hB:runB M ts n=false) :
  Calls Tryz.prog 44 #[.agg #[.int .i64 M.d,.int .i64 M.h,.int .i64 M.l,.int .i64 M.v,.int .i64 M.u,.int .i64 M.x,.int .i64 M.t,.int .i64 M.n,.slice E.a E.n E.c,.slice L.a L.n L.c,.slice N.a N.n N.c,.slice O.a O.n O.c],.agg #[.int .i64 M.r,.int .i64 M.s,.slice La.a La.n La.c],.slice ta n tc] w fun e w'=>e=.panicked [{ v:=.iface 35 (.int .i64 20),recovered:=false }]∧Below w.heap.size w w':=by
 obtain⟨J,hJn,hJ24,htk,hbad⟩:=runB_no hB
 obtain⟨j0,hj,hy0,hy1,hy2⟩:=info_parts info34
 have d0:=F.d0
 have d1:=F.d1
 have hD0:0<M.D:=by omega
 have hb0:=bNw (bNw (Below.refl w.heap.size w) (.cells #[.int .i64 M.d,.int .i64 M.h,.int .i64 M.l,.int .i64 M.v,.int .i64 M.u,.int .i64 M.x,.int .i64 M.t,.int .i64 M.n,.slice E.a E.n E.c,.slice L.a L.n L.c,.slice N.a N.n N.c,.slice O.a O.n O.c] 27)) (.cells #[.int .i64 M.r,.int .i64 M.s,.slice La.a La.n La.c] 30)
 have q1:Blk 27 ((w.alloc (.cells #[.int .i64 M.d,.int .i64 M.h,.int .i64 M.l,.int .i64 M.v,.int .i64 M.u,.int .i64 M.x,.int .i64 M.t,.int .i64 M.n,.slice E.a E.n E.c,.slice L.a L.n L.c,.slice N.a N.n N.c,.slice O.a O.n O.c] 27)).alloc (.cells #[.int .i64 M.r,.int .i64 M.s,.slice La.a La.n La.c] 30)) w.heap.size #[.int .i64 M.d,.int .i64 M.h,.int .i64 M.l,.int .i64 M.v,.int .i64 M.u,.int .i64 M.x,.int .i64 M.t,.int .i64 M.n,.slice E.a E.n E.c,.slice L.a L.n L.c,.slice N.a N.n N.c,.slice O.a O.n O.c]:=(Blk.new 27 w _).kept (bNw (Below.refl _ _) _)
 have q2:Blk 30 ((w.alloc (.cells #[.int .i64 M.d,.int .i64 M.h,.int .i64 M.l,.int .i64 M.v,.int .i64 M.u,.int .i64 M.x,.int .i64 M.t,.int .i64 M.n,.slice E.a E.n E.c,.slice L.a L.n L.c,.slice N.a N.n N.c,.slice O.a O.n O.c] 27)).alloc (.cells #[.int .i64 M.r,.int .i64 M.s,.slice La.a La.n La.c] 30)) (w.heap.size+1) #[.int .i64 M.r,.int .i64 M.s,.slice La.a La.n La.c]:=Blk.new_at 30 (w.alloc _) _ _ (by simp)
 go_enter Tryz.func44,Tryz.ntmps44
 go_wp2
 go_loopw [8,9,17] (fun vr vo i wr=>∃ k:Nat,k≤J∧i=.int .i64 k∧Below w.heap.size w wr∧Blk 27 wr w.heap.size #[.int .i64 M.d,.int .i64 M.h,.int .i64 M.l,.int .i64 M.v,.int .i64 M.u,.int .i64 M.x,.int .i64 M.t,.int .i64 M.n,.slice E.a E.n E.c,.slice L.a L.n L.c,.slice N.a N.n N.c,.slice O.a O.n O.c]∧Blk 30 wr (w.heap.size+1) #[.int .i64 M.r,.int .i64 M.s,.slice La.a La.n La.c]∧∃ A A2 C C2,TwoG w.heap.size wr vr vo k k A A2 C C2 (rowF M (tokF ts)) (outF M (tokF ts))∧(∀ r,r<k→(rowF M (tokF ts) r).length≤C r)) (fun _ _ i _=>J-(intOf i).toNat)
 case atStart=>exact⟨0,Nat.zero_le _,rfl,hb0,q1,q2,(fun _=>none),(fun _=>none),(fun _=>0),(fun _=>0),TwoG.none_ _ _ _ _ _ _ _ _,fun r hr=>by omega⟩
 case round =>
  clear hb0 q1 q2
  obtain⟨k,hk,rfl,hbr,qm,qa,A,A2,C,C2,tg,hcap⟩:=hrel
  by_cases hlt:k<J
  ·have Q1:=hdn qm
   have Q2:=hdn qa
   obtain⟨c0,c1,c2,c3,c4,c5,c6,c7,c8,c9,c10,c11⟩:=qm.c12
   obtain⟨s0,s1,s2⟩:=qa.c3
   obtain⟨ra,rc,rfl,rG⟩:=tg.g1.grid
   have rcap:=own_cap tg.g1.own
   have rnil:=own_nil tg.g1.own
   have rmax:=own_max tg.g1.own
   have sle:=saw_le M k
   have sint:=saw_int M k
   obtain⟨sq,hsl,sG⟩:=cut_from rG rcap rnil (saw M k) sle rmax
   obtain⟨x,rfl⟩:=ht.some_ (by omega)
   have cx:=(ht.below hbr).cell x rfl k (by omega)
   have HT:=hdn tg
   have n0:=F.n0
   have n1:=F.n1
   have tk:=htk k hlt
   have etok:ts.getD k 0=((tokF ts k:Nat):Int):=by unfold tokF;omega
   rw[etok] at cx
   have kst:=mdstep_call M E L N O Y U D La Ya F ok hok (k:Int) ⟨by omega,by omega⟩ (tokF ts k) (by rw[←etok];exact tk.2) wr (hM.below hbr) (hA.below hbr) sq (k-saw M k) (rc-saw M k) _ _ _ sG (fun r hr=>hcap (saw M k+r) (by omega)) (by rw[sint];omega) (fun r hr=>rowF_length F (tokF ts) _)
   have erow:rowL M (k:Int) (fun r=>rowF M (tokF ts) (saw M k+r)) (k-saw M k) (tokF ts k)=rowF M (tokF ts) k:=(rowF_eq M (tokF ts) k).symm
   have eout:outL M (k:Int) (fun r=>rowF M (tokF ts) (saw M k+r)) (k-saw M k) (tokF ts k)=outF M (tokF ts) k:=(outF_eq M (tokF ts) k).symm
   rw[erow,eout] at kst
   have lrow:=rowF_length F (tokF ts) k
   have lout:=outF_length M (tokF ts) k
   obtain⟨wd,ewd⟩:∃ wd,2*M.m.ln*M.D=wd:=⟨_,rfl⟩
   rw[ewd] at kst lrow
   have kvis:=fun W=>visible_call (k:Int) M.n (wf_small (by omega) (by omega)) (wf_small (by omega) (by omega)) W
   rw[sint] at kvis
   obtain⟨tkk,etk⟩:∃ tkk,tokF ts k=tkk:=⟨_,rfl⟩
   rw[etk] at kst cx
   obtain⟨sk,esk⟩:∃ sk,saw M k=sk:=⟨_,rfl⟩
   rw[esk] at kst kvis hsl sle
   have s0':(0:Int)≤(sk:Int):=by omega
   clear tk etok etk esk sG rG erow eout sint qm qa tg ewd rnil rmax
   go_wp2_with (first
    | (go_at_call 58;refine (kvis _).mono ?_;rintro e w' ⟨rfl,hq⟩;obtain rfl:=hq.symm;clear hq kvis)
    | (go_at_call 30;refine kst.mono ?_;rintro e W1 ⟨⟨ra1,rc1,oa1,oc1,rfl,rr1,rl1,ro1,fr1,fo1⟩,h1⟩;clear kst;have hb1:=bTn hbr h1;have t1:=HT.out.below h1;have Q1':=hdn (Q1.out.kept h1);have Q2':=hdn (Q2.out.kept h1);have fl1:∀ h,(Value.slice ra k rc).ownBlock=some h→h<wr.heap.size:=fun h hh=>(HT.out.g1.own.lt h hh).2;have fl2:∀ h,u9.ownBlock=some h→h<wr.heap.size:=fun h hh=>(HT.out.g2.own.lt h hh).2;have s1':=h1.size;clear Q1 Q2 h1 HT c0 c1 c2 c3 c4 c5 c6 c7 c8 c9 c10 c11 s0 s1 s2 cx hsl)
    | (at_builtin;refine wpList_append_where rfl (.tmp 38) (.tmp 40) 31 rfl w.heap.size 34 j0 (.slice none 0 0) 24 Tryz.underlying31 hj hy0 hy1 hy2 rfl _ k _ rfl (t1.g1.own.alloc _) ⟨_,0,none⟩ 1 (.slice ra1 wd rc1) rfl (one_new _ _ _) (sliceOne17 _ _ _) (by unfold maxLen;omega) (by omega) (bNw hb1 _).size ?_;intro v2 W2 ho2 hg2 hs2;have bn:=bNw (Below.refl W1.heap.size W1) (.cells #[.slice ra1 wd rc1] 34);have t2:=(t1.below bn).app lrow (rr1.below bn) (fun x hx g hg e=>by have:=fr1 x hx;have:=fl1 g hg;omega) (fun x hx g hg e=>by have:=fr1 x hx;have:=fl2 g hg;omega) ho2 hg2 hs2;have hb2:=below_append (bNw hb1 _) (t1.g1.own.alloc _) hg2;have Q1:=hdn ((Q1'.out.kept bn).own_kept (t1.g1.own.alloc _) (by decide) hg2);have Q2:=hdn ((Q2'.out.kept bn).own_kept (t1.g1.own.alloc _) (by decide) hg2);have ro2:=(ro1.below bn).grown hg2 (fun _ x hx g hg e=>by have:=fo1 x hx;have:=fl1 g hg;omega);have fo2:∀ x,oa1=some x→x.block<(W1.alloc (.cells #[.slice ra1 wd rc1] 34)).heap.size:=fun x hx=>reads_lt (ro1.below bn) hx hD0;have fv2:∀ x,oa1=some x→∀ g,v2.ownBlock=some g→x.block≠g:=fun x hx g hg=>stays_ne hs2 (fun q hq e=>by have:=fo1 x hx;have:=fl1 q hq;omega) (fo2 x hx) g hg;clear ho2 hg2 hs2 Q1' Q2' t1 bn rr1 ro1 hb1 fo2)
    | (at_builtin;refine wpList_append_where rfl (.tmp 42) (.tmp 44) 31 rfl w.heap.size 34 j0 (.slice none 0 0) 24 Tryz.underlying31 hj hy0 hy1 hy2 rfl _ k _ rfl (t2.g2.own.alloc _) ⟨_,0,none⟩ 1 (.slice oa1 M.D oc1) rfl (one_new _ _ _) (sliceOne17 _ _ _) (by unfold maxLen;omega) (by omega) (bNw hb2 _).size ?_;intro v3 W3 ho3 hg3 hs3;have bn:=bNw (Below.refl W2.heap.size W2) (.cells #[.slice oa1 M.D oc1] 34);have t3:=((t2.below bn).swap.app lout (ro2.below bn) (fun x hx g hg e=>by have:=fo1 x hx;have:=fl2 g hg;omega) (fun x hx g hg=>fv2 x hx g hg) ho3 hg3 hs3).swap;have hb3:=below_append (bNw hb2 _) (t2.g2.own.alloc _) hg3;have Q1':=hdn ((Q1.out.kept bn).own_kept (t2.g2.own.alloc _) (by decide) hg3);have Q2':=hdn ((Q2.out.kept bn).own_kept (t2.g2.own.alloc _) (by decide) hg3);have R3:=hdn t3;clear ho3 hg3 hs3 Q1 Q2 t2 bn ro2 hb2 t3))
   go_roundw
   case rel =>
    refine⟨k+1,by omega,by go_num,hb3,Q1'.out,Q2'.out,_,_,_,_,R3.out,fun r hr=>?_⟩
    by_cases e:r=k
    ·subst e
     simp only[if_true]
     rw[lrow]
     exact rl1
    ·simp only[if_neg e]
     exact hcap r (by omega)
   case measure=>simp[intOf];omega
  ·have e:k=J:=by omega
   subst e
   have Q1:=hdn qm
   have Q2:=hdn qa
   obtain⟨c0,c1,c2,c3,c4,c5,c6,c7,c8,c9,c10,c11⟩:=qm.c12
   obtain⟨s0,s1,s2⟩:=qa.c3
   obtain⟨ra,rc,rfl,rG⟩:=tg.g1.grid
   have rcap:=own_cap tg.g1.own
   have rnil:=own_nil tg.g1.own
   have rmax:=own_max tg.g1.own
   have sle:=saw_le M k
   have sint:=saw_int M k
   obtain⟨sq,hsl,sG⟩:=cut_from rG rcap rnil (saw M k) sle rmax
   obtain⟨x,rfl⟩:=ht.some_ (by omega)
   have cx:=(ht.below hbr).cell x rfl k (by omega)
   have HT:=hdn tg
   have n0:=F.n0
   have n1:=F.n1
   have kst:=step_range M E L N O La wr sq (k-saw M k) (rc-saw M k) (k:Int) (ts.getD k 0) (hbad.elim (fun e=>.inl (by omega)) .inr)
   have kvis:=fun W=>visible_call (k:Int) M.n (wf_small (by omega) (by omega)) (wf_small (by omega) (by omega)) W
   rw[sint] at kvis
   obtain⟨tkk,etk⟩:∃ tkk,ts.getD k 0=tkk:=⟨_,rfl⟩
   rw[etk] at kst cx
   obtain⟨sk,esk⟩:∃ sk,saw M k=sk:=⟨_,rfl⟩
   rw[esk] at kst kvis hsl sle
   clear etk esk sG rG sint qm qa tg rnil rmax hbad
   go_wp2_with (first
    | (go_at_call 58;refine (kvis _).mono ?_;rintro e w' ⟨rfl,hq⟩;obtain rfl:=hq.symm;clear hq kvis)
    | (go_at_call 30;refine kst.mono ?_;rintro e W1 ⟨rfl,h1⟩;clear kst;have hb1:=bTn hbr h1))
   exact⟨rfl,rfl,hb1⟩
end
section
theorem rL7 {w:World}{b:Nat}{d h l v u x t n:Int}{a0 a1 a2 a3:Option Addr}{n0 n1 n2 n3 c0 c1 c2 c3:Nat}(q:Blk 27 w b #[.int .i64 d,.int .i64 h,.int .i64 l,.int .i64 v,.int .i64 u,.int .i64 x,.int .i64 t,.int .i64 n,.slice a0 n0 c0,.slice a1 n1 c1,.slice a2 n2 c2,.slice a3 n3 c3]):(Instr.loadAt 27 (.pointer (some ⟨b,0,none⟩))).run Tryz.prog w=.ok (.agg #[.int .i64 d,.int .i64 h,.int .i64 l,.int .i64 v,.int .i64 u,.int .i64 x,.int .i64 t,.int .i64 n,.slice a0 n0 c0,.slice a1 n1 c1,.slice a2 n2 c2,.slice a3 n3 c3]) w :=
 run_load27 (E:=⟨a0,n0,c0⟩) (L:=⟨a1,n1,c1⟩) (N:=⟨a2,n2,c2⟩) (O:=⟨a3,n3,c3⟩) q
end
section
def wt (s:Int)(j:Nat):Int:=(drawn s j).tdiv 2
def wtL (s:Int)(n:Nat):List Int:=(List.range n).map (wt s)
theorem wtL_length (s:Int)(n:Nat):(wtL s n).length=n:=by simp[wtL]
theorem wtL_at (s:Int)(n j:Nat)(h:j<n):(wtL s n).getD j 0=wt s j:=by simp[wtL,h]
theorem half_bounds {z:Int}(h:-128≤z∧z≤127):-128≤z.tdiv 2∧z.tdiv 2≤127:=by
 rcases Int.le_total 0 z with h0|h0
 ·rw[Int.tdiv_eq_ediv_of_nonneg h0];omega
 ·have e:z.tdiv 2 = -((-z)/2):=by
   have:=Int.neg_tdiv (-z) 2
   rw[Int.neg_neg] at this
   rw[this,Int.tdiv_eq_ediv_of_nonneg (by omega)]
  omega
theorem i8_bounds (x:Int):-128≤i8 x∧i8 x≤127:=by unfold i8;omega
theorem wt_bounds (s:Int)(j:Nat):-128≤wt s j∧wt s j≤127:=half_bounds (i8_bounds _)
theorem wf_i8_of {z:Int}(h:-128≤z∧z≤127):(Lit.int .i8 z).wf=true:=by
 simpa [Lit.wf,IntKind.min,IntKind.max,IntKind.signed,IntKind.bits] using h
theorem wtL_wf (s:Int)(n:Nat):∀ z∈wtL s n,(Lit.int .i8 z).wf=true:=fun z hz=>by
 obtain⟨y,_,rfl⟩:=List.mem_map.1 hz
 exact wf_i8_of (wt_bounds _ _)
theorem wrap_i8 (x:Int):IntKind.i8.wrap x=i8 x:=by
 unfold IntKind.wrap i8
 simp[IntKind.bits,IntKind.signed]
 omega
theorem weights_call (n:Nat)(hn:n≤100000)(s:Int)(w:World) :
  Calls Tryz.prog 40 #[.int .i64 n,.int .u64 s] w fun e w'=>(∃ a c,e=.returned (.slice a n c)∧IsS w' ⟨a,n,c⟩ (wtL s n))∧Below w.heap.size w w':=by
 obtain⟨i0,hi,hz0,hz1,hz2⟩:=info_parts info73
 go_enter Tryz.func40,Tryz.ntmps40
 go_wp2
 go_loopw [1,5,6] (fun s' v i wr=>∃ k:Nat,k≤n∧i=.int .i64 k∧s'=.int .u64 (sd s k)∧Below w.heap.size w wr∧wr.ownsRow w.heap.size 73 1 v k (gath (wt s) .i8 k)) (fun _ _ i _=>n-(intOf i).toNat)
 case atStart=>exact⟨0,Nat.zero_le _,rfl,rfl,Below.refl _ _,World.ownsRow_nil _ _ _ _⟩
 case round =>
  obtain⟨k,hk,rfl,rfl,hbr,ho⟩:=hrel
  by_cases hlt:k<n
  ·have hsz:=hbr.size
   obtain⟨s',eSd⟩:∃ s',sd s k=s':=⟨_,rfl⟩
   obtain⟨M1,e1⟩:∃ z,IntKind.u64.wrap (s'*6364136223846793005)=z:=⟨_,rfl⟩
   obtain⟨M2,e2⟩:∃ z,IntKind.u64.wrap (M1+1442695040888963407)=z:=⟨_,rfl⟩
   obtain⟨M3,e3⟩:∃ z,M2/72057594037927936=z:=⟨_,rfl⟩
   have Es:Hid (sd s (k+1)=M2):=by show lcg (sd s k)=M2;unfold lcg;rw[eSd,e1,e2]
   have Ez:Hid ((i8 M3).tdiv 2=wt s k):=by unfold wt drawn;rw[Es.out,e3];exact rfl
   have hw8:=wrap_i8 M3
   have hb8:=half_bounds (i8_bounds M3)
   obtain⟨Z,eZ⟩:∃ Z,i8 M3=Z:=⟨_,rfl⟩
   rw[eZ] at hw8 hb8
   obtain⟨Y,eY⟩:∃ Y,Z.tdiv 2=Y:=⟨_,rfl⟩
   rw[eY] at hb8
   have hwy:IntKind.i8.wrap Y=Y:=by unfold IntKind.wrap;simp[IntKind.bits,IntKind.signed];omega
   have Ey:Hid (Y=wt s k):=by rw[←eY,←eZ];exact Ez.out
   rw[eSd]
   clear eSd eZ Ez
   go_wp2_with (first
    | (at_builtin;refine wpList_append_own _ rfl (.tmp 15) (.tmp 20) 24 rfl w.heap.size 73 i0 (.int .i8 0) 1 1 Tryz.underlying24 hi hz0 hz1 hz2 rfl (by decide) _ _ _ rfl (ho.alloc _) ⟨_,0,none⟩ 1 1 [.int .i8 Y] rfl rfl (one_new _ _ _) (one_oneCell _ _) (by unfold maxLen;omega) (by omega) (by simp;omega) ?_;intro v' w1 ho' hg _))
   go_roundw
   case rel=>exact⟨k+1,by omega,by go_num,by rw[Es.out],append_step hsz Ey.out hbr ho ho' hg⟩
   case measure=>simp[intOf];omega
  ·have e:k=n:=by omega
   subst e
   obtain⟨a,c,rfl,hre⟩:=own_reads (k:=.i8) (zs:=wtL s k) ho (wtL_length _ _) (wtL_wf _ _) (fun j hj=>by rw[gath_at _ _ _ _ hj,wtL_at _ _ _ hj])
   have fin:IsS wr ⟨a,k,c⟩ (wtL s k):=⟨hre,own_nil ho,own_cap ho⟩
   clear ho
   go_wp2
   go_ret
   exact⟨⟨_,_,rfl,fin⟩,hbr⟩
end
section
theorem mrun_yes (M:Md)(E L N O:SL)(Y U D:Nat→Nat→SL)(La:SL)(Ya:Nat→Nat→SL)(hE:badE M=0)(w:World)(hM:ModAt w E L N O Y U D M.m)(hA:AdAt w La Ya M.a)(ta:Option Addr)(n tc:Nat)(ts:List Int)(ht:Reads .i64 w ta n ts)(hB:runB M ts n=true) :
  Calls Tryz.prog 21 #[.agg #[.int .i64 M.d,.int .i64 M.h,.int .i64 M.l,.int .i64 M.v,.int .i64 M.u,.int .i64 M.x,.int .i64 M.t,.int .i64 M.n,.slice E.a E.n E.c,.slice L.a L.n L.c,.slice N.a N.n N.c,.slice O.a O.n O.c],.agg #[.int .i64 M.r,.int .i64 M.s,.slice La.a La.n La.c],.slice ta n tc] w fun e w'=>(∃ u k u2 k2 A A2 C C2,e=.returned (.tuple #[.slice u n k,.slice u2 n k2,.int .i64 0])∧Grid w' u n A C (rowF M (tokF ts))∧Grid w' u2 n A2 C2 (outF M (tokF ts))∧n≤k∧n≤k2∧(∀ r,r<n→(rowF M (tokF ts) r).length≤C r)∧(u=none→k=0)∧(u2=none→k2=0))∧Below w.heap.size w w':=by
 have ok:=badE_ok hE
 refine (Run_ok M E L N O Y U D La Ya w hM hA ta n tc (fun w' a m c b j k=>m=n∧j=n∧∃ A A2 C C2,Grid w' a n A C (rowF M (tokF ts))∧Grid w' b n A2 C2 (outF M (tokF ts))∧n≤c∧n≤k∧(∀ r,r<n→(rowF M (tokF ts) r).length≤C r)∧(a=none→c=0)∧(b=none→k=0)) hE (fun W hb=>(run_yes M E L N O Y U D La Ya ok.fit ok.ok (fun h=>ok.adapter h) W (hM.below hb) (hA.below hb) ta n tc ts (ht.below hb) hB).mono fun e w' h=>?_)).mono fun e w' h=>?_
 ·obtain⟨⟨u,k,u2,k2,A,A2,C,C2,rfl,h1,h2⟩,h3⟩:=h
  obtain⟨a,c,ea,ga⟩:=h1.g1.grid
  obtain⟨b,d,eb,gb⟩:=h1.g2.grid
  simp only[Value.slice.injEq,true_and] at ea eb
  obtain⟨rfl,rfl⟩:=ea
  obtain⟨rfl,rfl⟩:=eb
  exact⟨⟨u,n,k,u2,n,k2,rfl,rfl,rfl,A,A2,C,C2,ga,gb,own_cap h1.g1.own,own_cap h1.g2.own,h2,own_nil h1.g1.own,own_nil h1.g2.own⟩,h3⟩
 ·obtain⟨⟨a,m,c,b,j,k,rfl,rfl,rfl,A,A2,C,C2,h1⟩,h2⟩:=h
  exact⟨⟨a,c,b,k,A,A2,C,C2,rfl,h1⟩,h2⟩
theorem mrun_no (M:Md)(E L N O:SL)(Y U D:Nat→Nat→SL)(La:SL)(Ya:Nat→Nat→SL)(hE:badE M=0)(w:World)(hM:ModAt w E L N O Y U D M.m)(hA:AdAt w La Ya M.a)(ta:Option Addr)(n tc:Nat)(ts:List Int)(ht:Reads .i64 w ta n ts)(hB:runB M ts n=false) :
  Calls Tryz.prog 21 #[.agg #[.int .i64 M.d,.int .i64 M.h,.int .i64 M.l,.int .i64 M.v,.int .i64 M.u,.int .i64 M.x,.int .i64 M.t,.int .i64 M.n,.slice E.a E.n E.c,.slice L.a L.n L.c,.slice N.a N.n N.c,.slice O.a O.n O.c],.agg #[.int .i64 M.r,.int .i64 M.s,.slice La.a La.n La.c],.slice ta n tc] w fun e w'=>e=.returned (.tuple #[.slice none 0 0,.slice none 0 0,.int .i64 20])∧Below w.heap.size w w':=by
 have ok:=badE_ok hE
 exact Run_inner M E L N O Y U D La Ya w hM hA ta n tc (fun _ _ _ _ _ _ _=>True) 20 hE (fun W hb=>run_no M E L N O Y U D La Ya ok.fit ok.ok (fun h=>ok.adapter h) W (hM.below hb) (hA.below hb) ta n tc ts (ht.below hb) hB)
end
section
def smM:Md:=⟨2,1,1,2,1,0,0,0,shapeV 2 1 2 1 0 (wtL 1 34),0,0,noA⟩
def zeroW:List Int:=List.replicate 34 0
def zeroV:ModV:=shapeV 2 1 2 1 0 zeroW
def zV:ModV:={ zeroV with nm:=[64,64],f:=fun i j=>if i=0∧j=0 then [64,64] else zeroV.f i j }
def zM:Md:=⟨2,1,1,2,1,0,0,0,zV,0,0,noA⟩
theorem sm_ok:okB 2 1 1 2 1 0 0 0=true:=by decide +kernel
theorem sm_size:szZ 2 1 2 1 0=34:=by decide +kernel
theorem sm_bad:badE smM=0:=by decide +kernel
theorem z_bad:badE zM=0:=by decide +kernel
theorem sm_yes:runB smM [0,1,1] 3=true:=by decide +kernel
theorem sm_no:runB smM [2] 1=false:=by decide +kernel
theorem z_row:rowL zM 0 (fun _=>[]) 0 1=[0,0,0,0]:=by decide +kernel
theorem z_out:outL zM 0 (fun _=>[]) 0 1=[0,0]:=by decide +kernel
theorem sm_rows:rowF smM (tokF [0,1,1]) 0≠rowF smM (tokF [0,1,1]) 1:=by decide +kernel
end
section
theorem Scores_yes (M:Md)(E L N O:SL)(Y U D:Nat→Nat→SL)(hE:checkB M.d M.h M.l M.v M.u M.x M.t M.n M.m=0)(F:MdFit M)(w:World)(hM:ModAt w E L N O Y U D M.m)(xa:Option Addr)(xn xc:Nat)(xs:List Int)(hx:Reads .i64 w xa xn xs)(hf:fitB O.n M.v xn=true) :
  Calls Tryz.prog 23 #[.agg #[.int .i64 M.d,.int .i64 M.h,.int .i64 M.l,.int .i64 M.v,.int .i64 M.u,.int .i64 M.x,.int .i64 M.t,.int .i64 M.n,.slice E.a E.n E.c,.slice L.a L.n L.c,.slice N.a N.n N.c,.slice O.a O.n O.c],.slice xa xn xc] w fun e w'=>(∃ a c,e=.returned (.tuple #[.slice a (O.n/xn) c,.int .i64 0])∧Reads .i64 w' a (O.n/xn) (matL M.m.o xs))∧Below w.heap.size w w':=by
 have hmf:∀ (fn:Fn) (first cap:Array Value) (w:World),(Instr.makeFunc fn first cap).run Tryz.prog w=.ok (.func fn first cap) w:=fun _ _ _ _=>rfl
 have hb0:=bNw (bNw (Below.refl w.heap.size w) (.cells #[.int .i64 M.d,.int .i64 M.h,.int .i64 M.l,.int .i64 M.v,.int .i64 M.u,.int .i64 M.x,.int .i64 M.t,.int .i64 M.n,.slice E.a E.n E.c,.slice L.a L.n L.c,.slice N.a N.n N.c,.slice O.a O.n O.c] 27)) (.cells #[.int .i64 0] 35)
 have q1:Blk 27 ((w.alloc (.cells #[.int .i64 M.d,.int .i64 M.h,.int .i64 M.l,.int .i64 M.v,.int .i64 M.u,.int .i64 M.x,.int .i64 M.t,.int .i64 M.n,.slice E.a E.n E.c,.slice L.a L.n L.c,.slice N.a N.n N.c,.slice O.a O.n O.c] 27)).alloc (.cells #[.int .i64 0] 35)) w.heap.size #[.int .i64 M.d,.int .i64 M.h,.int .i64 M.l,.int .i64 M.v,.int .i64 M.u,.int .i64 M.x,.int .i64 M.t,.int .i64 M.n,.slice E.a E.n E.c,.slice L.a L.n L.c,.slice N.a N.n N.c,.slice O.a O.n O.c]:=(Blk.new 27 w _).kept (bNw (Below.refl _ _) _)
 have q3:Blk 35 ((w.alloc (.cells #[.int .i64 M.d,.int .i64 M.h,.int .i64 M.l,.int .i64 M.v,.int .i64 M.u,.int .i64 M.x,.int .i64 M.t,.int .i64 M.n,.slice E.a E.n E.c,.slice L.a L.n L.c,.slice N.a N.n N.c,.slice O.a O.n O.c] 27)).alloc (.cells #[.int .i64 0] 35)) (w.heap.size+1) #[.int .i64 0]:=Blk.new_at 35 (w.alloc _) _ _ (by simp)
 have kc:=fun (W:World) (hb:Below w.heap.size w W)=>check_call M.d M.h M.l M.v M.u M.x M.t M.n E L N O Y U D M.m W (hM.below hb)
 rw[hE] at kc
 have hob:O.n*8≤140737488355328:=by
  have h:=F.o
  rw[hM.o.reads.len] at h
  have:M.v*(M.D:Int)≤16*8:=Int.le_trans (Int.mul_le_mul_of_nonneg_right F.v1 (by omega)) (Int.mul_le_mul_of_nonneg_left (by have:=F.d1;omega) (by omega))
  omega
 have km:=fun (W:World) (hb:Below w.heap.size w W)=>mat_yes O.a O.n O.c M.m.o M.v xa xn xc xs W (hM.o.reads.below hb) hM.o.cap (hx.below hb) hf hob
 clear hE
 go_enter_defers Tryz.func23,Tryz.ntmps23
 go_wp2
 refine sy_region M E L N O 0 w.heap.size q1 (by kernel_rfl) rfl ⟨_,rfl,rfl,rfl,rfl,by kernel_rfl⟩ ⟨_,rfl,rfl,rfl,rfl,by kernel_rfl⟩ ⟨_,rfl,rfl,rfl,rfl,by kernel_rfl⟩ ⟨_,rfl,rfl,rfl,rfl,by kernel_rfl⟩ ⟨_,rfl,rfl,rfl,rfl,by kernel_rfl⟩ rfl (fun W hb=>kc W (bTn hb0 hb)) (fun W=>mdmustM_yes M.d M.h M.l M.v M.u M.x M.t M.n E L N O W) (Nat.le_of_ble_eq_true rfl) ?_
 intro a W2 hs hd hkp hb2
 have ep:=fPu [7,8,9,10] hs hd (fun s h=>hkp s (fun j hj e=>h (by
  rcases (show j=0∨j=1∨j=2∨j=3∨j=4 by omega) with rfl|rfl|rfl|rfl|rfl<;>first|(simp only[syD,Option.some.injEq] at e;subst e;simp;done)|(simp[syD] at e))))
 simp only[List.foldl] at ep
 clear hs hd hkp
 generalize a.tmps.getD 7 undef=g7,a.tmps.getD 8 undef=g8,a.tmps.getD 9 undef=g9,a.tmps.getD 10 undef=g10 at ep
 simp only[Act.put,List.setIfInBounds_toArray,List.set_cons_succ,List.set_cons_zero] at ep
 subst ep
 have hb:=bTn hb0 hb2
 have Q3:=hdn (q3.kept hb2)
 obtain⟨c0,c1,c2,c3,c4,c5,c6,c7,c8,c9,c10,c11⟩:=(q1.kept hb2).c12
 clear q1 q3 hb0 hb2 kc
 go_wp2_with (first
  | (go_at_call 49;refine (km _ hb).mono ?_;rintro e W3 ⟨⟨cs,rfl,r3,-⟩,h3⟩;have hb3:=bTn hb h3;have z1:=(Q3.out.kept h3).cell 0 (v:=.int .i64 0) rfl;have z2:=(Q3.out.kept h3).open_ 0;clear h3 km hb)
  | (go_at_call 48;refine (mdmust_yes _ _ _ _).mono ?_;rintro e w' ⟨rfl,hq⟩;obtain rfl:=hq.symm;clear hq))
 refine leaves_cons (f:=45) (args:=#[.pointer (some ⟨w.heap.size+1,0,none⟩)]) (by simp) (by simp[go_sem]) ?_
 rw[set_same z1]
 refine (catch_idle45 ⟨w.heap.size+1,0,none⟩ 0 _ z1 z2).mono ?_
 rintro e u' w'' ⟨rfl,rfl,rfl⟩
 rw[set_same z1]
 simp[Leaves,settle,results,Tryz.results23,go_sem,z1]
 exact⟨r3,hb3⟩
end
section
theorem drewN_below (w:World)(m:Nat):Below w.heap.size w (w.drewN m):=below_drew (Below.refl _ _) ⟨m,rfl⟩
end
section
theorem run_build45 (w:World):(Instr.buildSlice 45 0 #[]).run Tryz.prog w=.ok (.slice (some ⟨w.heap.size,0,none⟩) 0 0) (w.alloc (.cells #[] 3)):=by go_simp
theorem below_low {B:Nat}{w w' w'':World}(h:Below B w w')(k:Below B w' w''):Below B w w'':=h.trans k
theorem _root_.Go.World.ownsRow.lower {w:World}{B B' n sz:Nat}{e:TypeId}{v:Value}{xs:List Value}(h:w.ownsRow B e sz v n xs)(hb:B'≤B):w.ownsRow B' e sz v n xs:=by
 refine⟨h.1,?_⟩
 rcases h.2 with h2|⟨g,cap,cur,hv,hg,r⟩
 ·exact .inl h2
 ·exact .inr ⟨g,cap,cur,hv,by omega,r⟩
def wi12D (i:Nat):Option Nat:=match i with|0=>some 91|1=>some 92|2=>some 93|3=>some 94|4=>some 95|5=>some 96|6=>some 97|7=>some 98|8=>some 99|9=>some 100|10=>some 101|11=>some 102|12=>some 103|13=>some 90|14=>some 104|15=>some 105|16=>some 106|17=>some 13|18=>some 14|19=>some 15|_=>none
theorem wi12D_inj:∀ i,i<20→∀ j,j<20→wi12D i=wi12D j→wi12D i≠none→i=j:=by decide
theorem wi12D_lt:∀ i,i<20→∀ d,wi12D i=some d→d<141:=by
 intro i hi d h
 have:∀ i,i<20→(wi12D i).all (fun d=>decide (d<141))=true:=by decide
 have:=this i hi
 rw[h] at this
 simpa using this
def wi12F (M:Md)(E L N O La:SL)(kb mb ab nn on oc tn tc rn:Nat)(oa ta:Option Addr)(tx:Addr)(xs ys:List Int)(ee:Int)(RA RB:World→Option Addr→Nat→Prop)(g0:Nat)(k:Nat→Bool)(j:Nat)(q:Value)(w:World):Prop:=match j with
 | 0=>q=.agg #[.int .i64 M.d,.int .i64 M.h,.int .i64 M.l,.int .i64 M.v,.int .i64 M.u,.int .i64 M.x,.int .i64 M.t,.int .i64 M.n,.slice E.a E.n E.c,.slice L.a L.n L.c,.slice N.a N.n N.c,.slice O.a O.n O.c]
 | 1=>q=.agg #[.int .i64 M.r,.int .i64 M.s,.slice La.a La.n La.c]
 | 2=>k 6=false→∃ yb,q=.slice (some ⟨yb,0,none⟩) 0 0∧w.ownsRow g0 3 1 (.slice (some ⟨yb,0,none⟩) 0 0) 0 []
 | 3=>q=.slice oa on oc
 | 4=>q=.int .i64 (nn:Int)
 | 5=>q=.slice oa nn oc
 | 6=>k 11=false→∃ ya yc,q=.slice ya nn yc∧w.ownsRow g0 3 1 (.slice ya nn yc) nn (xs.map (Value.int .i64))
 | 7=>q=.pointer (some ⟨kb,10,none⟩)
 | 8=>q=.slice ta tn tc
 | 9=>q=.int .i64 (nn:Int)
 | 10=>q=.slice (some (tx.add nn)) (tn-nn) (tc-nn)
 | 11=>∃ ya yc,q=.slice ya tn yc∧Reads .i64 w ya tn (xs++ys)
 | 12=>∃ ya yc yb yd,q=.tuple #[.slice ya rn yc,.slice yb rn yd,.int .i64 ee]∧RA w ya yc∧RB w yb yd
 | 13=>∃ ya yc yb yd,q=.tuple #[.slice ya rn yc,.slice yb rn yd,.int .i64 ee]∧RA w ya yc∧RB w yb yd
 | 14=>∃ ya yc,q=.slice ya rn yc∧RA w ya yc
 | 15=>∃ ya yc,q=.slice ya rn yc∧RB w ya yc
 | 16=>q=.int .i64 ee
 | 17=>∃ ya yc,q=.slice ya rn yc∧RA w ya yc
 | 18=>∃ ya yc,q=.slice ya rn yc∧RB w ya yc
 | 19=>q=.int .i64 ee
 | _=>True
theorem wi12_region {id:Nat}{ops:Array Oper}{Q:Exit→Act→World→Prop}{a0:Act}{w0:World}(M:Md)(E L N O La:SL)(kb mb ab nn on oc tn tc rn:Nat)(oa ta:Option Addr)(tx:Addr)(xs ys:List Int)(ee:Int)(RA RB:World→Option Addr→Nat→Prop)(hRA:∀ {w w':World}{a:Option Addr}{c:Nat},RA w a c→Below w.heap.size w w'→RA w' a c)(hRB:∀ {w w':World}{a:Option Addr}{c:Nat},RB w a c→Below w.heap.size w w'→RB w' a c)(hnt:nn≤tn)(hxs:xs.length=nn)(hys:ys.length=tn-nn)(ht9:tn≤1000)
  (hlow:lowB ops=true) (hsz:ops.size=20)
  (o0:OpIn ops 0 (some 91) (.load 27 (.tmp 5)) none []) (o1:OpIn ops 1 (some 92) (.load 30 (.tmp 9)) none []) (o2:OpIn ops 2 (some 93) (.buildSlice 45 0 #[]) none []) (o3:OpIn ops 3 (some 94) (.move (.tmp 1)) none []) (o4:OpIn ops 4 (some 95) (.move (.tmp 8)) none []) (o5:OpIn ops 5 (some 96) (.slice 45 (.tmp 94) none (some (.tmp 95)) none) none [3,4]) (o6:OpIn ops 6 (some 97) (.call { callee:=.builtin .append,args:=#[.tmp 93,.tmp 96],argTypes:=#[45,45] }) none [2,5]) (o7:OpIn ops 7 (some 98) (.fieldAddr 47 (.tmp 2) 3) none []) (o8:OpIn ops 8 (some 99) (.load 45 (.tmp 98)) none [7]) (o9:OpIn ops 9 (some 100) (.move (.tmp 8)) none []) (o10:OpIn ops 10 (some 101) (.slice 45 (.tmp 99) (some (.tmp 100)) none none) none [8,9]) (o11:OpIn ops 11 (some 102) (.call { callee:=.builtin .append,args:=#[.tmp 97,.tmp 101],argTypes:=#[45,45] }) none [6,10]) (o12:OpIn ops 12 (some 103) (.call { callee:=.value (.func 21),args:=#[.tmp 91,.tmp 92,.tmp 102],argTypes:=#[27,30,45] }) none [0,1,11]) (o13:OpIn ops 13 (some 90) (.move (.tmp 103)) none [12]) (o14:OpIn ops 14 (some 104) (.extract (.tmp 90) 0) none [13]) (o15:OpIn ops 15 (some 105) (.extract (.tmp 90) 1) none [13]) (o16:OpIn ops 16 (some 106) (.extract (.tmp 90) 2) none [13]) (o17:OpIn ops 17 (some 13) (.assign (.tmp 104)) none [14]) (o18:OpIn ops 18 (some 14) (.assign (.tmp 105)) none [15]) (o19:OpIn ops 19 (some 15) (.assign (.tmp 106)) none [16])
  (x0:∀ w,Below w0.heap.size w0 w→(Instr.loadAt 27 (.pointer (some ⟨mb,0,none⟩))).run Tryz.prog w=.ok (.agg #[.int .i64 M.d,.int .i64 M.h,.int .i64 M.l,.int .i64 M.v,.int .i64 M.u,.int .i64 M.x,.int .i64 M.t,.int .i64 M.n,.slice E.a E.n E.c,.slice L.a L.n L.c,.slice N.a N.n N.c,.slice O.a O.n O.c]) w)
  (x1:∀ w,Below w0.heap.size w0 w→(Instr.loadAt 30 (.pointer (some ⟨ab,0,none⟩))).run Tryz.prog w=.ok (.agg #[.int .i64 M.r,.int .i64 M.s,.slice La.a La.n La.c]) w)
  (x5:∀ w,(Instr.sliceAt 45 (.slice oa on oc) none (some (.int .i64 (nn:Int))) none).run Tryz.prog w=.ok (.slice oa nn oc) w)
  (x8:∀ w,Below w0.heap.size w0 w→(Instr.loadAt 45 (.pointer (some ⟨kb,10,none⟩))).run Tryz.prog w=.ok (.slice ta tn tc) w)
  (x10:∀ w,(Instr.sliceAt 45 (.slice ta tn tc) (some (.int .i64 (nn:Int))) none none).run Tryz.prog w=.ok (.slice (some (tx.add nn)) (tn-nn) (tc-nn)) w)
  (rx:∀ w,Below w0.heap.size w0 w→Reads .i64 w oa nn xs) (rxe:oa=none→oc=0)
  (ry:∀ w,Below w0.heap.size w0 w→Reads .i64 w (some (tx.add nn)) (tn-nn) ys)
  (wz:∀ z∈xs++ys,(Lit.int .i64 z).wf=true)
  (x12:∀ w ya yc,Below w0.heap.size w0 w→Reads .i64 w ya tn (xs++ys)→Calls Tryz.prog 21 #[.agg #[.int .i64 M.d,.int .i64 M.h,.int .i64 M.l,.int .i64 M.v,.int .i64 M.u,.int .i64 M.x,.int .i64 M.t,.int .i64 M.n,.slice E.a E.n E.c,.slice L.a L.n L.c,.slice N.a N.n N.c,.slice O.a O.n O.c],.agg #[.int .i64 M.r,.int .i64 M.s,.slice La.a La.n La.c],.slice ya tn yc] w fun e w'=>(∃ ya yc yb yd,e=.returned (.tuple #[.slice ya rn yc,.slice yb rn yd,.int .i64 ee])∧RA w' ya yc∧RB w' yb yd)∧Below w.heap.size w w')
  (u5:a0.tmps.getD 5 undef=.pointer (some ⟨mb,0,none⟩)) (u9:a0.tmps.getD 9 undef=.pointer (some ⟨ab,0,none⟩)) (u1:a0.tmps.getD 1 undef=.slice oa on oc) (u8:a0.tmps.getD 8 undef=.int .i64 (nn:Int)) (u2:a0.tmps.getD 2 undef=.pointer (some ⟨kb,0,none⟩))
  (hs:141≤a0.tmps.size)
  (fin:∀ a w,a.tmps.size=a0.tmps.size→a.defers=a0.defers→(∀ s,(∀ i,i<20→wi12D i≠some s)→a.tmps.getD s undef=a0.tmps.getD s undef)→Below w0.heap.size w0 w→(∃ ya yc,a.tmps.getD 13 undef=.slice ya rn yc∧RA w ya yc)→(∃ ya yc,a.tmps.getD 14 undef=.slice ya rn yc∧RB w ya yc)→a.tmps.getD 15 undef=.int .i64 ee→Q .normal a w):(Code.region id ops true).wp Tryz.prog Q a0 w0:=by
 have r21:∀ args w,(callFunc 21 args).run Tryz.prog w=.ok (.enter 21 args) w:=eNo Tryz.func21 (by kernel_rfl) rfl
 refine wp_region_inv2 (by kernel_rfl) hlow (Inv 20 wi12D a0 (fun l a w=>Below w0.heap.size w0 w∧Kept2 20 wi12D a0 l a) (wi12F M E L N O La kb mb ab nn on oc tn tc rn oa ta tx xs ys ee RA RB w0.heap.size)) (Inv.start ⟨(Below.refl _ _).drew,kept2_start _ _ _⟩) ?_ ?_
 ·intro l i o a w ho hl hcl hdep hI
  have hi:i<20:=by rw[←hsz];exact (Array.getElem?_eq_some_iff.1 ho).1
  have ev:∀ (s:Nat),a.eval (.tmp s)=a.tmps.getD s undef:=fun _=>rfl
  have evf:∀ f,a.eval (.func f)=.func (.func f) #[] #[]:=fun _=>rfl
  have inj:∀ d,wi12D i=some d→∀ j d',j<20→wi12D j=some d'→j≠i→d'≠d:=fun d hd j d' hj hd' hne e=>hne (wi12D_inj j hj i hi (by rw[hd',hd,e]) (by rw[hd'];simp))
  have kp:∀ s,(∀ i,i<20→wi12D i≠some s)→a.tmps.getD s undef=a0.tmps.getD s undef:=hI.kept
  obtain⟨hw,k2⟩:Below w0.heap.size w0 w∧Kept2 20 wi12D a0 l a:=hI.world
  have oth:∀ j,j≠i→(l j || j==i)=l j:=fun j hj=>by rw[show (j==i)=false by simp[hj],Bool.or_false]
  have sam:(l i || i==i)=true:=by simp
  have go:∀ {d:Nat}{v:Value}{w':World},wi12D i=some d→i≠6→i≠11→Below w.heap.size w w'→wi12F M E L N O La kb mb ab nn on oc tn tc rn oa ta tx xs ys ee RA RB w0.heap.size (fun j=>l j || j==i) i v w'→Inv 20 wi12D a0 (fun l a w=>Below w0.heap.size w0 w∧Kept2 20 wi12D a0 l a) (wi12F M E L N O La kb mb ab nn on oc tn tc rn oa ta tx xs ys ee RA RB w0.heap.size) (fun j=>l j || j==i) (a.put (some d) v) w':=by
   intro d v w' hD n6 n11 hb hF
   refine hI.put hi hD (Nat.lt_of_lt_of_le (wi12D_lt i hi d hD) hs) (inj d hD) ⟨bTn hw hb,k2.put hD (by rw[hI.size];exact Nat.lt_of_lt_of_le (wi12D_lt i hi d hD) hs) hi⟩ hF (fun j u hj _ _ h=>?_)
   unfold wi12F at h ⊢
   dsimp only
   rw[oth 6 (Ne.symm n6),oth 11 (Ne.symm n11)]
   rcases (show j=0∨j=1∨j=2∨j=3∨j=4∨j=5∨j=6∨j=7∨j=8∨j=9∨j=10∨j=11∨j=12∨j=13∨j=14∨j=15∨j=16∨j=17∨j=18∨j=19 by omega) with rfl|rfl|rfl|rfl|rfl|rfl|rfl|rfl|rfl|rfl|rfl|rfl|rfl|rfl|rfl|rfl|rfl|rfl|rfl|rfl
   ·exact h
   ·exact h
   ·exact fun e=>(h e).elim fun yb h=>⟨yb,h.1,(Keeps.of_below hb).own h.2⟩
   ·exact h
   ·exact h
   ·exact h
   ·exact fun e=>(h e).elim fun ya h=>h.elim fun yc h=>⟨ya,yc,h.1,(Keeps.of_below hb).own h.2⟩
   ·exact h
   ·exact h
   ·exact h
   ·exact h
   ·exact h.elim fun ya h=>h.elim fun yc h=>⟨ya,yc,h.1,h.2.below hb⟩
   ·obtain⟨ya,yc,yb,yd,h1,h2,h3⟩:=h;exact⟨ya,yc,yb,yd,h1,hRA h2 hb,hRB h3 hb⟩
   ·obtain⟨ya,yc,yb,yd,h1,h2,h3⟩:=h;exact⟨ya,yc,yb,yd,h1,hRA h2 hb,hRB h3 hb⟩
   ·obtain⟨ya,yc,h1,h2⟩:=h;exact⟨ya,yc,h1,hRA h2 hb⟩
   ·obtain⟨ya,yc,h1,h2⟩:=h;exact⟨ya,yc,h1,hRB h2 hb⟩
   ·exact h
   ·obtain⟨ya,yc,h1,h2⟩:=h;exact⟨ya,yc,h1,hRA h2 hb⟩
   ·obtain⟨ya,yc,h1,h2⟩:=h;exact⟨ya,yc,h1,hRB h2 hb⟩
   ·exact h
  rcases (show i=0∨i=1∨i=2∨i=3∨i=4∨i=5∨i=6∨i=7∨i=8∨i=9∨i=10∨i=11∨i=12∨i=13∨i=14∨i=15∨i=16∨i=17∨i=18∨i=19 by omega) with rfl|rfl|rfl|rfl|rfl|rfl|rfl|rfl|rfl|rfl|rfl|rfl|rfl|rfl|rfl|rfl|rfl|rfl|rfl|rfl
  ·obtain⟨o',e1,e2,e3,e4,e5⟩:=o0
   obtain rfl:=sOp ho e1
   have dp:=dPo e5 hdep
   have U5:a.tmps.getD 5 undef=_:=(kp 5 (by decide)).trans u5
   exact wVa (v:=.agg #[.int .i64 M.d,.int .i64 M.h,.int .i64 M.l,.int .i64 M.v,.int .i64 M.u,.int .i64 M.x,.int .i64 M.t,.int .i64 M.n,.slice E.a E.n E.c,.slice L.a L.n L.c,.slice N.a N.n N.c,.slice O.a O.n O.c]) (w':=w) ho e4 (by simp[execOp,e3,ev,U5,x0 w hw]) (by rw[e2];exact go rfl (by decide) (by decide) (Below.refl _ _) rfl)
  ·obtain⟨o',e1,e2,e3,e4,e5⟩:=o1
   obtain rfl:=sOp ho e1
   have dp:=dPo e5 hdep
   have U9:a.tmps.getD 9 undef=_:=(kp 9 (by decide)).trans u9
   exact wVa (v:=.agg #[.int .i64 M.r,.int .i64 M.s,.slice La.a La.n La.c]) (w':=w) ho e4 (by simp[execOp,e3,ev,U9,x1 w hw]) (by rw[e2];exact go rfl (by decide) (by decide) (Below.refl _ _) rfl)
  ·obtain⟨o',e1,e2,e3,e4,e5⟩:=o2
   obtain rfl:=sOp ho e1
   have dp:=dPo e5 hdep
   have hb:=bNw (Below.refl w.heap.size w) (.cells #[] 3)
   exact wVa (v:=.slice (some ⟨w.heap.size,0,none⟩) 0 0) (w':=w.alloc (.cells #[] 3)) ho e4 (by simp[execOp,e3,run_build45]) (by rw[e2];exact go rfl (by decide) (by decide) hb (fun _=>⟨_,rfl,(World.ownsRow_lit (base:=w.heap.size) (size:=1) w #[] 0 (Nat.le_refl _) (by decide) rfl).lower hw.size⟩))
  ·obtain⟨o',e1,e2,e3,e4,e5⟩:=o3
   obtain rfl:=sOp ho e1
   have dp:=dPo e5 hdep
   have U1:a.tmps.getD 1 undef=_:=(kp 1 (by decide)).trans u1
   exact wVa (v:=.slice oa on oc) (w':=w) ho e4 (by simp[execOp,e3,ev,U1]) (by rw[e2];exact go rfl (by decide) (by decide) (Below.refl _ _) rfl)
  ·obtain⟨o',e1,e2,e3,e4,e5⟩:=o4
   obtain rfl:=sOp ho e1
   have dp:=dPo e5 hdep
   have U8:a.tmps.getD 8 undef=_:=(kp 8 (by decide)).trans u8
   exact wVa (v:=.int .i64 (nn:Int)) (w':=w) ho e4 (by simp[execOp,e3,ev,U8]) (by rw[e2];exact go rfl (by decide) (by decide) (Below.refl _ _) rfl)
  ·obtain⟨o',e1,e2,e3,e4,e5⟩:=o5
   obtain rfl:=sOp ho e1
   have dp:=dPo e5 hdep
   have V3:a.tmps.getD 94 undef=.slice oa on oc:=hI.val 3 94 (by decide) rfl (dp 3 (by decide))
   have V4:a.tmps.getD 95 undef=.int .i64 (nn:Int):=hI.val 4 95 (by decide) rfl (dp 4 (by decide))
   exact wVa (v:=.slice oa nn oc) (w':=w) ho e4 (by simp[execOp,e3,ev,V3,V4,x5 w]) (by rw[e2];exact go rfl (by decide) (by decide) (Below.refl _ _) rfl)
  ·obtain⟨o',e1,e2,e3,e4,e5⟩:=o6
   obtain rfl:=sOp ho e1
   have dp:=dPo e5 hdep
   have V5:a.tmps.getD 96 undef=.slice oa nn oc:=hI.val 5 96 (by decide) rfl (dp 5 (by decide))
   obtain⟨yb,V2,f2⟩:∃ yb,a.tmps.getD 93 undef=.slice (some ⟨yb,0,none⟩) 0 0∧w.ownsRow w0.heap.size 3 1 (.slice (some ⟨yb,0,none⟩) 0 0) 0 []:=hI.val 2 93 (by decide) rfl (dp 2 (by decide)) hl
   have hon:=rx w hw
   obtain⟨ca,cc,W2,hap,hb,hown⟩:=run_copy45 w yb w0.heap.size o.type oa nn oc xs hon (by omega) f2 hw.size
   refine wVa (v:=.slice ca nn cc) (w':=W2) ho e4 (by simp only[execOp,e3,resolve,invoke,builtin,Sem.run_bind,Sem.run_pure,Result.andThen_ok,List.map_toArray,List.map_cons,List.map_nil,ev,V2,V5,hap]) ?_
   rw[e2]
   refine hI.put (by decide) (d:=97) rfl (Nat.lt_of_lt_of_le (by decide) hs) (inj 97 rfl) ⟨bTn hw hb,k2.put rfl (by rw[hI.size];exact Nat.lt_of_lt_of_le (by decide) hs) (by decide)⟩ (fun _=>⟨ca,cc,rfl,hown⟩) (fun j u hj hlj hne h=>?_)
   unfold wi12F at h ⊢
   dsimp only
   rcases (show j=0∨j=1∨j=2∨j=3∨j=4∨j=5∨j=6∨j=7∨j=8∨j=9∨j=10∨j=11∨j=12∨j=13∨j=14∨j=15∨j=16∨j=17∨j=18∨j=19 by omega) with rfl|rfl|rfl|rfl|rfl|rfl|rfl|rfl|rfl|rfl|rfl|rfl|rfl|rfl|rfl|rfl|rfl|rfl|rfl|rfl
   ·exact h
   ·exact h
   ·rw[sam];intro e;cases e
   ·exact h
   ·exact h
   ·exact h
   ·exact absurd rfl hne
   ·exact h
   ·exact h
   ·exact h
   ·exact h
   ·have y:=(hcl.dep' o11 hlj 6 (by decide))
    rw[hl] at y
    cases y
   ·have y:=(hcl.dep' o11 (hcl.dep' o12 hlj 11 (by decide)) 6 (by decide))
    rw[hl] at y
    cases y
   ·have y:=(hcl.dep' o11 (hcl.dep' o12 (hcl.dep' o13 hlj 12 (by decide)) 11 (by decide)) 6 (by decide))
    rw[hl] at y
    cases y
   ·have y:=(hcl.dep' o11 (hcl.dep' o12 (hcl.dep' o13 (hcl.dep' o14 hlj 13 (by decide)) 12 (by decide)) 11 (by decide)) 6 (by decide))
    rw[hl] at y
    cases y
   ·have y:=(hcl.dep' o11 (hcl.dep' o12 (hcl.dep' o13 (hcl.dep' o15 hlj 13 (by decide)) 12 (by decide)) 11 (by decide)) 6 (by decide))
    rw[hl] at y
    cases y
   ·exact h
   ·have y:=(hcl.dep' o11 (hcl.dep' o12 (hcl.dep' o13 (hcl.dep' o14 (hcl.dep' o17 hlj 14 (by decide)) 13 (by decide)) 12 (by decide)) 11 (by decide)) 6 (by decide))
    rw[hl] at y
    cases y
   ·have y:=(hcl.dep' o11 (hcl.dep' o12 (hcl.dep' o13 (hcl.dep' o15 (hcl.dep' o18 hlj 15 (by decide)) 13 (by decide)) 12 (by decide)) 11 (by decide)) 6 (by decide))
    rw[hl] at y
    cases y
   ·exact h
  ·obtain⟨o',e1,e2,e3,e4,e5⟩:=o7
   obtain rfl:=sOp ho e1
   have dp:=dPo e5 hdep
   have U2:a.tmps.getD 2 undef=_:=(kp 2 (by decide)).trans u2
   exact wVa (v:=.pointer (some ⟨kb,10,none⟩)) (w':=w) ho e4 (by simp[execOp,e3,ev,U2,run_field47 kb 3 10 (by omega)]) (by rw[e2];exact go rfl (by decide) (by decide) (Below.refl _ _) rfl)
  ·obtain⟨o',e1,e2,e3,e4,e5⟩:=o8
   obtain rfl:=sOp ho e1
   have dp:=dPo e5 hdep
   have V7:a.tmps.getD 98 undef=.pointer (some ⟨kb,10,none⟩):=hI.val 7 98 (by decide) rfl (dp 7 (by decide))
   exact wVa (v:=.slice ta tn tc) (w':=w) ho e4 (by simp[execOp,e3,ev,V7,x8 w hw]) (by rw[e2];exact go rfl (by decide) (by decide) (Below.refl _ _) rfl)
  ·obtain⟨o',e1,e2,e3,e4,e5⟩:=o9
   obtain rfl:=sOp ho e1
   have dp:=dPo e5 hdep
   have U8:a.tmps.getD 8 undef=_:=(kp 8 (by decide)).trans u8
   exact wVa (v:=.int .i64 (nn:Int)) (w':=w) ho e4 (by simp[execOp,e3,ev,U8]) (by rw[e2];exact go rfl (by decide) (by decide) (Below.refl _ _) rfl)
  ·obtain⟨o',e1,e2,e3,e4,e5⟩:=o10
   obtain rfl:=sOp ho e1
   have dp:=dPo e5 hdep
   have V8:a.tmps.getD 99 undef=.slice ta tn tc:=hI.val 8 99 (by decide) rfl (dp 8 (by decide))
   have V9:a.tmps.getD 100 undef=.int .i64 (nn:Int):=hI.val 9 100 (by decide) rfl (dp 9 (by decide))
   exact wVa (v:=.slice (some (tx.add nn)) (tn-nn) (tc-nn)) (w':=w) ho e4 (by simp[execOp,e3,ev,V8,V9,x10 w]) (by rw[e2];exact go rfl (by decide) (by decide) (Below.refl _ _) rfl)
  ·obtain⟨o',e1,e2,e3,e4,e5⟩:=o11
   obtain rfl:=sOp ho e1
   have dp:=dPo e5 hdep
   have V10:a.tmps.getD 101 undef=.slice (some (tx.add nn)) (tn-nn) (tc-nn):=hI.val 10 101 (by decide) rfl (dp 10 (by decide))
   obtain⟨ya,yc,V6,f6⟩:∃ ya yc,a.tmps.getD 97 undef=.slice ya nn yc∧w.ownsRow w0.heap.size 3 1 (.slice ya nn yc) nn (xs.map (Value.int .i64)):=hI.val 6 97 (by decide) rfl (dp 6 (by decide)) hl
   obtain⟨v2,W2,hap,hb,hown⟩:=run_more45 w w0.heap.size o.type (.slice ya nn yc) nn xs f6 (some (tx.add nn)) (tn-nn) (tc-nn) ys (ry w hw) (fun h=>by cases h) (by omega) hw.size
   rw[show nn+(tn-nn)=tn by omega] at hown
   obtain⟨ca,cc,rfl,hrd⟩:=own_reads (k:=.i64) hown (by rw[List.length_append];omega) wz (fun j hj=>copy_at .i64 (xs++ys) j (by rw[List.length_append];omega))
   refine wVa (v:=.slice ca tn cc) (w':=W2) ho e4 (by simp only[execOp,e3,resolve,invoke,builtin,Sem.run_bind,Sem.run_pure,Result.andThen_ok,List.map_toArray,List.map_cons,List.map_nil,ev,V6,V10,hap]) ?_
   rw[e2]
   refine hI.put (by decide) (d:=102) rfl (Nat.lt_of_lt_of_le (by decide) hs) (inj 102 rfl) ⟨below_low hw hb,k2.put rfl (by rw[hI.size];exact Nat.lt_of_lt_of_le (by decide) hs) (by decide)⟩ ⟨ca,cc,rfl,hrd⟩ (fun j u hj hlj hne h=>?_)
   unfold wi12F at h ⊢
   dsimp only
   rcases (show j=0∨j=1∨j=2∨j=3∨j=4∨j=5∨j=6∨j=7∨j=8∨j=9∨j=10∨j=11∨j=12∨j=13∨j=14∨j=15∨j=16∨j=17∨j=18∨j=19 by omega) with rfl|rfl|rfl|rfl|rfl|rfl|rfl|rfl|rfl|rfl|rfl|rfl|rfl|rfl|rfl|rfl|rfl|rfl|rfl|rfl
   ·exact h
   ·exact h
   ·rw[oth 6 (by decide),dp 6 (by decide)];intro e;cases e
   ·exact h
   ·exact h
   ·exact h
   ·rw[sam];intro e;cases e
   ·exact h
   ·exact h
   ·exact h
   ·exact h
   ·exact absurd rfl hne
   ·have y:=(hcl.dep' o12 hlj 11 (by decide))
    rw[hl] at y
    cases y
   ·have y:=(hcl.dep' o12 (hcl.dep' o13 hlj 12 (by decide)) 11 (by decide))
    rw[hl] at y
    cases y
   ·have y:=(hcl.dep' o12 (hcl.dep' o13 (hcl.dep' o14 hlj 13 (by decide)) 12 (by decide)) 11 (by decide))
    rw[hl] at y
    cases y
   ·have y:=(hcl.dep' o12 (hcl.dep' o13 (hcl.dep' o15 hlj 13 (by decide)) 12 (by decide)) 11 (by decide))
    rw[hl] at y
    cases y
   ·exact h
   ·have y:=(hcl.dep' o12 (hcl.dep' o13 (hcl.dep' o14 (hcl.dep' o17 hlj 14 (by decide)) 13 (by decide)) 12 (by decide)) 11 (by decide))
    rw[hl] at y
    cases y
   ·have y:=(hcl.dep' o12 (hcl.dep' o13 (hcl.dep' o15 (hcl.dep' o18 hlj 15 (by decide)) 13 (by decide)) 12 (by decide)) 11 (by decide))
    rw[hl] at y
    cases y
   ·exact h
  ·obtain⟨o',e1,e2,e3,e4,e5⟩:=o12
   obtain rfl:=sOp ho e1
   have dp:=dPo e5 hdep
   have V0:a.tmps.getD 91 undef=.agg #[.int .i64 M.d,.int .i64 M.h,.int .i64 M.l,.int .i64 M.v,.int .i64 M.u,.int .i64 M.x,.int .i64 M.t,.int .i64 M.n,.slice E.a E.n E.c,.slice L.a L.n L.c,.slice N.a N.n N.c,.slice O.a O.n O.c]:=hI.val 0 91 (by decide) rfl (dp 0 (by decide))
   have V1:a.tmps.getD 92 undef=.agg #[.int .i64 M.r,.int .i64 M.s,.slice La.a La.n La.c]:=hI.val 1 92 (by decide) rfl (dp 1 (by decide))
   obtain⟨ya,yc,V11,f11⟩:∃ ya yc,a.tmps.getD 102 undef=.slice ya tn yc∧Reads .i64 w ya tn (xs++ys):=hI.val 11 102 (by decide) rfl (dp 11 (by decide))
   refine wCa (f:=21) (args:=#[.agg #[.int .i64 M.d,.int .i64 M.h,.int .i64 M.l,.int .i64 M.v,.int .i64 M.u,.int .i64 M.x,.int .i64 M.t,.int .i64 M.n,.slice E.a E.n E.c,.slice L.a L.n L.c,.slice N.a N.n N.c,.slice O.a O.n O.c],.agg #[.int .i64 M.r,.int .i64 M.s,.slice La.a La.n La.c],.slice ya tn yc]) ho e4 (by simp[execOp,e3,resolve,invoke,Deferred.ofValue,r21,ev,evf,V0,V1,V11]) ((x12 w ya yc hw f11).mono ?_)
   rintro e W' ⟨⟨a6,c6,b6,d6,rfl,fa6,fb6⟩,hb6⟩
   refine⟨_,rfl,?_⟩
   rw[e2]
   exact go rfl (by decide) (by decide) hb6 ⟨a6,c6,b6,d6,rfl,fa6,fb6⟩
  ·obtain⟨o',e1,e2,e3,e4,e5⟩:=o13
   obtain rfl:=sOp ho e1
   have dp:=dPo e5 hdep
   obtain⟨a6,c6,b6,d6,V9,fa6,fb6⟩:∃ ya yc yb yd,a.tmps.getD 103 undef=.tuple #[.slice ya rn yc,.slice yb rn yd,.int .i64 ee]∧RA w ya yc∧RB w yb yd:=hI.val 12 103 (by decide) rfl (dp 12 (by decide))
   exact wVa (v:=.tuple #[.slice a6 rn c6,.slice b6 rn d6,.int .i64 ee]) (w':=w) ho e4 (by simp[execOp,e3,ev,V9,Instr.extract]) (by rw[e2];exact go rfl (by decide) (by decide) (Below.refl _ _) ⟨a6,c6,b6,d6,rfl,fa6,fb6⟩)
  ·obtain⟨o',e1,e2,e3,e4,e5⟩:=o14
   obtain rfl:=sOp ho e1
   have dp:=dPo e5 hdep
   obtain⟨a6,c6,b6,d6,V9,fa6,fb6⟩:∃ ya yc yb yd,a.tmps.getD 90 undef=.tuple #[.slice ya rn yc,.slice yb rn yd,.int .i64 ee]∧RA w ya yc∧RB w yb yd:=hI.val 13 90 (by decide) rfl (dp 13 (by decide))
   exact wVa (v:=.slice a6 rn c6) (w':=w) ho e4 (by simp[execOp,e3,ev,V9,Instr.extract]) (by rw[e2];exact go rfl (by decide) (by decide) (Below.refl _ _) ⟨a6,c6,rfl,fa6⟩)
  ·obtain⟨o',e1,e2,e3,e4,e5⟩:=o15
   obtain rfl:=sOp ho e1
   have dp:=dPo e5 hdep
   obtain⟨a6,c6,b6,d6,V9,fa6,fb6⟩:∃ ya yc yb yd,a.tmps.getD 90 undef=.tuple #[.slice ya rn yc,.slice yb rn yd,.int .i64 ee]∧RA w ya yc∧RB w yb yd:=hI.val 13 90 (by decide) rfl (dp 13 (by decide))
   exact wVa (v:=.slice b6 rn d6) (w':=w) ho e4 (by simp[execOp,e3,ev,V9,Instr.extract]) (by rw[e2];exact go rfl (by decide) (by decide) (Below.refl _ _) ⟨b6,d6,rfl,fb6⟩)
  ·obtain⟨o',e1,e2,e3,e4,e5⟩:=o16
   obtain rfl:=sOp ho e1
   have dp:=dPo e5 hdep
   obtain⟨a6,c6,b6,d6,V9,fa6,fb6⟩:∃ ya yc yb yd,a.tmps.getD 90 undef=.tuple #[.slice ya rn yc,.slice yb rn yd,.int .i64 ee]∧RA w ya yc∧RB w yb yd:=hI.val 13 90 (by decide) rfl (dp 13 (by decide))
   exact wVa (v:=.int .i64 ee) (w':=w) ho e4 (by simp[execOp,e3,ev,V9,Instr.extract]) (by rw[e2];exact go rfl (by decide) (by decide) (Below.refl _ _) rfl)
  ·obtain⟨o',e1,e2,e3,e4,e5⟩:=o17
   obtain rfl:=sOp ho e1
   have dp:=dPo e5 hdep
   obtain⟨a6,c6,V9,f6⟩:∃ ya yc,a.tmps.getD 104 undef=.slice ya rn yc∧RA w ya yc:=hI.val 14 104 (by decide) rfl (dp 14 (by decide))
   exact wVa (v:=.slice a6 rn c6) (w':=w) ho e4 (by simp[execOp,e3,ev,V9]) (by rw[e2];exact go rfl (by decide) (by decide) (Below.refl _ _) ⟨a6,c6,rfl,f6⟩)
  ·obtain⟨o',e1,e2,e3,e4,e5⟩:=o18
   obtain rfl:=sOp ho e1
   have dp:=dPo e5 hdep
   obtain⟨a6,c6,V9,f6⟩:∃ ya yc,a.tmps.getD 105 undef=.slice ya rn yc∧RB w ya yc:=hI.val 15 105 (by decide) rfl (dp 15 (by decide))
   exact wVa (v:=.slice a6 rn c6) (w':=w) ho e4 (by simp[execOp,e3,ev,V9]) (by rw[e2];exact go rfl (by decide) (by decide) (Below.refl _ _) ⟨a6,c6,rfl,f6⟩)
  ·obtain⟨o',e1,e2,e3,e4,e5⟩:=o19
   obtain rfl:=sOp ho e1
   have dp:=dPo e5 hdep
   have V16:a.tmps.getD 106 undef=.int .i64 ee:=hI.val 16 106 (by decide) rfl (dp 16 (by decide))
   exact wVa (v:=.int .i64 ee) (w':=w) ho e4 (by simp[execOp,e3,ev,V16]) (by rw[e2];exact go rfl (by decide) (by decide) (Below.refl _ _) rfl)
 ·intro l a w hall hI
  have all:∀ j,j<20→l j=true:=fun j hj=>hall j (by rw[hsz];exact hj)
  exact fin a w hI.size hI.defers hI.kept hI.world.1 (hI.val 17 13 (by decide) rfl (all 17 (by decide))) (hI.val 18 14 (by decide) rfl (all 18 (by decide))) (hI.val 19 15 (by decide) rfl (all 19 (by decide)))
end
end Go.Proofs.YthliomlmhfjhnaaGreat

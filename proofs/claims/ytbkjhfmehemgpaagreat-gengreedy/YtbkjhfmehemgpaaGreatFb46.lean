/- Texts put together. -/
import Derived.Test.YtbkjhfmehemgpaaGreatFb43
import Derived.Test.YtbkjhfmehemgpaaGreatFb45
import Derived.Test.YtbkjhfmehemgpaaGreatFb42
import Derived.Test.YtbkjhfmehemgpaaGreatFb41
import Derived.Test.YtbkjhfmehemgpaaGreatFb44
namespace Go.Proofs.YtbkjhfmehemgpaaGreat
set_option maxRecDepth 20000
set_option maxHeartbeats 16000000
open Go.ChangeShapes Go.WideShapes Go.ChangeAt Go.RowKit
set_option linter.unusedVariables false
set_option linter.unusedSimpArgs false
theorem mdstep_call (M:Md)(E L N O:SL)(Y U D:Nat→Nat→SL)(La:SL)(Ya:Nat→Nat→SL)(F:MdFit M)(ok:okB M.d M.h M.l M.v M.u M.x M.t M.n=true)(hok:M.r≠0→∃ R,AdFit M R)(p:Int)(hp:0≤p∧p<24)(tok:Nat)(ht:(tok:Int)<M.v)(w:World)(hM:ModAt w E L N O Y U D M.m)(hA:AdAt w La Ya M.a)
  (pa:Option Addr) (n pc:Nat) (A:Nat→Option Addr) (C:Nat→Nat) (P:Nat→List Int) (hP:Grid w pa n A C P) (hC:∀ r,r<n→(P r).length≤C r) (hcn:(n:Int)=p-seeZ p M.n) (hW:∀ r,r<n→(P r).length=2*M.m.ln*M.D) :
  Calls Tryz.prog 110 #[.agg #[.int .i64 M.d,.int .i64 M.h,.int .i64 M.l,.int .i64 M.v,.int .i64 M.u,.int .i64 M.x,.int .i64 M.t,.int .i64 M.n,.slice E.a E.n E.c,.slice L.a L.n L.c,.slice N.a N.n N.c,.slice O.a O.n O.c],.agg #[.int .i64 M.r,.int .i64 M.s,.slice La.a La.n La.c],.slice pa n pc,.int .i64 p,.int .i64 tok] w fun e w'=>(∃ a c b k,e=.returned (.tuple #[.slice a (2*M.m.ln*M.D) c,.slice b M.D k])∧Reads .i64 w' a (2*M.m.ln*M.D) (rowL M p P n tok)∧2*M.m.ln*M.D≤c∧Reads .i64 w' b M.D (outL M p P n tok)∧(∀ x,a=some x→w.heap.size≤x.block)∧∀ x,b=some x→w.heap.size≤x.block)∧Below w.heap.size w w':=by
 obtain⟨x0,hx0⟩:=hM.some_ (by have:=F.l0;omega)
 have:=step_walk M E L N O Y U D La Ya x0 F ok hok p hp tok ht w hM hA hx0 pa n pc A C P hP hC hcn hW
 rw[hx0,hM.len]
 exact this
theorem cut_from {w:World}{a:Option Addr}{k c:Nat}{A:Nat→Option Addr}{C:Nat→Nat}{R:Nat→List Int}(G:Grid w a k A C R)(hc:k≤c)(hn:a=none→c=0)(s:Nat)(hs:s≤k)(hm:c≤maxLen) :
  ∃ q,(∀ W,(Instr.sliceAt 67 (.slice a k c) (some (.int .i64 (s:Int))) none none).run Tryz.prog W=.ok (.slice q (k-s) (c-s)) W)∧Grid w q (k-s) (fun r=>A (s+r)) (fun r=>C (s+r)) (fun r=>R (s+r)):=by
 unfold maxLen at hm
 have h3:(s:Int)≤(k:Int):=by omega
 have h4:(k:Int)≤(c:Int):=by omega
 cases a with
 | none =>
  obtain rfl:c=0:=hn rfl
  obtain rfl:k=0:=by omega
  obtain rfl:s=0:=by omega
  exact⟨none,fun W=>by go_simp,Grid.none_ _ _ _ _ _⟩
 | some x =>
  by_cases e:c=s
  ·obtain rfl:k=c:=by omega
   subst e
   exact⟨some x,fun W=>by go_simp,by rw[Nat.sub_self];exact Grid.none_ _ _ _ _ _⟩
  ·exact⟨some (x.add s),fun W=>by go_simp,G.cut s (k-s) (by omega)⟩
theorem Blk.own_kept {t e:TypeId}{w w':World}{b B n:Nat}{cs:Array Value}{v:Value}{xs:List Value}(q:Blk t w b cs)(ho:w.ownsRow B e 1 v n xs)(hte:t≠e)(hg:w.grownBy w' v.ownBlock):Blk t w' b cs:=by
 refine (hg.block b q.lt (fun h=>?_)).trans q
 rcases ho.2 with⟨rfl,_⟩|⟨g,cap,cur,rfl,_,hg',_⟩
 ·cases h
 ·have eb:b=g:=Option.some.inj h
  subst eb
  have:=Option.some.inj ((show w.heap[b]? = _ from q).symm.trans hg')
  simp only[Obj.cells.injEq] at this
  exact hte this.2.1
theorem stays_ne {w:World}{v v':Value}{n:Nat}(hs:Stays w v v')(h1:∀ g,v.ownBlock=some g→n≠g)(h2:n<w.heap.size):∀ g,v'.ownBlock=some g→n≠g:=fun g hg=>by
 rcases hs with e|e
 ·exact h1 g (e ▸ hg)
 ·have:=e g hg
  omega
theorem own_nil {w:World}{B:Nat}{e:TypeId}{a:Option Addr}{n c:Nat}{cs:List Value}(h:w.ownsRow B e 1 (.slice a n c) n cs):a=none→c=0:=fun ha=>by
 rcases h.2 with⟨h,_⟩|⟨g,cap,cur,h,_⟩
 ·simp only[Value.slice.injEq] at h
  exact h.2.2
 ·simp only[Value.slice.injEq] at h
  rw[ha] at h
  cases h.1
theorem own_max {w:World}{B:Nat}{e:TypeId}{a:Option Addr}{n c:Nat}{cs:List Value}(h:w.ownsRow B e 1 (.slice a n c) n cs):c≤maxLen:=by
 rcases h.2 with⟨h,_⟩|⟨g,cap,cur,h,_,_,_,hm,_⟩
 ·simp only[Value.slice.injEq] at h
  rw[h.2.2]
  exact Nat.zero_le _
 ·simp only[Value.slice.injEq] at h
  rw[h.2.2]
  exact hm
theorem reads_lt {k:IntKind}{w:World}{a:Option Addr}{n:Nat}{zs:List Int}(h:Reads k w a n zs){x:Addr}(hx:a=some x)(hn:0<n):x.block<w.heap.size:=by
 have:=World.block_lt_of_cell? w _ (h.cell x hx 0 hn)
 simpa [Addr.add] using this
theorem run_yes (M:Md)(E L N O:SL)(Y U D:Nat→Nat→SL)(La:SL)(Ya:Nat→Nat→SL)(F:MdFit M)(ok:okB M.d M.h M.l M.v M.u M.x M.t M.n=true)(hok:M.r≠0→∃ R,AdFit M R)(w:World)(hM:ModAt w E L N O Y U D M.m)(hA:AdAt w La Ya M.a)(ta:Option Addr)(n tc:Nat)(ts:List Int)(ht:Reads .i64 w ta n ts)(hB:runB M ts n=true) :
  Calls Tryz.prog 76 #[.agg #[.int .i64 M.d,.int .i64 M.h,.int .i64 M.l,.int .i64 M.v,.int .i64 M.u,.int .i64 M.x,.int .i64 M.t,.int .i64 M.n,.slice E.a E.n E.c,.slice L.a L.n L.c,.slice N.a N.n N.c,.slice O.a O.n O.c],.agg #[.int .i64 M.r,.int .i64 M.s,.slice La.a La.n La.c],.slice ta n tc] w fun e w'=>(∃ u k u2 k2 A A2 C C2,e=.returned (.tuple #[.slice u n k,.slice u2 n k2])∧TwoG w.heap.size w' (.slice u n k) (.slice u2 n k2) n n A A2 C C2 (rowF M (tokF ts)) (outF M (tokF ts))∧(∀ r,r<n→(rowF M (tokF ts) r).length≤C r))∧Below w.heap.size w w':=by
 obtain⟨hn24,htk⟩:=runB_yes hB
 obtain⟨j0,hj,hy0,hy1,hy2⟩:=info_parts info70
 have d0:=F.d0
 have d1:=F.d1
 have hD0:0<M.D:=by omega
 have hb0:=bNw (bNw (Below.refl w.heap.size w) (.cells #[.int .i64 M.d,.int .i64 M.h,.int .i64 M.l,.int .i64 M.v,.int .i64 M.u,.int .i64 M.x,.int .i64 M.t,.int .i64 M.n,.slice E.a E.n E.c,.slice L.a L.n L.c,.slice N.a N.n N.c,.slice O.a O.n O.c] 34)) (.cells #[.int .i64 M.r,.int .i64 M.s,.slice La.a La.n La.c] 37)
 have q1:Blk 34 ((w.alloc (.cells #[.int .i64 M.d,.int .i64 M.h,.int .i64 M.l,.int .i64 M.v,.int .i64 M.u,.int .i64 M.x,.int .i64 M.t,.int .i64 M.n,.slice E.a E.n E.c,.slice L.a L.n L.c,.slice N.a N.n N.c,.slice O.a O.n O.c] 34)).alloc (.cells #[.int .i64 M.r,.int .i64 M.s,.slice La.a La.n La.c] 37)) w.heap.size #[.int .i64 M.d,.int .i64 M.h,.int .i64 M.l,.int .i64 M.v,.int .i64 M.u,.int .i64 M.x,.int .i64 M.t,.int .i64 M.n,.slice E.a E.n E.c,.slice L.a L.n L.c,.slice N.a N.n N.c,.slice O.a O.n O.c]:=(Blk.new 34 w _).kept (bNw (Below.refl _ _) _)
 have q2:Blk 37 ((w.alloc (.cells #[.int .i64 M.d,.int .i64 M.h,.int .i64 M.l,.int .i64 M.v,.int .i64 M.u,.int .i64 M.x,.int .i64 M.t,.int .i64 M.n,.slice E.a E.n E.c,.slice L.a L.n L.c,.slice N.a N.n N.c,.slice O.a O.n O.c] 34)).alloc (.cells #[.int .i64 M.r,.int .i64 M.s,.slice La.a La.n La.c] 37)) (w.heap.size+1) #[.int .i64 M.r,.int .i64 M.s,.slice La.a La.n La.c]:=Blk.new_at 37 (w.alloc _) _ _ (by simp)
 go_enter Tryz.func76,Tryz.ntmps76
 go_wp2
 go_loopw [8,9,17] (fun vr vo i wr=>∃ k:Nat,k≤n∧i=.int .i64 k∧Below w.heap.size w wr∧Blk 34 wr w.heap.size #[.int .i64 M.d,.int .i64 M.h,.int .i64 M.l,.int .i64 M.v,.int .i64 M.u,.int .i64 M.x,.int .i64 M.t,.int .i64 M.n,.slice E.a E.n E.c,.slice L.a L.n L.c,.slice N.a N.n N.c,.slice O.a O.n O.c]∧Blk 37 wr (w.heap.size+1) #[.int .i64 M.r,.int .i64 M.s,.slice La.a La.n La.c]∧∃ A A2 C C2,TwoG w.heap.size wr vr vo k k A A2 C C2 (rowF M (tokF ts)) (outF M (tokF ts))∧(∀ r,r<k→(rowF M (tokF ts) r).length≤C r)) (fun _ _ i _=>n-(intOf i).toNat)
 case atStart=>exact⟨0,Nat.zero_le _,rfl,hb0,q1,q2,(fun _=>none),(fun _=>none),(fun _=>0),(fun _=>0),TwoG.none_ _ _ _ _ _ _ _ _,fun r hr=>by omega⟩
 case round =>
  clear hb0 q1 q2
  obtain⟨k,hk,rfl,hbr,qm,qa,A,A2,C,C2,tg,hcap⟩:=hrel
  by_cases hlt:k<n
  ·have Q1:=hdn qm
   have Q2:=hdn qa
   obtain⟨c0,c1,c2,c3,c4,c5,c6,c7,c8,c9,c10,c11⟩:=qm.c12
   obtain⟨s0,s1,s2⟩:=qa.c3
   obtain⟨ra,rc,rfl,rG⟩:=tg.g1.grid
   have rcap:=own_cap tg.g1.own
   have rnil:=own_nil tg.g1.own
   have rmax:=own_max tg.g1.own
   have sle:=saw_le M k
   have sint:=saw_int M k
   obtain⟨sq,hsl,sG⟩:=cut_from rG rcap rnil (saw M k) sle rmax
   obtain⟨x,rfl⟩:=ht.some_ (by omega)
   have cx:=(ht.below hbr).cell x rfl k (by omega)
   have HT:=hdn tg
   have n0:=F.n0
   have n1:=F.n1
   have tk:=htk k hlt
   have etok:ts.getD k 0=((tokF ts k:Nat):Int):=by unfold tokF;omega
   rw[etok] at cx
   have kst:=mdstep_call M E L N O Y U D La Ya F ok hok (k:Int) ⟨by omega,by omega⟩ (tokF ts k) (by rw[←etok];exact tk.2) wr (hM.below hbr) (hA.below hbr) sq (k-saw M k) (rc-saw M k) _ _ _ sG (fun r hr=>hcap (saw M k+r) (by omega)) (by rw[sint];omega) (fun r hr=>rowF_length F (tokF ts) _)
   have erow:rowL M (k:Int) (fun r=>rowF M (tokF ts) (saw M k+r)) (k-saw M k) (tokF ts k)=rowF M (tokF ts) k:=(rowF_eq M (tokF ts) k).symm
   have eout:outL M (k:Int) (fun r=>rowF M (tokF ts) (saw M k+r)) (k-saw M k) (tokF ts k)=outF M (tokF ts) k:=(outF_eq M (tokF ts) k).symm
   rw[erow,eout] at kst
   have lrow:=rowF_length F (tokF ts) k
   have lout:=outF_length M (tokF ts) k
   obtain⟨wd,ewd⟩:∃ wd,2*M.m.ln*M.D=wd:=⟨_,rfl⟩
   rw[ewd] at kst lrow
   have kvis:=fun W=>visible_call (k:Int) M.n (wf_small (by omega) (by omega)) (wf_small (by omega) (by omega)) W
   rw[sint] at kvis
   obtain⟨tkk,etk⟩:∃ tkk,tokF ts k=tkk:=⟨_,rfl⟩
   rw[etk] at kst cx
   obtain⟨sk,esk⟩:∃ sk,saw M k=sk:=⟨_,rfl⟩
   rw[esk] at kst kvis hsl sle
   have s0':(0:Int)≤(sk:Int):=by omega
   clear tk etok etk esk sG rG erow eout sint qm qa tg ewd rnil rmax
   go_wp2_with (first
    | (go_at_call 109;refine (kvis _).mono ?_;rintro e w' ⟨rfl,hq⟩;obtain rfl:=hq.symm;clear hq kvis)
    | (go_at_call 110;refine kst.mono ?_;rintro e W1 ⟨⟨ra1,rc1,oa1,oc1,rfl,rr1,rl1,ro1,fr1,fo1⟩,h1⟩;clear kst;have hb1:=bTn hbr h1;have t1:=HT.out.below h1;have Q1':=hdn (Q1.out.kept h1);have Q2':=hdn (Q2.out.kept h1);have fl1:∀ h,(Value.slice ra k rc).ownBlock=some h→h<wr.heap.size:=fun h hh=>(HT.out.g1.own.lt h hh).2;have fl2:∀ h,u9.ownBlock=some h→h<wr.heap.size:=fun h hh=>(HT.out.g2.own.lt h hh).2;have s1':=h1.size;clear Q1 Q2 h1 HT c0 c1 c2 c3 c4 c5 c6 c7 c8 c9 c10 c11 s0 s1 s2 cx hsl)
    | (at_builtin;refine wpList_append_where rfl (.tmp 38) (.tmp 40) 67 rfl w.heap.size 70 j0 (.slice none 0 0) 24 Tryz.underlying67 hj hy0 hy1 hy2 rfl _ k _ rfl (t1.g1.own.alloc _) ⟨_,0,none⟩ 1 (.slice ra1 wd rc1) rfl (one_new _ _ _) (sliceOne17 _ _ _) (by unfold maxLen;omega) (by omega) (bNw hb1 _).size ?_;intro v2 W2 ho2 hg2 hs2;have bn:=bNw (Below.refl W1.heap.size W1) (.cells #[.slice ra1 wd rc1] 70);have t2:=(t1.below bn).app lrow (rr1.below bn) (fun x hx g hg e=>by have:=fr1 x hx;have:=fl1 g hg;omega) (fun x hx g hg e=>by have:=fr1 x hx;have:=fl2 g hg;omega) ho2 hg2 hs2;have hb2:=below_append (bNw hb1 _) (t1.g1.own.alloc _) hg2;have Q1:=hdn ((Q1'.out.kept bn).own_kept (t1.g1.own.alloc _) (by decide) hg2);have Q2:=hdn ((Q2'.out.kept bn).own_kept (t1.g1.own.alloc _) (by decide) hg2);have ro2:=(ro1.below bn).grown hg2 (fun _ x hx g hg e=>by have:=fo1 x hx;have:=fl1 g hg;omega);have fo2:∀ x,oa1=some x→x.block<(W1.alloc (.cells #[.slice ra1 wd rc1] 70)).heap.size:=fun x hx=>reads_lt (ro1.below bn) hx hD0;have fv2:∀ x,oa1=some x→∀ g,v2.ownBlock=some g→x.block≠g:=fun x hx g hg=>stays_ne hs2 (fun q hq e=>by have:=fo1 x hx;have:=fl1 q hq;omega) (fo2 x hx) g hg;clear ho2 hg2 hs2 Q1' Q2' t1 bn rr1 ro1 hb1 fo2)
    | (at_builtin;refine wpList_append_where rfl (.tmp 42) (.tmp 44) 67 rfl w.heap.size 70 j0 (.slice none 0 0) 24 Tryz.underlying67 hj hy0 hy1 hy2 rfl _ k _ rfl (t2.g2.own.alloc _) ⟨_,0,none⟩ 1 (.slice oa1 M.D oc1) rfl (one_new _ _ _) (sliceOne17 _ _ _) (by unfold maxLen;omega) (by omega) (bNw hb2 _).size ?_;intro v3 W3 ho3 hg3 hs3;have bn:=bNw (Below.refl W2.heap.size W2) (.cells #[.slice oa1 M.D oc1] 70);have t3:=((t2.below bn).swap.app lout (ro2.below bn) (fun x hx g hg e=>by have:=fo1 x hx;have:=fl2 g hg;omega) (fun x hx g hg=>fv2 x hx g hg) ho3 hg3 hs3).swap;have hb3:=below_append (bNw hb2 _) (t2.g2.own.alloc _) hg3;have Q1':=hdn ((Q1.out.kept bn).own_kept (t2.g2.own.alloc _) (by decide) hg3);have Q2':=hdn ((Q2.out.kept bn).own_kept (t2.g2.own.alloc _) (by decide) hg3);have R3:=hdn t3;clear ho3 hg3 hs3 Q1 Q2 t2 bn ro2 hb2 t3))
   go_roundw
   case rel =>
    refine⟨k+1,by omega,by go_num,hb3,Q1'.out,Q2'.out,_,_,_,_,R3.out,fun r hr=>?_⟩
    by_cases e:r=k
    ·subst e
     simp only[if_true]
     rw[lrow]
     exact rl1
    ·simp only[if_neg e]
     exact hcap r (by omega)
   case measure=>simp[intOf];omega
  ·have e:k=n:=by omega
   subst e
   obtain⟨ra,rc,rfl,-⟩:=tg.g1.grid
   obtain⟨oa,oc,rfl,-⟩:=tg.g2.grid
   have HT:=hdn tg
   clear tg qm qa
   go_wp2
   refine bodyPost_ret (v:=.tuple #[.slice ra k rc,.slice oa k oc]) ?_ rfl ⟨⟨_,_,_,_,_,_,_,_,rfl,HT.out,hcap⟩,hbr⟩
   simp[results,Tryz.results76,go_sem]
def wt (s:Int)(j:Nat):Int:=(drawn s j).tdiv 2
def wtL (s:Int)(n:Nat):List Int:=(List.range n).map (wt s)
theorem wtL_length (s:Int)(n:Nat):(wtL s n).length=n:=by simp[wtL]
theorem wtL_at (s:Int)(n j:Nat)(h:j<n):(wtL s n).getD j 0=wt s j:=by simp[wtL,h]
theorem half_bounds {z:Int}(h:-128≤z∧z≤127):-128≤z.tdiv 2∧z.tdiv 2≤127:=by
 rcases Int.le_total 0 z with h0|h0
 ·rw[Int.tdiv_eq_ediv_of_nonneg h0];omega
 ·have e:z.tdiv 2 = -((-z)/2):=by
   have:=Int.neg_tdiv (-z) 2
   rw[Int.neg_neg] at this
   rw[this,Int.tdiv_eq_ediv_of_nonneg (by omega)]
  omega
theorem i8_bounds (x:Int):-128≤i8 x∧i8 x≤127:=by unfold i8;omega
theorem wt_bounds (s:Int)(j:Nat):-128≤wt s j∧wt s j≤127:=half_bounds (i8_bounds _)
theorem wf_i8_of {z:Int}(h:-128≤z∧z≤127):(Lit.int .i8 z).wf=true:=by
 simpa [Lit.wf,IntKind.min,IntKind.max,IntKind.signed,IntKind.bits] using h
theorem wtL_wf (s:Int)(n:Nat):∀ z∈wtL s n,(Lit.int .i8 z).wf=true:=fun z hz=>by
 obtain⟨y,_,rfl⟩:=List.mem_map.1 hz
 exact wf_i8_of (wt_bounds _ _)
theorem wrap_i8 (x:Int):IntKind.i8.wrap x=i8 x:=by
 unfold IntKind.wrap i8
 simp[IntKind.bits,IntKind.signed]
 omega
theorem weights_call (n:Nat)(hn:n≤100000)(s:Int)(w:World) :
  Calls Tryz.prog 36 #[.int .i64 n,.int .u64 s] w fun e w'=>(∃ a c,e=.returned (.slice a n c)∧IsS w' ⟨a,n,c⟩ (wtL s n))∧Below w.heap.size w w':=by
 obtain⟨i0,hi,hz0,hz1,hz2⟩:=info_parts info118
 go_enter Tryz.func36,Tryz.ntmps36
 go_wp2
 go_loopw [1,5,6] (fun s' v i wr=>∃ k:Nat,k≤n∧i=.int .i64 k∧s'=.int .u64 (sd s k)∧Below w.heap.size w wr∧wr.ownsRow w.heap.size 118 1 v k (gath (wt s) .i8 k)) (fun _ _ i _=>n-(intOf i).toNat)
 case atStart=>exact⟨0,Nat.zero_le _,rfl,rfl,Below.refl _ _,World.ownsRow_nil _ _ _ _⟩
 case round =>
  obtain⟨k,hk,rfl,rfl,hbr,ho⟩:=hrel
  by_cases hlt:k<n
  ·have hsz:=hbr.size
   obtain⟨s',eSd⟩:∃ s',sd s k=s':=⟨_,rfl⟩
   obtain⟨M1,e1⟩:∃ z,IntKind.u64.wrap (s'*6364136223846793005)=z:=⟨_,rfl⟩
   obtain⟨M2,e2⟩:∃ z,IntKind.u64.wrap (M1+1442695040888963407)=z:=⟨_,rfl⟩
   obtain⟨M3,e3⟩:∃ z,M2/72057594037927936=z:=⟨_,rfl⟩
   have Es:Hid (sd s (k+1)=M2):=by show lcg (sd s k)=M2;unfold lcg;rw[eSd,e1,e2]
   have Ez:Hid ((i8 M3).tdiv 2=wt s k):=by unfold wt drawn;rw[Es.out,e3];exact rfl
   have hw8:=wrap_i8 M3
   have hb8:=half_bounds (i8_bounds M3)
   obtain⟨Z,eZ⟩:∃ Z,i8 M3=Z:=⟨_,rfl⟩
   rw[eZ] at hw8 hb8
   obtain⟨Y,eY⟩:∃ Y,Z.tdiv 2=Y:=⟨_,rfl⟩
   rw[eY] at hb8
   have hwy:IntKind.i8.wrap Y=Y:=by unfold IntKind.wrap;simp[IntKind.bits,IntKind.signed];omega
   have Ey:Hid (Y=wt s k):=by rw[←eY,←eZ];exact Ez.out
   rw[eSd]
   clear eSd eZ Ez
   go_wp2_with (first
    | (at_builtin;refine wpList_append_own _ rfl (.tmp 15) (.tmp 20) 31 rfl w.heap.size 118 i0 (.int .i8 0) 1 1 Tryz.underlying31 hi hz0 hz1 hz2 rfl (by decide) _ _ _ rfl (ho.alloc _) ⟨_,0,none⟩ 1 1 [.int .i8 Y] rfl rfl (one_new _ _ _) (oOc _ _) (by unfold maxLen;omega) (by omega) (by simp;omega) ?_;intro v' w1 ho' hg _))
   go_roundw
   case rel=>exact⟨k+1,by omega,by go_num,by rw[Es.out],aSt hsz Ey.out hbr ho ho' hg⟩
   case measure=>simp[intOf];omega
  ·have e:k=n:=by omega
   subst e
   obtain⟨a,c,rfl,hre⟩:=oRe (k:=.i8) (zs:=wtL s k) ho (wtL_length _ _) (wtL_wf _ _) (fun j hj=>by rw[gath_at _ _ _ _ hj,wtL_at _ _ _ hj])
   have fin:IsS wr ⟨a,k,c⟩ (wtL s k):=⟨hre,own_nil ho,own_cap ho⟩
   clear ho
   go_wp2
   go_ret
   exact⟨⟨_,_,rfl,fin⟩,hbr⟩
def adR (rank:Int):Int:=IntKind.u64.wrap rank%5
def adS (rank s:Int):Int:=if adR rank=0 then 0 else s%3
def adV (rank d l s:Int):AdV:=if adR rank=0 then noA else grshapeV l.toNat (adR rank*d).toNat (wtL s (l*4*adR rank*d).toNat)
def made (d h l v u x t n s rank:Int):Md:=⟨d,h,l,v,u,x,t,n,shapeV d l v u x (wtL s (szZ d l v u x).toNat),adR rank,adS rank s,adV rank d l s⟩
theorem adR_bounds (rank:Int):0≤adR rank∧adR rank≤4:=by unfold adR;omega
theorem nat_prod {l R d:Int}(hl:0≤l)(hR:0≤R)(hd:0≤d):(l*4*R*d).toNat=4*l.toNat*(R*d).toNat∧0≤R*d:=by
 obtain⟨L,rfl⟩:∃ L:Nat,l=L:=⟨l.toNat,by omega⟩
 obtain⟨R',rfl⟩:∃ R':Nat,R=R':=⟨R.toNat,by omega⟩
 obtain⟨D,rfl⟩:∃ D:Nat,d=D:=⟨d.toNat,by omega⟩
 have e:((L:Int)*4*R'*D)=((4*L*(R'*D):Nat):Int):=by
  rw[Int.natCast_mul,Int.natCast_mul,Int.natCast_mul,Int.mul_assoc,Int.mul_comm (L:Int) 4]
  rfl
 have e2:((R':Int)*D)=((R'*D:Nat):Int):=by rw[Int.natCast_mul]
 rw[e,e2]
 exact⟨by rw[Int.toNat_natCast,Int.toNat_natCast,Int.toNat_natCast],by omega⟩
structure MT where
 E:SL
 L:SL
 N:SL
 O:SL
 Y:Nat→Nat→SL
 U:Nat→Nat→SL
 D:Nat→Nat→SL
theorem mt_law {m:ModV}:InLaw (T:=MT) (fun t lo hi w=>ModIn lo hi w t.E t.L t.N t.O t.Y t.U t.D m):=⟨fun h hb=>h.below hb,fun h o hb=>h.only o hb⟩
theorem ModIn.new {lo hi g:Nat}{w:World}{E L N O:SL}{Y U D:Nat→Nat→SL}{m:ModV}(h:ModIn lo hi w E L N O Y U D m)(hg:g≤lo):NewM g w E L N O Y U D m:=fun w' hc=>h w' fun p v hp h1 h2=>hc p v hp (Nat.le_trans hg h1)
theorem AdIn.new {lo hi g:Nat}{w:World}{L:SL}{Y:Nat→Nat→SL}{m:AdV}(h:AdIn lo hi w L Y m)(hg:g≤lo):NewA g w L Y m:=fun w' hc=>h w' fun p v hp h1 h2=>hc p v hp (Nat.le_trans hg h1)
theorem run_load23y {w:World}{b:Nat}{d h l v u x t n:Int}(q:Blk 23 w b #[.int .i64 d,.int .i64 h,.int .i64 l,.int .i64 v,.int .i64 u,.int .i64 x,.int .i64 t,.int .i64 n]):(Instr.loadAt 23 (.pointer (some ⟨b,0,none⟩))).run Tryz.prog w=.ok (.agg #[.int .i64 d,.int .i64 h,.int .i64 l,.int .i64 v,.int .i64 u,.int .i64 x,.int .i64 t,.int .i64 n]) w:=by
 obtain⟨c0,c1,c2,c3,c4,c5,c6,c7⟩:=q.c8
 go_simp
theorem model_walk (d h l v u x t n s sz ee:Int)(nn:Nat)(zs:List Int)(B:Bool)(k0 k1 k2 k3 k4 k5 k6 k7:Int)(m:ModV)(w:World)(hB:(ee==0)=B)
  (c41:∀ w,Calls Tryz.prog 37 #[.agg #[.int .i64 d,.int .i64 h,.int .i64 l,.int .i64 v,.int .i64 u,.int .i64 x,.int .i64 t,.int .i64 n]] w fun e w'=>e=.returned (.int .i64 sz)∧Below w.heap.size w w')
  (c40:∀ w,Calls Tryz.prog 36 #[.int .i64 sz,.int .u64 s] w fun e w'=>(∃ a c,e=.returned (.slice a nn c)∧IsS w' ⟨a,nn,c⟩ zs)∧Below w.heap.size w w')
  (c39:∀ w ya yc,IsS w ⟨ya,nn,yc⟩ zs→Calls Tryz.prog 33 #[.agg #[.int .i64 d,.int .i64 h,.int .i64 l,.int .i64 v,.int .i64 u,.int .i64 x,.int .i64 t,.int .i64 n],.slice ya nn yc] w fun e w'=>∃ t:MT,e=.returned (.tuple #[.agg #[.int .i64 k0,.int .i64 k1,.int .i64 k2,.int .i64 k3,.int .i64 k4,.int .i64 k5,.int .i64 k6,.int .i64 k7,.slice t.E.a t.E.n t.E.c,.slice t.L.a t.L.n t.L.c,.slice t.N.a t.N.n t.N.c,.slice t.O.a t.O.n t.O.c],.int .i64 ee])∧ModIn w.heap.size w'.heap.size w' t.E t.L t.N t.O t.Y t.U t.D m∧Below w.heap.size w w') :
  Calls Tryz.prog 16 #[.agg #[.int .i64 d,.int .i64 h,.int .i64 l,.int .i64 v,.int .i64 u,.int .i64 x,.int .i64 t,.int .i64 n],.int .u64 s] w fun e w'=>∃ t:MT,e=.returned (.tuple #[.agg #[.int .i64 k0,.int .i64 k1,.int .i64 k2,.int .i64 k3,.int .i64 k4,.int .i64 k5,.int .i64 k6,.int .i64 k7,.slice t.E.a t.E.n t.E.c,.slice t.L.a t.L.n t.L.c,.slice t.N.a t.N.n t.N.c,.slice t.O.a t.O.n t.O.c],.bool B])∧NewM w.heap.size w' t.E t.L t.N t.O t.Y t.U t.D m∧Below w.heap.size w w':=by
 have hb:=bNw (bNw (Below.refl w.heap.size w) (.cells #[.int .i64 d,.int .i64 h,.int .i64 l,.int .i64 v,.int .i64 u,.int .i64 x,.int .i64 t,.int .i64 n] 23)) (.cells #[.int .i64 0,.int .i64 0,.int .i64 0,.int .i64 0,.int .i64 0,.int .i64 0,.int .i64 0,.int .i64 0,.slice none 0 0,.slice none 0 0,.slice none 0 0,.slice none 0 0] 34)
 have qc:Blk 23 ((w.alloc (.cells #[.int .i64 d,.int .i64 h,.int .i64 l,.int .i64 v,.int .i64 u,.int .i64 x,.int .i64 t,.int .i64 n] 23)).alloc (.cells #[.int .i64 0,.int .i64 0,.int .i64 0,.int .i64 0,.int .i64 0,.int .i64 0,.int .i64 0,.int .i64 0,.slice none 0 0,.slice none 0 0,.slice none 0 0,.slice none 0 0] 34)) w.heap.size #[.int .i64 d,.int .i64 h,.int .i64 l,.int .i64 v,.int .i64 u,.int .i64 x,.int .i64 t,.int .i64 n]:=(Blk.new 23 w _).kept (bNw (Below.refl _ _) _)
 have qr:Blk 34 ((w.alloc (.cells #[.int .i64 d,.int .i64 h,.int .i64 l,.int .i64 v,.int .i64 u,.int .i64 x,.int .i64 t,.int .i64 n] 23)).alloc (.cells #[.int .i64 0,.int .i64 0,.int .i64 0,.int .i64 0,.int .i64 0,.int .i64 0,.int .i64 0,.int .i64 0,.slice none 0 0,.slice none 0 0,.slice none 0 0,.slice none 0 0] 34)) (w.heap.size+1) #[.int .i64 0,.int .i64 0,.int .i64 0,.int .i64 0,.int .i64 0,.int .i64 0,.int .i64 0,.int .i64 0,.slice none 0 0,.slice none 0 0,.slice none 0 0,.slice none 0 0]:=Blk.new_at 34 (w.alloc _) _ _ (by simp)
 have hz2:((w.alloc (.cells #[.int .i64 d,.int .i64 h,.int .i64 l,.int .i64 v,.int .i64 u,.int .i64 x,.int .i64 t,.int .i64 n] 23)).alloc (.cells #[.int .i64 0,.int .i64 0,.int .i64 0,.int .i64 0,.int .i64 0,.int .i64 0,.int .i64 0,.int .i64 0,.slice none 0 0,.slice none 0 0,.slice none 0 0,.slice none 0 0] 34)).heap.size=w.heap.size+1+1:=by simp
 go_enter Tryz.func16,Tryz.ntmps16
 go_wp2
 refine md1_region (T:=MT) (V:=fun t=>.agg #[.int .i64 k0,.int .i64 k1,.int .i64 k2,.int .i64 k3,.int .i64 k4,.int .i64 k5,.int .i64 k6,.int .i64 k7,.slice t.E.a t.E.n t.E.c,.slice t.L.a t.L.n t.L.c,.slice t.N.a t.N.n t.N.c,.slice t.O.a t.O.n t.O.c]) (cs:=fun t=>#[.int .i64 k0,.int .i64 k1,.int .i64 k2,.int .i64 k3,.int .i64 k4,.int .i64 k5,.int .i64 k6,.int .i64 k7,.slice t.E.a t.E.n t.E.c,.slice t.L.a t.L.n t.L.c,.slice t.N.a t.N.n t.N.c,.slice t.O.a t.O.n t.O.c]) (I:=fun t lo hi w=>ModIn lo hi w t.E t.L t.N t.O t.Y t.U t.D m) mt_law d h l v u x t n sz s nn w.heap.size zs (ee) #[.int .i64 0,.int .i64 0,.int .i64 0,.int .i64 0,.int .i64 0,.int .i64 0,.int .i64 0,.int .i64 0,.slice none 0 0,.slice none 0 0,.slice none 0 0,.slice none 0 0] (by kernel_rfl) rfl ⟨_,rfl,rfl,rfl,rfl,by kernel_rfl⟩ ⟨_,rfl,rfl,rfl,rfl,by kernel_rfl⟩ ⟨_,rfl,rfl,rfl,rfl,by kernel_rfl⟩ ⟨_,rfl,rfl,rfl,rfl,by kernel_rfl⟩ ⟨_,rfl,rfl,rfl,rfl,by kernel_rfl⟩ ⟨_,rfl,rfl,rfl,rfl,by kernel_rfl⟩ ⟨_,rfl,rfl,rfl,rfl,by kernel_rfl⟩ ⟨_,rfl,rfl,rfl,rfl,by kernel_rfl⟩ ⟨_,rfl,rfl,rfl,rfl,by kernel_rfl⟩ ⟨_,rfl,rfl,rfl,rfl,by kernel_rfl⟩ ⟨_,rfl,rfl,rfl,rfl,by kernel_rfl⟩ ⟨_,rfl,rfl,rfl,rfl,by kernel_rfl⟩ (fun w hw=>run_load23y (qc.kept hw)) (fun w hw=>run_load23y (qc.kept hw)) (fun w hw=>c41 w) (fun w hw=>c40 w) (fun w ya yc hw hz=>c39 w ya yc hz) rfl rfl run_alloc27 (fun w b t q=>run_store34 q ⟨k0,k1,k2,k3,k4,k5,k6,k7,m,0,0,noA⟩ t.E t.L t.N t.O) (Nat.le_of_ble_eq_true rfl) ?_
 intro a W9 b9 t9 lo9 hi9 hs hd hkp eA eE hb9 gb9 gl9 gh9 hI9 q9
 have ep:=fPu [9,10,11,12,13,14,8,15,16,6,7] hs hd (fun s h=>hkp s (fun i hi e=>h (by
  rcases (show i=0∨i=1∨i=2∨i=3∨i=4∨i=5∨i=6∨i=7∨i=8∨i=9∨i=10∨i=11 by omega) with rfl|rfl|rfl|rfl|rfl|rfl|rfl|rfl|rfl|rfl|rfl|rfl<;>first|(simp only[md1D,Option.some.injEq] at e;subst e;simp)|(simp only[md1D] at e;cases e))))
 simp only[List.foldl] at ep
 rw[eA,eE] at ep
 clear hs hd hkp eA eE
 generalize a.tmps.getD 9 undef=g9,a.tmps.getD 10 undef=g10,a.tmps.getD 11 undef=g11,a.tmps.getD 12 undef=g12,a.tmps.getD 13 undef=g13,a.tmps.getD 14 undef=g14,a.tmps.getD 8 undef=g8,a.tmps.getD 15 undef=g15,a.tmps.getD 16 undef=g16 at ep
 simp only[Act.put,List.setIfInBounds_toArray,List.set_cons_succ,List.set_cons_zero] at ep
 subst ep
 replace qr:=qr.kept hb9
 replace hb:=bTn hb hb9
 obtain⟨a0,a1,a2,a3,a4,a5,a6,a7,a8,a9,a10,a11⟩:=q9.c12
 obtain⟨r0,r1,r2,r3,r4,r5,r6,r7,r8,r9,r10,r11⟩:=qr.c12
 obtain⟨f0,f1,f2,f3,f4,f5,f6,f7,f8,f9,f10,f11⟩:=qr.o12
 clear c41 c40 c39 qc hb9
 have HI:=hdn hI9
 clear hI9
 go_wp2
 obtain⟨W6,eW6,q6,only6,hz6⟩:=set12 qr (.int .i64 k0) (.int .i64 k1) (.int .i64 k2) (.int .i64 k3) (.int .i64 k4) (.int .i64 k5) (.int .i64 k6) (.int .i64 k7) (.slice t9.E.a t9.E.n t9.E.c) (.slice t9.L.a t9.L.n t9.L.c) (.slice t9.N.a t9.N.n t9.N.c) (.slice t9.O.a t9.O.n t9.O.c)
 rw[eW6]
 have m6:=(HI.out.only only6 (.inl (by omega))).new (g:=w.heap.size) (by omega)
 have b6:Below w.heap.size w W6:=Only.below hb (by omega) hb.size only6
 refine bodyPost_ret (v:=.tuple #[.agg #[.int .i64 k0,.int .i64 k1,.int .i64 k2,.int .i64 k3,.int .i64 k4,.int .i64 k5,.int .i64 k6,.int .i64 k7,.slice t9.E.a t9.E.n t9.E.c,.slice t9.L.a t9.L.n t9.L.c,.slice t9.N.a t9.N.n t9.N.c,.slice t9.O.a t9.O.n t9.O.c],.bool B]) ?_ rfl ⟨t9,rfl,m6,b6⟩
 obtain⟨y0,y1,y2,y3,y4,y5,y6,y7,y8,y9,y10,y11⟩:=q6.c12
 simp[results,Tryz.results16,go_sem,y0,y1,y2,y3,y4,y5,y6,y7,y8,y9,y10,y11]
theorem model_yes (d h l v u x t n s:Int)(ok:okB d h l v u x t n=true)(w:World) :
  Calls Tryz.prog 16 #[.agg #[.int .i64 d,.int .i64 h,.int .i64 l,.int .i64 v,.int .i64 u,.int .i64 x,.int .i64 t,.int .i64 n],.int .u64 s] w fun e w'=>∃ t':MT,e=.returned (.tuple #[.agg #[.int .i64 d,.int .i64 h,.int .i64 l,.int .i64 v,.int .i64 u,.int .i64 x,.int .i64 t,.int .i64 n,.slice t'.E.a t'.E.n t'.E.c,.slice t'.L.a t'.L.n t'.L.c,.slice t'.N.a t'.N.n t'.N.c,.slice t'.O.a t'.O.n t'.O.c],.bool true])∧NewM w.heap.size w' t'.E t'.L t'.N t'.O t'.Y t'.U t'.D (shapeV d l v u x (wtL s (szZ d l v u x).toNat))∧Below w.heap.size w w':=by
 have dm:=dims_of ok
 have hn:(szZ d l v u x).toNat≤100000:=by have:=dm.sz;have:=dm.sz1;omega
 have e1:szZ d l v u x=(((szZ d l v u x).toNat:Nat):Int):=by have:=dm.sz;omega
 have es:sizeB d h l v u x t n=szZ d l v u x:=by unfold sizeB;rw[ok];rfl
 have eG:shG d h l v u x t n (wtL s (szZ d l v u x).toNat)=true:=by unfold shG;rw[ok,wtL_length,←e1];simp
 have eE:shE d h l v u x t n (wtL s (szZ d l v u x).toNat)=0:=by unfold shE;rw[ok,wtL_length,←e1];simp
 have eM:shM d h l v u x t n (wtL s (szZ d l v u x).toNat)=shapeV d l v u x (wtL s (szZ d l v u x).toNat):=by unfold shM;rw[eG];rfl
 refine model_walk d h l v u x t n s (szZ d l v u x) 0 (szZ d l v u x).toNat (wtL s (szZ d l v u x).toNat) true d h l v u x t n (shapeV d l v u x (wtL s (szZ d l v u x).toNat)) w rfl (fun w=>?_) (fun w=>?_) (fun w ya yc hs=>?_)
 ·have:=refSize_call d h l v u x t n w
  rw[es] at this
  exact this
 ·have:=weights_call (szZ d l v u x).toNat hn s w
  rw[←e1] at this
  exact this
 ·refine (refShape_any d h l v u x t n ⟨ya,(szZ d l v u x).toNat,yc⟩ _ w hs).mono fun e w' hh=>?_
  obtain⟨E,L,N,O,Y,U,D,he,hN,hb⟩:=hh
  rw[eG,eE] at he
  rw[eM] at hN
  exact⟨⟨E,L,N,O,Y,U,D⟩,he,hN.within,hb⟩
theorem model_no (d h l v u x t n s:Int)(ok:okB d h l v u x t n=false)(w:World) :
  Calls Tryz.prog 16 #[.agg #[.int .i64 d,.int .i64 h,.int .i64 l,.int .i64 v,.int .i64 u,.int .i64 x,.int .i64 t,.int .i64 n],.int .u64 s] w fun e w'=>∃ t':MT,e=.returned (.tuple #[.agg #[.int .i64 0,.int .i64 0,.int .i64 0,.int .i64 0,.int .i64 0,.int .i64 0,.int .i64 0,.int .i64 0,.slice t'.E.a t'.E.n t'.E.c,.slice t'.L.a t'.L.n t'.L.c,.slice t'.N.a t'.N.n t'.N.c,.slice t'.O.a t'.O.n t'.O.c],.bool false])∧NewM w.heap.size w' t'.E t'.L t'.N t'.O t'.Y t'.U t'.D noV∧Below w.heap.size w w':=by
 have es:sizeB d h l v u x t n=0:=by unfold sizeB;rw[ok];rfl
 have eG:shG d h l v u x t n (wtL s 0)=false:=by unfold shG;rw[ok];rfl
 have eE:shE d h l v u x t n (wtL s 0)=20:=by unfold shE;rw[ok];rfl
 have eM:shM d h l v u x t n (wtL s 0)=noV:=by unfold shM;rw[eG];rfl
 refine model_walk d h l v u x t n s 0 20 0 (wtL s 0) false 0 0 0 0 0 0 0 0 noV w rfl (fun w=>?_) (fun w=>?_) (fun w ya yc hs=>?_)
 ·have:=refSize_call d h l v u x t n w
  rw[es] at this
  exact this
 ·exact weights_call 0 (by omega) s w
 ·refine (refShape_any d h l v u x t n ⟨ya,0,yc⟩ _ w hs).mono fun e w' hh=>?_
  obtain⟨E,L,N,O,Y,U,D,he,hN,hb⟩:=hh
  rw[eG,eE] at he
  rw[eM] at hN
  exact⟨⟨E,L,N,O,Y,U,D⟩,he,hN.within,hb⟩
theorem at_law {m:AdV}:InLaw (T:=SL × (Nat→Nat→SL)) (fun t lo hi w=>AdIn lo hi w t.1 t.2 m):=⟨fun h hb=>h.below hb,fun h o hb=>h.only o hb⟩
theorem restN (x:Int)(n:Nat)(hn:0<n):∃ M:Nat,M<n∧(IntKind.u64.wrap x).tmod (n:Int)=(M:Int)∧IntKind.u64.wrap x%(n:Int)=(M:Int):=by
 have b:0≤IntKind.u64.wrap x:=by rw[IntKind.wrap_u64];omega
 generalize IntKind.u64.wrap x=U at *
 refine⟨(U%n).toNat,?_,?_,?_⟩
 ·have h1:=Int.emod_lt_of_pos U (show (0:Int)<n by omega)
  have h2:=Int.emod_nonneg U (show (n:Int)≠0 by omega)
  omega
 ·rw[Int.tmod_eq_emod_of_nonneg b]
  have h2:=Int.emod_nonneg U (show (n:Int)≠0 by omega)
  omega
 ·have h2:=Int.emod_nonneg U (show (n:Int)≠0 by omega)
  omega
theorem adapt_none (rank d h l v u x t n s:Int)(w:World)(hr:adR rank=0) :
  Calls Tryz.prog 17 #[.int .i64 rank,.agg #[.int .i64 d,.int .i64 h,.int .i64 l,.int .i64 v,.int .i64 u,.int .i64 x,.int .i64 t,.int .i64 n],.int .u64 s] w fun e w'=>e=.returned (.agg #[.int .i64 0,.int .i64 0,.slice none 0 0])∧Below w.heap.size w w':=by
 have hb:=bNw (bNw (Below.refl w.heap.size w) (.cells #[.int .i64 d,.int .i64 h,.int .i64 l,.int .i64 v,.int .i64 u,.int .i64 x,.int .i64 t,.int .i64 n] 23)) (.cells #[.int .i64 0,.int .i64 0,.slice none 0 0] 37)
 have qr:Blk 37 ((w.alloc (.cells #[.int .i64 d,.int .i64 h,.int .i64 l,.int .i64 v,.int .i64 u,.int .i64 x,.int .i64 t,.int .i64 n] 23)).alloc (.cells #[.int .i64 0,.int .i64 0,.slice none 0 0] 37)) (w.heap.size+1) #[.int .i64 0,.int .i64 0,.slice none 0 0]:=Blk.new_at 37 (w.alloc _) _ _ (by simp)
 obtain⟨M,hM,(eM:(IntKind.u64.wrap rank).tmod 5=(M:Int)),(eM':IntKind.u64.wrap rank%5=(M:Int))⟩:=restN rank 5 (by decide)
 obtain rfl:M=0:=by unfold adR at hr;omega
 obtain⟨r0,r1,r2⟩:=qr.c3
 obtain⟨f0,f1,f2,-⟩:=qr.o12
 obtain⟨U,eU⟩:∃ U,IntKind.u64.wrap rank=U:=⟨_,rfl⟩
 rw[eU] at eM
 clear eM' hr hM
 go_enter Tryz.func17,Tryz.ntmps17
 go_wp2
 refine bodyPost_ret (v:=.agg #[.int .i64 0,.int .i64 0,.slice none 0 0]) ?_ rfl ⟨rfl,hb⟩
 simp[results,Tryz.results17,go_sem,r0,r1,r2]
theorem adapt_walk (rank d h v u x t n s q1 q2:Int)(ml R S T9:Nat)(zs:List Int)(m:AdV)(w:World)(hR:1≤R∧R≤4)(hr:adR rank=(R:Int))
  (x2:∀ w,(binOp .rem 24 (.int .u64 s) (.int .u64 3)).run Tryz.prog w=.ok (.int .u64 (S:Int)) w) (x3:∀ w,(convert 24 3 (.int .u64 (S:Int))).run Tryz.prog w=.ok (.int .i64 (S:Int)) w)
  (x7:∀ w,(binOp .mul 3 (.int .i64 (ml:Int)) (.int .i64 4)).run Tryz.prog w=.ok (.int .i64 q1) w) (x9:∀ w,(binOp .mul 3 (.int .i64 q1) (.int .i64 (R:Int))).run Tryz.prog w=.ok (.int .i64 q2) w) (x12:∀ w,(binOp .mul 3 (.int .i64 q2) (.int .i64 d)).run Tryz.prog w=.ok (.int .i64 (T9:Int)) w)
  (c40:∀ w,Calls Tryz.prog 36 #[.int .i64 (T9:Int),.int .u64 s] w fun e w'=>(∃ a c,e=.returned (.slice a T9 c)∧IsS w' ⟨a,T9,c⟩ zs)∧Below w.heap.size w w')
  (c42:∀ w ya yc,IsS w ⟨ya,T9,yc⟩ zs→Calls Tryz.prog 38 #[.int .i64 (R:Int),.int .i64 (S:Int),.agg #[.int .i64 d,.int .i64 h,.int .i64 (ml:Int),.int .i64 v,.int .i64 u,.int .i64 x,.int .i64 t,.int .i64 n],.slice ya T9 yc] w fun e w'=>∃ t:SL × (Nat→Nat→SL),e=.returned (.tuple #[.agg #[.int .i64 (R:Int),.int .i64 (S:Int),.slice t.1.a t.1.n t.1.c],.int .i64 0])∧AdIn w.heap.size w'.heap.size w' t.1 t.2 m∧Below w.heap.size w w') :
  Calls Tryz.prog 17 #[.int .i64 rank,.agg #[.int .i64 d,.int .i64 h,.int .i64 (ml:Int),.int .i64 v,.int .i64 u,.int .i64 x,.int .i64 t,.int .i64 n],.int .u64 s] w fun e w'=>∃ t:SL × (Nat→Nat→SL),e=.returned (.agg #[.int .i64 (R:Int),.int .i64 (S:Int),.slice t.1.a t.1.n t.1.c])∧NewA w.heap.size w' t.1 t.2 m∧Below w.heap.size w w':=by
 have hb:=bNw (bNw (Below.refl w.heap.size w) (.cells #[.int .i64 d,.int .i64 h,.int .i64 (ml:Int),.int .i64 v,.int .i64 u,.int .i64 x,.int .i64 t,.int .i64 n] 23)) (.cells #[.int .i64 0,.int .i64 0,.slice none 0 0] 37)
 have qc:Blk 23 ((w.alloc (.cells #[.int .i64 d,.int .i64 h,.int .i64 (ml:Int),.int .i64 v,.int .i64 u,.int .i64 x,.int .i64 t,.int .i64 n] 23)).alloc (.cells #[.int .i64 0,.int .i64 0,.slice none 0 0] 37)) w.heap.size #[.int .i64 d,.int .i64 h,.int .i64 (ml:Int),.int .i64 v,.int .i64 u,.int .i64 x,.int .i64 t,.int .i64 n]:=(Blk.new 23 w _).kept (bNw (Below.refl _ _) _)
 have qr:Blk 37 ((w.alloc (.cells #[.int .i64 d,.int .i64 h,.int .i64 (ml:Int),.int .i64 v,.int .i64 u,.int .i64 x,.int .i64 t,.int .i64 n] 23)).alloc (.cells #[.int .i64 0,.int .i64 0,.slice none 0 0] 37)) (w.heap.size+1) #[.int .i64 0,.int .i64 0,.slice none 0 0]:=Blk.new_at 37 (w.alloc _) _ _ (by simp)
 have hz2:((w.alloc (.cells #[.int .i64 d,.int .i64 h,.int .i64 (ml:Int),.int .i64 v,.int .i64 u,.int .i64 x,.int .i64 t,.int .i64 n] 23)).alloc (.cells #[.int .i64 0,.int .i64 0,.slice none 0 0] 37)).heap.size=w.heap.size+1+1:=by simp
 obtain⟨M,hM,(eM:(IntKind.u64.wrap rank).tmod 5=(M:Int)),(eM':IntKind.u64.wrap rank%5=(M:Int))⟩:=restN rank 5 (by decide)
 obtain rfl:M=R:=by unfold adR at hr;omega
 have hne:((M:Int)==0)=false:=by simp;omega
 obtain⟨U,eU⟩:∃ U,IntKind.u64.wrap rank=U:=⟨_,rfl⟩
 rw[eU] at eM
 clear eM' hr hM
 go_enter Tryz.func17,Tryz.ntmps17
 go_wp2
 refine ad4_region (T:=SL × (Nat→Nat→SL)) (V:=fun t=>.agg #[.int .i64 (M:Int),.int .i64 (S:Int),.slice t.1.a t.1.n t.1.c]) (cs:=fun t=>#[.int .i64 (M:Int),.int .i64 (S:Int),.slice t.1.a t.1.n t.1.c]) (I:=fun t lo hi w=>AdIn lo hi w t.1 t.2 m) at_law d h (ml:Int) v u x t n (M:Int) (S:Int) s q1 q2 (T9:Int) T9 w.heap.size zs (0) #[.int .i64 0,.int .i64 0,.slice none 0 0] (by kernel_rfl) rfl ⟨_,rfl,rfl,rfl,rfl,by kernel_rfl⟩ ⟨_,rfl,rfl,rfl,rfl,by kernel_rfl⟩ ⟨_,rfl,rfl,rfl,rfl,by kernel_rfl⟩ ⟨_,rfl,rfl,rfl,rfl,by kernel_rfl⟩ ⟨_,rfl,rfl,rfl,rfl,by kernel_rfl⟩ ⟨_,rfl,rfl,rfl,rfl,by kernel_rfl⟩ ⟨_,rfl,rfl,rfl,rfl,by kernel_rfl⟩ ⟨_,rfl,rfl,rfl,rfl,by kernel_rfl⟩ ⟨_,rfl,rfl,rfl,rfl,by kernel_rfl⟩ ⟨_,rfl,rfl,rfl,rfl,by kernel_rfl⟩ ⟨_,rfl,rfl,rfl,rfl,by kernel_rfl⟩ ⟨_,rfl,rfl,rfl,rfl,by kernel_rfl⟩ ⟨_,rfl,rfl,rfl,rfl,by kernel_rfl⟩ ⟨_,rfl,rfl,rfl,rfl,by kernel_rfl⟩ ⟨_,rfl,rfl,rfl,rfl,by kernel_rfl⟩ ⟨_,rfl,rfl,rfl,rfl,by kernel_rfl⟩ ⟨_,rfl,rfl,rfl,rfl,by kernel_rfl⟩ ⟨_,rfl,rfl,rfl,rfl,by kernel_rfl⟩ ⟨_,rfl,rfl,rfl,rfl,by kernel_rfl⟩ ⟨_,rfl,rfl,rfl,rfl,by kernel_rfl⟩ ⟨_,rfl,rfl,rfl,rfl,by kernel_rfl⟩ ⟨_,rfl,rfl,rfl,rfl,by kernel_rfl⟩ x2 x3 (fun w hw=>run_load23y (qc.kept hw)) (fun w=>by go_simp) (fun w hw=>by have y2:=(qc.kept hw).cell 2 rfl;go_simp) x7 x9 (fun w=>by go_simp) (fun w hw=>by have y2:=(qc.kept hw).cell 0 rfl;go_simp) x12 (fun w hw=>c40 w) (fun w ya yc hw hz=>c42 w ya yc hz) rfl rfl rfl run_alloc30 (fun w b t q=>run_store37 q ⟨0,0,0,0,0,0,0,0,noV,(M:Int),(S:Int),m⟩ t.1) (Nat.le_of_ble_eq_true rfl) ?_
 intro a W9 b9 t9 lo9 hi9 hs hd hkp eA eE hb9 gb9 gl9 gh9 hI9 q9
 have ep:=fPu [17,18,19,20,21,22,23,24,25,26,27,28,29,30,31,32,16,33,34,7,8] hs hd (fun s h=>hkp s (fun i hi e=>h (by
  rcases (show i=0∨i=1∨i=2∨i=3∨i=4∨i=5∨i=6∨i=7∨i=8∨i=9∨i=10∨i=11∨i=12∨i=13∨i=14∨i=15∨i=16∨i=17∨i=18∨i=19∨i=20∨i=21 by omega) with rfl|rfl|rfl|rfl|rfl|rfl|rfl|rfl|rfl|rfl|rfl|rfl|rfl|rfl|rfl|rfl|rfl|rfl|rfl|rfl|rfl|rfl<;>first|(simp only[ad4D,Option.some.injEq] at e;subst e;simp)|(simp only[ad4D] at e;cases e))))
 simp only[List.foldl] at ep
 rw[eA,eE] at ep
 clear hs hd hkp eA eE
 generalize a.tmps.getD 17 undef=g17,a.tmps.getD 18 undef=g18,a.tmps.getD 19 undef=g19,a.tmps.getD 20 undef=g20,a.tmps.getD 21 undef=g21,a.tmps.getD 22 undef=g22,a.tmps.getD 23 undef=g23,a.tmps.getD 24 undef=g24,a.tmps.getD 25 undef=g25,a.tmps.getD 26 undef=g26,a.tmps.getD 27 undef=g27,a.tmps.getD 28 undef=g28,a.tmps.getD 29 undef=g29,a.tmps.getD 30 undef=g30,a.tmps.getD 31 undef=g31,a.tmps.getD 32 undef=g32,a.tmps.getD 16 undef=g16,a.tmps.getD 33 undef=g33,a.tmps.getD 34 undef=g34 at ep
 simp only[Act.put,List.setIfInBounds_toArray,List.set_cons_succ,List.set_cons_zero] at ep
 subst ep
 replace qr:=qr.kept hb9
 replace hb:=bTn hb hb9
 obtain⟨a0,a1,a2⟩:=q9.c3
 obtain⟨r0,r1,r2⟩:=qr.c3
 obtain⟨f0,f1,f2,-⟩:=qr.o12
 clear x2 x3 x7 x9 x12 c40 c42 qc hb9 eM eU
 have HI:=hdn hI9
 clear hI9
 go_wp2
 obtain⟨W6,eW6,q6,only6,hz6⟩:=set3 qr (.int .i64 (M:Int)) (.int .i64 (S:Int)) (.slice t9.1.a t9.1.n t9.1.c)
 rw[eW6]
 have m6:=(HI.out.only only6 (.inl (by omega))).new (g:=w.heap.size) (by omega)
 have b6:Below w.heap.size w W6:=Only.below hb (by omega) hb.size only6
 refine bodyPost_ret (v:=.agg #[.int .i64 (M:Int),.int .i64 (S:Int),.slice t9.1.a t9.1.n t9.1.c]) ?_ rfl ⟨t9,rfl,m6,b6⟩
 obtain⟨y0,y1,y2⟩:=q6.c3
 simp[results,Tryz.results17,go_sem,y0,y1,y2]
theorem adapt_call (rank d h l v u x t n s:Int)(ok:okB d h l v u x t n=true)(hs:(Lit.int .u64 s).wf=true)(w:World) :
  Calls Tryz.prog 17 #[.int .i64 rank,.agg #[.int .i64 d,.int .i64 h,.int .i64 l,.int .i64 v,.int .i64 u,.int .i64 x,.int .i64 t,.int .i64 n],.int .u64 s] w fun e w'=>∃ t':SL × (Nat→Nat→SL),e=.returned (.agg #[.int .i64 (adR rank),.int .i64 (adS rank s),.slice t'.1.a t'.1.n t'.1.c])∧NewA w.heap.size w' t'.1 t'.2 (adV rank d l s)∧Below w.heap.size w w':=by
 by_cases hr:adR rank=0
 ·refine (adapt_none rank d h l v u x t n s w hr).mono fun e w' hh=>?_
  obtain⟨rfl,hb⟩:=hh
  refine⟨(⟨none,0,0⟩,fun _ _=>SL.nought),?_,?_,hb⟩
  ·unfold adS
   rw[if_pos hr,hr]
  ·unfold adV
   rw[if_pos hr]
   exact NewA.none_ _ _ _
 ·have r:=right_of ok
  have d0:=r.d0
  have d1:=r.d1
  have l0:=r.l0
  have l1:=r.l1
  have hb:=adR_bounds rank
  have s0:0≤s∧s≤18446744073709551615:=by simpa [Lit.wf,IntKind.min,IntKind.max,IntKind.signed,IntKind.bits] using hs
  obtain⟨R,eR⟩:∃ R:Nat,adR rank=R:=⟨(adR rank).toNat,by omega⟩
  obtain⟨ml,rfl⟩:∃ ml:Nat,l=ml:=⟨l.toNat,by omega⟩
  obtain⟨D,rfl⟩:∃ D:Nat,d=D:=⟨d.toNat,by omega⟩
  obtain⟨S,eS⟩:∃ S:Nat,s%3=S:=⟨(s%3).toNat,by omega⟩
  have eS':s.tmod 3=(S:Int):=by rw[Int.tmod_eq_emod_of_nonneg s0.1];exact eS
  have e1:adS rank s=(S:Int):=by unfold adS;rw[if_neg hr];exact eS
  have q2:(ml:Int)*4*R=((ml*4*R:Nat):Int):=by rw[Int.natCast_mul,Int.natCast_mul];rfl
  have q3:((ml*4*R:Nat):Int)*D=((4*ml*(R*D):Nat):Int):=by rw[←Int.natCast_mul,Nat.mul_comm ml 4,Nat.mul_assoc]
  have b2:ml*4*R≤32:=by
   have:ml*4*R≤8*4:=Nat.mul_le_mul (by omega) (by omega)
   omega
  have b3:R*D≤32:=by
   have:R*D≤4*8:=Nat.mul_le_mul (by omega) (by omega)
   omega
  have b4:4*ml*(R*D)≤256:=by
   have:4*ml*(R*D)≤8*32:=Nat.mul_le_mul (by omega) b3
   omega
  have b5:0<4*ml*(R*D):=Nat.mul_pos (by omega) (Nat.mul_pos (by omega) (by omega))
  have e2:adV rank D ml s=grshapeV ml (R*D) (wtL s (4*ml*(R*D))):=by
   have:=(nat_prod (l:=(ml:Int)) (R:=(R:Int)) (d:=(D:Int)) (by omega) (by omega) (by omega)).1
   have e:((R:Int)*D).toNat=R*D:=by rw[←Int.natCast_mul];exact Int.toNat_natCast _
   unfold adV
   rw[if_neg hr,eR,this,e]
   rfl
  have okA':okA (R:Int) (S:Int) D h ml v u x t n=true:=by
   unfold okA
   rw[ok]
   simp only[Bool.true_and,Bool.and_eq_true,decide_eq_true_eq]
   omega
  rw[e2,e1,eR]
  have q2':((ml*4*R:Nat):Int)≤32:=by omega
  refine adapt_walk rank D h v u x t n s ((ml:Int)*4) ((ml*4*R:Nat):Int) ml R S (4*ml*(R*D)) (wtL s (4*ml*(R*D))) (grshapeV ml (R*D) (wtL s (4*ml*(R*D)))) w ⟨by omega,by omega⟩ eR (fun w=>?_) (fun w=>?_) (fun w=>?_) (fun w=>?_) (fun w=>?_) (fun w=>weights_call _ (by omega) s w) (fun w ya yc hz=>?_)
  ·clear q2 q3 e2 okA' ok eS
   go_simp
  ·have hw:IntKind.i64.wrap (S:Int)=(S:Int):=by rw[IntKind.wrap_i64];omega
   clear q2 q3 e2 okA' ok eS eS'
   go_simp
  ·have hw:IntKind.i64.wrap ((ml:Int)*4)=(ml:Int)*4:=by rw[IntKind.wrap_i64];omega
   clear q2 q3 e2 okA' ok eS eS'
   go_simp
  ·have hw:IntKind.i64.wrap ((ml:Int)*4*R)=((ml*4*R:Nat):Int):=by rw[q2,IntKind.wrap_i64];omega
   clear q2 q3 e2 okA' ok eS eS'
   generalize ((ml*4*R:Nat):Int)=Z at *
   generalize (ml:Int)*4=Z2 at *
   go_simp
  ·have hw:IntKind.i64.wrap (((ml*4*R:Nat):Int)*D)=((4*ml*(R*D):Nat):Int):=by rw[q3,IntKind.wrap_i64];omega
   clear q2 q3 e2 okA' ok eS eS'
   generalize ((4*ml*(R*D):Nat):Int)=Z3 at *
   generalize ((ml*4*R:Nat):Int)=Z at *
   go_simp
  ·obtain⟨x0,rfl⟩:=hz.reads.some_ b5
   refine (refShape_yes (R:Int) (S:Int) D h v u x t n x0 ml (R*D) (4*ml*(R*D)) yc _ w hz.reads hz.cap rfl (by omega) (by omega) (by omega) (by rw[←Int.natCast_mul]) ((ml:Int)*4) rfl (by rw[Int.natCast_mul (4*ml),Int.natCast_mul 4 ml,Int.mul_comm (ml:Int) 4];rfl) (fun w=>by have:=refRanges_call (R:Int) (S:Int) D h ml v u x t n w;rw[okA'] at this;exact this)).mono fun e w' hh=>?_
   obtain⟨L,Y,he,hN,hb⟩:=hh
   exact⟨(L,Y),he,hN.within,hb⟩
theorem mrun_yes (M:Md)(E L N O:SL)(Y U D:Nat→Nat→SL)(La:SL)(Ya:Nat→Nat→SL)(hE:badE M=0)(w:World)(hM:ModAt w E L N O Y U D M.m)(hA:AdAt w La Ya M.a)(ta:Option Addr)(n tc:Nat)(ts:List Int)(ht:Reads .i64 w ta n ts)(hB:runB M ts n=true) :
  Calls Tryz.prog 41 #[.agg #[.int .i64 M.d,.int .i64 M.h,.int .i64 M.l,.int .i64 M.v,.int .i64 M.u,.int .i64 M.x,.int .i64 M.t,.int .i64 M.n,.slice E.a E.n E.c,.slice L.a L.n L.c,.slice N.a N.n N.c,.slice O.a O.n O.c],.agg #[.int .i64 M.r,.int .i64 M.s,.slice La.a La.n La.c],.slice ta n tc] w fun e w'=>(∃ u k u2 k2 A A2 C C2,e=.returned (.tuple #[.slice u n k,.slice u2 n k2,.int .i64 0])∧Grid w' u n A C (rowF M (tokF ts))∧Grid w' u2 n A2 C2 (outF M (tokF ts))∧n≤k∧n≤k2∧(∀ r,r<n→(rowF M (tokF ts) r).length≤C r)∧(u=none→k=0)∧(u2=none→k2=0))∧Below w.heap.size w w':=by
 have ok:=badE_ok hE
 refine (Run_ok M E L N O Y U D La Ya w hM hA ta n tc (fun w' a m c b j k=>m=n∧j=n∧∃ A A2 C C2,Grid w' a n A C (rowF M (tokF ts))∧Grid w' b n A2 C2 (outF M (tokF ts))∧n≤c∧n≤k∧(∀ r,r<n→(rowF M (tokF ts) r).length≤C r)∧(a=none→c=0)∧(b=none→k=0)) hE (fun W hb=>(run_yes M E L N O Y U D La Ya ok.fit ok.ok (fun h=>ok.adapter h) W (hM.below hb) (hA.below hb) ta n tc ts (ht.below hb) hB).mono fun e w' h=>?_)).mono fun e w' h=>?_
 ·obtain⟨⟨u,k,u2,k2,A,A2,C,C2,rfl,h1,h2⟩,h3⟩:=h
  obtain⟨a,c,ea,ga⟩:=h1.g1.grid
  obtain⟨b,d,eb,gb⟩:=h1.g2.grid
  simp only[Value.slice.injEq,true_and] at ea eb
  obtain⟨rfl,rfl⟩:=ea
  obtain⟨rfl,rfl⟩:=eb
  exact⟨⟨u,n,k,u2,n,k2,rfl,rfl,rfl,A,A2,C,C2,ga,gb,own_cap h1.g1.own,own_cap h1.g2.own,h2,own_nil h1.g1.own,own_nil h1.g2.own⟩,h3⟩
 ·obtain⟨⟨a,m,c,b,j,k,rfl,rfl,rfl,A,A2,C,C2,h1⟩,h2⟩:=h
  exact⟨⟨a,c,b,k,A,A2,C,C2,rfl,h1⟩,h2⟩
theorem Scores_yes (M:Md)(E L N O:SL)(Y U D:Nat→Nat→SL)(hE:checkB M.d M.h M.l M.v M.u M.x M.t M.n M.m=0)(F:MdFit M)(w:World)(hM:ModAt w E L N O Y U D M.m)(xa:Option Addr)(xn xc:Nat)(xs:List Int)(hx:Reads .i64 w xa xn xs)(hf:fitB O.n M.v xn=true) :
  Calls Tryz.prog 121 #[.agg #[.int .i64 M.d,.int .i64 M.h,.int .i64 M.l,.int .i64 M.v,.int .i64 M.u,.int .i64 M.x,.int .i64 M.t,.int .i64 M.n,.slice E.a E.n E.c,.slice L.a L.n L.c,.slice N.a N.n N.c,.slice O.a O.n O.c],.slice xa xn xc] w fun e w'=>(∃ a c,e=.returned (.tuple #[.slice a (O.n/xn) c,.int .i64 0])∧Reads .i64 w' a (O.n/xn) (matL M.m.o xs)∧∀ x:Addr,a=some x→w.heap.size≤x.block)∧Below w.heap.size w w':=by
 have hmf:∀ (fn:Fn) (first cap:Array Value) (w:World),(Instr.makeFunc fn first cap).run Tryz.prog w=.ok (.func fn first cap) w:=fun _ _ _ _=>rfl
 have hb0:=bNw (bNw (Below.refl w.heap.size w) (.cells #[.int .i64 M.d,.int .i64 M.h,.int .i64 M.l,.int .i64 M.v,.int .i64 M.u,.int .i64 M.x,.int .i64 M.t,.int .i64 M.n,.slice E.a E.n E.c,.slice L.a L.n L.c,.slice N.a N.n N.c,.slice O.a O.n O.c] 34)) (.cells #[.int .i64 0] 40)
 have q1:Blk 34 ((w.alloc (.cells #[.int .i64 M.d,.int .i64 M.h,.int .i64 M.l,.int .i64 M.v,.int .i64 M.u,.int .i64 M.x,.int .i64 M.t,.int .i64 M.n,.slice E.a E.n E.c,.slice L.a L.n L.c,.slice N.a N.n N.c,.slice O.a O.n O.c] 34)).alloc (.cells #[.int .i64 0] 40)) w.heap.size #[.int .i64 M.d,.int .i64 M.h,.int .i64 M.l,.int .i64 M.v,.int .i64 M.u,.int .i64 M.x,.int .i64 M.t,.int .i64 M.n,.slice E.a E.n E.c,.slice L.a L.n L.c,.slice N.a N.n N.c,.slice O.a O.n O.c]:=(Blk.new 34 w _).kept (bNw (Below.refl _ _) _)
 have q3:Blk 40 ((w.alloc (.cells #[.int .i64 M.d,.int .i64 M.h,.int .i64 M.l,.int .i64 M.v,.int .i64 M.u,.int .i64 M.x,.int .i64 M.t,.int .i64 M.n,.slice E.a E.n E.c,.slice L.a L.n L.c,.slice N.a N.n N.c,.slice O.a O.n O.c] 34)).alloc (.cells #[.int .i64 0] 40)) (w.heap.size+1) #[.int .i64 0]:=Blk.new_at 40 (w.alloc _) _ _ (by simp)
 have kc:=fun (W:World) (hb:Below w.heap.size w W)=>check_call M.d M.h M.l M.v M.u M.x M.t M.n E L N O Y U D M.m W (hM.below hb)
 rw[hE] at kc
 have hob:O.n*8≤140737488355328:=by
  have h:=F.o
  rw[hM.o.reads.len] at h
  have:M.v*(M.D:Int)≤16*8:=Int.le_trans (Int.mul_le_mul_of_nonneg_right F.v1 (by omega)) (Int.mul_le_mul_of_nonneg_left (by have:=F.d1;omega) (by omega))
  omega
 have km:=fun (W:World) (hb:Below w.heap.size w W)=>mat_yes O.a O.n O.c M.m.o M.v xa xn xc xs W (hM.o.reads.below hb) hM.o.cap (hx.below hb) hf hob
 clear hE
 go_enter_defers Tryz.func121,Tryz.ntmps121
 go_wp2
 refine sy_region M E L N O 0 w.heap.size q1 (by kernel_rfl) rfl ⟨_,rfl,rfl,rfl,rfl,by kernel_rfl⟩ ⟨_,rfl,rfl,rfl,rfl,by kernel_rfl⟩ ⟨_,rfl,rfl,rfl,rfl,by kernel_rfl⟩ ⟨_,rfl,rfl,rfl,rfl,by kernel_rfl⟩ ⟨_,rfl,rfl,rfl,rfl,by kernel_rfl⟩ rfl (fun W hb=>kc W (bTn hb0 hb)) (fun W=>mdmustM_yes M.d M.h M.l M.v M.u M.x M.t M.n E L N O W) (Nat.le_of_ble_eq_true rfl) ?_
 intro a W2 hs hd hkp hb2
 have ep:=fPu [7,8,9,10] hs hd (fun s h=>hkp s (fun j hj e=>h (by
  rcases (show j=0∨j=1∨j=2∨j=3∨j=4 by omega) with rfl|rfl|rfl|rfl|rfl<;>first|(simp only[syD,Option.some.injEq] at e;subst e;simp;done)|(simp[syD] at e))))
 simp only[List.foldl] at ep
 clear hs hd hkp
 generalize a.tmps.getD 7 undef=g7,a.tmps.getD 8 undef=g8,a.tmps.getD 9 undef=g9,a.tmps.getD 10 undef=g10 at ep
 simp only[Act.put,List.setIfInBounds_toArray,List.set_cons_succ,List.set_cons_zero] at ep
 subst ep
 have hb:=bTn hb0 hb2
 have fz:=hb.size
 have Q3:=hdn (q3.kept hb2)
 obtain⟨c0,c1,c2,c3,c4,c5,c6,c7,c8,c9,c10,c11⟩:=(q1.kept hb2).c12
 clear q1 q3 hb0 hb2 kc
 go_wp2_with (first
  | (go_at_call 157;refine (km _ hb).mono ?_;rintro e W3 ⟨⟨cs,rfl,r3,-⟩,h3⟩;have hb3:=bTn hb h3;have z1:=(Q3.out.kept h3).cell 0 (v:=.int .i64 0) rfl;have z2:=(Q3.out.kept h3).open_ 0;clear h3 km hb)
  | (go_at_call 145;refine (mdmust_yes _ _ _ _).mono ?_;rintro e w' ⟨rfl,hq⟩;obtain rfl:=hq.symm;clear hq))
 refine leaves_cons (f:=156) (args:=#[.pointer (some ⟨w.heap.size+1,0,none⟩)]) (by simp) (by simp[go_sem]) ?_
 rw[sSa z1]
 refine (catch_idle45 ⟨w.heap.size+1,0,none⟩ 0 _ z1 z2).mono ?_
 rintro e u' w'' ⟨rfl,rfl,rfl⟩
 rw[sSa z1]
 simp[Leaves,settle,results,Tryz.results121,go_sem,z1]
 exact⟨⟨r3,fz⟩,hb3⟩
def Ent.slice (n:Nat)(R:Nat→List Int):Ent:=.of (fun q u=>∃ a c A C,q=.slice a n c∧Grid u a n A C R) (fun _ _ _ hb ⟨a,c,A,C,e,h⟩=>⟨a,c,A,C,e,h.below hb⟩)
def Ent.run (n:Nat)(R:Nat→List Int):Ent:=.of (fun q u=>∃ x a c A C,q=.tuple #[x,.slice a n c,.int .i64 0]∧Grid u a n A C R) (fun _ _ _ hb ⟨x,a,c,A,C,e,h⟩=>⟨x,a,c,A,C,e,h.below hb⟩)
def Ent.nums (n:Nat)(zs:List Int):Ent:=.of (fun q u=>∃ a c,q=.slice a n c∧Reads .i64 u a n zs) (fun _ _ _ hb ⟨a,c,e,h⟩=>⟨a,c,e,h.below hb⟩)
def Ent.row (n:Nat)(zs:List Int):Ent:=.of (fun q u=>∃ a c,q=.tuple #[.slice a n c,.int .i64 0]∧Reads .i64 u a n zs) (fun _ _ _ hb ⟨a,c,e,h⟩=>⟨a,c,e,h.below hb⟩)
def Ent.two (x y:Value):Ent:=.of (fun q u=>∃ g,q=.slice (some ⟨g,0,none⟩) 2 2∧u.cell? ⟨g,0,none⟩=some x∧u.cell? ⟨g,1,none⟩=some y) (fun _ _ _ hb ⟨g,e,h1,h2⟩=>⟨g,e,(hb.cell (World.block_lt_of_cell? _ _ h1)).trans h1,(hb.cell (World.block_lt_of_cell? _ _ h2)).trans h2⟩)
def Ent.numf (B n:Nat)(zs:List Int):Ent:=.of (fun q u=>∃ a c,q=.slice a n c∧Reads .i64 u a n zs∧∀ x:Addr,a=some x→B≤x.block) (fun _ _ _ hb ⟨a,c,e,h,g⟩=>⟨a,c,e,h.below hb,g⟩)
def Ent.rowf (B n:Nat)(zs:List Int):Ent:=.of (fun q u=>∃ a c,q=.tuple #[.slice a n c,.int .i64 0]∧Reads .i64 u a n zs∧∀ x:Addr,a=some x→B≤x.block) (fun _ _ _ hb ⟨a,c,e,h,g⟩=>⟨a,c,e,h.below hb,g⟩)
theorem score_at (M:Md)(E L N O:SL)(Y U D:Nat→Nat→SL)(K:MdOk M)(w:World)(hM:ModAt w E L N O Y U D M.m)(a:Option Addr)(c:Nat)(xs:List Int)(hr:Reads .i64 w a M.D xs) :
  Calls Tryz.prog 121 #[.agg #[.int .i64 M.d,.int .i64 M.h,.int .i64 M.l,.int .i64 M.v,.int .i64 M.u,.int .i64 M.x,.int .i64 M.t,.int .i64 M.n,.slice E.a E.n E.c,.slice L.a L.n L.c,.slice N.a N.n N.c,.slice O.a O.n O.c],.slice a M.D c] w fun e w'=>(∃ a c,e=.returned (.tuple #[.slice a M.v.toNat c,.int .i64 0])∧Reads .i64 w' a M.v.toNat (matL M.m.o xs)∧∀ x:Addr,a=some x→w.heap.size≤x.block)∧Below w.heap.size w w':=by
 have F:=K.fit
 have hv:=F.v0
 have d0:=F.d0
 have eO:(O.n:Int)=M.v*M.D:=by rw[←hM.o.reads.len];exact F.o
 have hd:O.n/M.D=M.v.toNat:=by
  have e:O.n=M.v.toNat*M.D:=by
   have:((M.v.toNat:Nat):Int)=M.v:=by omega
   rw[←this,←Int.natCast_mul] at eO
   exact Int.ofNat.inj eO
  rw[e]
  exact Nat.mul_div_cancel _ (by omega)
 have:=Scores_yes M E L N O Y U D K.ck F w hM a M.D c xs hr (fitB_of (by omega) eO (by omega))
 rw[hd] at this
 exact this
theorem askScores_call (r:Rq)(Y U D Ya:Nat→Nat→SL)(ps:List Int)(K:MdOk r.M)(w:World)(h:RqAt w r Y U D Ya ps)(ta:Option Addr)(tn tc:Nat)(ts:List Int)(ht:Reads .i64 w ta tn ts)(te:ta=none→tc=0)(hp:0<r.q.n)(hB:runB r.M (ps++ts) (r.q.n+tn)=true) :
  Calls Tryz.prog 85 #[r.w,.slice ta tn tc] w fun e w'=>(∃ a c,e=.returned (.tuple #[.slice a r.M.v.toNat c,.int .i64 0])∧Reads .i64 w' a r.M.v.toNat (scoreL r.M (ps++ts))∧∀ x:Addr,a=some x→w.heap.size≤x.block)∧Below w.heap.size w w':=by
 have hb:=bNw (Below.refl w.heap.size w) (.cells r.cs 55)
 have q0:=Blk.new 55 w r.cs
 have n24:=(runB_yes hB).1
 have hE:=K.none_bad
 obtain⟨T,hT⟩:∃ T,r.q.n+tn=T:=⟨_,rfl⟩
 have kc:=fun (W:World) (hb:Below w.heap.size w W) g (k1:W.cell? ⟨g,0,none⟩=some (.slice r.q.a r.q.n r.q.c)) (k2:W.cell? ⟨g,1,none⟩=some (.slice ta tn tc))=>concat_call g 2 r.q.a r.q.n r.q.c ps ta tn tc ts W (h.q.t.below hb) (ht.below hb) h.q.te te k1 k2 hp (by omega)
 have kr:=fun (W:World) (hb:Below w.heap.size w W) a c (hr:Reads .i64 W a T (ps++ts))=>mrun_yes r.M r.E r.L r.N r.O Y U D r.La Ya hE W (h.m.below hb) (h.a.below hb) a T c (ps++ts) hr (by rw[←hT];exact hB)
 have ks:=fun (W:World) (hb:Below w.heap.size w W) a c (hr:Reads .i64 W a r.M.D (lastL r.M (ps++ts)))=>score_at r.M r.E r.L r.N r.O Y U D K W (h.m.below hb) a c _ hr
 simp only[hT] at kc
 obtain⟨W0,eW⟩:∃ W0,w.alloc (.cells r.cs 55)=W0:=⟨_,rfl⟩
 rw[eW] at hb q0
 have EW:=hdn eW
 clear eW
 go_enter Tryz.func85,Tryz.ntmps85
 go_wp2
 rw[EW.out]
 clear EW
 refine wp_region_tab (by kernel_rfl) (by kernel_rfl) rfl (fun W=>Below w.heap.size w W∧Blk 55 W w.heap.size r.cs) [.eq (.pointer (some ⟨w.heap.size,0,none⟩)),.eq r.mw,.eq (.pointer (some ⟨w.heap.size,12,none⟩)),.eq r.aw,.eq (.pointer (some ⟨w.heap.size,15,none⟩)),.eq (.pointer (some ⟨w.heap.size,16,none⟩)),.eq (.slice r.q.a r.q.n r.q.c),.eq (.slice ta tn tc),.two (.slice r.q.a r.q.n r.q.c) (.slice ta tn tc),.nums T (ps++ts),.run T (outF r.M (tokF (ps++ts))),.run T (outF r.M (tokF (ps++ts))),.any,.slice T (outF r.M (tokF (ps++ts))),.eq (.int .i64 0),.any,.slice T (outF r.M (tokF (ps++ts))),.eq (.int .i64 0)] ⟨bDr hb ⟨1,rfl⟩,q0⟩ ⟨?_,?_,?_,?_,?_,?_,?_,?_,?b8,?c9,?c10,?p11,?x12,?x13,?x14,?p15,?p16,?_,trivial⟩ ?fin
 case b8 =>
  rintro b u - ⟨hb,qb⟩ ⟨h1,h2,-⟩ K hK
  replace h1:=show b.tmps.getD 16 undef=.slice r.q.a r.q.n r.q.c from h1
  replace h2:=show b.tmps.getD 17 undef=.slice ta tn tc from h2
  rw[Array.getD_eq_getD_getElem?] at h1 h2
  dsimp only
  go_simp
  exact hK _ _ (bNw (Below.refl _ _) _) ⟨bNw hb _,qb.kept (bNw (Below.refl _ _) _)⟩ ⟨_,rfl,(Blk.new 25 u #[.slice r.q.a r.q.n r.q.c,.slice ta tn tc]).cell 0 rfl,(Blk.new 25 u #[.slice r.q.a r.q.n r.q.c,.slice ta tn tc]).cell 1 rfl⟩
 case c9 =>
  rintro b u - ⟨hb,qb⟩ ⟨h1,-⟩ K hK
  obtain⟨g,h1,k1,k2⟩:=h1
  dsimp only
  go_wp2_with (go_at_call 120;refine (kc _ hb _ k1 k2).mono ?_;rintro e W1 ⟨⟨p',m',rfl,h'⟩,h⟩;exact hK _ _ h ⟨bTn hb h,qb.kept h⟩ ⟨_,_,rfl,h'⟩)
 case c10 =>
  rintro b u - ⟨hb,qb⟩ ⟨h1,h2,h3,-⟩ K hK
  replace h1:=show b.tmps.getD 11 undef=r.mw from h1
  replace h2:=show b.tmps.getD 13 undef=r.aw from h2
  obtain⟨a9,c9,h3,r9⟩:=h3
  dsimp only
  go_wp2_with (go_at_call 41;refine (kr _ hb _ _ r9).mono ?_;rintro e W1 ⟨⟨u1,k1,u2,k2,A1,A2,C1,C2,rfl,g1,g2,-⟩,h⟩;exact hK _ _ h ⟨bTn hb h,qb.kept h⟩ ⟨_,_,_,_,_,rfl,g2⟩)
 case p11 =>
  rintro b u-hS ⟨h1,-⟩ K hK
  exact hK _ _ (Below.refl _ _) hS h1
 case p15 =>
  rintro b u-hS ⟨h1,-⟩ K hK
  exact hK _ _ (Below.refl _ _) hS trivial
 case p16 =>
  rintro b u-hS ⟨h1,-⟩ K hK
  exact hK _ _ (Below.refl _ _) hS h1
 case x12 =>
  rintro b u-hS ⟨h1,-⟩ K hK
  obtain⟨x,a,c,A,C,h1,g1⟩:=h1
  dsimp only
  go_simp
  exact hK _ _ (Below.refl _ _) hS trivial
 case x13 =>
  rintro b u-hS ⟨h1,-⟩ K hK
  obtain⟨x,a,c,A,C,h1,g1⟩:=h1
  dsimp only
  go_simp
  exact hK _ _ (Below.refl _ _) hS ⟨_,_,_,_,rfl,g1⟩
 case x14 =>
  rintro b u-hS ⟨h1,-⟩ K hK
  obtain⟨x,a,c,A,C,h1,g1⟩:=h1
  dsimp only
  go_simp
  exact hK _ _ (Below.refl _ _) hS rfl
 case fin =>
  rintro g u ⟨hb,qb⟩ ⟨-,-,-,-,-,-,-,-,-,-,-,-,-,-,-,-,f7,f8,-⟩
  replace f8:=show g 8=.int .i64 0 from f8
  obtain⟨oa,oc,oA,oC,f7,hg⟩:=f7
  replace f7:=show g 7=.slice oa T oc from f7
  simp only[List.filterMap,List.foldl,f7,f8,Act.put,List.setIfInBounds_toArray,List.set_cons_succ,List.set_cons_zero]
  clear f7 f8 kc kr
  have eT:∃ T1:Nat,T=T1+1:=⟨T-1,by omega⟩
  obtain⟨T1,eT⟩:=eT
  obtain⟨x,rfl⟩:=hg.some_ (by omega)
  have hlt:T1<T:=by omega
  have z1:(T:Int)-1=(T1:Int):=by omega
  have z2:IntKind.i64.wrap (T1:Int)=(T1:Int):=by rw[IntKind.wrap_i64];omega
  have z3:(0:Int)≤(T1:Int):=by omega
  have z4:(T1:Int)<(T:Int):=by omega
  have hl:outF r.M (tokF (ps++ts)) T1=lastL r.M (ps++ts):=by
   unfold lastL
   rw[List.length_append,h.q.t.len,ht.len,hT,eT]
   rfl
  have ZZ:=hdn (And.intro eT hl)
  clear eT hl h ht te hp hB hT hE n24
  go_wp2
  refine wp_region_tab (by kernel_rfl) (by kernel_rfl) rfl (fun W=>Below w.heap.size w W∧Blk 55 W w.heap.size r.cs∧Grid W (some x) T oA oC (outF r.M (tokF (ps++ts)))) [.eq (.pointer (some ⟨w.heap.size,0,none⟩)),.eq r.mw,.eq (.slice (some x) T oc),.eq (.slice (some x) T oc),.eq (.int .i64 T),.eq (.int .i64 T1),.eq (.pointer (some (x.add T1))),.eq (.slice (oA T1) r.M.D (oC T1)),.rowf w.heap.size r.M.v.toNat (scoreL r.M (ps++ts)),.numf w.heap.size r.M.v.toNat (scoreL r.M (ps++ts)),.eq (.int .i64 0),.numf w.heap.size r.M.v.toNat (scoreL r.M (ps++ts)),.eq (.int .i64 0)] ⟨bDr hb ⟨1,rfl⟩,qb,hg.below (bDr (Below.refl _ _) ⟨1,rfl⟩)⟩ ⟨?_,?_,?_,?_,?_,?_,?_,?_,?c8,?x9,?x10,?p11,?_,trivial⟩ ?fin
  case c8 =>
   rintro b u - ⟨hb,qb,hg⟩ ⟨h1,h2,-⟩ K hK
   replace h1:=show b.tmps.getD 28 undef=r.mw from h1
   replace h2:=show b.tmps.getD 34 undef=.slice (oA T1) r.M.D (oC T1) from h2
   have rr:=hg.row T1 hlt
   rw[outF_length,ZZ.out.2] at rr
   dsimp only
   go_wp2_with (go_at_call 121;refine (ks _ hb _ _ rr).mono ?_;rintro e W1 ⟨⟨a',c',rfl,r',fr⟩,h⟩;exact hK _ _ h ⟨bTn hb h,qb.kept h,hg.below h⟩ ⟨_,_,rfl,r',fun x hx=>Nat.le_trans hb.size (fr x hx)⟩)
  case x9 =>
   rintro b u-hS ⟨h1,-⟩ K hK
   obtain⟨a,c,h1,g1⟩:=h1
   dsimp only
   go_simp
   exact hK _ _ (Below.refl _ _) hS ⟨_,_,rfl,g1⟩
  case x10 =>
   rintro b u-hS ⟨h1,-⟩ K hK
   obtain⟨a,c,h1,g1⟩:=h1
   dsimp only
   go_simp
   exact hK _ _ (Below.refl _ _) hS rfl
  case p11 =>
   rintro b u-hS ⟨h1,-⟩ K hK
   exact hK _ _ (Below.refl _ _) hS h1
  case fin =>
   rintro g u ⟨hb,qb,-⟩ ⟨-,-,-,-,-,-,-,-,-,-,-,f4,f5,-⟩
   replace f5:=show g 5=.int .i64 0 from f5
   obtain⟨sa,sc,f4,rs⟩:=f4
   replace f4:=show g 4=.slice sa r.M.v.toNat sc from f4
   simp only[List.filterMap,List.foldl,f4,f5,Act.put,List.setIfInBounds_toArray,List.set_cons_succ,List.set_cons_zero]
   go_wp2
   go_ret2
   exact⟨⟨_,_,rfl,rs⟩,hb⟩
  all_goals
   rintro b u - ⟨hb,qb,hg⟩ hv K hK
   obtain⟨c0,c1,c2,c3,c4,c5,c6,c7,c8,c9,c10,c11,c12,c13,c14,c15,c16,c17,c18,c19,c20,c21,c22,c23⟩:=qb.rq
   have cx:=hg.cell x rfl T1 hlt
   rw[outF_length] at cx
   first
    | (obtain⟨h1,h2,-⟩:=hv;replace h1:=show b.tmps.getD _ undef=_ from h1;replace h2:=show b.tmps.getD _ undef=_ from h2)
    | (obtain⟨h1,-⟩:=hv;replace h1:=show b.tmps.getD _ undef=_ from h1)
    | skip
   dsimp only
   go_simp
   exact hK _ _ (Below.refl _ _) ⟨hb,qb,hg⟩ rfl
 all_goals
  rintro b u - ⟨hb,qb⟩ hv K hK
  obtain⟨c0,c1,c2,c3,c4,c5,c6,c7,c8,c9,c10,c11,c12,c13,c14,c15,c16,c17,c18,c19,c20,c21,c22,c23⟩:=qb.rq
  first
   | (obtain⟨h1,h2,h3,-⟩:=hv;replace h1:=show b.tmps.getD _ undef=_ from h1;replace h2:=show b.tmps.getD _ undef=_ from h2;replace h3:=show b.tmps.getD _ undef=_ from h3)
   | (obtain⟨h1,h2,-⟩:=hv;replace h1:=show b.tmps.getD _ undef=_ from h1;replace h2:=show b.tmps.getD _ undef=_ from h2)
   | (obtain⟨h1,-⟩:=hv;replace h1:=show b.tmps.getD _ undef=_ from h1)
   | skip
  dsimp only
  go_simp
  exact hK _ _ (Below.refl _ _) ⟨hb,qb⟩ rfl
structure TM (B:Nat) (w:World) (E L N O:SL) (Y U D:Nat→Nat→SL) (m:ModV):Prop where
 l:TL B w (.slice L.a L.n L.c) m.ln Y U D m
 e:TS B w E m.e
 n:TS B w N m.nm
 o:TS B w O m.o
def KeepsF (B:Nat)(t:TypeId)(w w':World):Prop:=∀ (b:Nat) (cur:Array Value) (fz:Nat × Nat),B≤b→w.heap[b]? = some (Obj.cells cur t fz)→w'.heap[b]? = some (Obj.cells cur t fz)
theorem TS.stepF {B:Nat}{w w':World}{s:SL}{zs:List Int}(h:TS B w s zs)(k:KeepsF B 118 w w'):TS B w' s zs:=by
 refine⟨⟨⟨h.is.reads.len,h.is.reads.max,h.is.reads.wf,h.is.reads.some_,fun x hx i hi=>?_⟩,h.is.nil,h.is.cap⟩,fun x hx=>?_⟩
 ·obtain⟨hB,cur,fz,e⟩:=h.blk x hx
  have c:=h.is.reads.cell x hx i hi
  have eb:(x.add i).block=x.block:=by unfold Addr.add;split<;>rfl
  have:=World.cell?_of_block (w:=w) (w':=w') (a:=x.add i) (by rw[eb,e];exact k _ _ _ hB e)
  rw[this]
  exact c
 ·obtain⟨h1,cur,fz,e⟩:=h.blk x hx
  exact⟨h1,cur,fz,k _ _ _ h1 e⟩
theorem KeepsF.own {t:TypeId}{w w':World}{B n sz:Nat}{v:Value}{xs:List Value}(h:KeepsF B t w w')(ho:w.ownsRow B t sz v n xs):w'.ownsRow B t sz v n xs:=by
 refine⟨ho.1,?_⟩
 rcases ho.2 with h2|⟨g,cap,cur,hv,hg,hh,r⟩
 ·exact .inl h2
 ·exact .inr ⟨g,cap,cur,hv,hg,h g cur (0,0) hg hh,r⟩
theorem TM.stepF {B:Nat}{w w':World}{E L N O:SL}{Y U D:Nat→Nat→SL}{m:ModV}(h:TM B w E L N O Y U D m)(k:∀ t,KeepsF B t w w'):TM B w' E L N O Y U D m :=
 ⟨⟨(k 61).own h.l.own,fun i hi=>⟨fun j hj=>((h.l.lay i hi).f j hj).stepF (k 118),⟨(k 31).own (h.l.lay i hi).u.own,fun j hj=>((h.l.lay i hi).u.row j hj).stepF (k 118)⟩,⟨(k 31).own (h.l.lay i hi).d.own,fun j hj=>((h.l.lay i hi).d.row j hj).stepF (k 118)⟩⟩⟩,h.e.stepF (k 118),h.n.stepF (k 118),h.o.stepF (k 118)⟩
def TMin (lo hi:Nat)(w:World)(t:MT)(m:ModV):Prop:=hi≤w.heap.size∧∀ w',(∀ b,lo≤b→b<hi→w'.heap[b]? = w.heap[b]?)→TM lo w' t.E t.L t.N t.O t.Y t.U t.D m
theorem TMin.of {lo:Nat}{w:World}{t:MT}{m:ModV}(h:TM lo w t.E t.L t.N t.O t.Y t.U t.D m):TMin lo w.heap.size w t m :=
 ⟨Nat.le_refl _,fun w' hc=>h.stepF fun ty b cur fz hb e=>(hc b hb (Array.getElem?_eq_some_iff.1 e).1).trans e⟩
theorem TMin.at {lo hi:Nat}{w:World}{t:MT}{m:ModV}(h:TMin lo hi w t m):TM lo w t.E t.L t.N t.O t.Y t.U t.D m:=h.2 w fun _ _ _=>rfl
def zeroW:List Int:=List.replicate 34 0
def zeroV:ModV:=shapeV 2 1 2 1 0 zeroW
theorem sm_ok:okB 2 1 1 2 1 0 0 0=true:=by decide +kernel
theorem add_at (g j:Nat):(⟨g,0,none⟩:Addr).add j=⟨g,j,none⟩:=by cases j<;>simp[Addr.add]
end Go.Proofs.YtbkjhfmehemgpaaGreat

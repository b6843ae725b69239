/- Texts put together. -/
import Derived.Test.YthliomlmhfjhnaaGreatZp30
namespace Go.Proofs.YthliomlmhfjhnaaGreat
set_option maxRecDepth 20000
set_option maxHeartbeats 16000000
open Go.ChangeShapes Go.WideShapes Go.ChangeAt Go.RowKit
set_option linter.unusedVariables false
set_option linter.unusedSimpArgs false
section
open Go.Sort hiding Below
def ownD (i:Nat):Option Nat:=if i<20 then some (18+i) else if i=20 then some 3 else none
theorem Qmc {i j d:Nat}(h1:ownD i=some d)(h2:ownD j=some d):i=j:=by
 unfold ownD at h1 h2
 split at h1<;>split at h2
 ·simp at h1 h2;omega
 ·split at h2
  ·simp at h1 h2;omega
  ·cases h2
 ·split at h1
  ·simp at h1 h2;omega
  ·cases h1
 ·split at h1
  ·split at h2
   ·omega
   ·cases h2
  ·cases h1
theorem QkV {i s:Nat}(h:s≠3∧(s<18∨38≤s)):ownD i≠some s:=by
 intro e
 unfold ownD at e
 split at e
 ·simp at e;omega
 ·split at e
  ·simp at e;omega
  ·cases e
def ownF (B tb k:Nat)(v0:Value)(Y:Nat→Nat→SL)(f:Nat→Nat→List Int)(y:Nat→SL)(i:Nat)(v:Value)(w:World):Prop :=
 if i=0 then v=v0 else if i<17 then
  (if (i-1)%4=0 then ∃ g,v=.slice (some ⟨g,0,none⟩) 0 0∧B≤g∧Blk 73 w g #[] else if (i-1)%4=1 then v=.pointer (some ((⟨tb,0,none⟩:Addr).add ((i-1)/4))) else if (i-1)%4=2 then v=(y ((i-1)/4)).v else ∃ s:SL,v=s.v∧TS B w s (f k ((i-1)/4)))
 else if i=17 then ∃ s:Nat→SL,v=.agg #[(s 0).v,(s 1).v,(s 2).v,(s 3).v]∧∀ j,j<4→TS B w (s j) (f k j)
 else if i=18 then ∃ (g:Nat) (s:Nat→SL),v=.slice (some ⟨g,0,none⟩) 1 1∧Blk 61 w g #[(s 0).v,(s 1).v,(s 2).v,(s 3).v]∧∀ j,j<4→TS B w (s j) (f k j)
 else True
def ownG (B tb k:Nat)(v0:Value)(Y:Nat→Nat→SL)(f:Nat→Nat→List Int)(y:Nat→SL)(l:Nat→Bool)(i:Nat)(v:Value)(w:World):Prop :=
 if i<19 then (l 19=false→ownF B tb k v0 Y f y i v w) else ∃ s:Nat→SL,TA B w v (k+1) (upd Y k s) f
theorem Qjp {B tb k:Nat}{v0:Value}{Y:Nat→Nat→SL}{f:Nat→Nat→List Int}{y:Nat→SL}{i:Nat}{v:Value}{w w':World}(h:ownF B tb k v0 Y f y i v w)(hb:Bw w w'):ownF B tb k v0 Y f y i v w':=by
 unfold ownF at h ⊢
 split
 ·rename_i h0
  rw[if_pos h0] at h
  exact h
 ·rename_i h0
  rw[if_neg h0] at h
  split
  ·rename_i h1
   rw[if_pos h1] at h
   split
   ·rename_i h2
    rw[if_pos h2] at h
    obtain⟨g,e1,e2,e3⟩:=h
    exact⟨g,e1,e2,e3.kept hb⟩
   ·rename_i h2
    rw[if_neg h2] at h
    split
    ·rename_i h3
     rw[if_pos h3] at h
     exact h
    ·rename_i h3
     rw[if_neg h3] at h
     split
     ·rename_i h4
      rw[if_pos h4] at h
      exact h
     ·rename_i h4
      rw[if_neg h4] at h
      obtain⟨s,e1,e2⟩:=h
      exact⟨s,e1,e2.below hb⟩
  ·rename_i h1
   rw[if_neg h1] at h
   split
   ·rename_i h2
    rw[if_pos h2] at h
    obtain⟨s,e1,e2⟩:=h
    exact⟨s,e1,fun j hj=>(e2 j hj).below hb⟩
   ·rename_i h2
    rw[if_neg h2] at h
    split
    ·rename_i h3
     rw[if_pos h3] at h
     obtain⟨g,s,e1,e2,e3⟩:=h
     exact⟨g,s,e1,e2.kept hb,fun j hj=>(e3 j hj).below hb⟩
    ·trivial
def ownR (B:Nat)(v0:Value)(w0:World)(l:Nat→Bool)(a:Act)(w:World):Prop:=Below B w0 w∧(l 19=false→Bw w0 w)∧(l 20=false→a.tmps.getD 3 undef=v0)
theorem Qjo {id:Nat}{ops:Array Oper}{Q:Exit→Act→World→Prop}{a0:Act}{w0:World}(B tb k:Nat)(v0:Value)(Y:Nat→Nat→SL)(f:Nat→Nat→List Int)(y:Nat→SL)(hlow:lowB ops=true)(hsz:ops.size=21)
  (o0:OpAt ops 0 (some 18) (.move (.tmp 3)) [])
  (hops:∀ j,j<4→OpAt ops (1+4*j) (some (19+4*j)) (.buildSlice 24 0 #[]) []∧OpAt ops (2+4*j) (some (20+4*j)) (.fieldAddr 61 (.tmp 5) j) []∧OpAt ops (3+4*j) (some (21+4*j)) (.load 24 (.tmp (20+4*j))) [2+4*j] ∧
   OpAt ops (4+4*j) (some (22+4*j)) (.call { callee:=.builtin .append,args:=#[.tmp (19+4*j),.tmp (21+4*j)],argTypes:=#[24,24] }) [1+4*j,3+4*j])
  (o17:OpAt ops 17 (some 35) (.build 61 #[(0,.tmp 22),(1,.tmp 26),(2,.tmp 30),(3,.tmp 34)]) [4,8,12,16])
  (o18:OpAt ops 18 (some 36) (.buildSlice 28 1 #[(0,.tmp 35)]) [17])
  (o19:OpAt ops 19 (some 37) (.call { callee:=.builtin .append,args:=#[.tmp 18,.tmp 36],argTypes:=#[28,28] }) [0,18])
  (o20:OpAt ops 20 (some 3) (.assign (.tmp 37)) [19])
  (h5:a0.tmps.getD 5 undef=Pt tb) (h3:a0.tmps.getD 3 undef=v0) (hN:38≤a0.tmps.size)
  (hB:B≤w0.heap.size) (hT:TA B w0 v0 k Y f) (q0:Blk 61 w0 tb #[(y 0).v,(y 1).v,(y 2).v,(y 3).v]) (hy:∀ j,j<4→IsS w0 (y j) (f k j)∧(f k j).length≤140737488355328) (hk:(k+1)*96≤140737488355328)
  (fin:∀ a w (s:Nat→SL),a.tmps.size=a0.tmps.size→a.defers=a0.defers→(∀ s,s≠3∧(s<18∨38≤s)→a.tmps.getD s undef=a0.tmps.getD s undef)→Below B w0 w→TA B w (a.tmps.getD 3 undef) (k+1) (upd Y k s) f→Q .normal a w) :
  (Code.region id ops true).wp Tryz.prog Q a0 w0:=by
 refine wRi (by kernel_rfl) hlow (Inv 21 ownD a0 (ownR B v0 w0) (ownG B tb k v0 Y f y)) (Inv.start ⟨⟨rfl,rfl,rfl,Nat.le_refl _,fun _ _=>rfl⟩,fun _=>⟨rfl,rfl,rfl,Nat.le_refl _,fun _ _=>rfl⟩,fun _=>h3⟩) ?_ ?_
 ·intro l i o a w ho hl hcl hdep hI
  have hi:i<21:=by rw[←hsz];exact (Array.getElem?_eq_some_iff.1 ho).1
  obtain⟨hw1,hw2,hw3⟩:=hI.world
  have hsB:B≤w.heap.size:=Nat.le_trans hB hw1.size
  have ev:∀ (s:Nat),a.eval (.tmp s)=a.tmps.getD s undef:=fun _=>rfl
  have inj:∀ d,ownD i=some d→∀ j d',j<21→ownD j=some d'→j≠i→d'≠d:=fun d hd j d' hj hd' hne e=>hne (Qmc (by rw[hd',e]) hd)
  have e5':a.eval (.tmp 5)=Pt tb:=(hI.kept 5 (fun j _=>QkV (by omega))).trans h5
  -- the last append is not done as long as any operation ahead of it is not
  have all:l 19=true→∀ j,j<19→l j=true:=fun h=>by
   have d19:=hcl.dep o19 h
   have l0:=d19 0 (by simp)
   have l18:=d19 18 (by simp)
   have l17:=hcl.dep o18 l18 17 (by simp)
   have d17:=hcl.dep o17 l17
   have four:∀ q,q<4→l (4+4*q)=true:=fun q hq=>by
    rcases (show q=0∨q=1∨q=2∨q=3 by omega) with rfl|rfl|rfl|rfl
    ·exact d17 4 (by simp)
    ·exact d17 8 (by simp)
    ·exact d17 12 (by simp)
    ·exact d17 16 (by simp)
   intro j hj
   by_cases j0:j=0
   ·rw[j0];exact l0
   by_cases j17:j<17
   ·have hq:(j-1)/4<4:=by omega
    obtain⟨p0,p1,p2,p3⟩:=hops ((j-1)/4) hq
    have f4:=four _ hq
    have f1:=hcl.dep p3 f4 (1+4*((j-1)/4)) (by simp)
    have f3:=hcl.dep p3 f4 (3+4*((j-1)/4)) (by simp)
    have f2:=hcl.dep p2 f3 (2+4*((j-1)/4)) (by simp)
    rcases (show j=1+4*((j-1)/4)∨j=2+4*((j-1)/4)∨j=3+4*((j-1)/4)∨j=4+4*((j-1)/4) by omega) with e|e|e|e
    ·rw[e];exact f1
    ·rw[e];exact f2
    ·rw[e];exact f3
    ·rw[e];exact f4
   rcases (show j=17∨j=18 by omega) with rfl|rfl
   ·exact l17
   ·exact l18
  have n19:i<19→l 19=false:=fun h=>by
   cases e:l 19 with
   | false=>rfl
   | true=>rw[all e i h] at hl;cases hl
  have ne19:i<19→(l 19 || 19==i)=false:=fun h=>by rw[n19 h];simp;omega
  have val:∀ j,j<19→i≤19→l j=true→ownF B tb k v0 Y f y j (a.tmps.getD (18+j) undef) w:=fun j hj hi' h=>by
   have:=hI.val j (18+j) (by omega) (by unfold ownD;rw[if_pos (by omega)]) h
   unfold ownG at this
   rw[if_pos hj] at this
   exact this (by
    by_cases e:i<19
    ·exact n19 e
    ·rw[show i=19 by omega] at hl
     exact hl)
  have go:∀ {v w'},i<19→Bw w w'→ownF B tb k v0 Y f y i v w'→Inv 21 ownD a0 (ownR B v0 w0) (ownG B tb k v0 Y f y) (fun j=>l j || j==i) (a.put (some (18+i)) v) w':=by
   intro v w' hi' hw hF
   have hD:ownD i=some (18+i):=by unfold ownD;rw[if_pos (by omega)]
   refine hI.put hi hD (by omega) (inj _ hD) ⟨hw1.trans (hw.mono hsB),fun _=>bTn (hw2 (n19 hi')) hw,fun h=>?_⟩ ?_ ?_
   ·rw[Qby a (18+i) v 3 (by rw[hI.size];exact Nat.lt_of_lt_of_le (show 18+i<38 by omega) hN),if_neg (by omega)]
    exact hw3 (by simp only[Bool.or_eq_false_iff] at h;exact h.1)
   ·unfold ownG
    rw[if_pos hi']
    exact fun _=>hF
   ·intro j u hj hlj hne hf
    unfold ownG at hf ⊢
    by_cases hj19:j<19
    ·rw[if_pos hj19] at hf ⊢
     exact fun _=>Qjp (hf (n19 hi')) hw
    ·rw[if_neg hj19] at hf ⊢
     obtain⟨s,hs⟩:=hf
     exact⟨s,hs.below hw⟩
  by_cases i0:i=0
  ·subst i0
   obtain⟨o',e1,e2,e3,e4,e5⟩:=o0
   obtain rfl:=sOp ho e1
   have l20:l 20=false:=by
    cases e:l 20 with
    | false=>rfl
    | true=>have:=all (hcl.dep o20 e 19 (by simp)) 0 (by omega);rw[hl] at this;cases this
   refine wVa (v:=v0) (w':=w) ho e4 ?_ (by rw[e2];exact go (by omega) bR (by unfold ownF;rw[if_pos rfl]))
   simp[execOp,e3,ev,hw3 l20]
  by_cases i17:i<17
  ·obtain⟨j,r,hj,hr,rfl⟩:∃ j r,j<4∧r<4∧i=1+r+4*j:=⟨(i-1)/4,(i-1)%4,by omega,by omega,by omega⟩
   obtain⟨p0,p1,p2,p3⟩:=hops j hj
   have dv:∀ r,r<4→(1+r+4*j-1)%4=r∧(1+r+4*j-1)/4=j:=fun r hr=>by omega
   have hw0:=hw2 (n19 (by omega))
   rcases (show r=0∨r=1∨r=2∨r=3 by omega) with rfl|rfl|rfl|rfl
   ·obtain⟨o',e1,e2,e3,e4,e5⟩:=p0
    obtain rfl:=sOp ho e1
    refine wVa (v:=.slice (some ⟨w.heap.size,0,none⟩) 0 0) (w':=w.alloc (.cells #[] 73)) ho e4 ?_ (by rw[e2,show 19+4*j=18+(1+0+4*j) by omega];exact go (by omega) (bNw bR _) (by unfold ownF;rw[if_neg (by omega),if_pos (by omega),if_pos (dv 0 hr).1];exact⟨_,rfl,hsB,Blk.new 73 w #[]⟩))
    simp[execOp,e3,Qfj]
   ·obtain⟨o',e1,e2,e3,e4,e5⟩:=p1
    obtain rfl:=sOp ho e1
    refine wVa (v:=.pointer (some ((⟨tb,0,none⟩:Addr).add j))) (w':=w) ho e4 ?_ (by rw[e2,show 20+4*j=18+(1+1+4*j) by omega];exact go (by omega) bR (by unfold ownF;rw[if_neg (by omega),if_pos (by omega),if_neg (by have:=(dv 1 hr).1;omega),if_pos (dv 1 hr).1,(dv 1 hr).2]))
    simp[execOp,e3,e5',Qin j hj]
   ·obtain⟨o',e1,e2,e3,e4,e5⟩:=p2
    obtain rfl:=sOp ho e1
    have dp:=dPo e5 hdep
    have ev1:=val (1+1+4*j) (by omega) (by omega) (by have:=dp (2+4*j) (by simp);rwa [show 2+4*j=1+1+4*j by omega] at this)
    unfold ownF at ev1
    rw[if_neg (by omega),if_pos (by omega),if_neg (by have:=(dv 1 (by omega)).1;omega),if_pos (dv 1 (by omega)).1,(dv 1 (by omega)).2,show 18+(1+1+4*j)=20+4*j by omega] at ev1
    have hc:w.cell? ((⟨tb,0,none⟩:Addr).add j)=some ((y j).w):=by
     have qw:=q0.kept hw0
     rcases (show j=0∨j=1∨j=2∨j=3 by omega) with rfl|rfl|rfl|rfl
     ·exact qw.cell 0 rfl
     ·exact qw.cell 1 rfl
     ·exact qw.cell 2 rfl
     ·exact qw.cell 3 rfl
    refine wVa (v:=(y j).v) (w':=w) ho e4 ?_ (by rw[e2,show 21+4*j=18+(1+2+4*j) by omega];exact go (by omega) bR (by unfold ownF;rw[if_neg (by omega),if_pos (by omega),if_neg (by have:=(dv 2 hr).1;omega),if_neg (by have:=(dv 2 hr).1;omega),if_pos (dv 2 hr).1,(dv 2 hr).2]))
    simp[execOp,e3,ev,ev1,Qag hc,SL.v]
   ·obtain⟨o',e1,e2,e3,e4,e5⟩:=p3
    obtain rfl:=sOp ho e1
    have dp:=dPo e5 hdep
    have ev0:=val (1+0+4*j) (by omega) (by omega) (by have:=dp (1+4*j) (by simp);rwa [show 1+4*j=1+0+4*j by omega] at this)
    unfold ownF at ev0
    rw[if_neg (by omega),if_pos (by omega),if_pos (dv 0 (by omega)).1,show 18+(1+0+4*j)=19+4*j by omega] at ev0
    obtain⟨g,ev1,hgB,hgq⟩:=ev0
    have ev2:=val (1+2+4*j) (by omega) (by omega) (by have:=dp (3+4*j) (by simp);rwa [show 3+4*j=1+2+4*j by omega] at this)
    unfold ownF at ev2
    rw[if_neg (by omega),if_pos (by omega),if_neg (by have:=(dv 2 (by omega)).1;omega),if_neg (by have:=(dv 2 (by omega)).1;omega),if_pos (dv 2 (by omega)).1,(dv 2 (by omega)).2,show 18+(1+2+4*j)=21+4*j by omega] at ev2
    obtain⟨hSj,hZj⟩:=hy j hj
    obtain⟨s',w',hrn,hbw,hts⟩:=QcO w g B o.type (y j) (f k j) (hSj.below hw0) hZj hgB hgq hsB
    refine wVa (v:=s'.v) (w':=w') ho e4 ?_ (by rw[e2,show 22+4*j=18+(1+3+4*j) by omega];exact go (by omega) hbw (by unfold ownF;rw[if_neg (by omega),if_pos (by omega),if_neg (by have:=(dv 3 hr).1;omega),if_neg (by have:=(dv 3 hr).1;omega),if_neg (by have:=(dv 3 hr).1;omega),(dv 3 hr).2];exact⟨s',rfl,hts⟩))
    simp only[execOp,e3,resolve,invoke,builtin,Sem.run_bind,Sem.run_pure,Result.andThen_ok,List.map_toArray,List.map_cons,List.map_nil,ev,ev1,ev2,SL.v,hrn]
  rcases (show i=17∨i=18∨i=19∨i=20 by omega) with rfl|rfl|rfl|rfl
  ·obtain⟨o',e1,e2,e3,e4,e5⟩:=o17
   obtain rfl:=sOp ho e1
   have dp:=dPo e5 hdep
   have c0:=val 4 (by omega) (by omega) (dp 4 (by simp))
   have c1:=val 8 (by omega) (by omega) (dp 8 (by simp))
   have c2:=val 12 (by omega) (by omega) (dp 12 (by simp))
   have c3:=val 16 (by omega) (by omega) (dp 16 (by simp))
   obtain⟨s0,f0,t0⟩:∃ s:SL,a.tmps.getD 22 undef=s.v∧TS B w s (f k 0):=c0
   obtain⟨s1,f1,t1⟩:∃ s:SL,a.tmps.getD 26 undef=s.v∧TS B w s (f k 1):=c1
   obtain⟨s2,f2,t2⟩:∃ s:SL,a.tmps.getD 30 undef=s.v∧TS B w s (f k 2):=c2
   obtain⟨s3,f3,t3⟩:∃ s:SL,a.tmps.getD 34 undef=s.v∧TS B w s (f k 3):=c3
   refine wVa (v:=.agg #[s0.v,s1.v,s2.v,s3.v]) (w':=w) ho e4 ?_ (by rw[e2];exact go (by omega) bR (show ∃ s:Nat→SL,Value.agg #[s0.v,s1.v,s2.v,s3.v]=.agg #[(s 0).v,(s 1).v,(s 2).v,(s 3).v]∧∀ j,j<4→TS B w (s j) (f k j) from ⟨four s0 s1 s2 s3,rfl,fun j hj=>by
    rcases (show j=0∨j=1∨j=2∨j=3 by omega) with rfl|rfl|rfl|rfl
    ·exact t0
    ·exact t1
    ·exact t2
    ·exact t3⟩))
   simp[execOp,e3,ev,f0,f1,f2,f3,QhL]
  ·obtain⟨o',e1,e2,e3,e4,e5⟩:=o18
   obtain rfl:=sOp ho e1
   have dp:=dPo e5 hdep
   obtain⟨s,f0,t0⟩:∃ s:Nat→SL,a.tmps.getD 35 undef=.agg #[(s 0).v,(s 1).v,(s 2).v,(s 3).v]∧∀ j,j<4→TS B w (s j) (f k j):=val 17 (by omega) (by omega) (dp 17 (by simp))
   refine wVa (v:=.slice (some ⟨w.heap.size,0,none⟩) 1 1) (w':=w.alloc (.cells #[(s 0).v,(s 1).v,(s 2).v,(s 3).v] 61)) ho e4 ?_ (by rw[e2];exact go (by omega) (bNw bR _) (show ∃ (g:Nat) (s':Nat→SL),Value.slice (some ⟨w.heap.size,0,none⟩) 1 1=.slice (some ⟨g,0,none⟩) 1 1∧Blk 61 (w.alloc (.cells #[(s 0).v,(s 1).v,(s 2).v,(s 3).v] 61)) g #[(s' 0).v,(s' 1).v,(s' 2).v,(s' 3).v]∧∀ j,j<4→TS B (w.alloc (.cells #[(s 0).v,(s 1).v,(s 2).v,(s 3).v] 61)) (s' j) (f k j) from ⟨_,s,rfl,Blk.new 61 w _,fun j hj=>(t0 j hj).below (bNw bR _)⟩))
   simp[execOp,e3,ev,f0,QhN]
  ·obtain⟨o',e1,e2,e3,e4,e5⟩:=o19
   obtain rfl:=sOp ho e1
   have dp:=dPo e5 hdep
   have f0:a.tmps.getD 18 undef=v0:=val 0 (by omega) (by omega) (dp 0 (by simp))
   obtain⟨g,s,f1,qg,ts⟩:∃ (g:Nat) (s:Nat→SL),a.tmps.getD 36 undef=.slice (some ⟨g,0,none⟩) 1 1∧Blk 61 w g #[(s 0).v,(s 1).v,(s 2).v,(s 3).v]∧∀ j,j<4→TS B w (s j) (f k j):=val 18 (by omega) (by omega) (dp 18 (by simp))
   have hw0:=hw2 hl
   obtain⟨v',w',hrn,hbw,_,_,hta⟩:=QiF w o.type B k v0 Y f s g 1 (hT.below hw0) qg ts hk hsB
   refine wVa (v:=v') (w':=w') ho e4 ?_ ?_
   ·simp only[execOp,e3,resolve,invoke,builtin,Sem.run_bind,Sem.run_pure,Result.andThen_ok,List.map_toArray,List.map_cons,List.map_nil,ev,f0,f1,hrn]
   ·rw[e2]
    have hD:ownD 19=some 37:=rfl
    refine hI.put hi hD (by omega) (inj _ hD) ⟨hw1.trans hbw,(fun h=>by simp at h),fun h=>?_⟩ (show ∃ s:Nat→SL,TA B w' v' (k+1) (upd Y k s) f from ⟨s,hta⟩) ?_
    ·rw[Qby a 37 v' 3 (by rw[hI.size];exact Nat.lt_of_lt_of_le (by decide) hN),if_neg (by decide)]
     exact hw3 (by simp only[Bool.or_eq_false_iff] at h;exact h.1)
    ·intro j u hj hlj hne hf
     unfold ownG at hf ⊢
     by_cases hj19:j<19
     ·rw[if_pos hj19]
      intro h
      simp at h
     ·exfalso
      have:j=20:=by omega
      subst this
      have:=hcl.dep o20 hlj 19 (by simp)
      rw[hl] at this
      cases this
  ·obtain⟨o',e1,e2,e3,e4,e5⟩:=o20
   obtain rfl:=sOp ho e1
   have dp:=dPo e5 hdep
   have l19:=dp 19 (by simp)
   obtain⟨s,hta⟩:∃ s:Nat→SL,TA B w (a.tmps.getD 37 undef) (k+1) (upd Y k s) f:=hI.val 19 37 (by omega) rfl l19
   refine wVa (v:=a.tmps.getD 37 undef) (w':=w) ho e4 (by simp[execOp,e3,ev]) ?_
   rw[e2]
   have hD:ownD 20=some 3:=rfl
   refine hI.put hi hD (by omega) (inj _ hD) ⟨hw1,(fun h=>by simp[l19] at h),(fun h=>by simp at h)⟩ (show ∃ s:Nat→SL,TA B w _ (k+1) (upd Y k s) f from ⟨s,hta⟩) ?_
   intro j u hj hlj hne hf
   unfold ownG at hf ⊢
   by_cases hj19:j<19
   ·rw[if_pos hj19]
    intro h
    simp[l19] at h
   ·rw[if_neg hj19] at hf ⊢
    exact hf
 ·intro l a w hall hI
  obtain⟨hw1,_,_⟩:=hI.world
  obtain⟨s,hta⟩:∃ s:Nat→SL,TA B w (a.tmps.getD 3 undef) (k+1) (upd Y k s) f:=hI.val 20 3 (by omega) rfl (hall 20 (by omega))
  exact fin a w s hI.size hI.defers (fun s hs=>hI.kept s fun i hi=>QkV hs) hw1 hta
end
end Go.Proofs.YthliomlmhfjhnaaGreat

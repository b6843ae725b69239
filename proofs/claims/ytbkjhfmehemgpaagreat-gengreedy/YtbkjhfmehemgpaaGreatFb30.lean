/- Texts put together. -/
import Derived.Test.YtbkjhfmehemgpaaGreatFb20
import Derived.Test.YtbkjhfmehemgpaaGreatFb8
import Derived.Test.YtbkjhfmehemgpaaGreatFb26
import Derived.Laws.StructEq
namespace Go.Proofs.YtbkjhfmehemgpaaGreat
set_option maxRecDepth 20000
set_option maxHeartbeats 16000000
open Go.ChangeShapes Go.WideShapes Go.ChangeAt Go.RowKit
set_option linter.unusedVariables false
set_option linter.unusedSimpArgs false
def From (base:Nat)(w w':World):Prop:=∀ p v,w.cell? p=some v→base≤p.block→w'.cell? p=some v
theorem From.of_only {base q:Nat}{w w':World}(o:Only q w w')(hq:q<base):From base w w':=fun p v hp hle=>o.cell hp (fun e=>absurd (show p.block=q by simpa using e) (by omega))
theorem From.trans {base:Nat}{w w' w'':World}(h:From base w w')(k:From base w' w''):From base w w'':=fun p v hp hle=>k p v (h p v hp hle) hle
def NewG (base:Nat)(w:World)(s:SL)(k:Nat)(R:Nat→SL)(Z:Nat→List Int):Prop:=∀ w',From base w w'→IsG w' s k R Z
def NewY (base:Nat)(w:World)(Y:Nat→SL)(U D:Nat→SL)(f:Nat→List Int)(un dn:Nat)(u d:Nat→List Int):Prop:=∀ w',From base w w'→IsY w' Y U D f un dn u d
theorem newY_of {base:Nat}{w:World}{Y U D:Nat→SL}{f:Nat→List Int}{un dn:Nat}{u d:Nat→List Int}(h:∀ j,j<7→NewS base w (Y j) (f j))(hu:NewG base w (Y 7) un U u)(hd:NewG base w (Y 8) dn D d):NewY base w Y U D f un dn u d :=
 fun w' hf=>⟨fun j hj=>h j hj w' hf,hu w' hf,hd w' hf⟩
def cellsG (R:Nat→SL)(k:Nat):List Value:=(List.range k).map fun j=>(R j).v
theorem cellsG_succ (R:Nat→SL)(k:Nat):cellsG R (k+1)=cellsG R k++[(R k).v]:=by simp[cellsG,List.range_succ]
theorem cellsG_congr {R R':Nat→SL}{k:Nat}(h:∀ j,j<k→R j=R' j):cellsG R k=cellsG R' k:=by
 unfold cellsG
 exact List.map_congr_left fun j hj=>by rw[h j (List.mem_range.1 hj)]
theorem newG_of {base:Nat}{w:World}{v:Value}{k:Nat}{R:Nat→SL}{Z:Nat→List Int}(ho:w.ownsRow base 31 1 v k (cellsG R k))(hr:∀ j,j<k→NewS base w (R j) (Z j)):∃ s:SL,v=s.v∧NewG base w s k R Z:=by
 rcases ho.2 with⟨e,e'⟩|⟨g,cap,cur,e,hg,hh,hn,hm,_⟩
 ·subst e'
  exact⟨⟨none,0,0⟩,e,fun w' hf=>⟨rfl,(fun h=>by omega),fun _=>rfl,Nat.le_refl _,(fun x hx=>by cases hx),fun j hj=>by omega⟩⟩
 ·refine⟨⟨some ⟨g,0,none⟩,k,cap⟩,e,fun w' hf=>⟨rfl,fun _=>⟨_,rfl⟩,(fun h=>by cases h),hn,fun x hx j hj=>?_,fun j hj=>hr j hj w' hf⟩⟩
  obtain rfl:=Option.some.inj hx
  rw[e] at ho
  have c:=ho.cells (g:=g) rfl j (R j).v (by simp[cellsG,hj])
  refine hf _ _ c ?_
  have e2:((⟨g,0,none⟩:Addr).add j).block=g:=by unfold Addr.add;split<;>rfl
  omega
def cells9 (Y:Nat→Nat→SL)(n:Nat):List Value:=(List.range n).flatMap fun i=>(List.range 9).map fun r=>(Y i r).v
theorem cells9_succ (Y:Nat→Nat→SL)(n:Nat):cells9 Y (n+1)=cells9 Y n++(List.range 9).map fun r=>(Y n r).v:=by simp[cells9,List.range_succ]
theorem cells9_len (Y:Nat→Nat→SL)(n:Nat):(cells9 Y n).length=n*9:=by
 induction n with
 | zero=>rfl
 | succ n ih=>rw[cells9_succ,List.length_append,ih];simp;omega
theorem cells9_at (Y:Nat→Nat→SL)(n i r:Nat)(hi:i<n)(hr:r<9):(cells9 Y n)[i*9+r]? = some (Y i r).v:=by
 induction n with
 | zero=>omega
 | succ n ih =>
  rw[cells9_succ]
  have hl:=cells9_len Y n
  by_cases e:i=n
  ·subst e
   rw[List.getElem?_append_right (by omega),hl,show i*9+r-i*9=r by omega]
   simp[hr]
  ·rw[List.getElem?_append_left (by omega)]
   exact ih (by omega)
theorem cells9_congr {Y Y':Nat→Nat→SL}{n:Nat}(h:∀ i,i<n→∀ r,r<9→Y i r=Y' i r):cells9 Y n=cells9 Y' n:=by
 induction n with
 | zero=>rfl
 | succ n ih =>
  rw[cells9_succ,cells9_succ,ih fun i hi=>h i (by omega)]
  congr 1
  exact List.map_congr_left fun r hr=>by rw[h n (by omega) r (List.mem_range.1 hr)]
theorem newM_of {base:Nat}{w:World}{v:Value}{E N O:SL}{Y U D:Nat→Nat→SL}{m:ModV}(ho:w.ownsRow base 61 9 v m.ln (cells9 Y m.ln))(hl:∀ i,i<m.ln→NewY base w (Y i) (U i) (D i) (m.f i) (m.un i) (m.dn i) (m.u i) (m.d i))
  (he:NewS base w E m.e) (hn:NewS base w N m.nm) (ho':NewS base w O m.o):∃ L:SL,v=L.v∧NewM base w E L N O Y U D m:=by
 rcases ho.2 with⟨e,e'⟩|⟨g,cap,cur,e,hg,hh,hcap,hm,_⟩
 ·exact⟨⟨none,0,0⟩,e,fun w' hf=>⟨he w' hf,hn w' hf,ho' w' hf,e'.symm,(fun h=>by omega),fun _=>rfl,Nat.le_refl _,(fun x hx=>by cases hx),fun i hi=>hl i hi w' hf⟩⟩
 ·refine⟨⟨some ⟨g,0,none⟩,m.ln,cap⟩,e,fun w' hf=>⟨he w' hf,hn w' hf,ho' w' hf,rfl,fun _=>⟨_,rfl⟩,(fun h=>by cases h),hcap,fun x hx i hi j hj=>?_,fun i hi=>hl i hi w' hf⟩⟩
  obtain rfl:=Option.some.inj hx
  rw[e] at ho
  have c:=ho.cells (g:=g) rfl (i*9+j) (Y i j).v (cells9_at Y m.ln i j hi hj)
  rw[Addr.add_add]
  refine hf _ _ c ?_
  have e2:((⟨g,0,none⟩:Addr).add (i*9+j)).block=g:=by unfold Addr.add;split<;>rfl
  omega
theorem i61':∃ i,Tryz.prog.info? 61=some i∧i.zero=some (.agg #[nilS,nilS,nilS,nilS,nilS,nilS,nilS,nilS,nilS])∧i.size=9∧i.bytes=216:=by
 have:=info61
 cases h:Tryz.prog.info? 61 with
 | none=>rw[h] at this;cases this
 | some i=>rw[h] at this;simp at this;exact⟨i,rfl,this.1,this.2.1,this.2.2⟩
theorem i31':∃ i,Tryz.prog.info? 31=some i∧i.zero=some nilS∧i.size=1∧i.bytes=24:=by
 have:=info31
 cases h:Tryz.prog.info? 31 with
 | none=>rw[h] at this;cases this
 | some i=>rw[h] at this;simp at this;exact⟨i,rfl,this.1,this.2.1,this.2.2⟩
section
open Go.ChangeShapes Go.WideShapes Go.ChangeAt Go.RowKit Go.Sort
theorem closure44 (a:Addr)(vb:Nat)(A:Option Addr)(n c:Nat)(k e:Int)(W:World)(ha:W.cell? a=some (.slice A n c))(q:Blk 40 W vb #[.int .i64 e]) :
  Calls Tryz.prog 69 #[.pointer (some a),.int .i64 k,.pointer (some ⟨vb,0,none⟩)] W fun r W'=>r=.returned (.tuple #[])∧Blk 40 W' vb #[.int .i64 (if (n:Int)=k then e else 21)]∧Only vb W W':=by
 have c0:W.cell? ⟨vb,0,none⟩=some (.int .i64 e):=q.cell 0 rfl
 have f0:=q.open_ 0
 have HQ:=hdn q
 clear q
 by_cases h:(n:Int)=k
 ·rw[if_pos h]
  have h':((n:Int)==k)=true:=by simp[h]
  clear h
  go_enter Tryz.func69,Tryz.ntmps69
  go_wp2
  go_end0
  exact⟨rfl,HQ.out,Only.refl _ _⟩
 ·rw[if_neg h]
  have h':((n:Int)==k)=false:=by simp[h]
  clear h
  go_enter Tryz.func69,Tryz.ntmps69
  go_wp2
  go_end0
  exact⟨rfl,HQ.out.set 0 _,Only.set _ _ _ _⟩
def framedB (l x:Int)(m:ModV):Bool:=decide ((m.ln:Int)=l∧∀ i,i<m.ln→(m.un i:Int)=max x 1∧(m.dn i:Int)=max x 1)
theorem at_nine {w:World}{x:Addr}{i:Nat}{y:Nat→SL}(h:∀ j,j<9→w.cell? ((x.add (i*9)).add j)=some (y j).v) :
  ∃ P,x.add (i*9)=P∧w.cell? P=some (.slice (y 0).a (y 0).n (y 0).c)∧w.cell? ⟨P.block,P.off+1,none⟩=some (.slice (y 1).a (y 1).n (y 1).c)∧w.cell? ⟨P.block,P.off+2,none⟩=some (.slice (y 2).a (y 2).n (y 2).c) ∧
   w.cell? ⟨P.block,P.off+3,none⟩=some (.slice (y 3).a (y 3).n (y 3).c)∧w.cell? ⟨P.block,P.off+4,none⟩=some (.slice (y 4).a (y 4).n (y 4).c)∧w.cell? ⟨P.block,P.off+5,none⟩=some (.slice (y 5).a (y 5).n (y 5).c) ∧
   w.cell? ⟨P.block,P.off+6,none⟩=some (.slice (y 6).a (y 6).n (y 6).c)∧w.cell? ⟨P.block,P.off+7,none⟩=some (.slice (y 7).a (y 7).n (y 7).c)∧w.cell? ⟨P.block,P.off+8,none⟩=some (.slice (y 8).a (y 8).n (y 8).c) :=
 ⟨_,rfl,h 0 (by omega),h 1 (by omega),h 2 (by omega),h 3 (by omega),h 4 (by omega),h 5 (by omega),h 6 (by omega),h 7 (by omega),h 8 (by omega)⟩
theorem framed_loop (d h v u x t n:Int)(E L N O:SL)(Y U D:Nat→Nat→SL)(m:ModV)(w:World)(hM:ModAt w E L N O Y U D m)(ml Lc:Nat)(x0:Addr)(eL:L.n=ml)(eC:L.c=Lc)(eA:L.a=some x0)(hl:ml≤1000000)(X:Int)(B:Bool)
  (no:∀ i,i<ml→((m.un i:Int)≠X∨(m.dn i:Int)≠X)→B=false) (yes:(∀ i,i<ml→(m.un i:Int)=X∧(m.dn i:Int)=X)→B=true) (l:Int) (g:((ml:Int)==l)=true)
  (kn:∀ w,Calls Tryz.prog 105 #[.agg #[.int .i64 d,.int .i64 h,.int .i64 l,.int .i64 v,.int .i64 u,.int .i64 x,.int .i64 t,.int .i64 n]] w fun e w'=>e=.returned (.int .i64 X)∧∃ o,w'=w.alloc o) :
  Calls Tryz.prog 67 #[.agg #[.int .i64 d,.int .i64 h,.int .i64 l,.int .i64 v,.int .i64 u,.int .i64 x,.int .i64 t,.int .i64 n,.slice E.a E.n E.c,.slice (some x0) ml Lc,.slice N.a N.n N.c,.slice O.a O.n O.c]] w fun e w'=>e=.returned (.bool B)∧Below w.heap.size w w':=by
 have hb:=bNw (Below.refl w.heap.size w) (.cells #[.int .i64 d,.int .i64 h,.int .i64 l,.int .i64 v,.int .i64 u,.int .i64 x,.int .i64 t,.int .i64 n,.slice E.a E.n E.c,.slice (some x0) ml Lc,.slice N.a N.n N.c,.slice O.a O.n O.c] 34)
 have q0:=Blk.new 34 w #[.int .i64 d,.int .i64 h,.int .i64 l,.int .i64 v,.int .i64 u,.int .i64 x,.int .i64 t,.int .i64 n,.slice E.a E.n E.c,.slice (some x0) ml Lc,.slice N.a N.n N.c,.slice O.a O.n O.c]
 have hml:m.ln=ml:=hM.len.symm.trans eL
 have HM:=hdn hM
 have HN:=hdn no
 have HY:=hdn yes
 have HL:=hdn hml
 have HA:=hdn eA
 have HB:=hdn hb
 have HQ:=hdn q0
 clear hM no yes hml eL eC eA hb
 obtain⟨a0,a1,a2,a3,a4,a5,a6,a7,a8,a9,a10,a11⟩:=q0.c12
 clear q0
 go_enter Tryz.func67,Tryz.ntmps67
 go_wp2
 clear a0 a1 a2 a3 a4 a5 a6 a7 a8 a9 a10 a11
 go_loopw [15] (fun i wr=>∃ k:Nat,k≤ml∧i=.int .i64 k∧Below w.heap.size w wr∧Blk 34 wr w.heap.size #[.int .i64 d,.int .i64 h,.int .i64 l,.int .i64 v,.int .i64 u,.int .i64 x,.int .i64 t,.int .i64 n,.slice E.a E.n E.c,.slice (some x0) ml Lc,.slice N.a N.n N.c,.slice O.a O.n O.c]∧Hid (∀ i,i<k→(m.un i:Int)=X∧(m.dn i:Int)=X)) (fun i _=>ml-(intOf i).toNat)
 case atStart=>exact⟨0,Nat.zero_le _,rfl,HB.out,HQ.out,fun i hi=>absurd hi (Nat.not_lt_zero _)⟩
 case round =>
  clear HB HQ
  obtain⟨k,hk,rfl,hb,q1,good⟩:=hrel
  obtain⟨a0,a1,a2,a3,a4,a5,a6,a7,a8,a9,a10,a11⟩:=q1.c12
  by_cases hlt:k<ml
  ·have hlt':(k:Int)<(ml:Int):=by omega
   have hMr:=HM.out.below hb
   have lay:=hMr.lay k (by rw[HL.out];exact hlt)
   have un:=lay.u.len
   have dn:=lay.d.len
   obtain⟨P,eP,p0,p1,p2,p3,p4,p5,p6,p7,p8⟩:=at_nine (fun j hj=>hMr.cell x0 HA.out k (by rw[HL.out];exact hlt) j hj)
   have HG:=hdn (And.intro un dn)
   clear hMr lay
   have q9:=Blk.new 61 wr #[.slice (Y k 0).a (Y k 0).n (Y k 0).c,.slice (Y k 1).a (Y k 1).n (Y k 1).c,.slice (Y k 2).a (Y k 2).n (Y k 2).c,.slice (Y k 3).a (Y k 3).n (Y k 3).c,.slice (Y k 4).a (Y k 4).n (Y k 4).c,.slice (Y k 5).a (Y k 5).n (Y k 5).c,.slice (Y k 6).a (Y k 6).n (Y k 6).c,.slice (Y k 7).a (Y k 7).n (Y k 7).c,.slice (Y k 8).a (Y k 8).n (Y k 8).c]
   have r7:=q9.cell 7 rfl
   have r8:=q9.cell 8 rfl
   have b9:=bNw (Below.refl wr.heap.size wr) (.cells #[.slice (Y k 0).a (Y k 0).n (Y k 0).c,.slice (Y k 1).a (Y k 1).n (Y k 1).c,.slice (Y k 2).a (Y k 2).n (Y k 2).c,.slice (Y k 3).a (Y k 3).n (Y k 3).c,.slice (Y k 4).a (Y k 4).n (Y k 4).c,.slice (Y k 5).a (Y k 5).n (Y k 5).c,.slice (Y k 6).a (Y k 6).n (Y k 6).c,.slice (Y k 7).a (Y k 7).n (Y k 7).c,.slice (Y k 8).a (Y k 8).n (Y k 8).c] 61)
   replace q1:=q1.kept b9
   replace hb:=bTn hb b9
   obtain⟨W9,e9⟩:∃ W9,wr.alloc (.cells #[.slice (Y k 0).a (Y k 0).n (Y k 0).c,.slice (Y k 1).a (Y k 1).n (Y k 1).c,.slice (Y k 2).a (Y k 2).n (Y k 2).c,.slice (Y k 3).a (Y k 3).n (Y k 3).c,.slice (Y k 4).a (Y k 4).n (Y k 4).c,.slice (Y k 5).a (Y k 5).n (Y k 5).c,.slice (Y k 6).a (Y k 6).n (Y k 6).c,.slice (Y k 7).a (Y k 7).n (Y k 7).c,.slice (Y k 8).a (Y k 8).n (Y k 8).c] 61)=W9:=⟨_,rfl⟩
   rw[e9] at q1 hb r7 r8
   have kn':∀ d' os,Calls Tryz.prog 105 #[.agg #[.int .i64 d,.int .i64 h,.int .i64 l,.int .i64 v,.int .i64 u,.int .i64 x,.int .i64 t,.int .i64 n]] (grow (redrawn W9 d') os) fun e w''=>e=.returned (.int .i64 X)∧∃ p:Regrown,w''=grow (redrawn W9 p.d) p.os:=fun d' os =>
    Calls.regrown_of ((kn _).mono fun e w' he=>⟨he.1,below_one he.2⟩)
   obtain⟨b0,b1,b2,b3,b4,b5,b6,b7,-,-,-,-⟩:=q1.c12
   replace r7:=cell_regrown r7
   replace r8:=cell_regrown r8
   clear q9
   have E9:=hdn e9
   clear e9 kn
   replace b0:=cell_regrown b0
   replace b1:=cell_regrown b1
   replace b2:=cell_regrown b2
   replace b3:=cell_regrown b3
   replace b4:=cell_regrown b4
   replace b5:=cell_regrown b5
   replace b6:=cell_regrown b6
   replace b7:=cell_regrown b7
   clear a0 a1 a2 a3 a4 a5 a6 a7 a8 a10 a11 g
   by_cases g1:((Y k 7).n:Int)=X
   ·have g1':(((Y k 7).n:Int) != X)=false:=by simp[g1]
    by_cases g2:((Y k 8).n:Int)=X
    ·have g2':(((Y k 8).n:Int) != X)=false:=by simp[g2]
     have good':Hid (∀ i,i<k+1→(m.un i:Int)=X∧(m.dn i:Int)=X):=fun i hi=>by
      by_cases e:i=k
      ·subst e;exact⟨by rw[←un];exact g1,by rw[←dn];exact g2⟩
      ·exact good.out i (by omega)
     clear un dn b9 g1 g2 good
     go_wp2
     rw[E9.out]
     refine wp_region_quiet_below (by kernel_rfl) (by kernel_rfl) ?_
     repeat (go_big_quiet_step (first|(go_at_call 105;exact kn' _ _)))
     refine wpQuiet_nil ?_
     intro _ hw'
     obtain⟨⟨dq,osq⟩,hw''⟩:=hw'
     subst hw''
     have hbq:=below_regrown W9 dq osq
     replace q1:=q1.kept hbq
     replace hb:=bTn hb hbq
     clear hbq kn' r7 r8 b0 b1 b2 b3 b4 b5 b6 b7
     clear a9
     go_wp2
     go_roundw
     case rel=>exact⟨k+1,by omega,by go_num,hb,q1,good'⟩
     case measure=>simp[intOf];omega
    ·have g2':(((Y k 8).n:Int) != X)=true:=by simp[g2]
     have e:=HN.out k hlt (.inr (by rw[←dn];exact g2))
     clear un dn b9 g1 g2 good
     subst e
     go_wp2
     rw[E9.out]
     refine wp_region_quiet_below (by kernel_rfl) (by kernel_rfl) ?_
     repeat (go_big_quiet_step (first|(go_at_call 105;exact kn' _ _)))
     refine wpQuiet_nil ?_
     intro _ hw'
     obtain⟨⟨dq,osq⟩,hw''⟩:=hw'
     subst hw''
     have hbq:=below_regrown W9 dq osq
     replace q1:=q1.kept hbq
     replace hb:=bTn hb hbq
     clear hbq kn' r7 r8 b0 b1 b2 b3 b4 b5 b6 b7
     all_goals
      go_wp2
      go_ret
      exact⟨rfl,hb⟩
   ·have g1':(((Y k 7).n:Int) != X)=true:=by simp[g1]
    have e:=HN.out k hlt (.inl (by rw[←un];exact g1))
    clear un dn b9 g1 good
    subst e
    go_wp2
    rw[E9.out]
    refine wp_region_quiet_below (by kernel_rfl) (by kernel_rfl) ?_
    repeat (go_big_quiet_step (first|(go_at_call 105;exact kn' _ _)))
    refine wpQuiet_nil ?_
    intro _ hw'
    obtain⟨⟨dq,osq⟩,hw''⟩:=hw'
    subst hw''
    have hbq:=below_regrown W9 dq osq
    replace q1:=q1.kept hbq
    replace hb:=bTn hb hbq
    clear hbq kn' r7 r8 b0 b1 b2 b3 b4 b5 b6 b7
    all_goals
     go_wp2
     go_ret
     exact⟨rfl,hb⟩
  ·have e:k=ml:=by omega
   subst e
   have e:=HY.out good.out
   subst e
   go_wp2
   go_ret
   exact⟨rfl,hb⟩
end
theorem IsS.carry {w w':World}{s:SL}{zs:List Int}(h:IsS w s zs)(hc:∀ p v,w.cell? p=some v→w'.cell? p=some v):IsS w' s zs:=⟨h.reads.carry hc,h.nil,h.cap⟩
theorem IsG.carry {w w':World}{s:SL}{k:Nat}{R:Nat→SL}{Z:Nat→List Int}(h:IsG w s k R Z)(hc:∀ p v,w.cell? p=some v→w'.cell? p=some v):IsG w' s k R Z :=
 ⟨h.len,h.some_,h.nil,h.cap,fun x hx j hj=>hc _ _ (h.cell x hx j hj),fun j hj=>(h.row j hj).carry hc⟩
theorem ModAt.carry {w w':World}{E L N O:SL}{Y U D:Nat→Nat→SL}{m:ModV}(h:ModAt w E L N O Y U D m)(hc:∀ p v,w.cell? p=some v→w'.cell? p=some v):ModAt w' E L N O Y U D m :=
 ⟨h.e.carry hc,h.nm.carry hc,h.o.carry hc,h.len,h.some_,h.nil,h.cap,fun x hx i hi j hj=>hc _ _ (h.cell x hx i hi j hj),fun i hi=>⟨fun j hj=>((h.lay i hi).f j hj).carry hc,(h.lay i hi).u.carry hc,(h.lay i hi).d.carry hc⟩⟩
def seqOf (m:ModV)(ne k:Nat):List Int :=
 if k=0 then m.e else if (k-1)/pl ne<m.ln then (if (k-1)%pl ne<7 then m.f ((k-1)/pl ne) ((k-1)%pl ne) else if ((k-1)%pl ne-7)%2=0 then m.u ((k-1)/pl ne) (((k-1)%pl ne-7)/2) else m.d ((k-1)/pl ne) (((k-1)%pl ne-7)/2))
 else if (k-1)%pl ne=0 then m.nm else m.o
theorem seqOf_list (m:ModV)(ne i r:Nat)(hi:i<m.ln)(hr:r<7):seqOf m ne (1+i*pl ne+r)=m.f i r:=by
 obtain⟨e1,e2⟩:=pl_div ne i r (by unfold pl;omega)
 unfold seqOf
 rw[e1,e2,if_neg (by omega),if_pos hi,if_pos hr]
theorem seqOf_up (m:ModV)(ne i j:Nat)(hi:i<m.ln)(hj:j<ne):seqOf m ne (1+i*pl ne+7+2*j)=m.u i j:=by
 obtain⟨e1,e2⟩:=pl_div ne i (7+2*j) (by unfold pl;omega)
 rw[←Nat.add_assoc] at e1 e2
 unfold seqOf
 rw[e1,e2,if_neg (by omega),if_pos hi,if_neg (by omega),if_pos (by omega),show (7+2*j-7)/2=j by omega]
theorem seqOf_down (m:ModV)(ne i j:Nat)(hi:i<m.ln)(hj:j<ne):seqOf m ne (1+i*pl ne+7+2*j+1)=m.d i j:=by
 obtain⟨e1,e2⟩:=pl_div ne i (7+2*j+1) (by unfold pl;omega)
 rw[←Nat.add_assoc,←Nat.add_assoc] at e1 e2
 unfold seqOf
 rw[e1,e2,if_neg (by omega),if_pos hi,if_neg (by omega),if_neg (by omega),show (7+2*j+1-7)/2=j by omega]
theorem seqOf_norm (m:ModV)(ne:Nat):seqOf m ne (1+m.ln*pl ne)=m.nm:=by
 obtain⟨e1,e2⟩:=pl_div ne m.ln 0 (by unfold pl;omega)
 rw[Nat.add_zero] at e1 e2
 unfold seqOf
 rw[e1,e2,if_neg (by omega),if_neg (by omega),if_pos rfl]
theorem seqOf_out (m:ModV)(ne:Nat):seqOf m ne (1+m.ln*pl ne+1)=m.o:=by
 obtain⟨e1,e2⟩:=pl_div ne m.ln 1 (by unfold pl;omega)
 unfold seqOf
 rw[e1,e2,if_neg (by omega),if_neg (by omega),if_neg (by omega)]
def lensZ (S:Nat→List Int)(cnt:Nat→Nat):Nat→Int
 | 0=>0
 | k+1=>if ((S k).length:Int)=(cnt k:Int) then lensZ S cnt k else 21
theorem lens_ok (S:Nat→List Int)(cnt:Nat→Nat)(T:Nat)(h:∀ k,k<T→(S k).length=cnt k):lensZ S cnt T=0:=by
 induction T with
 | zero=>rfl
 | succ T ih =>
  show (if _ then _ else _)=_
  rw[if_pos (by rw[h T (by omega)]),ih fun k hk=>h k (by omega)]
theorem lens_bad (S:Nat→List Int)(cnt:Nat→Nat)(T k:Nat)(hk:k<T)(h:(S k).length≠cnt k):lensZ S cnt T=21:=by
 induction T with
 | zero=>omega
 | succ T ih =>
  show (if _ then _ else _)=_
  by_cases e:k=T
  ·subst e
   rw[if_neg (by omega)]
  ·rw[ih (by omega)]
   split<;>rfl
theorem Blk.other' {t:TypeId}{w w':World}{b q:Nat}{cs:Array Value}(h:Blk t w b cs)(o:Only q w w')(ne:b≠q):Blk t w' b cs:=(o.block b h.lt (fun e=>ne (Option.some.inj e))).trans h
theorem check_visit (h v u x t n:Int)(ln ne D DD XD UD VD mb vb Lc:Nat)(x0:Addr)(E L N O:SL)(Y U Dn:Nat→Nat→SL)(m:ModV)(e1:v*(D:Int)=(VD:Int))(e2:(D:Int)*(D:Int)=(DD:Int))(e3:x*(D:Int)=(XD:Int))(e4:u*(D:Int)=(UD:Int))
  (b0:D≤1000) (b1:VD≤1000) (b2:DD≤1000) (b3:XD≤1000) (b4:UD≤1000) (l1:ln≤4) (l2:ne≤4) (hne:0<ne) (w wM:World) (hM:ModAt wM E L N O Y U Dn m) (hbM:Below wM.heap.size wM w)
  (qm:Blk 34 w mb #[.int .i64 (D:Int),.int .i64 h,.int .i64 (ln:Int),.int .i64 v,.int .i64 u,.int .i64 x,.int .i64 t,.int .i64 n,.slice E.a E.n E.c,.slice (some x0) ln Lc,.slice N.a N.n N.c,.slice O.a O.n O.c]) (qv:Blk 40 w vb #[.int .i64 0]) (hv:wM.heap.size≤vb) (hmv:mb≠vb) (hla:L.a=some x0) (hln:m.ln=ln) (hun:∀ i,i<ln→m.un i=ne∧m.dn i=ne) :
  Calls Tryz.prog 68 #[.pointer (some ⟨mb,0,none⟩),.func (.func 69) #[] #[.pointer (some ⟨vb,0,none⟩)]] w fun e w' =>
   e=.returned (.tuple #[])∧Blk 40 w' vb #[.int .i64 (lensZ (seqOf m ne) (planC ln ne D DD XD UD VD) (1+ln*pl ne+2))]∧Only vb w w':=by
 obtain⟨W0,eW⟩:∃ W0,w.alloc (.cells #[.int .i64 (D:Int),.int .i64 h,.int .i64 (ln:Int),.int .i64 v,.int .i64 u,.int .i64 x,.int .i64 t,.int .i64 n] 23)=W0:=⟨_,rfl⟩
 have bw:Below w.heap.size w W0:=eW ▸ bNw (Below.refl _ w) _
 have qc:Blk 23 W0 w.heap.size #[.int .i64 (D:Int),.int .i64 h,.int .i64 (ln:Int),.int .i64 v,.int .i64 u,.int .i64 x,.int .i64 t,.int .i64 n]:=eW ▸ Blk.new 23 w _
 have hvb:vb<w.heap.size:=qv.lt
 have hmb:mb<w.heap.size:=qm.lt
 obtain⟨cnt,ec⟩:∃ c,planC ln ne D DD XD UD VD=c:=⟨_,rfl⟩
 obtain⟨T,eT⟩:∃ T,1+ln*pl ne+2=T:=⟨_,rfl⟩
 have md:∀ W,Only vb W0 W→ModAt W E L N O Y U Dn m:=fun W o=>hM.carry fun p y hp=>by
  have lt:=World.block_lt_of_cell? _ _ hp
  refine o.cell ((bw.cell ?_).trans ((hbM.cell lt).trans hp)) (fun e=>by simp at e;omega)
  have:=hbM.size
  omega
 have uas:∀ i,i<ln→∃ a,(Y i 7).a=some a:=fun i hi=>(hM.lay i (by rw[hln];exact hi)).u.some_ (by rw[(hun i hi).1];exact hne)
 have das:∀ i,i<ln→∃ a,(Y i 8).a=some a:=fun i hi=>(hM.lay i (by rw[hln];exact hi)).d.some_ (by rw[(hun i hi).2];exact hne)
 obtain⟨UA,hUA⟩:=Go.Deep.choose_lt uas
 obtain⟨DA,hDA⟩:=Go.Deep.choose_lt das
 have cl:∀ W,Only vb W0 W→∀ i,i<ln→∀ j,j<9→W.cell? ((x0.add (i*9)).add j)=some (Y i j).v:=fun W o i hi j hj=>(md W o).cell x0 hla i (by rw[hln];exact hi) j hj
 have cm:∀ W,Only vb W0 W→∀ o' y,(#[.int .i64 (D:Int),.int .i64 h,.int .i64 (ln:Int),.int .i64 v,.int .i64 u,.int .i64 x,.int .i64 t,.int .i64 n,.slice E.a E.n E.c,.slice (some x0) ln Lc,.slice N.a N.n N.c,.slice O.a O.n O.c]:Array Value)[o']? = some y→W.cell? ⟨mb,o',none⟩=some y:=fun W o o' y hy=>o.cell ((qm.kept bw).cell o' hy) (fun e=>hmv (by simpa using e))
 have hold:∀ W,Only vb W0 W→Held mb w.heap.size ln Lc ne x0 UA DA (fun i=>(Y i 7).c) (fun i=>(Y i 8).c) (D:Int) v u x W:=fun W o=>by
  obtain⟨c0,c1,c2,c3,c4,c5,c6,c7⟩:=(qc.other' o (by omega)).cfg
  refine⟨cm W o 9 _ rfl,c0,c3,c4,c5,fun i hi=>?_,fun i hi=>?_⟩
  ·have:=cl W o i hi 7 (by omega)
   have g:=(hM.lay i (by rw[hln];exact hi)).u.len
   rw[(hun i hi).1] at g
   rw[SL.v,hUA i hi,g] at this
   exact this
  ·have:=cl W o i hi 8 (by omega)
   have g:=(hM.lay i (by rw[hln];exact hi)).d.len
   rw[(hun i hi).2] at g
   rw[SL.v,hDA i hi,g] at this
   exact this
 have emb:∀ W,Only vb W0 W→IsS W E m.e:=fun W o=>(md W o).e
 have nor:∀ W,Only vb W0 W→IsS W N m.nm:=fun W o=>(md W o).nm
 have outw:∀ W,Only vb W0 W→IsS W O m.o:=fun W o=>(md W o).o
 have cu:∀ W,Only vb W0 W→∀ i,i<ln→∀ j,j<ne→W.cell? ((UA i).add j)=some (U i j).v:=fun W o i hi j hj=>((md W o).lay i (by rw[hln];exact hi)).u.cell _ (hUA i hi) j (by rw[(hun i hi).1];exact hj)
 have cd:∀ W,Only vb W0 W→∀ i,i<ln→∀ j,j<ne→W.cell? ((DA i).add j)=some (Dn i j).v:=fun W o i hi j hj=>((md W o).lay i (by rw[hln];exact hi)).d.cell _ (hDA i hi) j (by rw[(hun i hi).2];exact hj)
 have ru:∀ W,Only vb W0 W→∀ i,i<ln→∀ j,j<ne→IsS W (U i j) (m.u i j):=fun W o i hi j hj=>((md W o).lay i (by rw[hln];exact hi)).u.row j (by rw[(hun i hi).1];exact hj)
 have rdn:∀ W,Only vb W0 W→∀ i,i<ln→∀ j,j<ne→IsS W (Dn i j) (m.d i j):=fun W o i hi j hj=>((md W o).lay i (by rw[hln];exact hi)).d.row j (by rw[(hun i hi).2];exact hj)
 have le:∀ i,i<ln→1+i*pl ne+pl ne≤1+ln*pl ne:=fun i hi=>by
  have:=Nat.mul_le_mul_right (pl ne) (show i+1≤ln by omega)
  rw[Nat.add_mul,Nat.one_mul] at this
  omega
 have p7:pl ne=7+2*ne:=rfl
 have lst:∀ i,i<ln→∀ r,r<7→cnt (1+i*pl ne+r)=preC D DD XD r∧1+i*pl ne+r<T:=fun i hi r hr=>by
  have:=le i hi
  rw[←ec]
  exact⟨planC_list i r hi hr,by omega⟩
 have st:∀ (W:World),Only vb W0 W→∀ k,k<T→∀ (a:Addr) (c:Nat) (sl:SL) {zs:List Int},W.cell? a=some sl.v→seqOf m ne k=zs→cnt k=c→IsS W sl zs→Blk 40 W vb #[.int .i64 (lensZ (seqOf m ne) cnt k)] →
   Calls Tryz.prog 69 #[.pointer (some a),.int .i64 (c:Int),.pointer (some ⟨vb,0,none⟩)] W.drew fun e W'=>e=.returned (.tuple #[])∧Blk 40 W' vb #[.int .i64 (lensZ (seqOf m ne) cnt (k+1))]∧Only vb W0 W':=fun W o k hk a c sl zs ha hz hc hs hq=>by
  refine (closure44 a vb sl.a sl.n sl.c (c:Int) _ W.drew ha hq).mono ?_
  rintro e W' ⟨he,q',o'⟩
  refine⟨he,?_,(o.drewN 1).trans o'⟩
  rw[←hs.reads.len,←hz,←hc] at q'
  exact q'
 have start:Blk 40 W0 vb #[.int .i64 (lensZ (seqOf m ne) cnt 0)]:=qv.kept bw
 have:=visit_44 (D:Int) h (ln:Int) v u x t n w mb vb ln Lc ne x0 UA DA (fun i=>(Y i 7).c) (fun i=>(Y i 8).c) (VD:Int) (DD:Int) (XD:Int) (UD:Int) e1 e2 e3 e4 (by rw[Int.mul_comm];exact e4)
  (wrap_small (by omega)) (wrap_small (by omega)) (wrap_small (by omega)) (wrap_small (by omega)) (by omega) (by omega) (fun W=>Only vb W0 W) (fun W hW=>hold W hW)
  (fun W=>Blk 40 W vb #[.int .i64 (lensZ (seqOf m ne) cnt (0))]) (fun W=>Blk 40 W vb #[.int .i64 (lensZ (seqOf m ne) cnt (1+ln*pl ne+1))]) (fun W=>Blk 40 W vb #[.int .i64 (lensZ (seqOf m ne) cnt (T))]) (fun i j W=>Blk 40 W vb #[.int .i64 (lensZ (seqOf m ne) cnt (1+i*pl ne+j))]) (fun i j W=>Blk 40 W vb #[.int .i64 (lensZ (seqOf m ne) cnt (1+i*pl ne+7+2*j))]) (fun i j W=>Blk 40 W vb #[.int .i64 (lensZ (seqOf m ne) cnt (1+i*pl ne+7+2*j+1))])
  ⟨qm.cell 0 rfl,qm.cell 1 rfl,qm.cell 2 rfl,qm.cell 3 rfl,qm.cell 4 rfl,qm.cell 5 rfl,qm.cell 6 rfl,qm.cell 7 rfl⟩ (eW ▸ start) (eW ▸ Only.refl _ _)
  (fun W hs hr=>by
   have:=st W hr 0 (by omega) ⟨mb,8,none⟩ VD E (cm W hr 8 _ rfl) rfl (by rw[←ec];rfl) (emb W hr) hs
   rwa [show 0+1=1+0*pl ne+0 by omega] at this)
  (fun i hi W hs hr=>st W hr _ (lst i hi 0 (by omega)).2 _ _ (Y i 0) (cl W hr i hi 0 (by omega)) (seqOf_list m ne i 0 (by rw[hln];exact hi) (by omega)) (lst i hi 0 (by omega)).1 ((md W hr).lay i (by rw[hln];exact hi) |>.f 0 (by omega)) hs)
  (fun i hi W hs hr=>st W hr _ (lst i hi 1 (by omega)).2 _ _ (Y i 1) (cl W hr i hi 1 (by omega)) (seqOf_list m ne i 1 (by rw[hln];exact hi) (by omega)) (lst i hi 1 (by omega)).1 ((md W hr).lay i (by rw[hln];exact hi) |>.f 1 (by omega)) hs)
  (fun i hi W hs hr=>st W hr _ (lst i hi 2 (by omega)).2 _ _ (Y i 2) (cl W hr i hi 2 (by omega)) (seqOf_list m ne i 2 (by rw[hln];exact hi) (by omega)) (lst i hi 2 (by omega)).1 ((md W hr).lay i (by rw[hln];exact hi) |>.f 2 (by omega)) hs)
  (fun i hi W hs hr=>st W hr _ (lst i hi 3 (by omega)).2 _ _ (Y i 3) (cl W hr i hi 3 (by omega)) (seqOf_list m ne i 3 (by rw[hln];exact hi) (by omega)) (lst i hi 3 (by omega)).1 ((md W hr).lay i (by rw[hln];exact hi) |>.f 3 (by omega)) hs)
  (fun i hi W hs hr=>st W hr _ (lst i hi 4 (by omega)).2 _ _ (Y i 4) (cl W hr i hi 4 (by omega)) (seqOf_list m ne i 4 (by rw[hln];exact hi) (by omega)) (lst i hi 4 (by omega)).1 ((md W hr).lay i (by rw[hln];exact hi) |>.f 4 (by omega)) hs)
  (fun i hi W hs hr=>st W hr _ (lst i hi 5 (by omega)).2 _ _ (Y i 5) (cl W hr i hi 5 (by omega)) (seqOf_list m ne i 5 (by rw[hln];exact hi) (by omega)) (lst i hi 5 (by omega)).1 ((md W hr).lay i (by rw[hln];exact hi) |>.f 5 (by omega)) hs)
  (fun i hi W hs hr=>st W hr _ (lst i hi 6 (by omega)).2 _ _ (Y i 6) (cl W hr i hi 6 (by omega)) (seqOf_list m ne i 6 (by rw[hln];exact hi) (by omega)) (lst i hi 6 (by omega)).1 ((md W hr).lay i (by rw[hln];exact hi) |>.f 6 (by omega)) hs)
  (fun i hi j hj W hs hr=>st W hr _ (by have:=le i hi;omega) _ UD (U i j) (cu W hr i hi j hj) (seqOf_up m ne i j (by rw[hln];exact hi) hj) (by rw[←ec];exact planC_up i j hi hj) (ru W hr i hi j hj) hs)
  (fun i hi j hj W hs hr=>by
   have:=st W hr _ (by have:=le i hi;omega) ((DA i).add j) UD (Dn i j) (cd W hr i hi j hj) (seqOf_down m ne i j (by rw[hln];exact hi) hj) (by rw[←ec];exact planC_down i j hi hj) (rdn W hr i hi j hj) hs
   simpa [Nat.mul_add,Nat.add_assoc] using this)
  (fun i hi W hs=>by
   have e:1+(i+1)*pl ne+0=1+i*pl ne+7+2*ne:=by rw[Nat.add_mul,Nat.one_mul];omega
   show Blk 40 W vb #[.int .i64 (lensZ (seqOf m ne) cnt (1+(i+1)*pl ne+0))]
   rw[e]
   exact hs)
  (fun W hs hr=>st W hr _ (by omega) ⟨mb,10,none⟩ D N (cm W hr 10 _ rfl) (by have:=seqOf_norm m ne;rwa [hln] at this) (by rw[←ec];exact planC_norm) (nor W hr) hs)
  (fun W hs hr=>by
   have:=st W hr _ (by omega) ⟨mb,11,none⟩ VD O (cm W hr 11 _ rfl) (by have:=seqOf_out m ne;rwa [hln] at this) (by rw[←ec];exact planC_out) (outw W hr) hs
   rwa [show 1+ln*pl ne+1+1=T by omega] at this)
 rw[ec,eT]
 exact this.mono fun e w' hh=>⟨hh.1,hh.2.1,(Only.of_below bw).trans hh.2.2⟩
section
section
variable {ln ne D DD XD UD VD:Nat}
def perN (D DD XD UD ne:Nat):Nat:=D+DD+DD+DD+DD+D+XD+ne*(UD+UD)
theorem offs_lists (i:Nat)(hi:i<ln):offs (planC ln ne D DD XD UD VD) (1+i*pl ne+7)=offs (planC ln ne D DD XD UD VD) (1+i*pl ne)+(D+DD+DD+DD+DD+D+XD):=by
 have c:=fun r (hr:r<7)=>planC_list (ln:=ln) (ne:=ne) (D:=D) (DD:=DD) (XD:=XD) (UD:=UD) (VD:=VD) i r hi hr
 have c0:=c 0 (by omega);have c1:=c 1 (by omega);have c2:=c 2 (by omega);have c3:=c 3 (by omega);have c4:=c 4 (by omega);have c5:=c 5 (by omega);have c6:=c 6 (by omega)
 clear c
 simp only[preC,Nat.add_zero] at c0 c1 c2 c3 c4 c5 c6
 obtain⟨k,ek⟩:∃ k,1+i*pl ne=k:=⟨_,rfl⟩
 rw[ek] at c0 c1 c2 c3 c4 c5 c6 ⊢
 obtain⟨g,eg⟩:∃ g,planC ln ne D DD XD UD VD=g:=⟨_,rfl⟩
 rw[eg] at c0 c1 c2 c3 c4 c5 c6 ⊢
 have e:offs g (k+7)=offs g k+g k+g (k+1)+g (k+2)+g (k+3)+g (k+4)+g (k+5)+g (k+6):=rfl
 rw[e,c0,c1,c2,c3,c4,c5,c6]
 simp
 omega
theorem offs_nets (i:Nat)(hi:i<ln)(j:Nat)(hj:j≤ne):offs (planC ln ne D DD XD UD VD) (1+i*pl ne+7+2*j)=offs (planC ln ne D DD XD UD VD) (1+i*pl ne+7)+j*(UD+UD):=by
 induction j with
 | zero=>simp
 | succ j ih =>
  have a:=planC_up (ln:=ln) (ne:=ne) (D:=D) (DD:=DD) (XD:=XD) (UD:=UD) (VD:=VD) i j hi (by omega)
  have b:=planC_down (ln:=ln) (ne:=ne) (D:=D) (DD:=DD) (XD:=XD) (UD:=UD) (VD:=VD) i j hi (by omega)
  rw[show 1+i*pl ne+7+2*(j+1)=1+i*pl ne+7+2*j+1+1 by omega]
  show offs _ (1+i*pl ne+7+2*j)+planC ln ne D DD XD UD VD (1+i*pl ne+7+2*j)+planC ln ne D DD XD UD VD (1+i*pl ne+7+2*j+1)=_
  rw[a,b,ih (by omega),Nat.add_mul]
  omega
theorem offs_layers (i:Nat)(hi:i≤ln):offs (planC ln ne D DD XD UD VD) (1+i*pl ne)=VD+i*perN D DD XD UD ne:=by
 induction i with
 | zero=>simp[offs,planC]
 | succ i ih =>
  have e:1+(i+1)*pl ne=1+i*pl ne+7+2*ne:=by rw[Nat.add_mul,Nat.one_mul];unfold pl;omega
  rw[e,offs_nets i (by omega) ne (Nat.le_refl _),offs_lists i (by omega),ih (by omega),Nat.add_mul,Nat.one_mul]
  unfold perN
  omega
theorem offs_all:offs (planC ln ne D DD XD UD VD) (1+ln*pl ne+2)=VD+ln*perN D DD XD UD ne+D+VD:=by
 show offs _ (1+ln*pl ne)+planC ln ne D DD XD UD VD (1+ln*pl ne)+planC ln ne D DD XD UD VD (1+ln*pl ne+1)=_
 rw[offs_layers ln (Nat.le_refl _),planC_norm,planC_out]
end
def seg (cnt:Nat→Nat)(ws:List Int)(k:Nat):List Int:=(ws.drop (offs cnt k)).take (cnt k)
end
def allT (l x:Int):Nat:=1+l.toNat*pl (netsN x)+2
def cntOf (d l v u x:Int):Nat→Nat:=planC l.toNat (netsN x) d.toNat (d*d).toNat (x*d).toNat (u*d).toNat (v*d).toNat
def shapeV (d l v u x:Int)(ws:List Int):ModV:=ofSeq l.toNat (netsN x) (seg (cntOf d l v u x) ws)
def checkB (d h l v u x t n:Int)(m:ModV):Int:=if okB d h l v u x t n then (if framedB l x m then lensZ (seqOf m (netsN x)) (cntOf d l v u x) (allT l x) else 21) else 20
structure Dims (d l v u x:Int):Prop where
 ed:d=(d.toNat:Int)
 el:l=(l.toNat:Int)
 e1:v*d=((v*d).toNat:Int)
 e2:d*d=((d*d).toNat:Int)
 e3:x*d=((x*d).toNat:Int)
 e4:u*d=((u*d).toNat:Int)
 en:max x 1=(netsN x:Int)
 b0:d.toNat≤8
 b1:(v*d).toNat≤1000
 b2:(d*d).toNat≤1000
 b3:(x*d).toNat≤1000
 b4:(u*d).toNat≤1000
 l0:1≤l.toNat
 l1:l.toNat≤2
 n0:1≤netsN x
 n1:netsN x≤4
 d0:2≤d.toNat
 sz:szZ d l v u x=(offs (cntOf d l v u x) (allT l x):Int)
 sz0:0<offs (cntOf d l v u x) (allT l x)
 sz1:offs (cntOf d l v u x) (allT l x)≤10000
theorem dims_of {d h l v u x t n:Int}(ok:okB d h l v u x t n=true):Dims d l v u x:=by
 have r:=right_of ok
 obtain⟨hx,n0,n1⟩:=r.nets
 have d0:=r.d0;have d1:=r.d1;have l0:=r.l0;have l1:=r.l1;have v0:=r.v0;have v1:=r.v1;have u0:=r.u0;have u1:=r.u1;have x0:=r.x0;have x1:=r.x1
 have p1:=mul_bounds (show 0≤v by omega) v1 (show 0≤d by omega) d1
 have p2:=mul_bounds (show 0≤d by omega) d1 (show 0≤d by omega) d1
 have p3:=mul_bounds x0 x1 (show 0≤d by omega) d1
 have p4:=mul_bounds (show 0≤u by omega) u1 (show 0≤d by omega) d1
 have pb:=per_bounds r
 have pl':=mul_bounds (show 0≤l by omega) l1 pb.1 pb.2
 have sz:szZ d l v u x=(offs (cntOf d l v u x) (allT l x):Int):=by
  unfold cntOf allT
  rw[offs_all]
  unfold szZ perN perZ
  rw[Int.natCast_add,Int.natCast_add,Int.natCast_add,Int.natCast_mul,Int.toNat_of_nonneg p1.1,Int.toNat_of_nonneg (show 0≤d by omega),Int.toNat_of_nonneg (show 0≤l by omega)]
  congr 3
  rw[Int.natCast_add,Int.natCast_add,Int.natCast_add,Int.natCast_add,Int.natCast_add,Int.natCast_add,Int.natCast_add,Int.natCast_mul,Int.natCast_add,Int.toNat_of_nonneg p2.1,Int.toNat_of_nonneg (show 0≤d by omega),Int.toNat_of_nonneg p3.1,Int.toNat_of_nonneg p4.1]
 have hs:0<szZ d l v u x∧szZ d l v u x≤10000:=by unfold szZ;omega
 exact⟨by omega,by omega,by omega,by omega,by omega,by omega,hx,by omega,by omega,by omega,by omega,by omega,by omega,by omega,n0,n1,by omega,sz,by omega,by omega⟩
theorem framed_call (d h l v u x t n:Int)(E L N O:SL)(Y U D:Nat→Nat→SL)(m:ModV)(w:World)(hM:ModAt w E L N O Y U D m)(hl0:1≤l)(hl1:l≤1000) :
  Calls Tryz.prog 67 #[.agg #[.int .i64 d,.int .i64 h,.int .i64 l,.int .i64 v,.int .i64 u,.int .i64 x,.int .i64 t,.int .i64 n,.slice E.a E.n E.c,.slice L.a L.n L.c,.slice N.a N.n N.c,.slice O.a O.n O.c]] w fun e w'=>e=.returned (.bool (framedB l x m))∧Below w.heap.size w w':=by
 have len:=hM.len
 by_cases g:(m.ln:Int)=l
 ·obtain⟨x0,hx0⟩:=hM.some_ (by omega)
  rw[hx0]
  refine framed_loop d h v u x t n E L N O Y U D m w hM L.n L.c x0 rfl rfl hx0 (by omega) (max x 1) (framedB l x m) (fun i hi hx=>?_) (fun k=>?_) l (by rw[len];simp[g]) (networks_call d h l v u x t n)
  ·exact decide_eq_false fun k=>by have:=k.2 i (by omega);omega
  ·exact decide_eq_true ⟨g,fun i hi=>k i (by omega)⟩
 ·have e:framedB l x m=false:=decide_eq_false fun k=>g k.1
  rw[e]
  obtain⟨La,eA⟩:∃ q,L.a=q:=⟨_,rfl⟩
  obtain⟨ml,eL⟩:∃ q,L.n=q:=⟨_,rfl⟩
  obtain⟨Lc,eC⟩:∃ q,L.c=q:=⟨_,rfl⟩
  have hb:=bNw (Below.refl w.heap.size w) (.cells #[.int .i64 d,.int .i64 h,.int .i64 l,.int .i64 v,.int .i64 u,.int .i64 x,.int .i64 t,.int .i64 n,.slice E.a E.n E.c,.slice La ml Lc,.slice N.a N.n N.c,.slice O.a O.n O.c] 34)
  rw[eA,eL,eC]
  have g':((ml:Int)==l)=false:=by rw[←eL,len];simp[g]
  clear g e len eA eL eC hM
  go_enter Tryz.func67,Tryz.ntmps67
  go_wp2
  go_ret
  exact⟨rfl,hb⟩
theorem check_walk (d h l v u x t n:Int)(E N O:SL)(La:Option Addr)(ml Lc:Nat)(B1 B2:Bool)(Z:Int)(w:World)
  (k9:∀ w,Calls Tryz.prog 62 #[.agg #[.int .i64 d,.int .i64 h,.int .i64 l,.int .i64 v,.int .i64 u,.int .i64 x,.int .i64 t,.int .i64 n]] w fun e w'=>e=.returned (.bool B1)∧Below w.heap.size w w')
  (k43:B1=true→∀ W,Below w.heap.size w W→Calls Tryz.prog 67 #[.agg #[.int .i64 d,.int .i64 h,.int .i64 l,.int .i64 v,.int .i64 u,.int .i64 x,.int .i64 t,.int .i64 n,.slice E.a E.n E.c,.slice La ml Lc,.slice N.a N.n N.c,.slice O.a O.n O.c]] W fun e w'=>e=.returned (.bool B2)∧Below W.heap.size W w')
  (k32:B1=true→B2=true→∀ W2:World,Below w.heap.size w W2→Blk 34 W2 w.heap.size #[.int .i64 d,.int .i64 h,.int .i64 l,.int .i64 v,.int .i64 u,.int .i64 x,.int .i64 t,.int .i64 n,.slice E.a E.n E.c,.slice La ml Lc,.slice N.a N.n N.c,.slice O.a O.n O.c]→w.heap.size<W2.heap.size →
   Calls Tryz.prog 68 #[.pointer (some ⟨w.heap.size,0,none⟩),.func (.func 69) #[] #[.pointer (some ⟨W2.heap.size,0,none⟩)]] (W2.alloc (.cells #[.int .i64 0] 40)) fun e w'=>e=.returned (.tuple #[])∧Blk 40 w' W2.heap.size #[.int .i64 Z]∧Only W2.heap.size (W2.alloc (.cells #[.int .i64 0] 40)) w') :
  Calls Tryz.prog 39 #[.agg #[.int .i64 d,.int .i64 h,.int .i64 l,.int .i64 v,.int .i64 u,.int .i64 x,.int .i64 t,.int .i64 n,.slice E.a E.n E.c,.slice La ml Lc,.slice N.a N.n N.c,.slice O.a O.n O.c]] w fun e w'=>e=.returned (.int .i64 (if B1 then (if B2 then Z else 21) else 20))∧Below w.heap.size w w':=by
 have hb:=bNw (Below.refl w.heap.size w) (.cells #[.int .i64 d,.int .i64 h,.int .i64 l,.int .i64 v,.int .i64 u,.int .i64 x,.int .i64 t,.int .i64 n,.slice E.a E.n E.c,.slice La ml Lc,.slice N.a N.n N.c,.slice O.a O.n O.c] 34)
 have q0:=Blk.new 34 w #[.int .i64 d,.int .i64 h,.int .i64 l,.int .i64 v,.int .i64 u,.int .i64 x,.int .i64 t,.int .i64 n,.slice E.a E.n E.c,.slice La ml Lc,.slice N.a N.n N.c,.slice O.a O.n O.c]
 have HQ:=hdn q0
 clear q0
 cases B1 with
 | false =>
  clear k43 k32
  show Calls Tryz.prog 39 _ w fun e w'=>e=.returned (.int .i64 20)∧_
  go_enter Tryz.func39,Tryz.ntmps39
  go_wp2_with (first|(go_at_call 62;refine (k9 _).mono ?_;rintro e W1 ⟨rfl,h1⟩;replace hb:=bTn hb h1;clear h1))
  go_ret
  exact⟨rfl,hb⟩
 | true =>
  replace k43:=k43 rfl
  cases B2 with
  | false =>
   clear k32
   show Calls Tryz.prog 39 _ w fun e w'=>e=.returned (.int .i64 21)∧_
   go_enter Tryz.func39,Tryz.ntmps39
   go_wp2_with (first
    | (go_at_call 62;refine (k9 _).mono ?_;rintro e W1 ⟨rfl,h1⟩;replace hb:=bTn hb h1;have q1:=HQ.out.kept h1;obtain⟨a0,a1,a2,a3,a4,a5,a6,a7,a8,a9,a10,a11⟩:=q1.c12;clear h1)
    | (go_at_call 67;refine (k43 _ hb).mono ?_;rintro e W2 ⟨rfl,h2⟩;replace hb:=bTn hb h2;clear h2))
   go_ret
   exact⟨rfl,hb⟩
  | true =>
   replace k32:=k32 rfl rfl
   show Calls Tryz.prog 39 _ w fun e w'=>e=.returned (.int .i64 Z)∧_
   go_enter Tryz.func39,Tryz.ntmps39
   go_wp2_with (first
    | (go_at_call 62;refine (k9 _).mono ?_;rintro e W1 ⟨rfl,h1⟩;replace hb:=bTn hb h1;have q1:=HQ.out.kept h1;obtain⟨a0,a1,a2,a3,a4,a5,a6,a7,a8,a9,a10,a11⟩:=q1.c12;clear h1)
    | (go_at_call 67;refine (k43 _ hb).mono ?_;rintro e W2 ⟨rfl,h2⟩;replace hb:=bTn hb h2;replace q1:=q1.kept h2;clear h2 a0 a1 a2 a3 a4 a5 a6 a7 a8 a9 a10 a11)
    | (go_at_call 68;refine (k32 _ hb q1 q1.lt).mono ?_;rintro e W3 ⟨rfl,q3,o3⟩;have c3:=q3.cell 0 rfl))
   go_ret
   refine⟨rfl,?_⟩
   have:=hb.size
   exact Only.below (bNw hb _) this (by simp;omega) o3
theorem check_call (d h l v u x t n:Int)(E L N O:SL)(Y U D:Nat→Nat→SL)(m:ModV)(w:World)(hM:ModAt w E L N O Y U D m) :
  Calls Tryz.prog 39 #[.agg #[.int .i64 d,.int .i64 h,.int .i64 l,.int .i64 v,.int .i64 u,.int .i64 x,.int .i64 t,.int .i64 n,.slice E.a E.n E.c,.slice L.a L.n L.c,.slice N.a N.n N.c,.slice O.a O.n O.c]] w fun e w'=>e=.returned (.int .i64 (checkB d h l v u x t n m))∧Below w.heap.size w w':=by
 refine check_walk d h l v u x t n E N O L.a L.n L.c (okB d h l v u x t n) (framedB l x m) (lensZ (seqOf m (netsN x)) (cntOf d l v u x) (allT l x)) w (config_call d h l v u x t n) (fun ok W hb=>?_) (fun ok fr W2 hb q hlt=>?_)
 ·have r:=right_of ok
  exact framed_call d h l v u x t n E L N O Y U D m W (hM.below hb) r.l0 (by have:=r.l1;omega)
 ·have dm:=dims_of ok
  have fr':=of_decide_eq_true fr
  have dl:=dm.el
  have hln:m.ln=l.toNat:=by have:=fr'.1;omega
  obtain⟨x0,hx0⟩:=hM.some_ (by have:=dm.l0;omega)
  have b4:=bNw (Below.refl W2.heap.size W2) (.cells #[.int .i64 0] 40)
  have key:=check_visit h v u x t n l.toNat (netsN x) d.toNat (d*d).toNat (x*d).toNat (u*d).toNat (v*d).toNat w.heap.size W2.heap.size L.c x0 E L N O Y U D m (by rw[←dm.ed];exact dm.e1) (by rw[←dm.ed];exact dm.e2) (by rw[←dm.ed];exact dm.e3) (by rw[←dm.ed];exact dm.e4)
   (by have:=dm.b0;omega) dm.b1 dm.b2 dm.b3 dm.b4 (by have:=dm.l1;omega) dm.n1 dm.n0 (W2.alloc (.cells #[.int .i64 0] 40)) w hM (bTn hb b4) (by rw[hx0,hM.len,hln] at q;rw[←dm.ed,←dm.el];exact q.kept b4) (Blk.new 40 W2 _) (by omega) (by omega) hx0 hln
   (fun i hi=>by have:=fr'.2 i (by omega);rw[dm.en] at this;omega)
  exact key
theorem lens_all (S:Nat→List Int)(cnt:Nat→Nat)(T:Nat)(h:lensZ S cnt T=0):∀ k,k<T→(S k).length=cnt k:=fun k hk=>by
 by_cases e:(S k).length=cnt k
 ·exact e
 ·rw[lens_bad S cnt T k hk e] at h
  omega
theorem checked {d h l v u x t n:Int}{m:ModV}(hz:checkB d h l v u x t n m=0):okB d h l v u x t n=true∧m.ln=l.toNat∧(∀ i,i<m.ln→m.un i=netsN x∧m.dn i=netsN x)∧∀ k,k<allT l x→(seqOf m (netsN x) k).length=cntOf d l v u x k:=by
 unfold checkB at hz
 cases ok:okB d h l v u x t n with
 | false=>rw[ok] at hz;simp at hz
 | true =>
  rw[ok] at hz
  cases fr:framedB l x m with
  | false=>rw[fr] at hz;simp at hz
  | true =>
   rw[fr] at hz
   simp only[if_true] at hz
   have dm:=dims_of ok
   have fr':=of_decide_eq_true fr
   have dl:=dm.el
   refine⟨rfl,by omega,fun i hi=>?_,lens_all _ _ _ hz⟩
   have:=fr'.2 i hi
   rw[dm.en] at this
   omega
def Keeps (t:TypeId)(w w':World):Prop:=∀ (b:Nat) (cur:Array Value) (fz:Nat × Nat),w.heap[b]? = some (Obj.cells cur t fz)→w'.heap[b]? = some (Obj.cells cur t fz)
theorem Keeps.refl (t:TypeId)(w:World):Keeps t w w:=fun _ _ _ h=>h
theorem Keeps.trans {t:TypeId}{w w' w'':World}(h:Keeps t w w')(k:Keeps t w' w''):Keeps t w w'':=fun b cur fz e=>k b cur fz (h b cur fz e)
theorem Keeps.of_below {t:TypeId}{w w':World}(hb:Below w.heap.size w w'):Keeps t w w':=fun b cur fz e=>(hb.block b (Array.getElem?_eq_some_iff.1 e).1).trans e
theorem Keeps.of_grown {t t':TypeId}{w w':World}{g:Nat}{c:Array Value}{f:Nat × Nat}(h:w.grownBy w' (some g))(hg:w.heap[g]? = some (.cells c t' f))(ht:t≠t'):Keeps t w w':=fun b cur fz e=>by
 refine (h.block b (Array.getElem?_eq_some_iff.1 e).1 fun k=>?_).trans e
 obtain rfl:=Option.some.inj k
 rw[hg] at e
 simp at e
 exact ht e.2.1.symm
theorem Keeps.of_only {t t':TypeId}{w w':World}{g:Nat}{c:Array Value}(h:Only g w w')(hg:Blk t' w g c)(ht:t≠t'):Keeps t w w':=Keeps.of_grown h hg ht
theorem Keeps.of_own {t t':TypeId}{w w':World}{B n sz:Nat}{v:Value}{xs:List Value}(h:w.grownBy w' v.ownBlock)(ho:w.ownsRow B t' sz v n xs)(ht:t≠t'):Keeps t w w':=by
 rcases ho.2 with⟨e,_⟩|⟨g,cap,cur,e,_,hg,_⟩
 ·rw[e] at h
  exact fun b cur fz e=>(h.block b (Array.getElem?_eq_some_iff.1 e).1 (by simp[Value.ownBlock])).trans e
 ·rw[e] at h
  exact Keeps.of_grown h hg ht
theorem Keeps.blk {t:TypeId}{w w':World}{b:Nat}{cs:Array Value}(h:Keeps t w w')(q:Blk t w b cs):Blk t w' b cs:=h b cs (0,0) q
theorem Keeps.own {t:TypeId}{w w':World}{B n sz:Nat}{v:Value}{xs:List Value}(h:Keeps t w w')(ho:w.ownsRow B t sz v n xs):w'.ownsRow B t sz v n xs:=by
 refine⟨ho.1,?_⟩
 rcases ho.2 with h2|⟨g,cap,cur,hv,hg,hh,r⟩
 ·exact .inl h2
 ·exact .inr ⟨g,cap,cur,hv,hg,h g cur (0,0) hh,r⟩
structure TS (B:Nat) (w:World) (s:SL) (zs:List Int):Prop where
 is:IsS w s zs
 blk:∀ x,s.a=some x→B≤x.block∧∃ cur fz,w.heap[x.block]? = some (.cells cur 118 fz)
theorem TS.step {B:Nat}{w w':World}{s:SL}{zs:List Int}(h:TS B w s zs)(k:Keeps 118 w w'):TS B w' s zs:=by
 refine⟨⟨⟨h.is.reads.len,h.is.reads.max,h.is.reads.wf,h.is.reads.some_,fun x hx i hi=>?_⟩,h.is.nil,h.is.cap⟩,fun x hx=>?_⟩
 ·obtain⟨_,cur,fz,e⟩:=h.blk x hx
  have c:=h.is.reads.cell x hx i hi
  have eb:(x.add i).block=x.block:=by unfold Addr.add;split<;>rfl
  have:=World.cell?_of_block (w:=w) (w':=w') (a:=x.add i) (by rw[eb,e];exact k _ _ _ e)
  rw[this]
  exact c
 ·obtain⟨h1,cur,fz,e⟩:=h.blk x hx
  exact⟨h1,cur,fz,k _ _ _ e⟩
theorem TS.below {B:Nat}{w w':World}{s:SL}{zs:List Int}(h:TS B w s zs)(hb:Below w.heap.size w w'):TS B w' s zs:=h.step (Keeps.of_below hb)
theorem TS.new {B:Nat}{w:World}{s:SL}{zs:List Int}(h:TS B w s zs):NewS B w s zs:=fun w' hf =>
 ⟨⟨h.is.reads.len,h.is.reads.max,h.is.reads.wf,h.is.reads.some_,fun x hx i hi=>hf _ _ (h.is.reads.cell x hx i hi) (by
  have:=(h.blk x hx).1
  have eb:(x.add i).block=x.block:=by unfold Addr.add;split<;>rfl
  omega)⟩,h.is.nil,h.is.cap⟩
structure TG (B:Nat) (w:World) (v:Value) (k:Nat) (R:Nat→SL) (Z:Nat→List Int):Prop where
 own:w.ownsRow B 31 1 v k (cellsG R k)
 row:∀ j,j<k→TS B w (R j) (Z j)
theorem TG.step {B:Nat}{w w':World}{v:Value}{k:Nat}{R:Nat→SL}{Z:Nat→List Int}(h:TG B w v k R Z)(k1:Keeps 118 w w')(k2:Keeps 31 w w'):TG B w' v k R Z:=⟨k2.own h.own,fun j hj=>(h.row j hj).step k1⟩
theorem TG.new {B:Nat}{w:World}{v:Value}{k:Nat}{R:Nat→SL}{Z:Nat→List Int}(h:TG B w v k R Z):∃ s:SL,v=s.v∧NewG B w s k R Z:=newG_of h.own fun j hj=>(h.row j hj).new
theorem TG.nil (B:Nat)(w:World)(R:Nat→SL)(Z:Nat→List Int):TG B w (.slice none 0 0) 0 R Z:=⟨World.ownsRow_nil _ _ _ _,fun j hj=>by omega⟩
structure TY (B:Nat) (w:World) (Y:Nat→SL) (U D:Nat→SL) (f:Nat→List Int) (un dn:Nat) (u d:Nat→List Int):Prop where
 f:∀ j,j<7→TS B w (Y j) (f j)
 u:TG B w (Y 7).v un U u
 d:TG B w (Y 8).v dn D d
theorem TY.step {B:Nat}{w w':World}{Y U D:Nat→SL}{f:Nat→List Int}{un dn:Nat}{u d:Nat→List Int}(h:TY B w Y U D f un dn u d)(k1:Keeps 118 w w')(k2:Keeps 31 w w'):TY B w' Y U D f un dn u d:=⟨fun j hj=>(h.f j hj).step k1,h.u.step k1 k2,h.d.step k1 k2⟩
theorem SL.v_inj {s t:SL}(h:s.v=t.v):s=t:=by
 obtain⟨a,n,c⟩:=s
 obtain⟨a',n',c'⟩:=t
 simp only[SL.v,Value.slice.injEq] at h
 obtain⟨rfl,rfl,rfl⟩:=h
 rfl
theorem TY.new {B:Nat}{w:World}{Y U D:Nat→SL}{f:Nat→List Int}{un dn:Nat}{u d:Nat→List Int}(h:TY B w Y U D f un dn u d):NewY B w Y U D f un dn u d:=by
 obtain⟨s,e,hs⟩:=h.u.new
 obtain⟨s',e',hs'⟩:=h.d.new
 obtain rfl:=SL.v_inj e
 obtain rfl:=SL.v_inj e'
 exact newY_of (fun j hj=>(h.f j hj).new) hs hs'
structure TL (B:Nat) (w:World) (v:Value) (n:Nat) (Y U D:Nat→Nat→SL) (m:ModV):Prop where
 own:w.ownsRow B 61 9 v n (cells9 Y n)
 lay:∀ i,i<n→TY B w (Y i) (U i) (D i) (m.f i) (m.un i) (m.dn i) (m.u i) (m.d i)
theorem TL.nil (B:Nat)(w:World)(Y U D:Nat→Nat→SL)(m:ModV):TL B w (.slice none 0 0) 0 Y U D m:=⟨World.ownsRow_nil _ _ _ _,fun j hj=>by omega⟩
theorem TL.new {B:Nat}{w:World}{v:Value}{E N O:SL}{Y U D:Nat→Nat→SL}{m:ModV}(h:TL B w v m.ln Y U D m)(he:TS B w E m.e)(hn:TS B w N m.nm)(ho:TS B w O m.o):∃ L:SL,v=L.v∧NewM B w E L N O Y U D m :=
 newM_of h.own (fun i hi=>(h.lay i hi).new) he.new hn.new ho.new
def upd {α:Type}(F:Nat→α)(i:Nat)(x:α):Nat→α:=fun j=>if j=i then x else F j
theorem upd_same {α:Type}(F:Nat→α)(i:Nat)(x:α):upd F i x i=x:=if_pos rfl
theorem upd_other {α:Type}(F:Nat→α)(i:Nat)(x:α){j:Nat}(h:j≠i):upd F i x j=F j:=if_neg h
theorem TG.below {B B':Nat}{w w':World}{v:Value}{k:Nat}{R:Nat→SL}{Z:Nat→List Int}(h:TG B w v k R Z)(hb:Below w.heap.size w w'):TG B w' v k R Z:=h.step (Keeps.of_below hb) (Keeps.of_below hb)
theorem TL.below {B:Nat}{w w':World}{v:Value}{n:Nat}{Y U D:Nat→Nat→SL}{m:ModV}(h:TL B w v n Y U D m)(hb:Below w.heap.size w w'):TL B w' v n Y U D m:=⟨(Keeps.of_below hb).own h.own,fun i hi=>(h.lay i hi).step (Keeps.of_below hb) (Keeps.of_below hb)⟩
theorem TS.le {B B':Nat}{w:World}{s:SL}{zs:List Int}(h:TS B w s zs)(hb:B'≤B):TS B' w s zs:=⟨h.is,fun x hx=>⟨Nat.le_trans hb (h.blk x hx).1,(h.blk x hx).2⟩⟩
theorem TG.le {B B':Nat}{w:World}{v:Value}{k:Nat}{R:Nat→SL}{Z:Nat→List Int}(h:TG B w v k R Z)(hb:B'≤B):TG B' w v k R Z:=by
 refine⟨⟨h.own.1,?_⟩,fun j hj=>(h.row j hj).le hb⟩
 rcases h.own.2 with h2|⟨g,cap,cur,hv,hg,r⟩
 ·exact .inl h2
 ·exact .inr ⟨g,cap,cur,hv,by omega,r⟩
theorem TL.le {B B':Nat}{w:World}{v:Value}{n:Nat}{Y U D:Nat→Nat→SL}{m:ModV}(h:TL B w v n Y U D m)(hb:B'≤B):TL B' w v n Y U D m:=by
 refine⟨⟨h.own.1,?_⟩,fun i hi=>⟨fun j hj=>((h.lay i hi).f j hj).le hb,(h.lay i hi).u.le hb,(h.lay i hi).d.le hb⟩⟩
 rcases h.own.2 with h2|⟨g,cap,cur,hv,hg,r⟩
 ·exact .inl h2
 ·exact .inr ⟨g,cap,cur,hv,by omega,r⟩
theorem own_typed {w:World}{B n c:Nat}{a:Option Addr}{nn:Nat}{xs:List Value}(h:w.ownsRow B 118 1 (.slice a n c) nn xs):∀ y,a=some y→∃ cur fz,w.heap[y.block]? = some (Obj.cells cur 118 fz):=by
 intro y hy
 rcases h.2 with⟨h1,_⟩|⟨g,cap,cur,h1,_,h2,_⟩
 ·rw[hy] at h1;simp at h1
 ·simp only[Value.slice.injEq] at h1
  have e:y=⟨g,0,none⟩:=Option.some.inj (hy.symm.trans h1.1)
  rw[e]
  exact⟨cur,(0,0),h2⟩
theorem next_typed (cb k n c:Nat)(x:Addr)(zs:List Int)(W:World)(hq:Blk 114 W cb #[.slice (some x) n c])(hr:Reads .i8 W (some x) n zs)(hk:k≤n)(hc:n≤c)(hn:n≤100000) :
  Calls Tryz.prog 61 #[.pointer (some ⟨cb,0,none⟩),.int .i64 (k:Int)] W fun e W'=>∃ (s:SL) (y:Addr),e=.returned (.slice s.a s.n s.c)∧s.n=k∧TS W.heap.size W' s (zs.take k) ∧
   Blk 114 W' cb #[.slice (some y) (n-k) (c-k)]∧y.block=x.block∧Reads .i8 W (some y) (n-k) (zs.drop k)∧n-k≤c-k∧Only cb W W':=by
 obtain⟨i0,hi,hz0,hz1,hz2⟩:=i46
 have c0:W.cell? ⟨cb,0,none⟩=some (.slice (some x) n c):=hq.cell 0 rfl
 have hkc:(k:Int)≤(c:Int):=by omega
 have hkn:(k:Int)≤(n:Int):=by omega
 have k0:(0:Int)≤(k:Int):=by omega
 obtain⟨y,ey,yb,ry⟩:∃ y:Addr,(if c=k then some x else some (x.add k))=some y∧y.block=x.block∧Reads .i8 W (some y) (n-k) (zs.drop k):=by
  by_cases e:c=k
  ·refine⟨x,by rw[if_pos e],rfl,?_⟩
   have hl:=hr.len
   rw[show n-k=0 by omega,List.drop_eq_nil_of_le (by omega)]
   exact⟨rfl,by omega,fun i=>by simpa using wf_nought .i8,fun h=>by omega,fun _ _ i hi=>by omega⟩
  ·refine⟨x.add k,by rw[if_neg e],by unfold Addr.add;split<;>rfl,?_⟩
   have:=hr.cut k (n-k) (by omega)
   rwa [List.take_of_length_le (by rw[List.length_drop,hr.len];omega)] at this
 have hcb:=hq.lt
 have key:∀ W1,Below W.heap.size W W1→W1.cell? ⟨cb,0,none⟩=some (.slice (some x) n c)∧W1.frozen? ⟨cb,0,none⟩=false∧Hid (Blk 114 W1 cb #[.slice (some x) n c]):=fun W1 hb=>⟨(hq.kept hb).cell 0 rfl,(hq.kept hb).open_ 0,hq.kept hb⟩
 have rt:Reads .i8 W (some x) k (zs.take k):=by have:=hr.cut 0 k (by omega);simpa [Addr.add] using this
 have rt':Reads .i8 (W.alloc (.cells #[] 118)) (some x) k (zs.take k):=rt.below (bNw (Below.refl _ _) _)
 have c0':(W.alloc (.cells #[] 118)).cell? ⟨cb,0,none⟩=some (.slice (some x) n c):=(hq.kept (bNw (Below.refl _ _) _)).cell 0 rfl
 have own0:(W.alloc (.cells #[] 118)).ownsRow W.heap.size 118 1 (.slice (some ⟨W.heap.size,0,none⟩) 0 0) 0 []:=World.ownsRow_lit (base:=W.heap.size) (size:=1) W #[] 0 (Nat.le_refl _) (by unfold maxLen;omega) (by simp)
 have HK:=hdn key
 clear key hq
 go_enter Tryz.func61,Tryz.ntmps61
 go_wp2_with (first
  | (at_builtin;refine wpList_copy rfl _ _ 31 rfl W.heap.size 118 i0 (.int .i8 0) 1 Tryz.underlying31 hi hz0 hz1 hz2 rfl _ 0 [] rfl own0 .i8 (some x) k c (zs.take k) rfl rt' (by intro h;cases h) (by unfold maxLen;omega) (by omega) (by simp) ?_;intro v1 W1 ho hg;obtain⟨b,cb1,rfl,r1,hb,f1,f2,f3⟩:=copied1 ho hg rt;have ty:=own_typed ho;obtain⟨g1,g2,g3⟩:=HK.out W1 hb;clear ho hg own0 c0'))
 go_ret
 refine⟨⟨b,k,cb1⟩,y,rfl,rfl,?_,g3.out.set 0 _,yb,ry,by omega,(Only.of_below hb).trans (Only.set _ _ _ _)⟩
 have base:TS W.heap.size W1 ⟨b,k,cb1⟩ (zs.take k):=⟨⟨r1,f1,f2⟩,fun z hz=>⟨f3 z hz,ty z hz⟩⟩
 exact base.step (Keeps.of_only (Only.set cb 0 W1 _) g3.out (by decide))
def CutAt (w:World)(xb sb N:Nat)(ws:List Int)(T:Nat):Prop:=∃ (y:Addr) (c:Nat),Blk 114 w xb #[.slice (some y) (N-T) c]∧y.block=sb∧Reads .i8 w (some y) (N-T) (ws.drop T)∧N-T≤c
theorem CutAt.below {w w':World}{xb sb N:Nat}{ws:List Int}{T:Nat}(h:CutAt w xb sb N ws T)(hb:Below w.heap.size w w'):CutAt w' xb sb N ws T:=by
 obtain⟨y,c,q,e,r,l⟩:=h
 exact⟨y,c,q.kept hb,e,r.below hb,l⟩
theorem CutAt.only {w w':World}{xb sb N g:Nat}{ws:List Int}{T:Nat}(h:CutAt w xb sb N ws T)(o:Only g w w')(h1:xb≠g)(h2:sb≠g):CutAt w' xb sb N ws T:=by
 obtain⟨y,c,q,e,r,l⟩:=h
 exact⟨y,c,(o.block xb q.lt (fun k=>h1 (by simpa using k))).trans q,e,r.other o (fun x hx _=>by obtain rfl:=Option.some.inj hx;omega),l⟩
theorem next_seg {W:World}{xb sb N:Nat}{ws:List Int}{cnt:Nat→Nat}{k:Nat}(hc:CutAt W xb sb N ws (offs cnt k))(hfit:offs cnt (k+1)≤N)(hN:N≤100000)(hsb:sb≠xb) :
  Calls Tryz.prog 61 #[.pointer (some ⟨xb,0,none⟩),.int .i64 (cnt k:Int)] W fun e W'=>∃ s:SL,e=.returned (.slice s.a s.n s.c)∧TS W.heap.size W' s (seg cnt ws k)∧CutAt W' xb sb N ws (offs cnt (k+1))∧Only xb W W':=by
 obtain⟨y,c,q,e,r,l⟩:=hc
 have e1:offs cnt (k+1)=offs cnt k+cnt k:=rfl
 refine (next_typed xb (cnt k) (N-offs cnt k) c y (ws.drop (offs cnt k)) W q r (by omega) l (by omega)).mono fun e' W' hh=>?_
 obtain⟨s,z,h1,h2,h3,h4,h5,h6,h7,h8⟩:=hh
 refine⟨s,h1,h3,⟨z,c-cnt k,?_,h5.trans e,?_,?_⟩,h8⟩
 ·rw[e1,show N-(offs cnt k+cnt k)=N-offs cnt k-cnt k by omega]
  exact h4
 ·rw[e1,show N-(offs cnt k+cnt k)=N-offs cnt k-cnt k by omega,←List.drop_drop]
  exact h6.other h8 (fun x hx _=>by obtain rfl:=Option.some.inj hx;omega)
 ·rw[e1];omega
theorem run_cfg3 {w:World}{cb:Nat}{d h l v u x t n:Int}(q:Blk 23 w cb #[.int .i64 d,.int .i64 h,.int .i64 l,.int .i64 v,.int .i64 u,.int .i64 x,.int .i64 t,.int .i64 n]):(Instr.fieldAt 23 (.pointer (some ⟨cb,0,none⟩)) 3).run Tryz.prog w=.ok (.pointer (some ⟨cb,3,none⟩)) w∧(Instr.loadAt 3 (.pointer (some ⟨cb,3,none⟩))).run Tryz.prog w=.ok (.int .i64 v) w:=by
 obtain⟨c0,c1,c2,c3,c4,c5,c6,c7⟩:=q.cfg
 constructor
 ·go_simp
 ·go_simp
theorem run_build29 (w:World)(d h l v u x t n:Int)(s:SL):(Instr.build 34 #[(0,.agg #[.int .i64 d,.int .i64 h,.int .i64 l,.int .i64 v,.int .i64 u,.int .i64 x,.int .i64 t,.int .i64 n]),(1,.slice s.a s.n s.c)]).run Tryz.prog w=.ok (.agg #[.int .i64 d,.int .i64 h,.int .i64 l,.int .i64 v,.int .i64 u,.int .i64 x,.int .i64 t,.int .i64 n,.slice s.a s.n s.c,.slice none 0 0,.slice none 0 0,.slice none 0 0]) w:=by
 go_simp
theorem run_store34m {w:World}{b:Nat}(q:Blk 34 w b zeroC)(d h l v u x t n:Int)(s:SL):∃ w',(Instr.storeAt 34 (.pointer (some ⟨b,0,none⟩)) (.agg #[.int .i64 d,.int .i64 h,.int .i64 l,.int .i64 v,.int .i64 u,.int .i64 x,.int .i64 t,.int .i64 n,.slice s.a s.n s.c,.slice none 0 0,.slice none 0 0,.slice none 0 0])).run Tryz.prog w=.ok () w'∧Blk 34 w' b #[.int .i64 d,.int .i64 h,.int .i64 l,.int .i64 v,.int .i64 u,.int .i64 x,.int .i64 t,.int .i64 n,.slice s.a s.n s.c,.slice none 0 0,.slice none 0 0,.slice none 0 0]∧Only b w w':=by
 have q':Blk 34 w b #[.int .i64 0,.int .i64 0,.int .i64 0,.int .i64 0,.int .i64 0,.int .i64 0,.int .i64 0,.int .i64 0,nilS,nilS,nilS,nilS]:=q
 obtain⟨z0,z1,z2,z3,z4,z5,z6,z7,z8,z9,z10,z11⟩:=q'.c12
 obtain⟨o0,o1,o2,o3,o4,o5,o6,o7,o8,o9,o10,o11⟩:=q'.o12
 obtain⟨W6,eW,q6,only,hz⟩:=set12 q' (.int .i64 d) (.int .i64 h) (.int .i64 l) (.int .i64 v) (.int .i64 u) (.int .i64 x) (.int .i64 t) (.int .i64 n) (.slice s.a s.n s.c) (.slice none 0 0) (.slice none 0 0) (.slice none 0 0)
 refine⟨W6,?_,q6,only⟩
 rw[←eW]
 clear eW q6 only hz q q'
 go_simp
def firD (i:Nat):Option Nat:=match i with|0=>some 27|1=>some 28|2=>some 29|3=>some 30|4=>some 31|5=>some 32|6=>some 33|7=>some 34|8=>some 8|_=>none
theorem firD_inj:∀ i,i<10→∀ j,j<10→firD i=firD j→firD i≠none→i=j:=by decide
def firM (d h l v u x t n:Int)(s:SL):Array Value:=#[.int .i64 d,.int .i64 h,.int .i64 l,.int .i64 v,.int .i64 u,.int .i64 x,.int .i64 t,.int .i64 n,.slice s.a s.n s.c,.slice none 0 0,.slice none 0 0,.slice none 0 0]
def firF (d h l v u x t n VD:Int)(xb cb B:Nat)(zs:List Int)(l':Nat→Bool)(i:Nat)(q:Value)(w:World):Prop:=match i with
 | 0=>q=.agg #[.int .i64 d,.int .i64 h,.int .i64 l,.int .i64 v,.int .i64 u,.int .i64 x,.int .i64 t,.int .i64 n]
 | 1=>q=.pointer (some ⟨xb,0,none⟩)
 | 2=>q=.pointer (some ⟨cb,3,none⟩)
 | 3=>q=.int .i64 v
 | 4=>q=.int .i64 d
 | 5=>q=.int .i64 VD
 | 6=>∃ s:SL,q=.slice s.a s.n s.c∧TS B w s zs
 | 7=>∃ s:SL,q=.agg (firM d h l v u x t n s)∧TS B w s zs
 | 8=>∃ b,q=.pointer (some ⟨b,0,none⟩)∧B≤b∧(l' 9=false→Blk 34 w b zeroC)∧(l' 9=true→∃ s:SL,Blk 34 w b (firM d h l v u x t n s)∧TS B w s zs)
 | _=>True
theorem firF_step {d h l v u x t n VD:Int}{xb cb B:Nat}{zs:List Int}{l1 l2:Nat→Bool}{i:Nat}{q:Value}{w w':World}(hh:firF d h l v u x t n VD xb cb B zs l1 i q w)(h9:l2 9=l1 9)(k46:Keeps 118 w w')(k29:Keeps 34 w w'):firF d h l v u x t n VD xb cb B zs l2 i q w':=by
 unfold firF at hh ⊢
 split
 ·exact hh
 ·exact hh
 ·exact hh
 ·exact hh
 ·exact hh
 ·exact hh
 ·obtain⟨s,e1,e2⟩:=hh
  exact⟨s,e1,e2.step k46⟩
 ·obtain⟨s,e1,e2⟩:=hh
  exact⟨s,e1,e2.step k46⟩
 ·obtain⟨b,e1,e2,e3,e4⟩:=hh
  refine⟨b,e1,e2,fun k=>k29.blk (e3 (by rw[←h9];exact k)),fun k=>?_⟩
  obtain⟨s,f1,f2⟩:=e4 (by rw[←h9];exact k)
  exact⟨s,k29.blk f1,f2.step k46⟩
 ·trivial
def P0 (l:Nat)(D VD:Nat)(m:ModV):Prop:=m.ln=l∧m.e.length=VD∧m.nm.length=D∧m.o.length=VD
def Ly (D DD XD ne:Nat)(m:ModV)(i:Nat):Prop:=(∀ r,r<7→(m.f i r).length=preC D DD XD r)∧m.un i=ne∧m.dn i=ne
def Nt (UD:Nat)(m:ModV)(i j:Nat):Prop:=(m.u i j).length=UD∧(m.d i j).length=UD
def AllR (l D DD XD UD VD ne:Nat)(m:ModV):Prop:=P0 l D VD m∧∀ i,i<m.ln→Ly D DD XD ne m i∧∀ j,j<ne→Nt UD m i j
theorem chk_iff {d h l v u x t n:Int}(ok:okB d h l v u x t n=true)(m:ModV):(AllR l.toNat d.toNat (d*d).toNat (x*d).toNat (u*d).toNat (v*d).toNat (netsN x) m→checkB d h l v u x t n m=0)∧(¬AllR l.toNat d.toNat (d*d).toNat (x*d).toNat (u*d).toNat (v*d).toNat (netsN x) m→checkB d h l v u x t n m=21):=by
 have dm:=dims_of ok
 have to0:AllR l.toNat d.toNat (d*d).toNat (x*d).toNat (u*d).toNat (v*d).toNat (netsN x) m→checkB d h l v u x t n m=0:=fun ⟨⟨h1,h2,h3,h4⟩,hall⟩=>by
  have fr:framedB l x m=true:=decide_eq_true ⟨by rw[h1];exact dm.el.symm,fun i hi=>by
   obtain⟨⟨_,u1,u2⟩,_⟩:=hall i hi
   rw[u1,u2]
   exact⟨dm.en.symm,dm.en.symm⟩⟩
  unfold checkB
  rw[ok,fr]
  show lensZ _ _ _=0
  refine lens_ok _ _ _ fun k hk=>?_
  unfold allT at hk
  unfold cntOf
  rcases plan_cases l.toNat (netsN x) k hk with rfl|⟨i,r,hi,hr,rfl⟩|⟨i,j,hi,hj,rfl|rfl⟩|rfl|rfl
  ·exact h2
  ·rw[planC_list i r hi hr,seqOf_list m _ i r (by omega) hr]
   exact (hall i (by omega)).1.1 r hr
  ·rw[planC_up i j hi hj,seqOf_up m _ i j (by omega) hj]
   exact ((hall i (by omega)).2 j hj).1
  ·rw[planC_down i j hi hj,seqOf_down m _ i j (by omega) hj]
   exact ((hall i (by omega)).2 j hj).2
  ·rw[planC_norm]
   rw[←h1,seqOf_norm]
   exact h3
  ·rw[planC_out]
   rw[←h1,seqOf_out]
   exact h4
 refine⟨to0,fun hn=>?_⟩
 have z21:∀ (S:Nat→List Int) (cnt:Nat→Nat) T,lensZ S cnt T=0∨lensZ S cnt T=21:=fun S cnt T=>by
  induction T with
  | zero=>exact .inl rfl
  | succ T ih =>
   show (if _ then _ else _)=_∨(if _ then _ else _)=_
   split
   ·exact ih
   ·exact .inr rfl
 have c:checkB d h l v u x t n m=0∨checkB d h l v u x t n m=21:=by
  unfold checkB
  rw[ok]
  show (if framedB l x m=true then _ else _)=_∨(if framedB l x m=true then _ else _)=_
  split
  ·exact z21 _ _ _
  ·exact .inr rfl
 rcases c with c|c
 ·exfalso
  apply hn
  obtain⟨_,hln,hun,hlen⟩:=checked c
  unfold cntOf allT at hlen
  have ip:∀ i r,i<l.toNat→r<pl (netsN x)→1+i*pl (netsN x)+r<1+l.toNat*pl (netsN x)+2:=fun i r hi hr=>by
   have:(i+1)*pl (netsN x)≤l.toNat*pl (netsN x):=Nat.mul_le_mul_right _ (by omega)
   rw[Nat.add_mul] at this
   omega
  refine⟨⟨hln,hlen 0 (by omega),?_,?_⟩,fun i hi=>⟨⟨fun r hr=>?_,hun i hi⟩,fun j hj=>⟨?_,?_⟩⟩⟩
  ·have:=hlen (1+l.toNat*pl (netsN x)) (by omega)
   rwa [planC_norm,←hln,seqOf_norm] at this
  ·have:=hlen (1+l.toNat*pl (netsN x)+1) (by omega)
   rwa [planC_out,←hln,seqOf_out] at this
  ·have:=hlen _ (ip i r (by omega) (by unfold pl;omega))
   rwa [planC_list i r (by omega) hr,seqOf_list m _ i r hi hr] at this
  ·have q:=ip i (7+2*j) (by omega) (by unfold pl;omega)
   have:=hlen (1+i*pl (netsN x)+7+2*j) (by omega)
   rwa [planC_up i j (by omega) hj,seqOf_up m _ i j hi hj] at this
  ·have q:=ip i (7+2*j+1) (by omega) (by unfold pl;omega)
   have:=hlen (1+i*pl (netsN x)+7+2*j+1) (by omega)
   rwa [planC_down i j (by omega) hj,seqOf_down m _ i j hi hj] at this
 ·exact c
end Go.Proofs.YtbkjhfmehemgpaaGreat

/- Texts put together. -/
import Derived.Test.YthliomlmhfjhnaaGreatZp21
import Derived.Test.YthliomlmhfjhnaaGreatZp18
import Derived.Test.YthliomlmhfjhnaaGreatZp9
namespace Go.Proofs.YthliomlmhfjhnaaGreat
set_option maxRecDepth 20000
set_option maxHeartbeats 16000000
open Go.ChangeShapes Go.WideShapes Go.ChangeAt Go.RowKit
set_option linter.unusedVariables false
set_option linter.unusedSimpArgs false
section
open Go.ChangeShapes Go.WideShapes Go.ChangeAt Go.RowKit Go.Sort
theorem Qlp (a:Addr)(vb:Nat)(A:Option Addr)(n c:Nat)(k e:Int)(W:World)(ha:W.cell? a=some (.slice A n c))(q:Blk 35 W vb #[I4 e]) :
  Calls Tryz.prog 86 #[.pointer (some a),I4 k,Pt vb] W fun r W'=>r=.returned (.tuple #[])∧Blk 35 W' vb #[I4 (if (n:Int)=k then e else 21)]∧Only vb W W':=by
 have c0:W.cell? ⟨vb,0,none⟩=some (I4 e):=q.cell 0 rfl
 have f0:=q.open_ 0
 have HQ:=hdn q
 clear q
 by_cases h:(n:Int)=k
 ·rw[if_pos h]
  have h':((n:Int)==k)=true:=by simp[h]
  clear h
  go_enter Tryz.func86,Tryz.ntmps86
  go_wp2
  go_end0
  exact⟨rfl,HQ.out,Only.refl _ _⟩
 ·rw[if_neg h]
  have h':((n:Int)==k)=false:=by simp[h]
  clear h
  go_enter Tryz.func86,Tryz.ntmps86
  go_wp2
  go_end0
  exact⟨rfl,HQ.out.set 0 _,Only.set _ _ _ _⟩
def QbQ (l x:Int)(m:ModV):Bool:=decide ((m.ln:Int)=l∧∀ i,i<m.ln→(m.un i:Int)=max x 1∧(m.dn i:Int)=max x 1)
theorem Qgb {w:World}{x:Addr}{i:Nat}{y:Nat→SL}(h:∀ j,j<9→w.cell? ((x.add (i*9)).add j)=some (y j).v) :
  ∃ P,x.add (i*9)=P∧w.cell? P=some ((y 0).w)∧w.cell? ⟨P.block,P.off+1,none⟩=some ((y 1).w)∧w.cell? ⟨P.block,P.off+2,none⟩=some ((y 2).w) ∧
   w.cell? ⟨P.block,P.off+3,none⟩=some ((y 3).w)∧w.cell? ⟨P.block,P.off+4,none⟩=some ((y 4).w)∧w.cell? ⟨P.block,P.off+5,none⟩=some ((y 5).w) ∧
   w.cell? ⟨P.block,P.off+6,none⟩=some ((y 6).w)∧w.cell? ⟨P.block,P.off+7,none⟩=some ((y 7).w)∧w.cell? ⟨P.block,P.off+8,none⟩=some ((y 8).w) :=
 ⟨_,rfl,h 0 (by omega),h 1 (by omega),h 2 (by omega),h 3 (by omega),h 4 (by omega),h 5 (by omega),h 6 (by omega),h 7 (by omega),h 8 (by omega)⟩
theorem Qio (d h v u x t n:Int)(E L N O:SL)(Y U D:Nat→Nat→SL)(m:ModV)(w:World)(hM:Qad w E L N O Y U D m)(ml Lc:Nat)(x0:Addr)(eL:L.n=ml)(eC:L.c=Lc)(eA:L.a=some x0)(hl:ml≤1000000)(X:Int)(B:Bool)
  (no:∀ i,i<ml→((m.un i:Int)≠X∨(m.dn i:Int)≠X)→B=false) (yes:(∀ i,i<ml→(m.un i:Int)=X∧(m.dn i:Int)=X)→B=true) (l:Int) (g:((ml:Int)==l)=true)
  (kn:∀ w,Calls Tryz.prog 112 #[.agg (c8 d h l v u x t n)] w fun e w'=>e=.returned (I4 X)∧∃ o,w'=w.alloc o) :
  Calls Tryz.prog 84 #[.agg #[I4 d,I4 h,I4 l,I4 v,I4 u,I4 x,I4 t,I4 n,E.w,.slice (some x0) ml Lc,N.w,O.w]] w fun e w'=>e=.returned (.bool B)∧Bw w w':=by
 have hb:=bNw (bS w) (.cells #[I4 d,I4 h,I4 l,I4 v,I4 u,I4 x,I4 t,I4 n,E.w,.slice (some x0) ml Lc,N.w,O.w] 27)
 have q0:=Blk.new 27 w #[I4 d,I4 h,I4 l,I4 v,I4 u,I4 x,I4 t,I4 n,E.w,.slice (some x0) ml Lc,N.w,O.w]
 have hml:m.ln=ml:=hM.len.symm.trans eL
 have HM:=hdn hM
 have HN:=hdn no
 have HY:=hdn yes
 have HL:=hdn hml
 have HA:=hdn eA
 have HB:=hdn hb
 have HQ:=hdn q0
 clear hM no yes hml eL eC eA hb
 obtain⟨a0,a1,a2,a3,a4,a5,a6,a7,a8,a9,a10,a11⟩:=q0.c12
 clear q0
 go_enter Tryz.func84,Tryz.ntmps84
 go_wp2
 clear a0 a1 a2 a3 a4 a5 a6 a7 a8 a9 a10 a11
 go_loopw [15] (fun i wr=>∃ k:Nat,k≤ml∧i=I4 k∧Bw w wr∧Blk 27 wr w.heap.size #[I4 d,I4 h,I4 l,I4 v,I4 u,I4 x,I4 t,I4 n,E.w,.slice (some x0) ml Lc,N.w,O.w]∧Hid (∀ i,i<k→(m.un i:Int)=X∧(m.dn i:Int)=X)) (fun i _=>ml-(intOf i).toNat)
 case atStart=>exact⟨0,Nat.zero_le _,rfl,HB.out,HQ.out,fun i hi=>absurd hi (Nat.not_lt_zero _)⟩
 case round =>
  clear HB HQ
  obtain⟨k,hk,rfl,hb,q1,good⟩:=hrel
  obtain⟨a0,a1,a2,a3,a4,a5,a6,a7,a8,a9,a10,a11⟩:=q1.c12
  by_cases hlt:k<ml
  ·have hlt':(k:Int)<(ml:Int):=by omega
   have hMr:=HM.out.below hb
   have lay:=hMr.lay k (by rw[HL.out];exact hlt)
   have un:=lay.u.len
   have dn:=lay.d.len
   obtain⟨P,eP,p0,p1,p2,p3,p4,p5,p6,p7,p8⟩:=Qgb (fun j hj=>hMr.cell x0 HA.out k (by rw[HL.out];exact hlt) j hj)
   have HG:=hdn (And.intro un dn)
   clear hMr lay
   have q9:=Blk.new 65 wr (y9 (Y k))
   have r7:=q9.cell 7 rfl
   have r8:=q9.cell 8 rfl
   have b9:=bNw (Below.refl wr.heap.size wr) (.cells (y9 (Y k)) 65)
   replace q1:=q1.kept b9
   replace hb:=bTn hb b9
   obtain⟨W9,e9⟩:∃ W9,wr.alloc (.cells (y9 (Y k)) 65)=W9:=⟨_,rfl⟩
   rw[e9] at q1 hb r7 r8
   have kn':∀ d' os,Calls Tryz.prog 112 #[.agg (c8 d h l v u x t n)] (grow (redrawn W9 d') os) fun e w''=>e=.returned (I4 X)∧∃ p:Regrown,w''=grow (redrawn W9 p.d) p.os:=fun d' os =>
    Calls.regrown_of ((kn _).mono fun e w' he=>⟨he.1,QlA he.2⟩)
   obtain⟨b0,b1,b2,b3,b4,b5,b6,b7,-,-,-,-⟩:=q1.c12
   replace r7:=cell_regrown r7
   replace r8:=cell_regrown r8
   clear q9
   have E9:=hdn e9
   clear e9 kn
   replace b0:=cell_regrown b0
   replace b1:=cell_regrown b1
   replace b2:=cell_regrown b2
   replace b3:=cell_regrown b3
   replace b4:=cell_regrown b4
   replace b5:=cell_regrown b5
   replace b6:=cell_regrown b6
   replace b7:=cell_regrown b7
   clear a0 a1 a2 a3 a4 a5 a6 a7 a8 a10 a11 g
   by_cases g1:((Y k 7).n:Int)=X
   ·have g1':(((Y k 7).n:Int) != X)=false:=by simp[g1]
    by_cases g2:((Y k 8).n:Int)=X
    ·have g2':(((Y k 8).n:Int) != X)=false:=by simp[g2]
     have good':Hid (∀ i,i<k+1→(m.un i:Int)=X∧(m.dn i:Int)=X):=fun i hi=>by
      by_cases e:i=k
      ·subst e;exact⟨by rw[←un];exact g1,by rw[←dn];exact g2⟩
      ·exact good.out i (by omega)
     clear un dn b9 g1 g2 good
     go_wp2
     rw[E9.out]
     refine wp_region_quiet_below (by kernel_rfl) (by kernel_rfl) ?_
     repeat (go_big_quiet_step (first|(go_at_call 112;exact kn' _ _)))
     refine wpQuiet_nil ?_
     intro _ hw'
     obtain⟨⟨dq,osq⟩,hw''⟩:=hw'
     subst hw''
     have hbq:=below_regrown W9 dq osq
     replace q1:=q1.kept hbq
     replace hb:=bTn hb hbq
     clear hbq kn' r7 r8 b0 b1 b2 b3 b4 b5 b6 b7
     clear a9
     go_wp2
     go_roundw
     case rel=>exact⟨k+1,by omega,by go_num,hb,q1,good'⟩
     case measure=>simp[intOf];omega
    ·have g2':(((Y k 8).n:Int) != X)=true:=by simp[g2]
     have e:=HN.out k hlt (.inr (by rw[←dn];exact g2))
     clear un dn b9 g1 g2 good
     subst e
     go_wp2
     rw[E9.out]
     refine wp_region_quiet_below (by kernel_rfl) (by kernel_rfl) ?_
     repeat (go_big_quiet_step (first|(go_at_call 112;exact kn' _ _)))
     refine wpQuiet_nil ?_
     intro _ hw'
     obtain⟨⟨dq,osq⟩,hw''⟩:=hw'
     subst hw''
     have hbq:=below_regrown W9 dq osq
     replace q1:=q1.kept hbq
     replace hb:=bTn hb hbq
     clear hbq kn' r7 r8 b0 b1 b2 b3 b4 b5 b6 b7
     all_goals
      go_wp2
      go_ret
      exact⟨rfl,hb⟩
   ·have g1':(((Y k 7).n:Int) != X)=true:=by simp[g1]
    have e:=HN.out k hlt (.inl (by rw[←un];exact g1))
    clear un dn b9 g1 good
    subst e
    go_wp2
    rw[E9.out]
    refine wp_region_quiet_below (by kernel_rfl) (by kernel_rfl) ?_
    repeat (go_big_quiet_step (first|(go_at_call 112;exact kn' _ _)))
    refine wpQuiet_nil ?_
    intro _ hw'
    obtain⟨⟨dq,osq⟩,hw''⟩:=hw'
    subst hw''
    have hbq:=below_regrown W9 dq osq
    replace q1:=q1.kept hbq
    replace hb:=bTn hb hbq
    clear hbq kn' r7 r8 b0 b1 b2 b3 b4 b5 b6 b7
    all_goals
     go_wp2
     go_ret
     exact⟨rfl,hb⟩
  ·have e:k=ml:=by omega
   subst e
   have e:=HY.out good.out
   subst e
   go_wp2
   go_ret
   exact⟨rfl,hb⟩
end
def From (base:Nat)(w w':World):Prop:=∀ p v,w.cell? p=some v→base≤p.block→w'.cell? p=some v
theorem From.of_only {base q:Nat}{w w':World}(o:Only q w w')(hq:q<base):From base w w':=fun p v hp hle=>o.cell hp (fun e=>absurd (show p.block=q by simpa using e) (by omega))
theorem From.trans {base:Nat}{w w' w'':World}(h:From base w w')(k:From base w' w''):From base w w'':=fun p v hp hle=>k p v (h p v hp hle) hle
def NewG (base:Nat)(w:World)(s:SL)(k:Nat)(R:Nat→SL)(Z:Nat→List Int):Prop:=∀ w',From base w w'→IsG w' s k R Z
def NewY (base:Nat)(w:World)(Y:Nat→SL)(U D:Nat→SL)(f:Nat→List Int)(un dn:Nat)(u d:Nat→List Int):Prop:=∀ w',From base w w'→IsY w' Y U D f un dn u d
theorem Qm8 {base:Nat}{w:World}{Y U D:Nat→SL}{f:Nat→List Int}{un dn:Nat}{u d:Nat→List Int}(h:∀ j,j<7→NewS base w (Y j) (f j))(hu:NewG base w (Y 7) un U u)(hd:NewG base w (Y 8) dn D d):NewY base w Y U D f un dn u d :=
 fun w' hf=>⟨fun j hj=>h j hj w' hf,hu w' hf,hd w' hf⟩
def Qdh (R:Nat→SL)(k:Nat):List Value:=(List.range k).map fun j=>(R j).v
theorem QcV (R:Nat→SL)(k:Nat):Qdh R (k+1)=Qdh R k++[(R k).v]:=by simp[Qdh,List.range_succ]
theorem Qcp {R R':Nat→SL}{k:Nat}(h:∀ j,j<k→R j=R' j):Qdh R k=Qdh R' k:=by
 unfold Qdh
 exact List.map_congr_left fun j hj=>by rw[h j (List.mem_range.1 hj)]
theorem Qna {base:Nat}{w:World}{v:Value}{k:Nat}{R:Nat→SL}{Z:Nat→List Int}(ho:w.ownsRow base 24 1 v k (Qdh R k))(hr:∀ j,j<k→NewS base w (R j) (Z j)):∃ s:SL,v=s.v∧NewG base w s k R Z:=by
 rcases ho.2 with⟨e,e'⟩|⟨g,cap,cur,e,hg,hh,hn,hm,_⟩
 ·subst e'
  exact⟨⟨none,0,0⟩,e,fun w' hf=>⟨rfl,(fun h=>by omega),fun _=>rfl,Nat.le_refl _,(fun x hx=>by cases hx),fun j hj=>by omega⟩⟩
 ·refine⟨⟨some ⟨g,0,none⟩,k,cap⟩,e,fun w' hf=>⟨rfl,fun _=>⟨_,rfl⟩,(fun h=>by cases h),hn,fun x hx j hj=>?_,fun j hj=>hr j hj w' hf⟩⟩
  obtain rfl:=Option.some.inj hx
  rw[e] at ho
  have c:=ho.cells (g:=g) rfl j (R j).v (by simp[Qdh,hj])
  refine hf _ _ c ?_
  have e2:((⟨g,0,none⟩:Addr).add j).block=g:=by unfold Addr.add;split<;>rfl
  omega
def Qdi (Y:Nat→Nat→SL)(n:Nat):List Value:=(List.range n).flatMap fun i=>(List.range 9).map fun r=>(Y i r).v
theorem Qba (Y:Nat→Nat→SL)(n:Nat):Qdi Y (n+1)=Qdi Y n++(List.range 9).map fun r=>(Y n r).v:=by simp[Qdi,List.range_succ]
theorem QjM (Y:Nat→Nat→SL)(n:Nat):(Qdi Y n).length=n*9:=by
 induction n with
 | zero=>rfl
 | succ n ih=>rw[Qba,List.length_append,ih];simp;omega
theorem Qlv (Y:Nat→Nat→SL)(n i r:Nat)(hi:i<n)(hr:r<9):(Qdi Y n)[i*9+r]? = some (Y i r).v:=by
 induction n with
 | zero=>omega
 | succ n ih =>
  rw[Qba]
  have hl:=QjM Y n
  by_cases e:i=n
  ·subst e
   rw[List.getElem?_append_right (by omega),hl,show i*9+r-i*9=r by omega]
   simp[hr]
  ·rw[List.getElem?_append_left (by omega)]
   exact ih (by omega)
theorem QdW {Y Y':Nat→Nat→SL}{n:Nat}(h:∀ i,i<n→∀ r,r<9→Y i r=Y' i r):Qdi Y n=Qdi Y' n:=by
 induction n with
 | zero=>rfl
 | succ n ih =>
  rw[Qba,Qba,ih fun i hi=>h i (by omega)]
  congr 1
  exact List.map_congr_left fun r hr=>by rw[h n (by omega) r (List.mem_range.1 hr)]
theorem Qm9 {base:Nat}{w:World}{v:Value}{E N O:SL}{Y U D:Nat→Nat→SL}{m:ModV}(ho:w.ownsRow base 65 9 v m.ln (Qdi Y m.ln))(hl:∀ i,i<m.ln→NewY base w (Y i) (U i) (D i) (m.f i) (m.un i) (m.dn i) (m.u i) (m.d i))
  (he:NewS base w E m.e) (hn:NewS base w N m.nm) (ho':NewS base w O m.o):∃ L:SL,v=L.v∧NewM base w E L N O Y U D m:=by
 rcases ho.2 with⟨e,e'⟩|⟨g,cap,cur,e,hg,hh,hcap,hm,_⟩
 ·exact⟨⟨none,0,0⟩,e,fun w' hf=>⟨he w' hf,hn w' hf,ho' w' hf,e'.symm,(fun h=>by omega),fun _=>rfl,Nat.le_refl _,(fun x hx=>by cases hx),fun i hi=>hl i hi w' hf⟩⟩
 ·refine⟨⟨some ⟨g,0,none⟩,m.ln,cap⟩,e,fun w' hf=>⟨he w' hf,hn w' hf,ho' w' hf,rfl,fun _=>⟨_,rfl⟩,(fun h=>by cases h),hcap,fun x hx i hi j hj=>?_,fun i hi=>hl i hi w' hf⟩⟩
  obtain rfl:=Option.some.inj hx
  rw[e] at ho
  have c:=ho.cells (g:=g) rfl (i*9+j) (Y i j).v (Qlv Y m.ln i j hi hj)
  rw[Addr.add_add]
  refine hf _ _ c ?_
  have e2:((⟨g,0,none⟩:Addr).add (i*9+j)).block=g:=by unfold Addr.add;split<;>rfl
  omega
theorem i65':∃ i,Tryz.prog.info? 65=some i∧i.zero=some (.agg #[nilS,nilS,nilS,nilS,nilS,nilS,nilS,nilS,nilS])∧i.size=9∧i.bytes=216:=by
 have:=Qoc
 cases h:Tryz.prog.info? 65 with
 | none=>rw[h] at this;cases this
 | some i=>rw[h] at this;simp at this;exact⟨i,rfl,this.1,this.2.1,this.2.2⟩
theorem i24':∃ i,Tryz.prog.info? 24=some i∧i.zero=some nilS∧i.size=1∧i.bytes=24:=by
 have:=Qoe
 cases h:Tryz.prog.info? 24 with
 | none=>rw[h] at this;cases this
 | some i=>rw[h] at this;simp at this;exact⟨i,rfl,this.1,this.2.1,this.2.2⟩
theorem IsS.carry {w w':World}{s:SL}{zs:List Int}(h:IsS w s zs)(hc:∀ p v,w.cell? p=some v→w'.cell? p=some v):IsS w' s zs:=⟨h.reads.carry hc,h.nil,h.cap⟩
theorem IsG.carry {w w':World}{s:SL}{k:Nat}{R:Nat→SL}{Z:Nat→List Int}(h:IsG w s k R Z)(hc:∀ p v,w.cell? p=some v→w'.cell? p=some v):IsG w' s k R Z :=
 ⟨h.len,h.some_,h.nil,h.cap,fun x hx j hj=>hc _ _ (h.cell x hx j hj),fun j hj=>(h.row j hj).carry hc⟩
theorem Qad.carry {w w':World}{E L N O:SL}{Y U D:Nat→Nat→SL}{m:ModV}(h:Qad w E L N O Y U D m)(hc:∀ p v,w.cell? p=some v→w'.cell? p=some v):Qad w' E L N O Y U D m :=
 ⟨h.e.carry hc,h.nm.carry hc,h.o.carry hc,h.len,h.some_,h.nil,h.cap,fun x hx i hi j hj=>hc _ _ (h.cell x hx i hi j hj),fun i hi=>⟨fun j hj=>((h.lay i hi).f j hj).carry hc,(h.lay i hi).u.carry hc,(h.lay i hi).d.carry hc⟩⟩
def Qa5 (m:ModV)(ne k:Nat):List Int :=
 if k=0 then m.e else if (k-1)/pl ne<m.ln then (if (k-1)%pl ne<7 then m.f ((k-1)/pl ne) ((k-1)%pl ne) else if ((k-1)%pl ne-7)%2=0 then m.u ((k-1)/pl ne) (((k-1)%pl ne-7)/2) else m.d ((k-1)/pl ne) (((k-1)%pl ne-7)/2))
 else if (k-1)%pl ne=0 then m.nm else m.o
theorem QaG (m:ModV)(ne i r:Nat)(hi:i<m.ln)(hr:r<7):Qa5 m ne (1+i*pl ne+r)=m.f i r:=by
 obtain⟨e1,e2⟩:=QcG ne i r (by unfold pl;omega)
 unfold Qa5
 rw[e1,e2,if_neg (by omega),if_pos hi,if_pos hr]
theorem Qd5 (m:ModV)(ne i j:Nat)(hi:i<m.ln)(hj:j<ne):Qa5 m ne (1+i*pl ne+7+2*j)=m.u i j:=by
 obtain⟨e1,e2⟩:=QcG ne i (7+2*j) (by unfold pl;omega)
 rw[←Nat.add_assoc] at e1 e2
 unfold Qa5
 rw[e1,e2,if_neg (by omega),if_pos hi,if_neg (by omega),if_pos (by omega),show (7+2*j-7)/2=j by omega]
theorem Qcv (m:ModV)(ne i j:Nat)(hi:i<m.ln)(hj:j<ne):Qa5 m ne (1+i*pl ne+7+2*j+1)=m.d i j:=by
 obtain⟨e1,e2⟩:=QcG ne i (7+2*j+1) (by unfold pl;omega)
 rw[←Nat.add_assoc,←Nat.add_assoc] at e1 e2
 unfold Qa5
 rw[e1,e2,if_neg (by omega),if_pos hi,if_neg (by omega),if_neg (by omega),show (7+2*j+1-7)/2=j by omega]
theorem Qcu (m:ModV)(ne:Nat):Qa5 m ne (1+m.ln*pl ne)=m.nm:=by
 obtain⟨e1,e2⟩:=QcG ne m.ln 0 (by unfold pl;omega)
 rw[Nat.add_zero] at e1 e2
 unfold Qa5
 rw[e1,e2,if_neg (by omega),if_neg (by omega),if_pos rfl]
theorem Qc3 (m:ModV)(ne:Nat):Qa5 m ne (1+m.ln*pl ne+1)=m.o:=by
 obtain⟨e1,e2⟩:=QcG ne m.ln 1 (by unfold pl;omega)
 unfold Qa5
 rw[e1,e2,if_neg (by omega),if_neg (by omega),if_neg (by omega)]
def QbP (S:Nat→List Int)(cnt:Nat→Nat):Nat→Int
 | 0=>0
 | k+1=>if ((S k).length:Int)=(cnt k:Int) then QbP S cnt k else 21
theorem Qlc (S:Nat→List Int)(cnt:Nat→Nat)(T:Nat)(h:∀ k,k<T→(S k).length=cnt k):QbP S cnt T=0:=by
 induction T with
 | zero=>rfl
 | succ T ih =>
  show (if _ then _ else _)=_
  rw[if_pos (by rw[h T (by omega)]),ih fun k hk=>h k (by omega)]
theorem Qmm (S:Nat→List Int)(cnt:Nat→Nat)(T k:Nat)(hk:k<T)(h:(S k).length≠cnt k):QbP S cnt T=21:=by
 induction T with
 | zero=>omega
 | succ T ih =>
  show (if _ then _ else _)=_
  by_cases e:k=T
  ·subst e
   rw[if_neg (by omega)]
  ·rw[ih (by omega)]
   split<;>rfl
theorem Blk.other' {t:TypeId}{w w':World}{b q:Nat}{cs:Array Value}(h:Blk t w b cs)(o:Only q w w')(ne:b≠q):Blk t w' b cs:=(o.block b h.lt (fun e=>ne (Option.some.inj e))).trans h
theorem Qix (h v u x t n:Int)(ln ne D DD XD UD VD mb vb Lc:Nat)(x0:Addr)(E L N O:SL)(Y U Dn:Nat→Nat→SL)(m:ModV)(e1:v*(D:Int)=(VD:Int))(e2:(D:Int)*(D:Int)=(DD:Int))(e3:x*(D:Int)=(XD:Int))(e4:u*(D:Int)=(UD:Int))
  (b0:D≤1000) (b1:VD≤1000) (b2:DD≤1000) (b3:XD≤1000) (b4:UD≤1000) (l1:ln≤4) (l2:ne≤4) (hne:0<ne) (w wM:World) (hM:Qad wM E L N O Y U Dn m) (hbM:Bw wM w)
  (qm:Blk 27 w mb #[I4 (D:Int),I4 h,I4 (ln:Int),I4 v,I4 u,I4 x,I4 t,I4 n,.slice E.a E.n E.c,.slice (some x0) ln Lc,.slice N.a N.n N.c,.slice O.a O.n O.c]) (qv:Blk 35 w vb #[I4 0]) (hv:wM.heap.size≤vb) (hmv:mb≠vb) (hla:L.a=some x0) (hln:m.ln=ln) (hun:∀ i,i<ln→m.un i=ne∧m.dn i=ne) :
  Calls Tryz.prog 85 #[Pt mb,.func (.func 86) #[] #[Pt vb]] w fun e w' =>
   e=.returned (.tuple #[])∧Blk 35 w' vb #[I4 (QbP (Qa5 m ne) (QaO ln ne D DD XD UD VD) (1+ln*pl ne+2))]∧Only vb w w':=by
 obtain⟨W0,eW⟩:∃ W0,w.alloc (.cells #[I4 (D:Int),I4 h,I4 (ln:Int),I4 v,I4 u,I4 x,I4 t,I4 n] 23)=W0:=⟨_,rfl⟩
 have bw:Bw w W0:=eW ▸ bNw (bT w) _
 have qc:Blk 23 W0 w.heap.size #[I4 (D:Int),I4 h,I4 (ln:Int),I4 v,I4 u,I4 x,I4 t,I4 n]:=eW ▸ Blk.new 23 w _
 have hvb:vb<w.heap.size:=qv.lt
 have hmb:mb<w.heap.size:=qm.lt
 obtain⟨cnt,ec⟩:∃ c,QaO ln ne D DD XD UD VD=c:=⟨_,rfl⟩
 obtain⟨T,eT⟩:∃ T,1+ln*pl ne+2=T:=⟨_,rfl⟩
 have md:∀ W,Only vb W0 W→Qad W E L N O Y U Dn m:=fun W o=>hM.carry fun p y hp=>by
  have lt:=World.block_lt_of_cell? _ _ hp
  refine o.cell ((bw.cell ?_).trans ((hbM.cell lt).trans hp)) (fun e=>by simp at e;omega)
  have:=hbM.size
  omega
 have uas:∀ i,i<ln→∃ a,(Y i 7).a=some a:=fun i hi=>(hM.lay i (by rw[hln];exact hi)).u.some_ (by rw[(hun i hi).1];exact hne)
 have das:∀ i,i<ln→∃ a,(Y i 8).a=some a:=fun i hi=>(hM.lay i (by rw[hln];exact hi)).d.some_ (by rw[(hun i hi).2];exact hne)
 obtain⟨UA,hUA⟩:=Go.Deep.choose_lt uas
 obtain⟨DA,hDA⟩:=Go.Deep.choose_lt das
 have cl:∀ W,Only vb W0 W→∀ i,i<ln→∀ j,j<9→W.cell? ((x0.add (i*9)).add j)=some (Y i j).v:=fun W o i hi j hj=>(md W o).cell x0 hla i (by rw[hln];exact hi) j hj
 have cm:∀ W,Only vb W0 W→∀ o' y,(#[I4 (D:Int),I4 h,I4 (ln:Int),I4 v,I4 u,I4 x,I4 t,I4 n,.slice E.a E.n E.c,.slice (some x0) ln Lc,.slice N.a N.n N.c,.slice O.a O.n O.c]:Array Value)[o']? = some y→W.cell? ⟨mb,o',none⟩=some y:=fun W o o' y hy=>o.cell ((qm.kept bw).cell o' hy) (fun e=>hmv (by simpa using e))
 have hold:∀ W,Only vb W0 W→Held mb w.heap.size ln Lc ne x0 UA DA (fun i=>(Y i 7).c) (fun i=>(Y i 8).c) (D:Int) v u x W:=fun W o=>by
  obtain⟨c0,c1,c2,c3,c4,c5,c6,c7⟩:=(qc.other' o (by omega)).cfg
  refine⟨cm W o 9 _ rfl,c0,c3,c4,c5,fun i hi=>?_,fun i hi=>?_⟩
  ·have:=cl W o i hi 7 (by omega)
   have g:=(hM.lay i (by rw[hln];exact hi)).u.len
   rw[(hun i hi).1] at g
   rw[SL.v,hUA i hi,g] at this
   exact this
  ·have:=cl W o i hi 8 (by omega)
   have g:=(hM.lay i (by rw[hln];exact hi)).d.len
   rw[(hun i hi).2] at g
   rw[SL.v,hDA i hi,g] at this
   exact this
 have emb:∀ W,Only vb W0 W→IsS W E m.e:=fun W o=>(md W o).e
 have nor:∀ W,Only vb W0 W→IsS W N m.nm:=fun W o=>(md W o).nm
 have outw:∀ W,Only vb W0 W→IsS W O m.o:=fun W o=>(md W o).o
 have cu:∀ W,Only vb W0 W→∀ i,i<ln→∀ j,j<ne→W.cell? ((UA i).add j)=some (U i j).v:=fun W o i hi j hj=>((md W o).lay i (by rw[hln];exact hi)).u.cell _ (hUA i hi) j (by rw[(hun i hi).1];exact hj)
 have cd:∀ W,Only vb W0 W→∀ i,i<ln→∀ j,j<ne→W.cell? ((DA i).add j)=some (Dn i j).v:=fun W o i hi j hj=>((md W o).lay i (by rw[hln];exact hi)).d.cell _ (hDA i hi) j (by rw[(hun i hi).2];exact hj)
 have ru:∀ W,Only vb W0 W→∀ i,i<ln→∀ j,j<ne→IsS W (U i j) (m.u i j):=fun W o i hi j hj=>((md W o).lay i (by rw[hln];exact hi)).u.row j (by rw[(hun i hi).1];exact hj)
 have rdn:∀ W,Only vb W0 W→∀ i,i<ln→∀ j,j<ne→IsS W (Dn i j) (m.d i j):=fun W o i hi j hj=>((md W o).lay i (by rw[hln];exact hi)).d.row j (by rw[(hun i hi).2];exact hj)
 have le:∀ i,i<ln→1+i*pl ne+pl ne≤1+ln*pl ne:=fun i hi=>by
  have:=Nat.mul_le_mul_right (pl ne) (show i+1≤ln by omega)
  rw[Nat.add_mul,Nat.one_mul] at this
  omega
 have p7:pl ne=7+2*ne:=rfl
 have lst:∀ i,i<ln→∀ r,r<7→cnt (1+i*pl ne+r)=preC D DD XD r∧1+i*pl ne+r<T:=fun i hi r hr=>by
  have:=le i hi
  rw[←ec]
  exact⟨Qbq i r hi hr,by omega⟩
 have st:∀ (W:World),Only vb W0 W→∀ k,k<T→∀ (a:Addr) (c:Nat) (sl:SL) {zs:List Int},W.cell? a=some sl.v→Qa5 m ne k=zs→cnt k=c→IsS W sl zs→Blk 35 W vb #[I4 (QbP (Qa5 m ne) cnt k)] →
   Calls Tryz.prog 86 #[.pointer (some a),I4 (c:Int),Pt vb] W.drew fun e W'=>e=.returned (.tuple #[])∧Blk 35 W' vb #[I4 (QbP (Qa5 m ne) cnt (k+1))]∧Only vb W0 W':=fun W o k hk a c sl zs ha hz hc hs hq=>by
  refine (Qlp a vb sl.a sl.n sl.c (c:Int) _ W.drew ha hq).mono ?_
  rintro e W' ⟨he,q',o'⟩
  refine⟨he,?_,(o.drewN 1).trans o'⟩
  rw[←hs.reads.len,←hz,←hc] at q'
  exact q'
 have start:Blk 35 W0 vb #[I4 (QbP (Qa5 m ne) cnt 0)]:=qv.kept bw
 have:=QlO (D:Int) h (ln:Int) v u x t n w mb vb ln Lc ne x0 UA DA (fun i=>(Y i 7).c) (fun i=>(Y i 8).c) (VD:Int) (DD:Int) (XD:Int) (UD:Int) e1 e2 e3 e4 (by rw[Int.mul_comm];exact e4)
  (Qcq (by omega)) (Qcq (by omega)) (Qcq (by omega)) (Qcq (by omega)) (by omega) (by omega) (fun W=>Only vb W0 W) (fun W hW=>hold W hW)
  (fun W=>Blk 35 W vb #[I4 (QbP (Qa5 m ne) cnt (0))]) (fun W=>Blk 35 W vb #[I4 (QbP (Qa5 m ne) cnt (1+ln*pl ne+1))]) (fun W=>Blk 35 W vb #[I4 (QbP (Qa5 m ne) cnt (T))]) (fun i j W=>Blk 35 W vb #[I4 (QbP (Qa5 m ne) cnt (1+i*pl ne+j))]) (fun i j W=>Blk 35 W vb #[I4 (QbP (Qa5 m ne) cnt (1+i*pl ne+7+2*j))]) (fun i j W=>Blk 35 W vb #[I4 (QbP (Qa5 m ne) cnt (1+i*pl ne+7+2*j+1))])
  ⟨qm.cell 0 rfl,qm.cell 1 rfl,qm.cell 2 rfl,qm.cell 3 rfl,qm.cell 4 rfl,qm.cell 5 rfl,qm.cell 6 rfl,qm.cell 7 rfl⟩ (eW ▸ start) (eW ▸ Only.refl _ _)
  (fun W hs hr=>by
   have:=st W hr 0 (by omega) ⟨mb,8,none⟩ VD E (cm W hr 8 _ rfl) rfl (by rw[←ec];rfl) (emb W hr) hs
   rwa [show 0+1=1+0*pl ne+0 by omega] at this)
  (fun i hi W hs hr=>st W hr _ (lst i hi 0 (by omega)).2 _ _ (Y i 0) (cl W hr i hi 0 (by omega)) (QaG m ne i 0 (by rw[hln];exact hi) (by omega)) (lst i hi 0 (by omega)).1 ((md W hr).lay i (by rw[hln];exact hi) |>.f 0 (by omega)) hs)
  (fun i hi W hs hr=>st W hr _ (lst i hi 1 (by omega)).2 _ _ (Y i 1) (cl W hr i hi 1 (by omega)) (QaG m ne i 1 (by rw[hln];exact hi) (by omega)) (lst i hi 1 (by omega)).1 ((md W hr).lay i (by rw[hln];exact hi) |>.f 1 (by omega)) hs)
  (fun i hi W hs hr=>st W hr _ (lst i hi 2 (by omega)).2 _ _ (Y i 2) (cl W hr i hi 2 (by omega)) (QaG m ne i 2 (by rw[hln];exact hi) (by omega)) (lst i hi 2 (by omega)).1 ((md W hr).lay i (by rw[hln];exact hi) |>.f 2 (by omega)) hs)
  (fun i hi W hs hr=>st W hr _ (lst i hi 3 (by omega)).2 _ _ (Y i 3) (cl W hr i hi 3 (by omega)) (QaG m ne i 3 (by rw[hln];exact hi) (by omega)) (lst i hi 3 (by omega)).1 ((md W hr).lay i (by rw[hln];exact hi) |>.f 3 (by omega)) hs)
  (fun i hi W hs hr=>st W hr _ (lst i hi 4 (by omega)).2 _ _ (Y i 4) (cl W hr i hi 4 (by omega)) (QaG m ne i 4 (by rw[hln];exact hi) (by omega)) (lst i hi 4 (by omega)).1 ((md W hr).lay i (by rw[hln];exact hi) |>.f 4 (by omega)) hs)
  (fun i hi W hs hr=>st W hr _ (lst i hi 5 (by omega)).2 _ _ (Y i 5) (cl W hr i hi 5 (by omega)) (QaG m ne i 5 (by rw[hln];exact hi) (by omega)) (lst i hi 5 (by omega)).1 ((md W hr).lay i (by rw[hln];exact hi) |>.f 5 (by omega)) hs)
  (fun i hi W hs hr=>st W hr _ (lst i hi 6 (by omega)).2 _ _ (Y i 6) (cl W hr i hi 6 (by omega)) (QaG m ne i 6 (by rw[hln];exact hi) (by omega)) (lst i hi 6 (by omega)).1 ((md W hr).lay i (by rw[hln];exact hi) |>.f 6 (by omega)) hs)
  (fun i hi j hj W hs hr=>st W hr _ (by have:=le i hi;omega) _ UD (U i j) (cu W hr i hi j hj) (Qd5 m ne i j (by rw[hln];exact hi) hj) (by rw[←ec];exact Qcy i j hi hj) (ru W hr i hi j hj) hs)
  (fun i hi j hj W hs hr=>by
   have:=st W hr _ (by have:=le i hi;omega) ((DA i).add j) UD (Dn i j) (cd W hr i hi j hj) (Qcv m ne i j (by rw[hln];exact hi) hj) (by rw[←ec];exact Qbr i j hi hj) (rdn W hr i hi j hj) hs
   simpa [Nat.mul_add,Nat.add_assoc] using this)
  (fun i hi W hs=>by
   have e:1+(i+1)*pl ne+0=1+i*pl ne+7+2*ne:=by rw[Nat.add_mul,Nat.one_mul];omega
   show Blk 35 W vb #[I4 (QbP (Qa5 m ne) cnt (1+(i+1)*pl ne+0))]
   rw[e]
   exact hs)
  (fun W hs hr=>st W hr _ (by omega) ⟨mb,10,none⟩ D N (cm W hr 10 _ rfl) (by have:=Qcu m ne;rwa [hln] at this) (by rw[←ec];exact Qbp) (nor W hr) hs)
  (fun W hs hr=>by
   have:=st W hr _ (by omega) ⟨mb,11,none⟩ VD O (cm W hr 11 _ rfl) (by have:=Qc3 m ne;rwa [hln] at this) (by rw[←ec];exact QbW) (outw W hr) hs
   rwa [show 1+ln*pl ne+1+1=T by omega] at this)
 rw[ec,eT]
 exact this.mono fun e w' hh=>⟨hh.1,hh.2.1,(Only.of_below bw).trans hh.2.2⟩
section
section
variable {ln ne D DD XD UD VD:Nat}
def perN (D DD XD UD ne:Nat):Nat:=D+DD+DD+DD+DD+D+XD+ne*(UD+UD)
theorem Qjs (i:Nat)(hi:i<ln):offs (QaO ln ne D DD XD UD VD) (1+i*pl ne+7)=offs (QaO ln ne D DD XD UD VD) (1+i*pl ne)+(D+DD+DD+DD+DD+D+XD):=by
 have c:=fun r (hr:r<7)=>Qbq (ln:=ln) (ne:=ne) (D:=D) (DD:=DD) (XD:=XD) (UD:=UD) (VD:=VD) i r hi hr
 have c0:=c 0 (by omega);have c1:=c 1 (by omega);have c2:=c 2 (by omega);have c3:=c 3 (by omega);have c4:=c 4 (by omega);have c5:=c 5 (by omega);have c6:=c 6 (by omega)
 clear c
 simp only[preC,Nat.add_zero] at c0 c1 c2 c3 c4 c5 c6
 obtain⟨k,ek⟩:∃ k,1+i*pl ne=k:=⟨_,rfl⟩
 rw[ek] at c0 c1 c2 c3 c4 c5 c6 ⊢
 obtain⟨g,eg⟩:∃ g,QaO ln ne D DD XD UD VD=g:=⟨_,rfl⟩
 rw[eg] at c0 c1 c2 c3 c4 c5 c6 ⊢
 have e:offs g (k+7)=offs g k+g k+g (k+1)+g (k+2)+g (k+3)+g (k+4)+g (k+5)+g (k+6):=rfl
 rw[e,c0,c1,c2,c3,c4,c5,c6]
 simp
 omega
theorem QkZ (i:Nat)(hi:i<ln)(j:Nat)(hj:j≤ne):offs (QaO ln ne D DD XD UD VD) (1+i*pl ne+7+2*j)=offs (QaO ln ne D DD XD UD VD) (1+i*pl ne+7)+j*(UD+UD):=by
 induction j with
 | zero=>simp
 | succ j ih =>
  have a:=Qcy (ln:=ln) (ne:=ne) (D:=D) (DD:=DD) (XD:=XD) (UD:=UD) (VD:=VD) i j hi (by omega)
  have b:=Qbr (ln:=ln) (ne:=ne) (D:=D) (DD:=DD) (XD:=XD) (UD:=UD) (VD:=VD) i j hi (by omega)
  rw[show 1+i*pl ne+7+2*(j+1)=1+i*pl ne+7+2*j+1+1 by omega]
  show offs _ (1+i*pl ne+7+2*j)+QaO ln ne D DD XD UD VD (1+i*pl ne+7+2*j)+QaO ln ne D DD XD UD VD (1+i*pl ne+7+2*j+1)=_
  rw[a,b,ih (by omega),Nat.add_mul]
  omega
theorem Qid (i:Nat)(hi:i≤ln):offs (QaO ln ne D DD XD UD VD) (1+i*pl ne)=VD+i*perN D DD XD UD ne:=by
 induction i with
 | zero=>simp[offs,QaO]
 | succ i ih =>
  have e:1+(i+1)*pl ne=1+i*pl ne+7+2*ne:=by rw[Nat.add_mul,Nat.one_mul];unfold pl;omega
  rw[e,QkZ i (by omega) ne nL,Qjs i (by omega),ih (by omega),Nat.add_mul,Nat.one_mul]
  unfold perN
  omega
theorem Qmd:offs (QaO ln ne D DD XD UD VD) (1+ln*pl ne+2)=VD+ln*perN D DD XD UD ne+D+VD:=by
 show offs _ (1+ln*pl ne)+QaO ln ne D DD XD UD VD (1+ln*pl ne)+QaO ln ne D DD XD UD VD (1+ln*pl ne+1)=_
 rw[Qid ln nL,Qbp,QbW]
end
def seg (cnt:Nat→Nat)(ws:List Int)(k:Nat):List Int:=(ws.drop (offs cnt k)).take (cnt k)
end
def allT (l x:Int):Nat:=1+l.toNat*pl (netsN x)+2
def Qco (d l v u x:Int):Nat→Nat:=QaO l.toNat (netsN x) d.toNat (d*d).toNat (x*d).toNat (u*d).toNat (v*d).toNat
def Qcb (d l v u x:Int)(ws:List Int):ModV:=Qar l.toNat (netsN x) (seg (Qco d l v u x) ws)
def Qaf (d h l v u x t n:Int)(m:ModV):Int:=if okB d h l v u x t n then (if QbQ l x m then QbP (Qa5 m (netsN x)) (Qco d l v u x) (allT l x) else 21) else 20
structure Dims (d l v u x:Int):Prop where
 ed:d=(d.toNat:Int)
 el:l=(l.toNat:Int)
 e1:v*d=((v*d).toNat:Int)
 e2:d*d=((d*d).toNat:Int)
 e3:x*d=((x*d).toNat:Int)
 e4:u*d=((u*d).toNat:Int)
 en:max x 1=(netsN x:Int)
 b0:d.toNat≤8
 b1:(v*d).toNat≤1000
 b2:(d*d).toNat≤1000
 b3:(x*d).toNat≤1000
 b4:(u*d).toNat≤1000
 l0:1≤l.toNat
 l1:l.toNat≤2
 n0:1≤netsN x
 n1:netsN x≤4
 d0:2≤d.toNat
 sz:szZ d l v u x=(offs (Qco d l v u x) (allT l x):Int)
 sz0:0<offs (Qco d l v u x) (allT l x)
 sz1:offs (Qco d l v u x) (allT l x)≤10000
theorem Qb9 {d h l v u x t n:Int}(ok:okB d h l v u x t n=true):Dims d l v u x:=by
 have r:=Qbk ok
 obtain⟨hx,n0,n1⟩:=r.nets
 have d0:=r.d0;have d1:=r.d1;have l0:=r.l0;have l1:=r.l1;have v0:=r.v0;have v1:=r.v1;have u0:=r.u0;have u1:=r.u1;have x0:=r.x0;have x1:=r.x1
 have p1:=Qah (show 0≤v by omega) v1 (show 0≤d by omega) d1
 have p2:=Qah (show 0≤d by omega) d1 (show 0≤d by omega) d1
 have p3:=Qah x0 x1 (show 0≤d by omega) d1
 have p4:=Qah (show 0≤u by omega) u1 (show 0≤d by omega) d1
 have pb:=Qfq r
 have pl':=Qah (show 0≤l by omega) l1 pb.1 pb.2
 have sz:szZ d l v u x=(offs (Qco d l v u x) (allT l x):Int):=by
  unfold Qco allT
  rw[Qmd]
  unfold szZ perN perZ
  rw[Int.natCast_add,Int.natCast_add,Int.natCast_add,Int.natCast_mul,Int.toNat_of_nonneg p1.1,Int.toNat_of_nonneg (show 0≤d by omega),Int.toNat_of_nonneg (show 0≤l by omega)]
  congr 3
  rw[Int.natCast_add,Int.natCast_add,Int.natCast_add,Int.natCast_add,Int.natCast_add,Int.natCast_add,Int.natCast_add,Int.natCast_mul,Int.natCast_add,Int.toNat_of_nonneg p2.1,Int.toNat_of_nonneg (show 0≤d by omega),Int.toNat_of_nonneg p3.1,Int.toNat_of_nonneg p4.1]
 have hs:0<szZ d l v u x∧szZ d l v u x≤10000:=by unfold szZ;omega
 exact⟨by omega,by omega,by omega,by omega,by omega,by omega,hx,by omega,by omega,by omega,by omega,by omega,by omega,by omega,n0,n1,by omega,sz,by omega,by omega⟩
theorem Qip (d h l v u x t n:Int)(E L N O:SL)(Y U D:Nat→Nat→SL)(m:ModV)(w:World)(hM:Qad w E L N O Y U D m)(hl0:1≤l)(hl1:l≤1000) :
  Calls Tryz.prog 84 #[.agg #[I4 d,I4 h,I4 l,I4 v,I4 u,I4 x,I4 t,I4 n,.slice E.a E.n E.c,.slice L.a L.n L.c,.slice N.a N.n N.c,.slice O.a O.n O.c]] w fun e w'=>e=.returned (.bool (QbQ l x m))∧Bw w w':=by
 have len:=hM.len
 by_cases g:(m.ln:Int)=l
 ·obtain⟨x0,hx0⟩:=hM.some_ (by omega)
  rw[hx0]
  refine Qio d h v u x t n E L N O Y U D m w hM L.n L.c x0 rfl rfl hx0 (by omega) (max x 1) (QbQ l x m) (fun i hi hx=>?_) (fun k=>?_) l (by rw[len];simp[g]) (QfT d h l v u x t n)
  ·exact decide_eq_false fun k=>by have:=k.2 i (by omega);omega
  ·exact decide_eq_true ⟨g,fun i hi=>k i (by omega)⟩
 ·have e:QbQ l x m=false:=decide_eq_false fun k=>g k.1
  rw[e]
  obtain⟨La,eA⟩:∃ q,L.a=q:=⟨_,rfl⟩
  obtain⟨ml,eL⟩:∃ q,L.n=q:=⟨_,rfl⟩
  obtain⟨Lc,eC⟩:∃ q,L.c=q:=⟨_,rfl⟩
  have hb:=bNw (bS w) (.cells #[I4 d,I4 h,I4 l,I4 v,I4 u,I4 x,I4 t,I4 n,.slice E.a E.n E.c,.slice La ml Lc,.slice N.a N.n N.c,.slice O.a O.n O.c] 27)
  rw[eA,eL,eC]
  have g':((ml:Int)==l)=false:=by rw[←eL,len];simp[g]
  clear g e len eA eL eC hM
  go_enter Tryz.func84,Tryz.ntmps84
  go_wp2
  go_ret
  exact⟨rfl,hb⟩
theorem QjK (d h l v u x t n:Int)(E N O:SL)(La:Option Addr)(ml Lc:Nat)(B1 B2:Bool)(Z:Int)(w:World)
  (k9:∀ w,Calls Tryz.prog 35 #[.agg (c8 d h l v u x t n)] w fun e w'=>e=.returned (.bool B1)∧Bw w w')
  (k43:B1=true→∀ W,Bw w W→Calls Tryz.prog 84 #[.agg #[I4 d,I4 h,I4 l,I4 v,I4 u,I4 x,I4 t,I4 n,E.w,.slice La ml Lc,N.w,O.w]] W fun e w'=>e=.returned (.bool B2)∧Bw W w')
  (k32:B1=true→B2=true→∀ W2:World,Bw w W2→Blk 27 W2 w.heap.size #[I4 d,I4 h,I4 l,I4 v,I4 u,I4 x,I4 t,I4 n,E.w,.slice La ml Lc,N.w,O.w]→w.heap.size<W2.heap.size →
   Calls Tryz.prog 85 #[Pt w.heap.size,.func (.func 86) #[] #[Pt W2.heap.size]] (W2.alloc (.cells #[I4 0] 35)) fun e w'=>e=.returned (.tuple #[])∧Blk 35 w' W2.heap.size #[I4 Z]∧Only W2.heap.size (W2.alloc (.cells #[I4 0] 35)) w') :
  Calls Tryz.prog 47 #[.agg #[I4 d,I4 h,I4 l,I4 v,I4 u,I4 x,I4 t,I4 n,E.w,.slice La ml Lc,N.w,O.w]] w fun e w'=>e=.returned (I4 (if B1 then (if B2 then Z else 21) else 20))∧Bw w w':=by
 have hb:=bNw (bS w) (.cells #[I4 d,I4 h,I4 l,I4 v,I4 u,I4 x,I4 t,I4 n,E.w,.slice La ml Lc,N.w,O.w] 27)
 have q0:=Blk.new 27 w #[I4 d,I4 h,I4 l,I4 v,I4 u,I4 x,I4 t,I4 n,E.w,.slice La ml Lc,N.w,O.w]
 have HQ:=hdn q0
 clear q0
 cases B1 with
 | false =>
  clear k43 k32
  show Calls Tryz.prog 47 _ w fun e w'=>e=.returned (I4 20)∧_
  go_enter Tryz.func47,Tryz.ntmps47
  go_wp2_with (first|(go_at_call 35;refine (k9 _).mono ?_;rintro e W1 ⟨rfl,h1⟩;replace hb:=bTn hb h1;clear h1))
  go_ret
  exact⟨rfl,hb⟩
 | true =>
  replace k43:=k43 rfl
  cases B2 with
  | false =>
   clear k32
   show Calls Tryz.prog 47 _ w fun e w'=>e=.returned (I4 21)∧_
   go_enter Tryz.func47,Tryz.ntmps47
   go_wp2_with (first
    | (go_at_call 35;refine (k9 _).mono ?_;rintro e W1 ⟨rfl,h1⟩;replace hb:=bTn hb h1;have q1:=HQ.out.kept h1;obtain⟨a0,a1,a2,a3,a4,a5,a6,a7,a8,a9,a10,a11⟩:=q1.c12;clear h1)
    | (go_at_call 84;refine (k43 _ hb).mono ?_;rintro e W2 ⟨rfl,h2⟩;replace hb:=bTn hb h2;clear h2))
   go_ret
   exact⟨rfl,hb⟩
  | true =>
   replace k32:=k32 rfl rfl
   show Calls Tryz.prog 47 _ w fun e w'=>e=.returned (I4 Z)∧_
   go_enter Tryz.func47,Tryz.ntmps47
   go_wp2_with (first
    | (go_at_call 35;refine (k9 _).mono ?_;rintro e W1 ⟨rfl,h1⟩;replace hb:=bTn hb h1;have q1:=HQ.out.kept h1;obtain⟨a0,a1,a2,a3,a4,a5,a6,a7,a8,a9,a10,a11⟩:=q1.c12;clear h1)
    | (go_at_call 84;refine (k43 _ hb).mono ?_;rintro e W2 ⟨rfl,h2⟩;replace hb:=bTn hb h2;replace q1:=q1.kept h2;clear h2 a0 a1 a2 a3 a4 a5 a6 a7 a8 a9 a10 a11)
    | (go_at_call 85;refine (k32 _ hb q1 q1.lt).mono ?_;rintro e W3 ⟨rfl,q3,o3⟩;have c3:=q3.cell 0 rfl))
   go_ret
   refine⟨rfl,?_⟩
   have:=hb.size
   exact Only.below (bNw hb _) this (by simp;omega) o3
theorem Qa9 (d h l v u x t n:Int)(E L N O:SL)(Y U D:Nat→Nat→SL)(m:ModV)(w:World)(hM:Qad w E L N O Y U D m) :
  Calls Tryz.prog 47 #[.agg #[I4 d,I4 h,I4 l,I4 v,I4 u,I4 x,I4 t,I4 n,E.w,L.w,N.w,O.w]] w fun e w'=>e=.returned (I4 (Qaf d h l v u x t n m))∧Bw w w':=by
 refine QjK d h l v u x t n E N O L.a L.n L.c (okB d h l v u x t n) (QbQ l x m) (QbP (Qa5 m (netsN x)) (Qco d l v u x) (allT l x)) w (QcU d h l v u x t n) (fun ok W hb=>?_) (fun ok fr W2 hb q hlt=>?_)
 ·have r:=Qbk ok
  exact Qip d h l v u x t n E L N O Y U D m W (hM.below hb) r.l0 (by have:=r.l1;omega)
 ·have dm:=Qb9 ok
  have fr':=of_decide_eq_true fr
  have dl:=dm.el
  have hln:m.ln=l.toNat:=by have:=fr'.1;omega
  obtain⟨x0,hx0⟩:=hM.some_ (by have:=dm.l0;omega)
  have b4:=bNw (Below.refl W2.heap.size W2) (.cells #[I4 0] 35)
  have key:=Qix h v u x t n l.toNat (netsN x) d.toNat (d*d).toNat (x*d).toNat (u*d).toNat (v*d).toNat w.heap.size W2.heap.size L.c x0 E L N O Y U D m (by rw[←dm.ed];exact dm.e1) (by rw[←dm.ed];exact dm.e2) (by rw[←dm.ed];exact dm.e3) (by rw[←dm.ed];exact dm.e4)
   (by have:=dm.b0;omega) dm.b1 dm.b2 dm.b3 dm.b4 (by have:=dm.l1;omega) dm.n1 dm.n0 (W2.alloc (.cells #[I4 0] 35)) w hM (bTn hb b4) (by rw[hx0,hM.len,hln] at q;rw[←dm.ed,←dm.el];exact q.kept b4) (Blk.new 35 W2 _) (by omega) (by omega) hx0 hln
   (fun i hi=>by have:=fr'.2 i (by omega);rw[dm.en] at this;omega)
  exact key
theorem Qmn (S:Nat→List Int)(cnt:Nat→Nat)(T:Nat)(h:QbP S cnt T=0):∀ k,k<T→(S k).length=cnt k:=fun k hk=>by
 by_cases e:(S k).length=cnt k
 ·exact e
 ·rw[Qmm S cnt T k hk e] at h
  omega
theorem checked {d h l v u x t n:Int}{m:ModV}(hz:Qaf d h l v u x t n m=0):okB d h l v u x t n=true∧m.ln=l.toNat∧(∀ i,i<m.ln→m.un i=netsN x∧m.dn i=netsN x)∧∀ k,k<allT l x→(Qa5 m (netsN x) k).length=Qco d l v u x k:=by
 unfold Qaf at hz
 cases ok:okB d h l v u x t n with
 | false=>rw[ok] at hz;simp at hz
 | true =>
  rw[ok] at hz
  cases fr:QbQ l x m with
  | false=>rw[fr] at hz;simp at hz
  | true =>
   rw[fr] at hz
   simp only[if_true] at hz
   have dm:=Qb9 ok
   have fr':=of_decide_eq_true fr
   have dl:=dm.el
   refine⟨rfl,by omega,fun i hi=>?_,Qmn _ _ _ hz⟩
   have:=fr'.2 i hi
   rw[dm.en] at this
   omega
def Keeps (t:TypeId)(w w':World):Prop:=∀ (b:Nat) (cur:Array Value) (fz:Nat × Nat),w.heap[b]? = some (Obj.cells cur t fz)→w'.heap[b]? = some (Obj.cells cur t fz)
theorem Keeps.refl (t:TypeId)(w:World):Keeps t w w:=fun _ _ _ h=>h
theorem Keeps.trans {t:TypeId}{w w' w'':World}(h:Keeps t w w')(k:Keeps t w' w''):Keeps t w w'':=fun b cur fz e=>k b cur fz (h b cur fz e)
theorem Keeps.of_below {t:TypeId}{w w':World}(hb:Bw w w'):Keeps t w w':=fun b cur fz e=>(hb.block b (Array.getElem?_eq_some_iff.1 e).1).trans e
theorem Keeps.of_grown {t t':TypeId}{w w':World}{g:Nat}{c:Array Value}{f:Nat × Nat}(h:w.grownBy w' (some g))(hg:w.heap[g]? = some (.cells c t' f))(ht:t≠t'):Keeps t w w':=fun b cur fz e=>by
 refine (h.block b (Array.getElem?_eq_some_iff.1 e).1 fun k=>?_).trans e
 obtain rfl:=Option.some.inj k
 rw[hg] at e
 simp at e
 exact ht e.2.1.symm
theorem Keeps.of_only {t t':TypeId}{w w':World}{g:Nat}{c:Array Value}(h:Only g w w')(hg:Blk t' w g c)(ht:t≠t'):Keeps t w w':=Keeps.of_grown h hg ht
theorem Keeps.of_own {t t':TypeId}{w w':World}{B n sz:Nat}{v:Value}{xs:List Value}(h:w.grownBy w' v.ownBlock)(ho:w.ownsRow B t' sz v n xs)(ht:t≠t'):Keeps t w w':=by
 rcases ho.2 with⟨e,_⟩|⟨g,cap,cur,e,_,hg,_⟩
 ·rw[e] at h
  exact fun b cur fz e=>(h.block b (Array.getElem?_eq_some_iff.1 e).1 (by simp[Value.ownBlock])).trans e
 ·rw[e] at h
  exact Keeps.of_grown h hg ht
theorem Keeps.blk {t:TypeId}{w w':World}{b:Nat}{cs:Array Value}(h:Keeps t w w')(q:Blk t w b cs):Blk t w' b cs:=h b cs (0,0) q
theorem Keeps.own {t:TypeId}{w w':World}{B n sz:Nat}{v:Value}{xs:List Value}(h:Keeps t w w')(ho:w.ownsRow B t sz v n xs):w'.ownsRow B t sz v n xs:=by
 refine⟨ho.1,?_⟩
 rcases ho.2 with h2|⟨g,cap,cur,hv,hg,hh,r⟩
 ·exact .inl h2
 ·exact .inr ⟨g,cap,cur,hv,hg,h g cur (0,0) hh,r⟩
structure TS (B:Nat) (w:World) (s:SL) (zs:List Int):Prop where
 is:IsS w s zs
 blk:∀ x,s.a=some x→B≤x.block∧∃ cur fz,w.heap[x.block]? = some (.cells cur 73 fz)
theorem TS.step {B:Nat}{w w':World}{s:SL}{zs:List Int}(h:TS B w s zs)(k:Keeps 73 w w'):TS B w' s zs:=by
 refine⟨⟨⟨h.is.reads.len,h.is.reads.max,h.is.reads.wf,h.is.reads.some_,fun x hx i hi=>?_⟩,h.is.nil,h.is.cap⟩,fun x hx=>?_⟩
 ·obtain⟨_,cur,fz,e⟩:=h.blk x hx
  have c:=h.is.reads.cell x hx i hi
  have eb:(x.add i).block=x.block:=by unfold Addr.add;split<;>rfl
  have:=World.cell?_of_block (w:=w) (w':=w') (a:=x.add i) (by rw[eb,e];exact k _ _ _ e)
  rw[this]
  exact c
 ·obtain⟨h1,cur,fz,e⟩:=h.blk x hx
  exact⟨h1,cur,fz,k _ _ _ e⟩
theorem TS.below {B:Nat}{w w':World}{s:SL}{zs:List Int}(h:TS B w s zs)(hb:Bw w w'):TS B w' s zs:=h.step (Keeps.of_below hb)
theorem TS.new {B:Nat}{w:World}{s:SL}{zs:List Int}(h:TS B w s zs):NewS B w s zs:=fun w' hf =>
 ⟨⟨h.is.reads.len,h.is.reads.max,h.is.reads.wf,h.is.reads.some_,fun x hx i hi=>hf _ _ (h.is.reads.cell x hx i hi) (by
  have:=(h.blk x hx).1
  have eb:(x.add i).block=x.block:=by unfold Addr.add;split<;>rfl
  omega)⟩,h.is.nil,h.is.cap⟩
structure TG (B:Nat) (w:World) (v:Value) (k:Nat) (R:Nat→SL) (Z:Nat→List Int):Prop where
 own:w.ownsRow B 24 1 v k (Qdh R k)
 row:∀ j,j<k→TS B w (R j) (Z j)
theorem TG.step {B:Nat}{w w':World}{v:Value}{k:Nat}{R:Nat→SL}{Z:Nat→List Int}(h:TG B w v k R Z)(k1:Keeps 73 w w')(k2:Keeps 24 w w'):TG B w' v k R Z:=⟨k2.own h.own,fun j hj=>(h.row j hj).step k1⟩
theorem TG.new {B:Nat}{w:World}{v:Value}{k:Nat}{R:Nat→SL}{Z:Nat→List Int}(h:TG B w v k R Z):∃ s:SL,v=s.v∧NewG B w s k R Z:=Qna h.own fun j hj=>(h.row j hj).new
theorem TG.nil (B:Nat)(w:World)(R:Nat→SL)(Z:Nat→List Int):TG B w (.slice none 0 0) 0 R Z:=⟨World.ownsRow_nil _ _ _ _,fun j hj=>by omega⟩
structure TY (B:Nat) (w:World) (Y:Nat→SL) (U D:Nat→SL) (f:Nat→List Int) (un dn:Nat) (u d:Nat→List Int):Prop where
 f:∀ j,j<7→TS B w (Y j) (f j)
 u:TG B w (Y 7).v un U u
 d:TG B w (Y 8).v dn D d
theorem TY.step {B:Nat}{w w':World}{Y U D:Nat→SL}{f:Nat→List Int}{un dn:Nat}{u d:Nat→List Int}(h:TY B w Y U D f un dn u d)(k1:Keeps 73 w w')(k2:Keeps 24 w w'):TY B w' Y U D f un dn u d:=⟨fun j hj=>(h.f j hj).step k1,h.u.step k1 k2,h.d.step k1 k2⟩
theorem SL.v_inj {s t:SL}(h:s.v=t.v):s=t:=by
 obtain⟨a,n,c⟩:=s
 obtain⟨a',n',c'⟩:=t
 simp only[SL.v,Value.slice.injEq] at h
 obtain⟨rfl,rfl,rfl⟩:=h
 rfl
theorem TY.new {B:Nat}{w:World}{Y U D:Nat→SL}{f:Nat→List Int}{un dn:Nat}{u d:Nat→List Int}(h:TY B w Y U D f un dn u d):NewY B w Y U D f un dn u d:=by
 obtain⟨s,e,hs⟩:=h.u.new
 obtain⟨s',e',hs'⟩:=h.d.new
 obtain rfl:=SL.v_inj e
 obtain rfl:=SL.v_inj e'
 exact Qm8 (fun j hj=>(h.f j hj).new) hs hs'
structure TL (B:Nat) (w:World) (v:Value) (n:Nat) (Y U D:Nat→Nat→SL) (m:ModV):Prop where
 own:w.ownsRow B 65 9 v n (Qdi Y n)
 lay:∀ i,i<n→TY B w (Y i) (U i) (D i) (m.f i) (m.un i) (m.dn i) (m.u i) (m.d i)
theorem TL.nil (B:Nat)(w:World)(Y U D:Nat→Nat→SL)(m:ModV):TL B w (.slice none 0 0) 0 Y U D m:=⟨World.ownsRow_nil _ _ _ _,fun j hj=>by omega⟩
theorem TL.new {B:Nat}{w:World}{v:Value}{E N O:SL}{Y U D:Nat→Nat→SL}{m:ModV}(h:TL B w v m.ln Y U D m)(he:TS B w E m.e)(hn:TS B w N m.nm)(ho:TS B w O m.o):∃ L:SL,v=L.v∧NewM B w E L N O Y U D m :=
 Qm9 h.own (fun i hi=>(h.lay i hi).new) he.new hn.new ho.new
def upd {α:Type}(F:Nat→α)(i:Nat)(x:α):Nat→α:=fun j=>if j=i then x else F j
theorem Qaz {α:Type}(F:Nat→α)(i:Nat)(x:α):upd F i x i=x:=if_pos rfl
theorem Qal {α:Type}(F:Nat→α)(i:Nat)(x:α){j:Nat}(h:j≠i):upd F i x j=F j:=if_neg h
theorem QcO (w:World)(g:Nat)(B:Nat)(ty:TypeId)(s:SL)(zs:List Int)(hs:IsS w s zs)(hl:zs.length≤140737488355328)(hg:B≤g)(hq:Blk 73 w g #[])(hB:B≤w.heap.size):∃ s' w',(Builtin.append_ #[24,24] ty #[.slice (some ⟨g,0,none⟩) 0 0,s.w]).run Tryz.prog w=.ok (SL.v s') w'∧Bw w w'∧TS B w' s' zs:=by
 have own0:w.ownsRow B 73 1 (.slice (some ⟨g,0,none⟩) 0 0) 0 []:=⟨rfl,.inr ⟨g,0,#[],rfl,hg,hq,Nat.le_refl _,by unfold maxLen;omega,rfl,rfl⟩⟩
 obtain⟨s',w',hr,hn,hb,ho⟩:=Qgs w g B ty s zs hs hl own0 hB
 refine⟨s',w',hr,hb,?_⟩
 have hlen:=hs.reads.len
 obtain⟨a,c,e,hre⟩:=oRe (k:=.i8) ho (by omega) hs.reads.wf_mem (fun j hj=>QbR .i8 zs j (by omega))
 have e':s'=⟨a,s'.n,c⟩:=SL.v_inj e
 rcases ho.2 with⟨h1,h2⟩|⟨g',cap,cur,h1,h2,h3,h4,_⟩
 ·have:s'=⟨none,0,0⟩:=SL.v_inj h1
  subst this
  have ha:a=none:=by simp at e';exact e'.1.symm
  subst ha
  exact⟨⟨hre,fun _=>rfl,Nat.le_refl _⟩,fun x hx=>by cases hx⟩
 ·have e2:s'=⟨some ⟨g',0,none⟩,s'.n,cap⟩:=SL.v_inj h1
  have ha:a=some ⟨g',0,none⟩:=by rw[e2] at e';simp at e';exact e'.1.symm
  have hc:c=cap:=by rw[e2] at e';simp at e';exact e'.2.symm
  subst ha
  subst hc
  rw[e2]
  exact⟨⟨by simpa using hre,(fun h=>by cases h),h4⟩,fun x hx=>by obtain rfl:=Option.some.inj hx;exact⟨h2,cur,(0,0),h3⟩⟩
def copD (k base i:Nat):Option Nat:=if i<4*k then some (base+i) else if (i-4*k)%2=0 then some (base+4*k+(i-4*k)/2) else none
theorem QiY {k base:Nat}{i j d:Nat}(hi:i<6*k)(hj:j<6*k)(h1:copD k base i=some d)(h2:copD k base j=some d):i=j:=by
 unfold copD at h1 h2
 split at h1<;>split at h2
 ·simp at h1 h2;omega
 ·split at h2
  ·simp at h1 h2;omega
  ·cases h2
 ·split at h1
  ·simp at h1 h2;omega
  ·cases h1
 ·split at h1
  ·split at h2
   ·simp at h1 h2;omega
   ·cases h2
  ·cases h1
theorem QiX {k base i s:Nat}(h:s<base):copD k base i≠some s:=by
 intro e
 unfold copD at e
 split at e
 ·simp at e;omega
 ·split at e
  ·simp at e;omega
  ·cases e
theorem Qln {k base i s:Nat}(hi:i<6*k)(h:base+5*k≤s):copD k base i≠some s:=by
 intro e
 unfold copD at e
 split at e
 ·simp at e;omega
 ·split at e
  ·simp at e;omega
  ·cases e
def copF (k f0 tb B:Nat)(Y:Nat→SL)(Z:Nat→List Int)(i:Nat)(v:Value)(w:World):Prop :=
 if i<4*k then
  (if i%4=0 then ∃ g,v=.slice (some ⟨g,0,none⟩) 0 0∧B≤g∧Blk 73 w g #[] else if i%4=1 then v=.pointer (some ⟨tb,f0+i/4,none⟩) else if i%4=2 then v=(Y (i/4)).v else ∃ s:SL,v=s.v∧TS B w s (Z (i/4)))
 else (i-4*k)%2=0→v=.pointer (some ⟨tb,f0+(i-4*k)/2,none⟩)
theorem Qhe {k f0 tb B:Nat}{Y:Nat→SL}{Z:Nat→List Int}{i:Nat}{v:Value}{w w':World}(h:copF k f0 tb B Y Z i v w)(hk:Keeps 73 w w'):copF k f0 tb B Y Z i v w':=by
 unfold copF at h ⊢
 split
 ·rename_i h1
  rw[if_pos h1] at h
  split
  ·rename_i h2
   rw[if_pos h2] at h
   obtain⟨g,e1,e2,e3⟩:=h
   exact⟨g,e1,e2,hk.blk e3⟩
  ·rename_i h2
   rw[if_neg h2] at h
   split
   ·rename_i h3
    rw[if_pos h3] at h
    exact h
   ·rename_i h3
    rw[if_neg h3] at h
    split
    ·rename_i h4
     rw[if_pos h4] at h
     exact h
    ·rename_i h4
     rw[if_neg h4] at h
     obtain⟨s,e1,e2⟩:=h
     exact⟨s,e1,e2.step hk⟩
 ·rename_i h1
  rw[if_neg h1] at h
  exact h
def copR (k base f0 tb:Nat)(old:Nat→Value)(w0:World)(l:Nat→Bool)(a:Act)(w:World):Prop :=
 Only tb w0 w∧(∀ j,j<k→(l (4*k+2*j+1)=true→l (4*j+3)=true)∧(l (4*j+3)=true→l (4*j+2)=true)) ∧
 ∃ cs:Array Value,Blk 65 w tb cs∧cs.size=9∧∀ f,f<9→cs[f]? = some (if f0≤f∧f<f0+k∧l (4*k+2*(f-f0)+1)=true then a.tmps.getD (base+4*(f-f0)+3) undef else old f)
theorem Qdf {id:Nat}{ops:Array Oper}{Q:Exit→Act→World→Prop}{a0:Act}{w0:World}(k base f0 tb:Nat)(Y:Nat→SL)(Z:Nat→List Int)(old:Nat→Value)(cs0:Array Value)(hB:lowB ops=true)(hsz:ops.size=6*k)
  (hops:∀ j,j<k→OpAt ops (4*j) (some (base+4*j)) (.buildSlice 24 0 #[]) []∧OpAt ops (4*j+1) (some (base+4*j+1)) (.fieldAddr 65 (.tmp 5) (f0+j)) []∧OpAt ops (4*j+2) (some (base+4*j+2)) (.load 24 (.tmp (base+4*j+1))) [4*j+1] ∧
   OpAt ops (4*j+3) (some (base+4*j+3)) (.call { callee:=.builtin .append,args:=#[.tmp (base+4*j),.tmp (base+4*j+2)],argTypes:=#[24,24] }) [4*j,4*j+2] ∧
   OpAt ops (4*k+2*j) (some (base+4*k+j)) (.fieldAddr 65 (.tmp 5) (f0+j)) []∧OpAt ops (4*k+2*j+1) none (.store 24 (.tmp (base+4*k+j)) (.tmp (base+4*j+3))) [4*k+2*j,4*j+3])
  (h5:a0.tmps.getD 5 undef=Pt tb) (hb5:5<base) (hN:base+5*k≤a0.tmps.size) (hf0:f0+k≤9)
  (q0:Blk 65 w0 tb cs0) (hcs:cs0.size=9) (hold:∀ f,f<9→cs0[f]? = some (old f)) (hY:∀ j,j<k→old (f0+j)=(Y j).v∧IsS w0 (Y j) (Z j)∧(Z j).length≤140737488355328∧∀ x,(Y j).a=some x→0<(Y j).n→x.block≠tb)
  (fin:∀ a w (S:Nat→SL) cs,a.tmps.size=a0.tmps.size→a.defers=a0.defers→(∀ s,s<base∨base+5*k≤s→a.tmps.getD s undef=a0.tmps.getD s undef)→Only tb w0 w→Blk 65 w tb cs→cs.size=9→(∀ f,f<9→cs[f]? = some (if f0≤f∧f<f0+k then (S (f-f0)).v else old f))→(∀ j,j<k→TS w0.heap.size w (S j) (Z j))→Q .normal a w) :
  (Code.region id ops true).wp Tryz.prog Q a0 w0:=by
 have htb:=q0.lt
 refine QaZ (by kernel_rfl) hB (Inv (6*k) (copD k base) a0 (copR k base f0 tb old w0) (fun _=>copF k f0 tb w0.heap.size Y Z)) (Inv.start ⟨⟨rfl,rfl,rfl,Nat.le_refl _,fun _ _ _=>rfl⟩,(fun j _=>⟨(fun h=>by cases h),(fun h=>by cases h)⟩),cs0,q0,hcs,fun f hf=>by rw[hold f hf,if_neg (by simp)]⟩) ?_ ?_
 ·intro l i o a w ho hl hdep hI
  have hi:i<6*k:=by rw[←hsz];exact (Array.getElem?_eq_some_iff.1 ho).1
  obtain⟨honly,hst,cs,hq,hcz,hcell⟩:=hI.world
  have hsB:=honly.size
  have ev:∀ (s:Nat),a.eval (.tmp s)=a.tmps.getD s undef:=fun _=>rfl
  have inj:∀ d,copD k base i=some d→∀ j d',j<6*k→copD k base j=some d'→j≠i→d'≠d:=fun d hd j d' hj hd' hne e=>hne (QiY hj hi (by rw[hd',e]) hd)
  have e5':a.eval (.tmp 5)=Pt tb:=(hI.kept 5 (fun j _=>QiX (by omega))).trans h5
  have hlen:∀ d v,(a.put (some d) v).tmps.size=a.tmps.size:=fun d v=>by show (a.tmps.setIfInBounds d v).size=_;rw[Array.size_setIfInBounds]
  -- an operation that leaves a value and keeps,or grows,the world
  have go:∀ {d v w'},copD k base i=some d→Bw w w'→(∀ j,j<k→i≠4*k+2*j+1)→(∀ j,j<k→i=4*j+3→l (4*j+2)=true)→copF k f0 tb w0.heap.size Y Z i v w'→Inv (6*k) (copD k base) a0 (copR k base f0 tb old w0) (fun _=>copF k f0 tb w0.heap.size Y Z) (fun j=>l j || j==i) (a.put (some d) v) w':=by
   intro d v w' hD hw hne hdl hF
   have hd:d<a0.tmps.size:=by
    unfold copD at hD
    split at hD
    ·simp at hD;omega
    ·split at hD
     ·simp at hD;omega
     ·cases hD
   refine hI.put hi hD hd (inj d hD) ⟨honly.trans (Only.of_below hw),fun j hj=>⟨fun h=>?_,fun h=>?_⟩,cs,hq.kept hw,hcz,fun f hf=>?_⟩ hF fun j u _ _ _ hf=>Qhe hf (Keeps.of_below hw)
   ·have:l (4*k+2*j+1)=true:=by
     simp only[Bool.or_eq_true,beq_iff_eq] at h
     rcases h with h|h
     ·exact h
     ·exact absurd h.symm (hne j hj)
    simp[(hst j hj).1 this]
   ·simp only[Bool.or_eq_true,beq_iff_eq] at h
    rcases h with h|h
    ·simp[(hst j hj).2 h]
    ·simp[hdl j hj h.symm]
   ·rw[hcell f hf]
    congr 1
    by_cases c:f0≤f∧f<f0+k
    ·have hj:f-f0<k:=by omega
     have e1:(l (4*k+2*(f-f0)+1) || 4*k+2*(f-f0)+1==i)=l (4*k+2*(f-f0)+1):=by
      have:(4*k+2*(f-f0)+1==i)=false:=by simp;exact Ne.symm (hne _ hj)
      rw[this,Bool.or_false]
     simp only[e1]
     by_cases h:l (4*k+2*(f-f0)+1)=true
     ·rw[if_pos ⟨c.1,c.2,h⟩,if_pos ⟨c.1,c.2,h⟩,Qby a d v _ (by rw[hI.size];exact hd),if_neg]
      intro e
      have h3:=(hst _ hj).1 h
      have:i=4*(f-f0)+3:=QiY (d:=d) hi (by omega) hD (by unfold copD;rw[if_pos (by omega),←e];congr 1)
      rw[this] at hl
      rw[hl] at h3
      cases h3
     ·rw[if_neg (fun h'=>h h'.2.2),if_neg (fun h'=>h h'.2.2)]
    ·rw[if_neg (fun h'=>c ⟨h'.1,h'.2.1⟩),if_neg (fun h'=>c ⟨h'.1,h'.2.1⟩)]
  by_cases hi4:i<4*k
  ·obtain⟨j,r,hj,hr,rfl⟩:∃ j r,j<k∧r<4∧i=4*j+r:=⟨i/4,i%4,by omega,by omega,by omega⟩
   have hD:copD k base (4*j+r)=some (base+(4*j+r)):=by unfold copD;rw[if_pos hi4]
   obtain⟨o0,o1,o2,o3,_,_⟩:=hops j hj
   have dv:∀ r,r<4→(4*j+r)%4=r∧(4*j+r)/4=j:=fun r hr=>by omega
   have val:∀ r',r'<4→l (4*j+r')=true→copF k f0 tb w0.heap.size Y Z (4*j+r') (a.tmps.getD (base+(4*j+r')) undef) w:=fun r' hr' h=>hI.val (4*j+r') (base+(4*j+r')) (by omega) (by unfold copD;rw[if_pos (by omega)]) h
   rcases (show r=0∨r=1∨r=2∨r=3 by omega) with rfl|rfl|rfl|rfl
   ·obtain⟨o',e1,e2,e3,e4,e5⟩:=o0
    obtain rfl:=sOp ho e1
    refine wVa (v:=.slice (some ⟨w.heap.size,0,none⟩) 0 0) (w':=w.alloc (.cells #[] 73)) ho e4 ?_ (by rw[e2];exact go hD (bNw bR _) (fun j' _=>by omega) (fun j' _ h=>by omega) (by unfold copF;rw[if_pos hi4,if_pos (dv 0 hr).1];exact⟨_,rfl,hsB,Blk.new 73 w #[]⟩))
    simp[execOp,e3,Qfj]
   ·obtain⟨o',e1,e2,e3,e4,e5⟩:=o1
    obtain rfl:=sOp ho e1
    refine wVa (v:=.pointer (some ⟨tb,f0+j,none⟩)) (w':=w) ho e4 ?_ (by rw[e2];exact go hD bR (fun j' _=>by omega) (fun j' _ h=>by omega) (by unfold copF;rw[if_pos hi4,if_neg (by have:=(dv 1 hr).1;omega),if_pos (dv 1 hr).1,(dv 1 hr).2]))
    simp[execOp,e3,e5',Qax tb (f0+j) (by omega)]
   ·obtain⟨o',e1,e2,e3,e4,e5⟩:=o2
    obtain rfl:=sOp ho e1
    have dp:=dPo e5 hdep
    have ev1:=val 1 (by omega) (dp _ (by simp))
    unfold copF at ev1
    rw[if_pos (by omega),if_neg (by have:=(dv 1 (by omega)).1;omega),if_pos (dv 1 (by omega)).1,(dv 1 (by omega)).2] at ev1
    have hnst:¬l (4*k+2*j+1)=true:=fun h=>by
     have h2:=(hst j hj).2 ((hst j hj).1 h)
     rw[hl] at h2
     cases h2
    have hc:=hcell (f0+j) (by omega)
    rw[show f0+j-f0=j by omega,if_neg (fun h=>hnst h.2.2),(hY j hj).1] at hc
    have hcc:=hq.cell (f0+j) hc
    refine wVa (v:=(Y j).v) (w':=w) ho e4 ?_ (by rw[e2];exact go hD bR (fun j' _=>by omega) (fun j' _ h=>by omega) (by unfold copF;rw[if_pos hi4,if_neg (by have:=(dv 2 hr).1;omega),if_neg (by have:=(dv 2 hr).1;omega),if_pos (dv 2 hr).1,(dv 2 hr).2]))
    simp[execOp,e3,ev,Nat.add_assoc,ev1,Qag hcc,SL.v]
   ·obtain⟨o',e1,e2,e3,e4,e5⟩:=o3
    obtain rfl:=sOp ho e1
    have dp:=dPo e5 hdep
    have ev0:=val 0 (by omega) (dp _ (by simp))
    unfold copF at ev0
    rw[if_pos (by omega),if_pos (dv 0 (by omega)).1] at ev0
    obtain⟨g,ev1,hgB,hgq⟩:=ev0
    have ev2:=val 2 (by omega) (dp _ (by simp))
    unfold copF at ev2
    rw[if_pos (by omega),if_neg (by have:=(dv 2 (by omega)).1;omega),if_neg (by have:=(dv 2 (by omega)).1;omega),if_pos (dv 2 (by omega)).1,(dv 2 (by omega)).2] at ev2
    obtain⟨_,hSj,hZj,hne⟩:=hY j hj
    have hSw:IsS w (Y j) (Z j):=⟨hSj.reads.other honly (fun x hx h0=>hne x hx h0),hSj.nil,hSj.cap⟩
    obtain⟨s',w',hrn,hbw,hts⟩:=QcO w g w0.heap.size o.type (Y j) (Z j) hSw hZj hgB hgq hsB
    refine wVa (v:=s'.v) (w':=w') ho e4 ?_ (by rw[e2];exact go hD hbw (fun j' _=>by omega) (fun j' hj' h=>(show j=j' by omega) ▸ dp (4*j+2) (by simp)) (by unfold copF;rw[if_pos hi4,if_neg (by have:=(dv 3 hr).1;omega),if_neg (by have:=(dv 3 hr).1;omega),if_neg (by have:=(dv 3 hr).1;omega),(dv 3 hr).2];exact⟨s',rfl,hts⟩))
    simp only[Nat.add_zero] at ev1
    rw[←Nat.add_assoc] at ev2
    simp only[execOp,e3,resolve,invoke,builtin,Sem.run_bind,Sem.run_pure,Result.andThen_ok,List.map_toArray,List.map_cons,List.map_nil,ev,ev1,ev2,SL.v,hrn]
  ·obtain⟨j,r,hj,hr,rfl⟩:∃ j r,j<k∧r<2∧i=4*k+2*j+r:=⟨(i-4*k)/2,(i-4*k)%2,by omega,by omega,by omega⟩
   obtain⟨_,_,_,_,o4,o5⟩:=hops j hj
   rcases (show r=0∨r=1 by omega) with rfl|rfl
   ·obtain⟨o',e1,e2,e3,e4,e5⟩:=o4
    obtain rfl:=sOp ho e1
    have hD:copD k base (4*k+2*j+0)=some (base+4*k+j):=by unfold copD;rw[if_neg (by omega),if_pos (by omega)];congr 1;omega
    refine wVa (v:=.pointer (some ⟨tb,f0+j,none⟩)) (w':=w) ho e4 ?_ (by rw[e2];exact go hD bR (fun j' _=>by omega) (fun j' _ h=>by omega) (by unfold copF;rw[if_neg (by omega)];intro _;congr 3;omega))
    simp[execOp,e3,e5',Qax tb (f0+j) (by omega)]
   ·obtain⟨o',e1,e2,e3,e4,e5⟩:=o5
    obtain rfl:=sOp ho e1
    have dp:=dPo e5 hdep
    have ev1:=hI.val (4*k+2*j) (base+4*k+j) (by omega) (by unfold copD;rw[if_neg (by omega),if_pos (by omega)];congr 1;omega) (dp _ (by simp))
    unfold copF at ev1
    rw[if_neg (by omega)] at ev1
    replace ev1:=ev1 (by omega)
    rw[show (4*k+2*j-4*k)/2=j by omega] at ev1
    have h3:=dp (4*j+3) (by simp)
    have ev2:=hI.val (4*j+3) (base+(4*j+3)) (by omega) (by unfold copD;rw[if_pos (by omega)]) h3
    unfold copF at ev2
    rw[if_pos (by omega),if_neg (by omega),if_neg (by omega),if_neg (by omega),show (4*j+3)/4=j by omega,←Nat.add_assoc] at ev2
    obtain⟨s,es,hts⟩:=ev2
    have hc:=hcell (f0+j) (by omega)
    have hcc:=hq.cell (f0+j) hc
    have hfz:=hq.open_ (f0+j)
    have ht5:Keeps 73 w (w.setCell ⟨tb,f0+j,none⟩ s.v):=Keeps.of_only (Only.set tb (f0+j) w s.v) hq (by decide)
    refine wSk (w':=w.setCell ⟨tb,f0+j,none⟩ s.v) ho e4 ?_ ?_
    ·have hrn:=QhK (a:=s.a) (n:=s.n) (c:=s.c) hcc hfz
     simp[execOp,e3,ev,ev1,es,SL.v,hrn]
    ·rw[e2]
     refine hI.none_ (by unfold copD;rw[if_neg (by omega),if_neg (by omega)]) ⟨honly.trans (Only.set tb (f0+j) w s.v),fun j' hj'=>⟨fun h=>?_,fun h=>?_⟩,cs.setIfInBounds (f0+j) s.v,hq.set (f0+j) s.v,by rw[Array.size_setIfInBounds];exact hcz,fun f hf=>?_⟩ fun j' u _ _ _ hf=>Qhe hf ht5
     ·simp only[Bool.or_eq_true,beq_iff_eq] at h ⊢
      rcases h with h|h
      ·exact .inl ((hst j' hj').1 h)
      ·obtain rfl:j=j':=by omega
       exact .inl h3
     ·simp only[Bool.or_eq_true,beq_iff_eq] at h ⊢
      rcases h with h|h
      ·exact .inl ((hst j' hj').2 h)
      ·omega
     ·rw[Array.getElem?_setIfInBounds]
      by_cases e:f0+j=f
      ·subst e
       rw[if_pos rfl,if_pos (by omega),if_pos ⟨by omega,by omega,by rw[show f0+j-f0=j by omega];simp⟩,show f0+j-f0=j by omega,es]
      ·rw[if_neg e,hcell f hf]
       congr 1
       by_cases c:f0≤f∧f<f0+k
       ·have e1:(l (4*k+2*(f-f0)+1) || 4*k+2*(f-f0)+1==4*k+2*j+1)=l (4*k+2*(f-f0)+1):=by
         have:(4*k+2*(f-f0)+1==4*k+2*j+1)=false:=by simp;omega
         rw[this,Bool.or_false]
        simp only[e1]
       ·rw[if_neg (fun h'=>c ⟨h'.1,h'.2.1⟩),if_neg (fun h'=>c ⟨h'.1,h'.2.1⟩)]
 ·intro l a w hall hI
  obtain⟨honly,hst,cs,hq,hcz,hcell⟩:=hI.world
  have hv:∀ j,j<k→∃ s:SL,a.tmps.getD (base+4*j+3) undef=s.v∧TS w0.heap.size w s (Z j):=fun j hj=>by
   have ev2:=hI.val (4*j+3) (base+(4*j+3)) (by omega) (by unfold copD;rw[if_pos (by omega)]) (hall _ (by omega))
   unfold copF at ev2
   rw[if_pos (by omega),if_neg (by omega),if_neg (by omega),if_neg (by omega),show (4*j+3)/4=j by omega,←Nat.add_assoc] at ev2
   exact ev2
  obtain⟨S,hS⟩:∃ S:Nat→SL,∀ j,j<k→a.tmps.getD (base+4*j+3) undef=(S j).v∧TS w0.heap.size w (S j) (Z j):=by
   refine⟨fun j=>if h:j<k then (hv j h).choose else SL.nought,fun j hj=>?_⟩
   simp only[dif_pos hj]
   exact (hv j hj).choose_spec
  refine fin a w S cs hI.size hI.defers (fun s hs=>hI.kept s fun i hi=>?_) honly hq hcz (fun f hf=>?_) fun j hj=>(hS j hj).2
  ·rcases hs with h|h
   ·exact QiX h
   ·exact Qln hi h
  ·rw[hcell f hf]
   congr 1
   by_cases c:f0≤f∧f<f0+k
   ·rw[if_pos c,if_pos ⟨c.1,c.2,hall _ (by omega)⟩]
    exact (hS (f-f0) (by omega)).1
   ·rw[if_neg c,if_neg (fun h'=>c ⟨h'.1,h'.2.1⟩)]
def Qi2:Array Value:=#[I4 0,I4 0,I4 0,I4 0,I4 0,I4 0,I4 0,I4 0,nilS,nilS,nilS,nilS]
theorem Qdv {w:World}{cb:Nat}{d h l v u x t n:Int}(q:Blk 23 w cb (c8 d h l v u x t n)):(Instr.loadAt 23 (Pt cb)).run Tryz.prog w=.ok (.agg (c8 d h l v u x t n):Value) w:=by
 obtain⟨c0,c1,c2,c3,c4,c5,c6,c7⟩:=q.cfg
 go_simp
theorem QhP (w:World):(Instr.alloc 27 true (.tuple #[])).run Tryz.prog w=.ok (Pt w.heap.size) (w.alloc (.cells Qi2 27)):=by
 unfold Qi2
 go_simp
theorem Qao {ops:Array Oper}{o:Oper}{l:Nat→Bool}{deps:List Nat}(hp:deps.all (fun d=>o.after.any fun e=>e.on==d && Region.binds .any e)=true)(hd:∀ e∈o.after,Region.binds .any e=true→l e.on=true):∀ d∈deps,l d=true:=by
 intro d hm
 have:=List.all_eq_true.1 hp d hm
 obtain⟨i,hi,h2⟩:=Array.any_eq_true.1 this
 simp only[Bool.and_eq_true,beq_iff_eq] at h2
 rw[←h2.1]
 exact hd o.after[i] (Array.getElem_mem hi) h2.2
section
theorem Blk.c11 {t0:TypeId}{w:World}{b:Nat}{x0 x1 x2 x3 x4 x5 x6 x7 x8 x9 x10:Value}(k:Blk t0 w b #[x0,x1,x2,x3,x4,x5,x6,x7,x8,x9,x10]):w.cell? ⟨b,0,none⟩=some x0∧w.cell? ⟨b,1,none⟩=some x1∧w.cell? ⟨b,2,none⟩=some x2∧w.cell? ⟨b,3,none⟩=some x3∧w.cell? ⟨b,4,none⟩=some x4∧w.cell? ⟨b,5,none⟩=some x5∧w.cell? ⟨b,6,none⟩=some x6∧w.cell? ⟨b,7,none⟩=some x7∧w.cell? ⟨b,8,none⟩=some x8∧w.cell? ⟨b,9,none⟩=some x9∧w.cell? ⟨b,10,none⟩=some x10:=⟨k.cell 0 rfl,k.cell 1 rfl,k.cell 2 rfl,k.cell 3 rfl,k.cell 4 rfl,k.cell 5 rfl,k.cell 6 rfl,k.cell 7 rfl,k.cell 8 rfl,k.cell 9 rfl,k.cell 10 rfl⟩
theorem Qew (b f:Nat)(o:Nat)(hf:(f=0∧o=0)∨(f=1∧o=8)∨(f=2∧o=9)∨(f=3∧o=10))(w:World):(Instr.fieldAt 47 (Pt b) f).run Tryz.prog w=.ok (.pointer (some ⟨b,o,none⟩)) w:=by
 rcases hf with⟨rfl,rfl⟩|⟨rfl,rfl⟩|⟨rfl,rfl⟩|⟨rfl,rfl⟩<;>go_simp
section
variable {w:World}{b:Nat}{cd ch cl cv cu cx ct cn s r:Int}{ta:Option Addr}{tn tc:Nat}
theorem QkA (q:Blk 47 w b #[I4 cd,I4 ch,I4 cl,I4 cv,I4 cu,I4 cx,I4 ct,I4 cn,.int .u64 s,I4 r,.slice ta tn tc]):(Instr.loadAt 45 (.pointer (some ⟨b,10,none⟩))).run Tryz.prog w=.ok (.slice ta tn tc) w:=by
 obtain⟨c0,c1,c2,c3,c4,c5,c6,c7,c8,c9,c10⟩:=q.c11
 go_simp
end
end
end Go.Proofs.YthliomlmhfjhnaaGreat

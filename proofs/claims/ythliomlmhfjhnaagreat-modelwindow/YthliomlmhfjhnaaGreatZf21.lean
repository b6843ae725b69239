/- Texts put together. -/
import Derived.Test.YthliomlmhfjhnaaGreatRows
import Derived.Test.YthliomlmhfjhnaaGreatZf18
import Derived.Test.YthliomlmhfjhnaaGreatZf20
import Derived.Test.YthliomlmhfjhnaaGreatZf8
namespace Go.Proofs.YthliomlmhfjhnaaGreat
set_option maxRecDepth 20000
set_option maxHeartbeats 16000000
open Go.ChangeShapes Go.WideShapes Go.ChangeAt Go.RowKit
set_option linter.unusedVariables false
set_option linter.unusedSimpArgs false
section
open Go.ChangeShapes Go.WideShapes Go.ChangeAt Go.RowKit Go.Sort
theorem closure44 (a:Addr)(vb:Nat)(A:Option Addr)(n c:Nat)(k e:Int)(W:World)(ha:W.cell? a=some (.slice A n c))(q:Blk 35 W vb #[.int .i64 e]) :
  Calls Tryz.prog 86 #[.pointer (some a),.int .i64 k,.pointer (some ⟨vb,0,none⟩)] W fun r W'=>r=.returned (.tuple #[])∧Blk 35 W' vb #[.int .i64 (if (n:Int)=k then e else 21)]∧Only vb W W':=by
 have c0:W.cell? ⟨vb,0,none⟩=some (.int .i64 e):=q.cell 0 rfl
 have f0:=q.open_ 0
 have HQ:=hdn q
 clear q
 by_cases h:(n:Int)=k
 ·rw[if_pos h]
  have h':((n:Int)==k)=true:=by simp[h]
  clear h
  go_enter Tryz.func86,Tryz.ntmps86
  go_wp2
  go_end0
  exact⟨rfl,HQ.out,Only.refl _ _⟩
 ·rw[if_neg h]
  have h':((n:Int)==k)=false:=by simp[h]
  clear h
  go_enter Tryz.func86,Tryz.ntmps86
  go_wp2
  go_end0
  exact⟨rfl,HQ.out.set 0 _,Only.set _ _ _ _⟩
def framedB (l x:Int)(m:ModV):Bool:=decide ((m.ln:Int)=l∧∀ i,i<m.ln→(m.un i:Int)=max x 1∧(m.dn i:Int)=max x 1)
theorem at_nine {w:World}{x:Addr}{i:Nat}{y:Nat→SL}(h:∀ j,j<9→w.cell? ((x.add (i*9)).add j)=some (y j).v) :
  ∃ P,x.add (i*9)=P∧w.cell? P=some (.slice (y 0).a (y 0).n (y 0).c)∧w.cell? ⟨P.block,P.off+1,none⟩=some (.slice (y 1).a (y 1).n (y 1).c)∧w.cell? ⟨P.block,P.off+2,none⟩=some (.slice (y 2).a (y 2).n (y 2).c) ∧
   w.cell? ⟨P.block,P.off+3,none⟩=some (.slice (y 3).a (y 3).n (y 3).c)∧w.cell? ⟨P.block,P.off+4,none⟩=some (.slice (y 4).a (y 4).n (y 4).c)∧w.cell? ⟨P.block,P.off+5,none⟩=some (.slice (y 5).a (y 5).n (y 5).c) ∧
   w.cell? ⟨P.block,P.off+6,none⟩=some (.slice (y 6).a (y 6).n (y 6).c)∧w.cell? ⟨P.block,P.off+7,none⟩=some (.slice (y 7).a (y 7).n (y 7).c)∧w.cell? ⟨P.block,P.off+8,none⟩=some (.slice (y 8).a (y 8).n (y 8).c) :=
 ⟨_,rfl,h 0 (by omega),h 1 (by omega),h 2 (by omega),h 3 (by omega),h 4 (by omega),h 5 (by omega),h 6 (by omega),h 7 (by omega),h 8 (by omega)⟩
theorem framed_loop (d h v u x t n:Int)(E L N O:SL)(Y U D:Nat→Nat→SL)(m:ModV)(w:World)(hM:ModAt w E L N O Y U D m)(ml Lc:Nat)(x0:Addr)(eL:L.n=ml)(eC:L.c=Lc)(eA:L.a=some x0)(hl:ml≤1000000)(X:Int)(B:Bool)
  (no:∀ i,i<ml→((m.un i:Int)≠X∨(m.dn i:Int)≠X)→B=false) (yes:(∀ i,i<ml→(m.un i:Int)=X∧(m.dn i:Int)=X)→B=true) (l:Int) (g:((ml:Int)==l)=true)
  (kn:∀ w,Calls Tryz.prog 112 #[.agg #[.int .i64 d,.int .i64 h,.int .i64 l,.int .i64 v,.int .i64 u,.int .i64 x,.int .i64 t,.int .i64 n]] w fun e w'=>e=.returned (.int .i64 X)∧∃ o,w'=w.alloc o) :
  Calls Tryz.prog 84 #[.agg #[.int .i64 d,.int .i64 h,.int .i64 l,.int .i64 v,.int .i64 u,.int .i64 x,.int .i64 t,.int .i64 n,.slice E.a E.n E.c,.slice (some x0) ml Lc,.slice N.a N.n N.c,.slice O.a O.n O.c]] w fun e w'=>e=.returned (.bool B)∧Below w.heap.size w w':=by
 have hb:=bNw (Below.refl w.heap.size w) (.cells #[.int .i64 d,.int .i64 h,.int .i64 l,.int .i64 v,.int .i64 u,.int .i64 x,.int .i64 t,.int .i64 n,.slice E.a E.n E.c,.slice (some x0) ml Lc,.slice N.a N.n N.c,.slice O.a O.n O.c] 27)
 have q0:=Blk.new 27 w #[.int .i64 d,.int .i64 h,.int .i64 l,.int .i64 v,.int .i64 u,.int .i64 x,.int .i64 t,.int .i64 n,.slice E.a E.n E.c,.slice (some x0) ml Lc,.slice N.a N.n N.c,.slice O.a O.n O.c]
 have hml:m.ln=ml:=hM.len.symm.trans eL
 have HM:=hdn hM
 have HN:=hdn no
 have HY:=hdn yes
 have HL:=hdn hml
 have HA:=hdn eA
 have HB:=hdn hb
 have HQ:=hdn q0
 clear hM no yes hml eL eC eA hb
 obtain⟨a0,a1,a2,a3,a4,a5,a6,a7,a8,a9,a10,a11⟩:=q0.c12
 clear q0
 go_enter Tryz.func84,Tryz.ntmps84
 go_wp2
 clear a0 a1 a2 a3 a4 a5 a6 a7 a8 a9 a10 a11
 go_loopw [15] (fun i wr=>∃ k:Nat,k≤ml∧i=.int .i64 k∧Below w.heap.size w wr∧Blk 27 wr w.heap.size #[.int .i64 d,.int .i64 h,.int .i64 l,.int .i64 v,.int .i64 u,.int .i64 x,.int .i64 t,.int .i64 n,.slice E.a E.n E.c,.slice (some x0) ml Lc,.slice N.a N.n N.c,.slice O.a O.n O.c]∧Hid (∀ i,i<k→(m.un i:Int)=X∧(m.dn i:Int)=X)) (fun i _=>ml-(intOf i).toNat)
 case atStart=>exact⟨0,Nat.zero_le _,rfl,HB.out,HQ.out,fun i hi=>absurd hi (Nat.not_lt_zero _)⟩
 case round =>
  clear HB HQ
  obtain⟨k,hk,rfl,hb,q1,good⟩:=hrel
  obtain⟨a0,a1,a2,a3,a4,a5,a6,a7,a8,a9,a10,a11⟩:=q1.c12
  by_cases hlt:k<ml
  ·have hlt':(k:Int)<(ml:Int):=by omega
   have hMr:=HM.out.below hb
   have lay:=hMr.lay k (by rw[HL.out];exact hlt)
   have un:=lay.u.len
   have dn:=lay.d.len
   obtain⟨P,eP,p0,p1,p2,p3,p4,p5,p6,p7,p8⟩:=at_nine (fun j hj=>hMr.cell x0 HA.out k (by rw[HL.out];exact hlt) j hj)
   have HG:=hdn (And.intro un dn)
   clear hMr lay
   have q9:=Blk.new 65 wr #[.slice (Y k 0).a (Y k 0).n (Y k 0).c,.slice (Y k 1).a (Y k 1).n (Y k 1).c,.slice (Y k 2).a (Y k 2).n (Y k 2).c,.slice (Y k 3).a (Y k 3).n (Y k 3).c,.slice (Y k 4).a (Y k 4).n (Y k 4).c,.slice (Y k 5).a (Y k 5).n (Y k 5).c,.slice (Y k 6).a (Y k 6).n (Y k 6).c,.slice (Y k 7).a (Y k 7).n (Y k 7).c,.slice (Y k 8).a (Y k 8).n (Y k 8).c]
   have r7:=q9.cell 7 rfl
   have r8:=q9.cell 8 rfl
   have b9:=bNw (Below.refl wr.heap.size wr) (.cells #[.slice (Y k 0).a (Y k 0).n (Y k 0).c,.slice (Y k 1).a (Y k 1).n (Y k 1).c,.slice (Y k 2).a (Y k 2).n (Y k 2).c,.slice (Y k 3).a (Y k 3).n (Y k 3).c,.slice (Y k 4).a (Y k 4).n (Y k 4).c,.slice (Y k 5).a (Y k 5).n (Y k 5).c,.slice (Y k 6).a (Y k 6).n (Y k 6).c,.slice (Y k 7).a (Y k 7).n (Y k 7).c,.slice (Y k 8).a (Y k 8).n (Y k 8).c] 65)
   replace q1:=q1.kept b9
   replace hb:=bTn hb b9
   obtain⟨W9,e9⟩:∃ W9,wr.alloc (.cells #[.slice (Y k 0).a (Y k 0).n (Y k 0).c,.slice (Y k 1).a (Y k 1).n (Y k 1).c,.slice (Y k 2).a (Y k 2).n (Y k 2).c,.slice (Y k 3).a (Y k 3).n (Y k 3).c,.slice (Y k 4).a (Y k 4).n (Y k 4).c,.slice (Y k 5).a (Y k 5).n (Y k 5).c,.slice (Y k 6).a (Y k 6).n (Y k 6).c,.slice (Y k 7).a (Y k 7).n (Y k 7).c,.slice (Y k 8).a (Y k 8).n (Y k 8).c] 65)=W9:=⟨_,rfl⟩
   rw[e9] at q1 hb r7 r8
   have kn':∀ d' os,Calls Tryz.prog 112 #[.agg #[.int .i64 d,.int .i64 h,.int .i64 l,.int .i64 v,.int .i64 u,.int .i64 x,.int .i64 t,.int .i64 n]] (grow (redrawn W9 d') os) fun e w''=>e=.returned (.int .i64 X)∧∃ p:Regrown,w''=grow (redrawn W9 p.d) p.os:=fun d' os =>
    Calls.regrown_of ((kn _).mono fun e w' he=>⟨he.1,below_one he.2⟩)
   obtain⟨b0,b1,b2,b3,b4,b5,b6,b7,-,-,-,-⟩:=q1.c12
   replace r7:=cell_regrown r7
   replace r8:=cell_regrown r8
   clear q9
   have E9:=hdn e9
   clear e9 kn
   replace b0:=cell_regrown b0
   replace b1:=cell_regrown b1
   replace b2:=cell_regrown b2
   replace b3:=cell_regrown b3
   replace b4:=cell_regrown b4
   replace b5:=cell_regrown b5
   replace b6:=cell_regrown b6
   replace b7:=cell_regrown b7
   clear a0 a1 a2 a3 a4 a5 a6 a7 a8 a10 a11 g
   by_cases g1:((Y k 7).n:Int)=X
   ·have g1':(((Y k 7).n:Int) != X)=false:=by simp[g1]
    by_cases g2:((Y k 8).n:Int)=X
    ·have g2':(((Y k 8).n:Int) != X)=false:=by simp[g2]
     have good':Hid (∀ i,i<k+1→(m.un i:Int)=X∧(m.dn i:Int)=X):=fun i hi=>by
      by_cases e:i=k
      ·subst e;exact⟨by rw[←un];exact g1,by rw[←dn];exact g2⟩
      ·exact good.out i (by omega)
     clear un dn b9 g1 g2 good
     go_wp2
     rw[E9.out]
     refine wp_region_quiet_below (by kernel_rfl) (by kernel_rfl) ?_
     repeat (go_big_quiet_step (first|(go_at_call 112;exact kn' _ _)))
     refine wpQuiet_nil ?_
     intro _ hw'
     obtain⟨⟨dq,osq⟩,hw''⟩:=hw'
     subst hw''
     have hbq:=below_regrown W9 dq osq
     replace q1:=q1.kept hbq
     replace hb:=bTn hb hbq
     clear hbq kn' r7 r8 b0 b1 b2 b3 b4 b5 b6 b7
     clear a9
     go_wp2
     go_roundw
     case rel=>exact⟨k+1,by omega,by go_num,hb,q1,good'⟩
     case measure=>simp[intOf];omega
    ·have g2':(((Y k 8).n:Int) != X)=true:=by simp[g2]
     have e:=HN.out k hlt (.inr (by rw[←dn];exact g2))
     clear un dn b9 g1 g2 good
     subst e
     go_wp2
     rw[E9.out]
     refine wp_region_quiet_below (by kernel_rfl) (by kernel_rfl) ?_
     repeat (go_big_quiet_step (first|(go_at_call 112;exact kn' _ _)))
     refine wpQuiet_nil ?_
     intro _ hw'
     obtain⟨⟨dq,osq⟩,hw''⟩:=hw'
     subst hw''
     have hbq:=below_regrown W9 dq osq
     replace q1:=q1.kept hbq
     replace hb:=bTn hb hbq
     clear hbq kn' r7 r8 b0 b1 b2 b3 b4 b5 b6 b7
     all_goals
      go_wp2
      go_ret
      exact⟨rfl,hb⟩
   ·have g1':(((Y k 7).n:Int) != X)=true:=by simp[g1]
    have e:=HN.out k hlt (.inl (by rw[←un];exact g1))
    clear un dn b9 g1 good
    subst e
    go_wp2
    rw[E9.out]
    refine wp_region_quiet_below (by kernel_rfl) (by kernel_rfl) ?_
    repeat (go_big_quiet_step (first|(go_at_call 112;exact kn' _ _)))
    refine wpQuiet_nil ?_
    intro _ hw'
    obtain⟨⟨dq,osq⟩,hw''⟩:=hw'
    subst hw''
    have hbq:=below_regrown W9 dq osq
    replace q1:=q1.kept hbq
    replace hb:=bTn hb hbq
    clear hbq kn' r7 r8 b0 b1 b2 b3 b4 b5 b6 b7
    all_goals
     go_wp2
     go_ret
     exact⟨rfl,hb⟩
  ·have e:k=ml:=by omega
   subst e
   have e:=HY.out good.out
   subst e
   go_wp2
   go_ret
   exact⟨rfl,hb⟩
end
section
theorem IsS.carry {w w':World}{s:SL}{zs:List Int}(h:IsS w s zs)(hc:∀ p v,w.cell? p=some v→w'.cell? p=some v):IsS w' s zs:=⟨h.reads.carry hc,h.nil,h.cap⟩
theorem IsG.carry {w w':World}{s:SL}{k:Nat}{R:Nat→SL}{Z:Nat→List Int}(h:IsG w s k R Z)(hc:∀ p v,w.cell? p=some v→w'.cell? p=some v):IsG w' s k R Z :=
 ⟨h.len,h.some_,h.nil,h.cap,fun x hx j hj=>hc _ _ (h.cell x hx j hj),fun j hj=>(h.row j hj).carry hc⟩
theorem ModAt.carry {w w':World}{E L N O:SL}{Y U D:Nat→Nat→SL}{m:ModV}(h:ModAt w E L N O Y U D m)(hc:∀ p v,w.cell? p=some v→w'.cell? p=some v):ModAt w' E L N O Y U D m :=
 ⟨h.e.carry hc,h.nm.carry hc,h.o.carry hc,h.len,h.some_,h.nil,h.cap,fun x hx i hi j hj=>hc _ _ (h.cell x hx i hi j hj),fun i hi=>⟨fun j hj=>((h.lay i hi).f j hj).carry hc,(h.lay i hi).u.carry hc,(h.lay i hi).d.carry hc⟩⟩
def seqOf (m:ModV)(ne k:Nat):List Int :=
 if k=0 then m.e else if (k-1)/pl ne<m.ln then (if (k-1)%pl ne<7 then m.f ((k-1)/pl ne) ((k-1)%pl ne) else if ((k-1)%pl ne-7)%2=0 then m.u ((k-1)/pl ne) (((k-1)%pl ne-7)/2) else m.d ((k-1)/pl ne) (((k-1)%pl ne-7)/2))
 else if (k-1)%pl ne=0 then m.nm else m.o
theorem seqOf_list (m:ModV)(ne i r:Nat)(hi:i<m.ln)(hr:r<7):seqOf m ne (1+i*pl ne+r)=m.f i r:=by
 obtain⟨e1,e2⟩:=pl_div ne i r (by unfold pl;omega)
 unfold seqOf
 rw[e1,e2,if_neg (by omega),if_pos hi,if_pos hr]
theorem seqOf_up (m:ModV)(ne i j:Nat)(hi:i<m.ln)(hj:j<ne):seqOf m ne (1+i*pl ne+7+2*j)=m.u i j:=by
 obtain⟨e1,e2⟩:=pl_div ne i (7+2*j) (by unfold pl;omega)
 rw[←Nat.add_assoc] at e1 e2
 unfold seqOf
 rw[e1,e2,if_neg (by omega),if_pos hi,if_neg (by omega),if_pos (by omega),show (7+2*j-7)/2=j by omega]
theorem seqOf_down (m:ModV)(ne i j:Nat)(hi:i<m.ln)(hj:j<ne):seqOf m ne (1+i*pl ne+7+2*j+1)=m.d i j:=by
 obtain⟨e1,e2⟩:=pl_div ne i (7+2*j+1) (by unfold pl;omega)
 rw[←Nat.add_assoc,←Nat.add_assoc] at e1 e2
 unfold seqOf
 rw[e1,e2,if_neg (by omega),if_pos hi,if_neg (by omega),if_neg (by omega),show (7+2*j+1-7)/2=j by omega]
theorem seqOf_norm (m:ModV)(ne:Nat):seqOf m ne (1+m.ln*pl ne)=m.nm:=by
 obtain⟨e1,e2⟩:=pl_div ne m.ln 0 (by unfold pl;omega)
 rw[Nat.add_zero] at e1 e2
 unfold seqOf
 rw[e1,e2,if_neg (by omega),if_neg (by omega),if_pos rfl]
theorem seqOf_out (m:ModV)(ne:Nat):seqOf m ne (1+m.ln*pl ne+1)=m.o:=by
 obtain⟨e1,e2⟩:=pl_div ne m.ln 1 (by unfold pl;omega)
 unfold seqOf
 rw[e1,e2,if_neg (by omega),if_neg (by omega),if_neg (by omega)]
def lensZ (S:Nat→List Int)(cnt:Nat→Nat):Nat→Int
 | 0=>0
 | k+1=>if ((S k).length:Int)=(cnt k:Int) then lensZ S cnt k else 21
theorem lens_ok (S:Nat→List Int)(cnt:Nat→Nat)(T:Nat)(h:∀ k,k<T→(S k).length=cnt k):lensZ S cnt T=0:=by
 induction T with
 | zero=>rfl
 | succ T ih =>
  show (if _ then _ else _)=_
  rw[if_pos (by rw[h T (by omega)]),ih fun k hk=>h k (by omega)]
theorem lens_bad (S:Nat→List Int)(cnt:Nat→Nat)(T k:Nat)(hk:k<T)(h:(S k).length≠cnt k):lensZ S cnt T=21:=by
 induction T with
 | zero=>omega
 | succ T ih =>
  show (if _ then _ else _)=_
  by_cases e:k=T
  ·subst e
   rw[if_neg (by omega)]
  ·rw[ih (by omega)]
   split<;>rfl
theorem Blk.other' {t:TypeId}{w w':World}{b q:Nat}{cs:Array Value}(h:Blk t w b cs)(o:Only q w w')(ne:b≠q):Blk t w' b cs:=(o.block b h.lt (fun e=>ne (Option.some.inj e))).trans h
theorem check_visit (h v u x t n:Int)(ln ne D DD XD UD VD mb vb Lc:Nat)(x0:Addr)(E L N O:SL)(Y U Dn:Nat→Nat→SL)(m:ModV)(e1:v*(D:Int)=(VD:Int))(e2:(D:Int)*(D:Int)=(DD:Int))(e3:x*(D:Int)=(XD:Int))(e4:u*(D:Int)=(UD:Int))
  (b0:D≤1000) (b1:VD≤1000) (b2:DD≤1000) (b3:XD≤1000) (b4:UD≤1000) (l1:ln≤4) (l2:ne≤4) (hne:0<ne) (w wM:World) (hM:ModAt wM E L N O Y U Dn m) (hbM:Below wM.heap.size wM w)
  (qm:Blk 27 w mb #[.int .i64 (D:Int),.int .i64 h,.int .i64 (ln:Int),.int .i64 v,.int .i64 u,.int .i64 x,.int .i64 t,.int .i64 n,.slice E.a E.n E.c,.slice (some x0) ln Lc,.slice N.a N.n N.c,.slice O.a O.n O.c]) (qv:Blk 35 w vb #[.int .i64 0]) (hv:wM.heap.size≤vb) (hmv:mb≠vb) (hla:L.a=some x0) (hln:m.ln=ln) (hun:∀ i,i<ln→m.un i=ne∧m.dn i=ne) :
  Calls Tryz.prog 85 #[.pointer (some ⟨mb,0,none⟩),.func (.func 86) #[] #[.pointer (some ⟨vb,0,none⟩)]] w fun e w' =>
   e=.returned (.tuple #[])∧Blk 35 w' vb #[.int .i64 (lensZ (seqOf m ne) (planC ln ne D DD XD UD VD) (1+ln*pl ne+2))]∧Only vb w w':=by
 obtain⟨W0,eW⟩:∃ W0,w.alloc (.cells #[.int .i64 (D:Int),.int .i64 h,.int .i64 (ln:Int),.int .i64 v,.int .i64 u,.int .i64 x,.int .i64 t,.int .i64 n] 23)=W0:=⟨_,rfl⟩
 have bw:Below w.heap.size w W0:=eW ▸ bNw (Below.refl _ w) _
 have qc:Blk 23 W0 w.heap.size #[.int .i64 (D:Int),.int .i64 h,.int .i64 (ln:Int),.int .i64 v,.int .i64 u,.int .i64 x,.int .i64 t,.int .i64 n]:=eW ▸ Blk.new 23 w _
 have hvb:vb<w.heap.size:=qv.lt
 have hmb:mb<w.heap.size:=qm.lt
 obtain⟨cnt,ec⟩:∃ c,planC ln ne D DD XD UD VD=c:=⟨_,rfl⟩
 obtain⟨T,eT⟩:∃ T,1+ln*pl ne+2=T:=⟨_,rfl⟩
 have md:∀ W,Only vb W0 W→ModAt W E L N O Y U Dn m:=fun W o=>hM.carry fun p y hp=>by
  have lt:=World.block_lt_of_cell? _ _ hp
  refine o.cell ((bw.cell ?_).trans ((hbM.cell lt).trans hp)) (fun e=>by simp at e;omega)
  have:=hbM.size
  omega
 have uas:∀ i,i<ln→∃ a,(Y i 7).a=some a:=fun i hi=>(hM.lay i (by rw[hln];exact hi)).u.some_ (by rw[(hun i hi).1];exact hne)
 have das:∀ i,i<ln→∃ a,(Y i 8).a=some a:=fun i hi=>(hM.lay i (by rw[hln];exact hi)).d.some_ (by rw[(hun i hi).2];exact hne)
 obtain⟨UA,hUA⟩:=Go.Deep.choose_lt uas
 obtain⟨DA,hDA⟩:=Go.Deep.choose_lt das
 have cl:∀ W,Only vb W0 W→∀ i,i<ln→∀ j,j<9→W.cell? ((x0.add (i*9)).add j)=some (Y i j).v:=fun W o i hi j hj=>(md W o).cell x0 hla i (by rw[hln];exact hi) j hj
 have cm:∀ W,Only vb W0 W→∀ o' y,(#[.int .i64 (D:Int),.int .i64 h,.int .i64 (ln:Int),.int .i64 v,.int .i64 u,.int .i64 x,.int .i64 t,.int .i64 n,.slice E.a E.n E.c,.slice (some x0) ln Lc,.slice N.a N.n N.c,.slice O.a O.n O.c]:Array Value)[o']? = some y→W.cell? ⟨mb,o',none⟩=some y:=fun W o o' y hy=>o.cell ((qm.kept bw).cell o' hy) (fun e=>hmv (by simpa using e))
 have hold:∀ W,Only vb W0 W→Held mb w.heap.size ln Lc ne x0 UA DA (fun i=>(Y i 7).c) (fun i=>(Y i 8).c) (D:Int) v u x W:=fun W o=>by
  obtain⟨c0,c1,c2,c3,c4,c5,c6,c7⟩:=(qc.other' o (by omega)).cfg
  refine⟨cm W o 9 _ rfl,c0,c3,c4,c5,fun i hi=>?_,fun i hi=>?_⟩
  ·have:=cl W o i hi 7 (by omega)
   have g:=(hM.lay i (by rw[hln];exact hi)).u.len
   rw[(hun i hi).1] at g
   rw[SL.v,hUA i hi,g] at this
   exact this
  ·have:=cl W o i hi 8 (by omega)
   have g:=(hM.lay i (by rw[hln];exact hi)).d.len
   rw[(hun i hi).2] at g
   rw[SL.v,hDA i hi,g] at this
   exact this
 have emb:∀ W,Only vb W0 W→IsS W E m.e:=fun W o=>(md W o).e
 have nor:∀ W,Only vb W0 W→IsS W N m.nm:=fun W o=>(md W o).nm
 have outw:∀ W,Only vb W0 W→IsS W O m.o:=fun W o=>(md W o).o
 have cu:∀ W,Only vb W0 W→∀ i,i<ln→∀ j,j<ne→W.cell? ((UA i).add j)=some (U i j).v:=fun W o i hi j hj=>((md W o).lay i (by rw[hln];exact hi)).u.cell _ (hUA i hi) j (by rw[(hun i hi).1];exact hj)
 have cd:∀ W,Only vb W0 W→∀ i,i<ln→∀ j,j<ne→W.cell? ((DA i).add j)=some (Dn i j).v:=fun W o i hi j hj=>((md W o).lay i (by rw[hln];exact hi)).d.cell _ (hDA i hi) j (by rw[(hun i hi).2];exact hj)
 have ru:∀ W,Only vb W0 W→∀ i,i<ln→∀ j,j<ne→IsS W (U i j) (m.u i j):=fun W o i hi j hj=>((md W o).lay i (by rw[hln];exact hi)).u.row j (by rw[(hun i hi).1];exact hj)
 have rdn:∀ W,Only vb W0 W→∀ i,i<ln→∀ j,j<ne→IsS W (Dn i j) (m.d i j):=fun W o i hi j hj=>((md W o).lay i (by rw[hln];exact hi)).d.row j (by rw[(hun i hi).2];exact hj)
 have le:∀ i,i<ln→1+i*pl ne+pl ne≤1+ln*pl ne:=fun i hi=>by
  have:=Nat.mul_le_mul_right (pl ne) (show i+1≤ln by omega)
  rw[Nat.add_mul,Nat.one_mul] at this
  omega
 have p7:pl ne=7+2*ne:=rfl
 have lst:∀ i,i<ln→∀ r,r<7→cnt (1+i*pl ne+r)=preC D DD XD r∧1+i*pl ne+r<T:=fun i hi r hr=>by
  have:=le i hi
  rw[←ec]
  exact⟨planC_list i r hi hr,by omega⟩
 have st:∀ (W:World),Only vb W0 W→∀ k,k<T→∀ (a:Addr) (c:Nat) (sl:SL) {zs:List Int},W.cell? a=some sl.v→seqOf m ne k=zs→cnt k=c→IsS W sl zs→Blk 35 W vb #[.int .i64 (lensZ (seqOf m ne) cnt k)] →
   Calls Tryz.prog 86 #[.pointer (some a),.int .i64 (c:Int),.pointer (some ⟨vb,0,none⟩)] W.drew fun e W'=>e=.returned (.tuple #[])∧Blk 35 W' vb #[.int .i64 (lensZ (seqOf m ne) cnt (k+1))]∧Only vb W0 W':=fun W o k hk a c sl zs ha hz hc hs hq=>by
  refine (closure44 a vb sl.a sl.n sl.c (c:Int) _ W.drew ha hq).mono ?_
  rintro e W' ⟨he,q',o'⟩
  refine⟨he,?_,(o.drewN 1).trans o'⟩
  rw[←hs.reads.len,←hz,←hc] at q'
  exact q'
 have start:Blk 35 W0 vb #[.int .i64 (lensZ (seqOf m ne) cnt 0)]:=qv.kept bw
 have:=visit_44 (D:Int) h (ln:Int) v u x t n w mb vb ln Lc ne x0 UA DA (fun i=>(Y i 7).c) (fun i=>(Y i 8).c) (VD:Int) (DD:Int) (XD:Int) (UD:Int) e1 e2 e3 e4 (by rw[Int.mul_comm];exact e4)
  (wrap_small (by omega)) (wrap_small (by omega)) (wrap_small (by omega)) (wrap_small (by omega)) (by omega) (by omega) (fun W=>Only vb W0 W) (fun W hW=>hold W hW)
  (fun W=>Blk 35 W vb #[.int .i64 (lensZ (seqOf m ne) cnt (0))]) (fun W=>Blk 35 W vb #[.int .i64 (lensZ (seqOf m ne) cnt (1+ln*pl ne+1))]) (fun W=>Blk 35 W vb #[.int .i64 (lensZ (seqOf m ne) cnt (T))]) (fun i j W=>Blk 35 W vb #[.int .i64 (lensZ (seqOf m ne) cnt (1+i*pl ne+j))]) (fun i j W=>Blk 35 W vb #[.int .i64 (lensZ (seqOf m ne) cnt (1+i*pl ne+7+2*j))]) (fun i j W=>Blk 35 W vb #[.int .i64 (lensZ (seqOf m ne) cnt (1+i*pl ne+7+2*j+1))])
  ⟨qm.cell 0 rfl,qm.cell 1 rfl,qm.cell 2 rfl,qm.cell 3 rfl,qm.cell 4 rfl,qm.cell 5 rfl,qm.cell 6 rfl,qm.cell 7 rfl⟩ (eW ▸ start) (eW ▸ Only.refl _ _)
  (fun W hs hr=>by
   have:=st W hr 0 (by omega) ⟨mb,8,none⟩ VD E (cm W hr 8 _ rfl) rfl (by rw[←ec];rfl) (emb W hr) hs
   rwa [show 0+1=1+0*pl ne+0 by omega] at this)
  (fun i hi W hs hr=>st W hr _ (lst i hi 0 (by omega)).2 _ _ (Y i 0) (cl W hr i hi 0 (by omega)) (seqOf_list m ne i 0 (by rw[hln];exact hi) (by omega)) (lst i hi 0 (by omega)).1 ((md W hr).lay i (by rw[hln];exact hi) |>.f 0 (by omega)) hs)
  (fun i hi W hs hr=>st W hr _ (lst i hi 1 (by omega)).2 _ _ (Y i 1) (cl W hr i hi 1 (by omega)) (seqOf_list m ne i 1 (by rw[hln];exact hi) (by omega)) (lst i hi 1 (by omega)).1 ((md W hr).lay i (by rw[hln];exact hi) |>.f 1 (by omega)) hs)
  (fun i hi W hs hr=>st W hr _ (lst i hi 2 (by omega)).2 _ _ (Y i 2) (cl W hr i hi 2 (by omega)) (seqOf_list m ne i 2 (by rw[hln];exact hi) (by omega)) (lst i hi 2 (by omega)).1 ((md W hr).lay i (by rw[hln];exact hi) |>.f 2 (by omega)) hs)
  (fun i hi W hs hr=>st W hr _ (lst i hi 3 (by omega)).2 _ _ (Y i 3) (cl W hr i hi 3 (by omega)) (seqOf_list m ne i 3 (by rw[hln];exact hi) (by omega)) (lst i hi 3 (by omega)).1 ((md W hr).lay i (by rw[hln];exact hi) |>.f 3 (by omega)) hs)
  (fun i hi W hs hr=>st W hr _ (lst i hi 4 (by omega)).2 _ _ (Y i 4) (cl W hr i hi 4 (by omega)) (seqOf_list m ne i 4 (by rw[hln];exact hi) (by omega)) (lst i hi 4 (by omega)).1 ((md W hr).lay i (by rw[hln];exact hi) |>.f 4 (by omega)) hs)
  (fun i hi W hs hr=>st W hr _ (lst i hi 5 (by omega)).2 _ _ (Y i 5) (cl W hr i hi 5 (by omega)) (seqOf_list m ne i 5 (by rw[hln];exact hi) (by omega)) (lst i hi 5 (by omega)).1 ((md W hr).lay i (by rw[hln];exact hi) |>.f 5 (by omega)) hs)
  (fun i hi W hs hr=>st W hr _ (lst i hi 6 (by omega)).2 _ _ (Y i 6) (cl W hr i hi 6 (by omega)) (seqOf_list m ne i 6 (by rw[hln];exact hi) (by omega)) (lst i hi 6 (by omega)).1 ((md W hr).lay i (by rw[hln];exact hi) |>.f 6 (by omega)) hs)
  (fun i hi j hj W hs hr=>st W hr _ (by have:=le i hi;omega) _ UD (U i j) (cu W hr i hi j hj) (seqOf_up m ne i j (by rw[hln];exact hi) hj) (by rw[←ec];exact planC_up i j hi hj) (ru W hr i hi j hj) hs)
  (fun i hi j hj W hs hr=>by
   have:=st W hr _ (by have:=le i hi;omega) ((DA i).add j) UD (Dn i j) (cd W hr i hi j hj) (seqOf_down m ne i j (by rw[hln];exact hi) hj) (by rw[←ec];exact planC_down i j hi hj) (rdn W hr i hi j hj) hs
   simpa [Nat.mul_add,Nat.add_assoc] using this)
  (fun i hi W hs=>by
   have e:1+(i+1)*pl ne+0=1+i*pl ne+7+2*ne:=by rw[Nat.add_mul,Nat.one_mul];omega
   show Blk 35 W vb #[.int .i64 (lensZ (seqOf m ne) cnt (1+(i+1)*pl ne+0))]
   rw[e]
   exact hs)
  (fun W hs hr=>st W hr _ (by omega) ⟨mb,10,none⟩ D N (cm W hr 10 _ rfl) (by have:=seqOf_norm m ne;rwa [hln] at this) (by rw[←ec];exact planC_norm) (nor W hr) hs)
  (fun W hs hr=>by
   have:=st W hr _ (by omega) ⟨mb,11,none⟩ VD O (cm W hr 11 _ rfl) (by have:=seqOf_out m ne;rwa [hln] at this) (by rw[←ec];exact planC_out) (outw W hr) hs
   rwa [show 1+ln*pl ne+1+1=T by omega] at this)
 rw[ec,eT]
 exact this.mono fun e w' hh=>⟨hh.1,hh.2.1,(Only.of_below bw).trans hh.2.2⟩
end
section
section
variable {ln ne D DD XD UD VD:Nat}
def perN (D DD XD UD ne:Nat):Nat:=D+DD+DD+DD+DD+D+XD+ne*(UD+UD)
theorem offs_lists (i:Nat)(hi:i<ln):offs (planC ln ne D DD XD UD VD) (1+i*pl ne+7)=offs (planC ln ne D DD XD UD VD) (1+i*pl ne)+(D+DD+DD+DD+DD+D+XD):=by
 have c:=fun r (hr:r<7)=>planC_list (ln:=ln) (ne:=ne) (D:=D) (DD:=DD) (XD:=XD) (UD:=UD) (VD:=VD) i r hi hr
 have c0:=c 0 (by omega);have c1:=c 1 (by omega);have c2:=c 2 (by omega);have c3:=c 3 (by omega);have c4:=c 4 (by omega);have c5:=c 5 (by omega);have c6:=c 6 (by omega)
 clear c
 simp only[preC,Nat.add_zero] at c0 c1 c2 c3 c4 c5 c6
 obtain⟨k,ek⟩:∃ k,1+i*pl ne=k:=⟨_,rfl⟩
 rw[ek] at c0 c1 c2 c3 c4 c5 c6 ⊢
 obtain⟨g,eg⟩:∃ g,planC ln ne D DD XD UD VD=g:=⟨_,rfl⟩
 rw[eg] at c0 c1 c2 c3 c4 c5 c6 ⊢
 have e:offs g (k+7)=offs g k+g k+g (k+1)+g (k+2)+g (k+3)+g (k+4)+g (k+5)+g (k+6):=rfl
 rw[e,c0,c1,c2,c3,c4,c5,c6]
 simp
 omega
theorem offs_nets (i:Nat)(hi:i<ln)(j:Nat)(hj:j≤ne):offs (planC ln ne D DD XD UD VD) (1+i*pl ne+7+2*j)=offs (planC ln ne D DD XD UD VD) (1+i*pl ne+7)+j*(UD+UD):=by
 induction j with
 | zero=>simp
 | succ j ih =>
  have a:=planC_up (ln:=ln) (ne:=ne) (D:=D) (DD:=DD) (XD:=XD) (UD:=UD) (VD:=VD) i j hi (by omega)
  have b:=planC_down (ln:=ln) (ne:=ne) (D:=D) (DD:=DD) (XD:=XD) (UD:=UD) (VD:=VD) i j hi (by omega)
  rw[show 1+i*pl ne+7+2*(j+1)=1+i*pl ne+7+2*j+1+1 by omega]
  show offs _ (1+i*pl ne+7+2*j)+planC ln ne D DD XD UD VD (1+i*pl ne+7+2*j)+planC ln ne D DD XD UD VD (1+i*pl ne+7+2*j+1)=_
  rw[a,b,ih (by omega),Nat.add_mul]
  omega
theorem offs_layers (i:Nat)(hi:i≤ln):offs (planC ln ne D DD XD UD VD) (1+i*pl ne)=VD+i*perN D DD XD UD ne:=by
 induction i with
 | zero=>simp[offs,planC]
 | succ i ih =>
  have e:1+(i+1)*pl ne=1+i*pl ne+7+2*ne:=by rw[Nat.add_mul,Nat.one_mul];unfold pl;omega
  rw[e,offs_nets i (by omega) ne (Nat.le_refl _),offs_lists i (by omega),ih (by omega),Nat.add_mul,Nat.one_mul]
  unfold perN
  omega
theorem offs_all:offs (planC ln ne D DD XD UD VD) (1+ln*pl ne+2)=VD+ln*perN D DD XD UD ne+D+VD:=by
 show offs _ (1+ln*pl ne)+planC ln ne D DD XD UD VD (1+ln*pl ne)+planC ln ne D DD XD UD VD (1+ln*pl ne+1)=_
 rw[offs_layers ln (Nat.le_refl _),planC_norm,planC_out]
end
def seg (cnt:Nat→Nat)(ws:List Int)(k:Nat):List Int:=(ws.drop (offs cnt k)).take (cnt k)
end
section
def allT (l x:Int):Nat:=1+l.toNat*pl (netsN x)+2
def cntOf (d l v u x:Int):Nat→Nat:=planC l.toNat (netsN x) d.toNat (d*d).toNat (x*d).toNat (u*d).toNat (v*d).toNat
def shapeV (d l v u x:Int)(ws:List Int):ModV:=ofSeq l.toNat (netsN x) (seg (cntOf d l v u x) ws)
def checkB (d h l v u x t n:Int)(m:ModV):Int:=if okB d h l v u x t n then (if framedB l x m then lensZ (seqOf m (netsN x)) (cntOf d l v u x) (allT l x) else 21) else 20
structure Dims (d l v u x:Int):Prop where
 ed:d=(d.toNat:Int)
 el:l=(l.toNat:Int)
 e1:v*d=((v*d).toNat:Int)
 e2:d*d=((d*d).toNat:Int)
 e3:x*d=((x*d).toNat:Int)
 e4:u*d=((u*d).toNat:Int)
 en:max x 1=(netsN x:Int)
 b0:d.toNat≤8
 b1:(v*d).toNat≤1000
 b2:(d*d).toNat≤1000
 b3:(x*d).toNat≤1000
 b4:(u*d).toNat≤1000
 l0:1≤l.toNat
 l1:l.toNat≤2
 n0:1≤netsN x
 n1:netsN x≤4
 d0:2≤d.toNat
 sz:szZ d l v u x=(offs (cntOf d l v u x) (allT l x):Int)
 sz0:0<offs (cntOf d l v u x) (allT l x)
 sz1:offs (cntOf d l v u x) (allT l x)≤10000
theorem dims_of {d h l v u x t n:Int}(ok:okB d h l v u x t n=true):Dims d l v u x:=by
 have r:=right_of ok
 obtain⟨hx,n0,n1⟩:=r.nets
 have d0:=r.d0;have d1:=r.d1;have l0:=r.l0;have l1:=r.l1;have v0:=r.v0;have v1:=r.v1;have u0:=r.u0;have u1:=r.u1;have x0:=r.x0;have x1:=r.x1
 have p1:=mul_bounds (show 0≤v by omega) v1 (show 0≤d by omega) d1
 have p2:=mul_bounds (show 0≤d by omega) d1 (show 0≤d by omega) d1
 have p3:=mul_bounds x0 x1 (show 0≤d by omega) d1
 have p4:=mul_bounds (show 0≤u by omega) u1 (show 0≤d by omega) d1
 have pb:=per_bounds r
 have pl':=mul_bounds (show 0≤l by omega) l1 pb.1 pb.2
 have sz:szZ d l v u x=(offs (cntOf d l v u x) (allT l x):Int):=by
  unfold cntOf allT
  rw[offs_all]
  unfold szZ perN perZ
  rw[Int.natCast_add,Int.natCast_add,Int.natCast_add,Int.natCast_mul,Int.toNat_of_nonneg p1.1,Int.toNat_of_nonneg (show 0≤d by omega),Int.toNat_of_nonneg (show 0≤l by omega)]
  congr 3
  rw[Int.natCast_add,Int.natCast_add,Int.natCast_add,Int.natCast_add,Int.natCast_add,Int.natCast_add,Int.natCast_add,Int.natCast_mul,Int.natCast_add,Int.toNat_of_nonneg p2.1,Int.toNat_of_nonneg (show 0≤d by omega),Int.toNat_of_nonneg p3.1,Int.toNat_of_nonneg p4.1]
 have hs:0<szZ d l v u x∧szZ d l v u x≤10000:=by unfold szZ;omega
 exact⟨by omega,by omega,by omega,by omega,by omega,by omega,hx,by omega,by omega,by omega,by omega,by omega,by omega,by omega,n0,n1,by omega,sz,by omega,by omega⟩
theorem framed_call (d h l v u x t n:Int)(E L N O:SL)(Y U D:Nat→Nat→SL)(m:ModV)(w:World)(hM:ModAt w E L N O Y U D m)(hl0:1≤l)(hl1:l≤1000) :
  Calls Tryz.prog 84 #[.agg #[.int .i64 d,.int .i64 h,.int .i64 l,.int .i64 v,.int .i64 u,.int .i64 x,.int .i64 t,.int .i64 n,.slice E.a E.n E.c,.slice L.a L.n L.c,.slice N.a N.n N.c,.slice O.a O.n O.c]] w fun e w'=>e=.returned (.bool (framedB l x m))∧Below w.heap.size w w':=by
 have len:=hM.len
 by_cases g:(m.ln:Int)=l
 ·obtain⟨x0,hx0⟩:=hM.some_ (by omega)
  rw[hx0]
  refine framed_loop d h v u x t n E L N O Y U D m w hM L.n L.c x0 rfl rfl hx0 (by omega) (max x 1) (framedB l x m) (fun i hi hx=>?_) (fun k=>?_) l (by rw[len];simp[g]) (networks_call d h l v u x t n)
  ·exact decide_eq_false fun k=>by have:=k.2 i (by omega);omega
  ·exact decide_eq_true ⟨g,fun i hi=>k i (by omega)⟩
 ·have e:framedB l x m=false:=decide_eq_false fun k=>g k.1
  rw[e]
  obtain⟨La,eA⟩:∃ q,L.a=q:=⟨_,rfl⟩
  obtain⟨ml,eL⟩:∃ q,L.n=q:=⟨_,rfl⟩
  obtain⟨Lc,eC⟩:∃ q,L.c=q:=⟨_,rfl⟩
  have hb:=bNw (Below.refl w.heap.size w) (.cells #[.int .i64 d,.int .i64 h,.int .i64 l,.int .i64 v,.int .i64 u,.int .i64 x,.int .i64 t,.int .i64 n,.slice E.a E.n E.c,.slice La ml Lc,.slice N.a N.n N.c,.slice O.a O.n O.c] 27)
  rw[eA,eL,eC]
  have g':((ml:Int)==l)=false:=by rw[←eL,len];simp[g]
  clear g e len eA eL eC hM
  go_enter Tryz.func84,Tryz.ntmps84
  go_wp2
  go_ret
  exact⟨rfl,hb⟩
theorem check_walk (d h l v u x t n:Int)(E N O:SL)(La:Option Addr)(ml Lc:Nat)(B1 B2:Bool)(Z:Int)(w:World)
  (k9:∀ w,Calls Tryz.prog 35 #[.agg #[.int .i64 d,.int .i64 h,.int .i64 l,.int .i64 v,.int .i64 u,.int .i64 x,.int .i64 t,.int .i64 n]] w fun e w'=>e=.returned (.bool B1)∧Below w.heap.size w w')
  (k43:B1=true→∀ W,Below w.heap.size w W→Calls Tryz.prog 84 #[.agg #[.int .i64 d,.int .i64 h,.int .i64 l,.int .i64 v,.int .i64 u,.int .i64 x,.int .i64 t,.int .i64 n,.slice E.a E.n E.c,.slice La ml Lc,.slice N.a N.n N.c,.slice O.a O.n O.c]] W fun e w'=>e=.returned (.bool B2)∧Below W.heap.size W w')
  (k32:B1=true→B2=true→∀ W2:World,Below w.heap.size w W2→Blk 27 W2 w.heap.size #[.int .i64 d,.int .i64 h,.int .i64 l,.int .i64 v,.int .i64 u,.int .i64 x,.int .i64 t,.int .i64 n,.slice E.a E.n E.c,.slice La ml Lc,.slice N.a N.n N.c,.slice O.a O.n O.c]→w.heap.size<W2.heap.size →
   Calls Tryz.prog 85 #[.pointer (some ⟨w.heap.size,0,none⟩),.func (.func 86) #[] #[.pointer (some ⟨W2.heap.size,0,none⟩)]] (W2.alloc (.cells #[.int .i64 0] 35)) fun e w'=>e=.returned (.tuple #[])∧Blk 35 w' W2.heap.size #[.int .i64 Z]∧Only W2.heap.size (W2.alloc (.cells #[.int .i64 0] 35)) w') :
  Calls Tryz.prog 47 #[.agg #[.int .i64 d,.int .i64 h,.int .i64 l,.int .i64 v,.int .i64 u,.int .i64 x,.int .i64 t,.int .i64 n,.slice E.a E.n E.c,.slice La ml Lc,.slice N.a N.n N.c,.slice O.a O.n O.c]] w fun e w'=>e=.returned (.int .i64 (if B1 then (if B2 then Z else 21) else 20))∧Below w.heap.size w w':=by
 have hb:=bNw (Below.refl w.heap.size w) (.cells #[.int .i64 d,.int .i64 h,.int .i64 l,.int .i64 v,.int .i64 u,.int .i64 x,.int .i64 t,.int .i64 n,.slice E.a E.n E.c,.slice La ml Lc,.slice N.a N.n N.c,.slice O.a O.n O.c] 27)
 have q0:=Blk.new 27 w #[.int .i64 d,.int .i64 h,.int .i64 l,.int .i64 v,.int .i64 u,.int .i64 x,.int .i64 t,.int .i64 n,.slice E.a E.n E.c,.slice La ml Lc,.slice N.a N.n N.c,.slice O.a O.n O.c]
 have HQ:=hdn q0
 clear q0
 cases B1 with
 | false =>
  clear k43 k32
  show Calls Tryz.prog 47 _ w fun e w'=>e=.returned (.int .i64 20)∧_
  go_enter Tryz.func47,Tryz.ntmps47
  go_wp2_with (first|(go_at_call 35;refine (k9 _).mono ?_;rintro e W1 ⟨rfl,h1⟩;replace hb:=bTn hb h1;clear h1))
  go_ret
  exact⟨rfl,hb⟩
 | true =>
  replace k43:=k43 rfl
  cases B2 with
  | false =>
   clear k32
   show Calls Tryz.prog 47 _ w fun e w'=>e=.returned (.int .i64 21)∧_
   go_enter Tryz.func47,Tryz.ntmps47
   go_wp2_with (first
    | (go_at_call 35;refine (k9 _).mono ?_;rintro e W1 ⟨rfl,h1⟩;replace hb:=bTn hb h1;have q1:=HQ.out.kept h1;obtain⟨a0,a1,a2,a3,a4,a5,a6,a7,a8,a9,a10,a11⟩:=q1.c12;clear h1)
    | (go_at_call 84;refine (k43 _ hb).mono ?_;rintro e W2 ⟨rfl,h2⟩;replace hb:=bTn hb h2;clear h2))
   go_ret
   exact⟨rfl,hb⟩
  | true =>
   replace k32:=k32 rfl rfl
   show Calls Tryz.prog 47 _ w fun e w'=>e=.returned (.int .i64 Z)∧_
   go_enter Tryz.func47,Tryz.ntmps47
   go_wp2_with (first
    | (go_at_call 35;refine (k9 _).mono ?_;rintro e W1 ⟨rfl,h1⟩;replace hb:=bTn hb h1;have q1:=HQ.out.kept h1;obtain⟨a0,a1,a2,a3,a4,a5,a6,a7,a8,a9,a10,a11⟩:=q1.c12;clear h1)
    | (go_at_call 84;refine (k43 _ hb).mono ?_;rintro e W2 ⟨rfl,h2⟩;replace hb:=bTn hb h2;replace q1:=q1.kept h2;clear h2 a0 a1 a2 a3 a4 a5 a6 a7 a8 a9 a10 a11)
    | (go_at_call 85;refine (k32 _ hb q1 q1.lt).mono ?_;rintro e W3 ⟨rfl,q3,o3⟩;have c3:=q3.cell 0 rfl))
   go_ret
   refine⟨rfl,?_⟩
   have:=hb.size
   exact Only.below (bNw hb _) this (by simp;omega) o3
theorem check_call (d h l v u x t n:Int)(E L N O:SL)(Y U D:Nat→Nat→SL)(m:ModV)(w:World)(hM:ModAt w E L N O Y U D m) :
  Calls Tryz.prog 47 #[.agg #[.int .i64 d,.int .i64 h,.int .i64 l,.int .i64 v,.int .i64 u,.int .i64 x,.int .i64 t,.int .i64 n,.slice E.a E.n E.c,.slice L.a L.n L.c,.slice N.a N.n N.c,.slice O.a O.n O.c]] w fun e w'=>e=.returned (.int .i64 (checkB d h l v u x t n m))∧Below w.heap.size w w':=by
 refine check_walk d h l v u x t n E N O L.a L.n L.c (okB d h l v u x t n) (framedB l x m) (lensZ (seqOf m (netsN x)) (cntOf d l v u x) (allT l x)) w (config_call d h l v u x t n) (fun ok W hb=>?_) (fun ok fr W2 hb q hlt=>?_)
 ·have r:=right_of ok
  exact framed_call d h l v u x t n E L N O Y U D m W (hM.below hb) r.l0 (by have:=r.l1;omega)
 ·have dm:=dims_of ok
  have fr':=of_decide_eq_true fr
  have dl:=dm.el
  have hln:m.ln=l.toNat:=by have:=fr'.1;omega
  obtain⟨x0,hx0⟩:=hM.some_ (by have:=dm.l0;omega)
  have b4:=bNw (Below.refl W2.heap.size W2) (.cells #[.int .i64 0] 35)
  have key:=check_visit h v u x t n l.toNat (netsN x) d.toNat (d*d).toNat (x*d).toNat (u*d).toNat (v*d).toNat w.heap.size W2.heap.size L.c x0 E L N O Y U D m (by rw[←dm.ed];exact dm.e1) (by rw[←dm.ed];exact dm.e2) (by rw[←dm.ed];exact dm.e3) (by rw[←dm.ed];exact dm.e4)
   (by have:=dm.b0;omega) dm.b1 dm.b2 dm.b3 dm.b4 (by have:=dm.l1;omega) dm.n1 dm.n0 (W2.alloc (.cells #[.int .i64 0] 35)) w hM (bTn hb b4) (by rw[hx0,hM.len,hln] at q;rw[←dm.ed,←dm.el];exact q.kept b4) (Blk.new 35 W2 _) (by omega) (by omega) hx0 hln
   (fun i hi=>by have:=fr'.2 i (by omega);rw[dm.en] at this;omega)
  exact key
end
section
theorem lens_all (S:Nat→List Int)(cnt:Nat→Nat)(T:Nat)(h:lensZ S cnt T=0):∀ k,k<T→(S k).length=cnt k:=fun k hk=>by
 by_cases e:(S k).length=cnt k
 ·exact e
 ·rw[lens_bad S cnt T k hk e] at h
  omega
theorem checked {d h l v u x t n:Int}{m:ModV}(hz:checkB d h l v u x t n m=0):okB d h l v u x t n=true∧m.ln=l.toNat∧(∀ i,i<m.ln→m.un i=netsN x∧m.dn i=netsN x)∧∀ k,k<allT l x→(seqOf m (netsN x) k).length=cntOf d l v u x k:=by
 unfold checkB at hz
 cases ok:okB d h l v u x t n with
 | false=>rw[ok] at hz;simp at hz
 | true =>
  rw[ok] at hz
  cases fr:framedB l x m with
  | false=>rw[fr] at hz;simp at hz
  | true =>
   rw[fr] at hz
   simp only[if_true] at hz
   have dm:=dims_of ok
   have fr':=of_decide_eq_true fr
   have dl:=dm.el
   refine⟨rfl,by omega,fun i hi=>?_,lens_all _ _ _ hz⟩
   have:=fr'.2 i hi
   rw[dm.en] at this
   omega
end
section
theorem Blk.c11 {t0:TypeId}{w:World}{b:Nat}{x0 x1 x2 x3 x4 x5 x6 x7 x8 x9 x10:Value}(k:Blk t0 w b #[x0,x1,x2,x3,x4,x5,x6,x7,x8,x9,x10]):w.cell? ⟨b,0,none⟩=some x0∧w.cell? ⟨b,1,none⟩=some x1∧w.cell? ⟨b,2,none⟩=some x2∧w.cell? ⟨b,3,none⟩=some x3∧w.cell? ⟨b,4,none⟩=some x4∧w.cell? ⟨b,5,none⟩=some x5∧w.cell? ⟨b,6,none⟩=some x6∧w.cell? ⟨b,7,none⟩=some x7∧w.cell? ⟨b,8,none⟩=some x8∧w.cell? ⟨b,9,none⟩=some x9∧w.cell? ⟨b,10,none⟩=some x10:=⟨k.cell 0 rfl,k.cell 1 rfl,k.cell 2 rfl,k.cell 3 rfl,k.cell 4 rfl,k.cell 5 rfl,k.cell 6 rfl,k.cell 7 rfl,k.cell 8 rfl,k.cell 9 rfl,k.cell 10 rfl⟩
theorem run_field47 (b f:Nat)(o:Nat)(hf:(f=0∧o=0)∨(f=1∧o=8)∨(f=2∧o=9)∨(f=3∧o=10))(w:World):(Instr.fieldAt 47 (.pointer (some ⟨b,0,none⟩)) f).run Tryz.prog w=.ok (.pointer (some ⟨b,o,none⟩)) w:=by
 rcases hf with⟨rfl,rfl⟩|⟨rfl,rfl⟩|⟨rfl,rfl⟩|⟨rfl,rfl⟩<;>go_simp
section
variable {w:World}{b:Nat}{cd ch cl cv cu cx ct cn s r:Int}{ta:Option Addr}{tn tc:Nat}
theorem run_k23 (q:Blk 47 w b #[.int .i64 cd,.int .i64 ch,.int .i64 cl,.int .i64 cv,.int .i64 cu,.int .i64 cx,.int .i64 ct,.int .i64 cn,.int .u64 s,.int .i64 r,.slice ta tn tc]):(Instr.loadAt 23 (.pointer (some ⟨b,0,none⟩))).run Tryz.prog w=.ok (.agg #[.int .i64 cd,.int .i64 ch,.int .i64 cl,.int .i64 cv,.int .i64 cu,.int .i64 cx,.int .i64 ct,.int .i64 cn]) w:=by
 obtain⟨c0,c1,c2,c3,c4,c5,c6,c7,c8,c9,c10⟩:=q.c11
 go_simp
theorem run_k44 (q:Blk 47 w b #[.int .i64 cd,.int .i64 ch,.int .i64 cl,.int .i64 cv,.int .i64 cu,.int .i64 cx,.int .i64 ct,.int .i64 cn,.int .u64 s,.int .i64 r,.slice ta tn tc]):(Instr.loadAt 44 (.pointer (some ⟨b,8,none⟩))).run Tryz.prog w=.ok (.int .u64 s) w:=by
 obtain⟨c0,c1,c2,c3,c4,c5,c6,c7,c8,c9,c10⟩:=q.c11
 go_simp
theorem run_k3 (q:Blk 47 w b #[.int .i64 cd,.int .i64 ch,.int .i64 cl,.int .i64 cv,.int .i64 cu,.int .i64 cx,.int .i64 ct,.int .i64 cn,.int .u64 s,.int .i64 r,.slice ta tn tc]):(Instr.loadAt 3 (.pointer (some ⟨b,9,none⟩))).run Tryz.prog w=.ok (.int .i64 r) w:=by
 obtain⟨c0,c1,c2,c3,c4,c5,c6,c7,c8,c9,c10⟩:=q.c11
 go_simp
theorem run_k45 (q:Blk 47 w b #[.int .i64 cd,.int .i64 ch,.int .i64 cl,.int .i64 cv,.int .i64 cu,.int .i64 cx,.int .i64 ct,.int .i64 cn,.int .u64 s,.int .i64 r,.slice ta tn tc]):(Instr.loadAt 45 (.pointer (some ⟨b,10,none⟩))).run Tryz.prog w=.ok (.slice ta tn tc) w:=by
 obtain⟨c0,c1,c2,c3,c4,c5,c6,c7,c8,c9,c10⟩:=q.c11
 go_simp
theorem run_k0 (q:Blk 47 w b #[.int .i64 cd,.int .i64 ch,.int .i64 cl,.int .i64 cv,.int .i64 cu,.int .i64 cx,.int .i64 ct,.int .i64 cn,.int .u64 s,.int .i64 r,.slice ta tn tc]):(Instr.loadAt 3 (.pointer (some ⟨b,0,none⟩))).run Tryz.prog w=.ok (.int .i64 cd) w:=by
 obtain⟨c0,c1,c2,c3,c4,c5,c6,c7,c8,c9,c10⟩:=q.c11
 go_simp
end
end
end Go.Proofs.YthliomlmhfjhnaaGreat
